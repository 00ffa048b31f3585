import Derived.Test.YthanifbimndhaaaM21
namespace Go.Proofs.Ythanifbimndhaaa.Bk
set_option maxHeartbeats 40000000
open Go.RowKit Lo
set_option linter.unusedVariables false
variable {F : Fr}

theorem push_fin {w2 W w3 : World} {base kb g3 c3 : Nat} {vp : Value} {nx : Int} {ps : List Pg} {q : Pg} (H : BookIs F w2 base kb vp nx ps) (hq : PgOK w2 base q) (hW : Below w2.heap.size w2 W)
  (ho3 : w3.ownsRow base 89 5 (.slice (some ⟨g3, 0, none⟩) (ps.length + 1) c3) (ps.length + 1) (rows ps ++ pgc q)) (hg3 : W.grownBy w3 vp.ownBlock)
  (hs1 : ∀ p ∈ ps, ∀ k, p.B.ownBlock = some k -> ¬ holds q k) (hs2 : ∀ p ∈ ps, ∀ k, q.B.ownBlock = some k -> ¬ holds p k) (hc : ps.length < 96) :
  BookIs F (w3.setCell ⟨kb, 6, none⟩ (.slice (some ⟨g3, 0, none⟩) (ps.length + 1) c3)) base kb (.slice (some ⟨g3, 0, none⟩) (ps.length + 1) c3) nx (ps ++ [q]) /\
  Kept w2 (w3.setCell ⟨kb, 6, none⟩ (.slice (some ⟨g3, 0, none⟩) (ps.length + 1) c3)) (fun j => j = kb ∨ some j = vp.ownBlock) := by
 have K23 : Kept w2 w3 (fun j => some j = vp.ownBlock) := (Kept.ofBelow hW _).trans (Kept.ofGrown hg3)
 have K3X : Kept w3 (w3.setCell ⟨kb, 6, none⟩ (.slice (some ⟨g3, 0, none⟩) (ps.length + 1) c3)) (fun j => j = kb) := ⟨rfl, rfl, rfl, by simp, fun j hj hq => Below.heap_setCell w3 ⟨kb, 6, none⟩ _ j hq⟩
 have hkv : some kb ≠ vp.ownBlock := fun e => by
  obtain ⟨cur, hcur⟩ := owns_type H.o e.symm
  exact apart_types hcur H.k (by decide)
 have hk3 : w3.heap[kb]? = some (.cells #[F.p0, F.p1, F.p2, F.d0, F.d1, F.d2, vp, .slice none 0 0, .int .i64 nx, F.ls, F.os, F.tn] 37 (0, 0)) := (K23.block kb (lt_heap H.k) hkv).trans H.k
 have own : ∀ (v : Value) (xs : List Int), Own w2 base v xs -> Own (w3.setCell ⟨kb, 6, none⟩ (.slice (some ⟨g3, 0, none⟩) (ps.length + 1) c3)) base v xs := by
  intro v xs ho
  refine K3X.owns (K23.owns ho (fun k hk e => ?_)) (fun k hk e => ?_)
  ·obtain ⟨cur, hcur⟩ := owns_type H.o e.symm
   exact own_notType ho hcur (by decide) hk.symm
  ·subst e
   exact own_notType ho H.k (by decide) hk.symm
 have okp : ∀ p, PgOK w2 base p -> PgOK (w3.setCell ⟨kb, 6, none⟩ (.slice (some ⟨g3, 0, none⟩) (ps.length + 1) c3)) base p := fun p hok => ⟨own _ _ hok.b, fun e => own _ _ (hok.v e), fun e => own _ _ (hok.g e), hok.i0, hok.i1, hok.len, hok.gd⟩
 refine ⟨⟨?_, ?_, ?_, sep_snoc H.sep hs1 hs2, ?_, H.n0, H.n1, by simp; omega⟩, (K23.mono (fun _ _ h => .inr h)).trans (K3X.mono (fun _ _ h => .inl h))⟩
 ·have := heap_setCell_same w3 kb 6 _ 37 (.slice (some ⟨g3, 0, none⟩) (ps.length + 1) c3) hk3
  simpa using this
 ·have h := K3X.owns ho3 (fun k hk e => by
   subst e
   obtain ⟨cur, hcur⟩ := owns_type ho3 hk
   exact apart_types hcur hk3 (by decide))
  rw [rows_snoc]
  simpa using h
 ·intro p hp
  rcases List.mem_append.1 hp with hp | hp
  ·exact okp p (H.ok p hp)
  ·simp at hp
   subst hp
   exact okp _ hq
 ·have h1 := H.b
  have h2 := K23.size
  have h3 := K3X.size
  omega

theorem BookIs.kept {w w' : World} {base kb : Nat} {vp : Value} {nx : Int} {ps : List Pg} {P : Nat -> Prop} (h : BookIs F w base kb vp nx ps) (hk : Kept w w' P) (h1 : ¬ P kb) (h2 : ∀ k, vp.ownBlock = some k -> ¬ P k) (h3 : ∀ p ∈ ps, ∀ k, holds p k -> ¬ P k) : BookIs F w' base kb vp nx ps :=
 ⟨(hk.block kb (lt_heap h.k) h1).trans h.k, hk.owns h.o h2, fun p hp => (h.ok p hp).kept hk (h3 p hp), h.sep, Nat.le_trans h.b hk.size, h.n0, h.n1, h.cnt⟩

set_option maxRecDepth 100000 in
theorem write_walk (base kb : Nat) (av : Option Addr) (cv : Nat) (nx : Int) (ps : List Pg) (ao : Option Addr) (len cap : Nat) (bs : List Int) (w : World) (h : BookIs F w base kb (.slice av ps.length cv) nx ps) (hB : Own w base (.slice ao len cap) bs) (hn : nx ≤ 800) (hc : ps.length < 96) (hlen : bs.length ≤ 140737488355264) (hll : bs.length = len)
  (hs1 : ∀ p ∈ ps, ∀ k, p.B.ownBlock = some k -> (Value.slice ao len cap).ownBlock ≠ some k) (hs2 : ∀ p ∈ ps, ∀ k, (Value.slice ao len cap).ownBlock = some k -> ¬ holds p k) :
  Calls Try.prog 81 #[.pointer (some ⟨kb, 6, none⟩), .slice ao len cap] w fun e w' => e = .returned (.tuple #[]) /\ ∃ vp' G, BookIs F w' base kb vp' (nx + 1) (ps ++ [⟨.slice ao len cap, G, .slice none 0 0, nx + 1, true, true, bs⟩]) /\ Kept w w' (fun j => j = kb ∨ some j = (Value.slice av ps.length cv).ownBlock ∨ some j = (Value.slice ao len cap).ownBlock) /\ (G.ownBlock = (Value.slice ao len cap).ownBlock ∨ ∃ g', G.ownBlock = some g' /\ w.heap.size ≤ g') := by
 subst hll
 obtain ⟨i5, hi5, hy0, hy1, hy2⟩ := info_parts info_page
 have HS1 : Hid (∀ p ∈ ps, ∀ k, p.B.ownBlock = some k -> (Value.slice ao bs.length cap).ownBlock ≠ some k) := hs1
 have HS2 : Hid (∀ p ∈ ps, ∀ k, (Value.slice ao bs.length cap).ownBlock = some k -> ¬ holds p k) := hs2
 clear hs1 hs2
 have hn0 := h.n0
 have c0 : w.cell? ⟨kb, 6, none⟩ = some (.slice av ps.length cv) := (cell_block h.k).trans rfl
 have c2 : w.cell? ⟨kb, 8, none⟩ = some (.int .i64 nx) := (cell_block h.k).trans rfl
 have hf2 : w.frozen? ⟨kb, 8, none⟩ = false := frozen_of_row w kb 8 _ 37 h.k
 have h96 : decide ((96 : Int) ≤ (ps.length : Int)) = false := by simp; omega
 have hbn := book_next h (nx + 1) (by omega) (by omega)
 have H1 : Hid (BookIs F (w.setCell ⟨kb, 8, none⟩ (.int .i64 (nx + 1))) base kb (.slice av ps.length cv) (nx + 1) ps) := hbn.1
 have HK1 : Hid (Kept w (w.setCell ⟨kb, 8, none⟩ (.int .i64 (nx + 1))) (fun j => j = kb)) := hbn.2
 have HO1 : Hid (Own (w.setCell ⟨kb, 8, none⟩ (.int .i64 (nx + 1))) base (.slice ao bs.length cap) bs) := hbn.2.owns hB (notKb h hB)
 have C2 : (w.setCell ⟨kb, 8, none⟩ (.int .i64 (nx + 1))).cell? ⟨kb, 8, none⟩ = some (.int .i64 (nx + 1)) := (cell_block hbn.1.k).trans rfl
 clear h hbn hB
 go_enter Try.func81, Try.ntmps81
 go_wp2_with fail
 have hz : (w.setCell ⟨kb, 8, none⟩ (.int .i64 (nx + 1))).heap.size = w.heap.size := by simp
 clear c0 c2 hf2 C2
 generalize hw1 : w.setCell ⟨kb, 8, none⟩ (.int .i64 (nx + 1)) = w1 at *
 have Hz : Hid (w1.heap.size = w.heap.size) := hz
 clear hw1 hz
 have hkb : kb < w.heap.size := by have := lt_heap H1.out.k; have := Hz.out; omega
 have hbb : base ≤ w.heap.size := by have := H1.out.b; have := Hz.out; omega
 have hp1 : Hid ((w1.alloc (.cells #[.slice ao bs.length cap, .slice none 0 0, .slice none 0 0, .int .i64 (nx + 1), .bool false] 89)).heap[w.heap.size]? = some (.cells #[.slice ao bs.length cap, .slice none 0 0, .slice none 0 0, .int .i64 (nx + 1), .bool false] 89 (0, 0))) := by
  rw [<- Hz.out]; exact heap_alloc_new w1 _
 refine (fill_any w.heap.size 0 #[.slice ao bs.length cap, .slice none 0 0, .slice none 0 0, .int .i64 (nx + 1), .bool false] (.slice ao bs.length cap) base bs (nx + 1) false _ (HO1.out.alloc _) hp1.out rfl rfl rfl (by omega) (by omega) (by omega)).mono ?_
 rintro e w2 ⟨rfl, hB2, hp2, hk2⟩
 have hw1 : Below w1.heap.size w1 (w1.alloc (.cells #[.slice ao bs.length cap, .slice none 0 0, .slice none 0 0, .int .i64 (nx + 1), .bool false] 89)) := (Below.refl _ _).alloc (Nat.le_refl _) _
 have K12 : Kept w1 w2 (fun j => j = w.heap.size ∨ some j = (Value.slice ao bs.length cap).ownBlock) := (Kept.ofBelow hw1 _).trans hk2
 have hcond : ∀ k, k < w.heap.size -> k = w.heap.size ∨ some k = (Value.slice ao bs.length cap).ownBlock -> (Value.slice ao bs.length cap).ownBlock = some k := fun k hk h => h.elim (fun e => absurd e (by omega)) (fun e => e.symm)
 have nk : ¬ (kb = w.heap.size ∨ some kb = (Value.slice ao bs.length cap).ownBlock) := fun h => notKb H1.out HO1.out kb (hcond kb hkb h) rfl
 have nv : ∀ k, (Value.slice av ps.length cv).ownBlock = some k -> ¬ (k = w.heap.size ∨ some k = (Value.slice ao bs.length cap).ownBlock) := fun k hk h => by
  have hlt := (H1.out.o.lt k hk).2
  have e := hcond k (by have := Hz.out; omega) h
  obtain ⟨cur, hcur⟩ := owns_type H1.out.o hk
  exact own_notType HO1.out hcur (by decide) e.symm
 have np : ∀ p ∈ ps, ∀ k, holds p k -> ¬ (k = w.heap.size ∨ some k = (Value.slice ao bs.length cap).ownBlock) := fun p hp k hk h => by
  obtain ⟨cur, hcur⟩ := holds_type (H1.out.ok p hp) hk
  have hlt := lt_heap hcur
  exact HS2.out p hp k (hcond k (by have := Hz.out; omega) h) hk
 have B2 : Hid (BookIs F w2 base kb (.slice av ps.length cv) (nx + 1) ps) := H1.out.kept K12 nk nv np
 have HK2 : Hid (Kept w1 w2 (fun j => j = w.heap.size ∨ some j = (Value.slice ao bs.length cap).ownBlock)) := K12
 have HB2 : Hid (Own w2 base (.slice ao bs.length cap) (pats (nx + 1) bs.length)) := hB2
 have hp2' : w2.heap[w.heap.size]? = some (.cells #[.slice ao bs.length cap, .slice none 0 0, .slice none 0 0, .int .i64 (nx + 1), .bool true] 89 (0, 0)) := by simpa using hp2
 have HP2 : Hid (w2.heap[w.heap.size]? = some (.cells #[.slice ao bs.length cap, .slice none 0 0, .slice none 0 0, .int .i64 (nx + 1), .bool true] 89 (0, 0))) := hp2'
 have NK : Hid (¬ (kb = w.heap.size ∨ some kb = (Value.slice ao bs.length cap).ownBlock)) := nk
 have NV : Hid (∀ k, (Value.slice av ps.length cv).ownBlock = some k -> ¬ (k = w.heap.size ∨ some k = (Value.slice ao bs.length cap).ownBlock)) := nv
 have NP : Hid (∀ p ∈ ps, ∀ k, holds p k -> ¬ (k = w.heap.size ∨ some k = (Value.slice ao bs.length cap).ownBlock)) := np
 clear hB2 hp2 hp2' hk2 hw1 K12 hcond nk nv np hp1
 go_wp2_with fail
 have hpl := pats_len (nx + 1) bs.length
 refine (grow_any w.heap.size 0 #[.slice ao bs.length cap, .slice none 0 0, .slice none 0 0, .int .i64 (nx + 1), .bool true] (.slice ao bs.length cap) base (pats (nx + 1) bs.length) (nx + 1) (.slice none 0 0) w2 HB2.out B2.out.b HP2.out rfl rfl rfl (by omega) (by omega) (by omega)).mono ?_
 rintro e w3 ⟨rfl, G, hB3, hG3, hp3, hk3, hloc⟩
 have hGs : ∃ aG cG, G = .slice aG (bs.length + 64) cG := by
  rcases own_shape hG3 with ⟨h, _⟩ | ⟨_, g, c, hv, _⟩
  ·have := congrArg List.length h; simp [pats_len] at this
  ·exact ⟨_, c, by rw [hv]; simp [pats_len]; rfl⟩
 obtain ⟨aG, cG, hGv⟩ := hGs
 subst hGv
 have B3 : Hid (BookIs F w3 base kb (.slice av ps.length cv) (nx + 1) ps) := B2.out.kept hk3 NK.out NV.out NP.out
 have K13 : Hid (Kept w w3 (fun j => j = kb ∨ some j = (Value.slice ao bs.length cap).ownBlock)) :=
  (HK1.out.mono (fun _ _ h => .inl h)).trans (((HK2.out.trans hk3).mono (fun k hk h => h.elim (fun e => absurd e (by have := Hz.out; omega)) (fun e => .inr e))))
 have hp3' : w3.heap[w.heap.size]? = some (.cells #[.slice ao bs.length cap, .slice aG (bs.length + 64) cG, .slice none 0 0, .int .i64 (nx + 1), .bool true] 89 (0, 0)) := by simpa using hp3
 have Q3 : Hid (PgOK w3 base ⟨.slice ao bs.length cap, .slice aG (bs.length + 64) cG, .slice none 0 0, nx + 1, true, true, bs⟩) := ⟨hB3, fun e => by simp at e, fun _ => hG3, by simp; omega, by simp; omega, hlen, fun _ => rfl⟩
 have HL : Hid ((Value.slice aG (bs.length + 64) cG).ownBlock = (Value.slice ao bs.length cap).ownBlock ∨ ∃ g', (Value.slice aG (bs.length + 64) cG).ownBlock = some g' /\ w.heap.size ≤ g') := by
  rcases hloc with h | ⟨g', h, h'⟩
  ·exact .inl h
  ·exact .inr ⟨g', h, by have := HK2.out.size; have := Hz.out; omega⟩
 have T1 : Hid (∀ p ∈ ps, ∀ k, p.B.ownBlock = some k -> ¬ holds ⟨.slice ao bs.length cap, .slice aG (bs.length + 64) cG, .slice none 0 0, nx + 1, true, true, bs⟩ k) := by
  intro p hp k hk hh
  have hlt := ((H1.out.ok p hp).b.lt k hk).2
  rcases hh with e | ⟨_, e⟩ | ⟨e, _⟩
  ·exact HS1.out p hp k hk e
  ·rcases HL.out with h | ⟨g', h, h'⟩
   ·exact HS1.out p hp k hk (h.symm.trans e)
   ·rw [h] at e
    obtain rfl := Option.some.inj e
    have := Hz.out
    omega
  ·simp at e
 have d0 : w3.cell? ⟨w.heap.size, 0, none⟩ = some (.slice ao bs.length cap) := (cell_block hp3').trans rfl
 have d1 : w3.cell? ⟨w.heap.size, 1, none⟩ = some (.slice aG (bs.length + 64) cG) := (cell_block hp3').trans rfl
 have d2 : w3.cell? ⟨w.heap.size, 2, none⟩ = some (.slice none 0 0) := (cell_block hp3').trans rfl
 have d3 : w3.cell? ⟨w.heap.size, 3, none⟩ = some (.int .i64 (nx + 1)) := (cell_block hp3').trans rfl
 have d4 : w3.cell? ⟨w.heap.size, 4, none⟩ = some (.bool true) := (cell_block hp3').trans rfl
 have C0 : w3.cell? ⟨kb, 6, none⟩ = some (.slice av ps.length cv) := (cell_block B3.out.k).trans rfl
 have F0 : w3.frozen? ⟨kb, 6, none⟩ = false := frozen_of_row w3 kb 6 _ 37 B3.out.k
 have hk3' := lt_heap B3.out.k
 have CA0 : ∀ o, (w3.alloc o).cell? ⟨kb, 6, none⟩ = some (.slice av ps.length cv) := fun o => (cell_alloc hk3').trans C0
 have FA : ∀ o, (w3.alloc o).frozen? ⟨kb, 6, none⟩ = false := fun o => (frozen_alloc hk3').trans F0
 have HC0 : Hid (w3.cell? ⟨kb, 6, none⟩ = some (.slice av ps.length cv)) := C0
 have HF0 : Hid (w3.frozen? ⟨kb, 6, none⟩ = false) := F0
 have HVo : Hid (w3.ownsRow base 89 5 (.slice av ps.length cv) ps.length (rows ps)) := B3.out.o
 have HVn : Hid (some kb ≠ (Value.slice av ps.length cv).ownBlock) := fun e => by
  obtain ⟨cur, hcur⟩ := owns_type B3.out.o e.symm
  exact apart_types hcur B3.out.k (by decide)
 have hA1 : ps.length + 1 ≤ maxLen := by unfold maxLen; omega
 have hA2 : (ps.length + 1) * 88 ≤ 140737488355328 := by omega
 have hb3 := B3.out.b
 clear hB3 hG3 hp3 hp3' hk3 hloc B2 HB2 HP2 HK2 NK NV NP
 go_wp2_with fail
 go_region_law
  ((refine step_append_lies _ (by rfl) _ _ _ (by rfl) base 89 i5 _ 5 88 Try.underlying30 hi5 hy0 hy1 hy2 rfl (by decide) (.slice av ps.length cv) ps.length (rows ps) (by rfl) (by exact HVo.out.alloc _) ⟨w3.heap.size, 0, none⟩ 1 1 [.slice ao bs.length cap, .slice aG (bs.length + 64) cG, .slice none 0 0, .int .i64 (nx + 1), .bool true] (by rfl) (by rfl) (World.news_of_block (cs := #[.slice ao bs.length cap, .slice aG (bs.length + 64) cG, .slice none 0 0, .int .i64 (nx + 1), .bool true]) (t := 89) (fr := (0, 0)) (heap_alloc_new w3 _)) (page_oneCell _ _ _ _ _ _ _ _ _ _ _) (by decide) hA1 hA2 (by simp; omega) (w3.heap.size + 1) (by simp) ?_; intro g5 c5 w5 ho5 hg5 hat5 hlt5; have hS5 := keep_S4 (by repeat (first | exact Below.refl _ _ | apply Below.drew | refine Below.alloc ?_ (Nat.le_refl _) _)) hg5 (Below.refl _ w3) hk3' (by exact HVn.out) HC0.out HF0.out; obtain ⟨CE0, FE0⟩ := hS5))
 all_goals
  have HF := push_fin B3.out Q3.out (by repeat (first | exact Below.refl _ _ | apply Below.drew | refine Below.alloc ?_ (Nat.le_refl _) _)) ho5 hg5 T1.out HS2.out hc
  clear CE0 FE0 ho5 hg5 hat5 hlt5
  have HF' : Hid (_ /\ _) := HF
  clear HF
  go_wp2
  go_end0
  first
   | exact ⟨rfl, _, _, HF'.out.1, (K13.out.mono (fun _ _ h => h.elim .inl (fun e => .inr (.inr e)))).trans (HF'.out.2.mono (fun _ _ h => h.elim .inl (fun e => .inr (.inl e)))), HL.out⟩
   | exact ⟨rfl, _, _, HF'.out.1.drew, ((K13.out.mono (fun _ _ h => h.elim .inl (fun e => .inr (.inr e)))).trans (HF'.out.2.mono (fun _ _ h => h.elim .inl (fun e => .inr (.inl e))))).drew, HL.out⟩

end Go.Proofs.Ythanifbimndhaaa.Bk
namespace Go.Proofs.Ythanifbimndhaaa.Bk
set_option maxHeartbeats 40000000
open Go.RowKit Lo
set_option linter.unusedVariables false
variable {F : Fr}

theorem rows_set (ps : List Pg) (k : Nat) (p q : Pg) (j : Nat) (v : Value) (hk : ps[k]? = some p) (hj : j < 5) (hq : pgc q = (pgc p).set j v) : (rows ps).set (k * 5 + j) v = rows (ps.set k q) := by
 induction ps generalizing k with
 | nil => simp at hk
 | cons r ps ih =>
  cases k with
  | zero =>
   simp at hk
   subst hk
   simp only [rows, List.flatMap_cons, Nat.zero_mul, Nat.zero_add, List.set_cons_zero]
   rw [List.set_append_left _ _ (by simp [pgc]; omega), hq]
  | succ k =>
   simp only [List.getElem?_cons_succ] at hk
   have h := ih k hk
   simp only [rows, List.flatMap_cons, List.set_cons_succ] at *
   rw [List.set_append_right _ _ (by simp [pgc]; omega), <- h]
   congr 2
   simp [pgc]
   omega

theorem row_set {cur : Array Value} {n a : Nat} {v : Value} {xs : List Value} (h : cur.toList.take n = xs) (ha : a < n) : (cur.setIfInBounds a v).toList.take n = xs.set a v := by
 rw [Array.toList_setIfInBounds, <- h]
 apply List.ext_getElem?
 intro i
 rw [List.getElem?_take, List.getElem?_set, List.getElem?_set, List.getElem?_take, List.length_take]
 by_cases hi : i < n
 ·rw [if_pos hi]
  by_cases e : a = i
  ·subst e
   simp only [if_true, Array.length_toList]
   by_cases h3 : a < cur.size
   ·rw [if_pos h3, if_pos (by omega)]
   ·rw [if_neg h3, if_neg (by omega)]
  ·rw [if_neg e, if_neg e, if_pos hi]
 ·rw [if_neg hi]
  by_cases e : a = i
  ·omega
  ·rw [if_neg e, if_neg hi]

theorem get_set {ps : List Pg} {k i : Nat} {q r : Pg} (h : (ps.set k q)[i]? = some r) : (i = k /\ r = q) ∨ (i ≠ k /\ ps[i]? = some r) := by
 rw [List.getElem?_set] at h
 by_cases e : k = i
 ·subst e
  simp at h
  exact .inl ⟨rfl, h.2.symm⟩
 ·rw [if_neg e] at h
  exact .inr ⟨fun h => e h.symm, h⟩

theorem book_set {w w' : World} {base kb pk cp k : Nat} {nx : Int} {ps : List Pg} {p : Pg} (H : BookIs F w base kb (.slice (some ⟨pk, 0, none⟩) ps.length cp) nx ps) (hk : ps[k]? = some p) (q : Pg) (hqB : q.B = p.B) (hq : PgOK w' base q)
  (hK : Kept w w' (fun j => j = pk ∨ some j = p.B.ownBlock)) (cur cur' : Array Value) (hc : w.heap[pk]? = some (.cells cur 89 (0, 0))) (hc' : w'.heap[pk]? = some (.cells cur' 89 (0, 0))) (hsz : cur'.size = cur.size) (hrow : cur'.toList.take (ps.length * 5) = rows (ps.set k q))
  (hsep : ∀ (i : Nat) (r : Pg), ps[i]? = some r -> i ≠ k -> ∀ j, r.B.ownBlock = some j -> ¬ holds q j) : BookIs F w' base kb (.slice (some ⟨pk, 0, none⟩) ps.length cp) nx (ps.set k q) := by
 have hpm := List.mem_of_getElem? hk
 have hkpk : kb ≠ pk := fun e => by subst e; exact apart_types hc H.k (by decide)
 have hkB : some kb ≠ p.B.ownBlock := fun e => notKb H (H.ok p hpm).b kb e.symm rfl
 have hlt : k < ps.length := (List.getElem?_eq_some_iff.1 hk).1
 refine ⟨(hK.block kb (lt_heap H.k) (by simp [hkpk]; exact hkB)).trans H.k, ?_, ?_, ?_, Nat.le_trans H.b hK.size, H.n0, H.n1, by simpa using H.cnt⟩
 ·rw [List.length_set]
  refine ⟨by rw [rows_len]; simp, ?_⟩
  rcases H.o.2 with ⟨h1, _⟩ | ⟨g, cap, c2, hv, hb, hg, hn, hcm, hcs, ht⟩
  ·simp at h1
  ·simp only [Value.slice.injEq, Option.some.injEq, Addr.mk.injEq, and_true, true_and] at hv
   obtain ⟨rfl, rfl⟩ := hv
   have e2 : c2 = cur := by rw [hg] at hc; simp at hc; exact hc
   subst e2
   exact .inr ⟨pk, cp, cur', rfl, hb, hc', hn, hcm, by rw [hsz]; exact hcs, hrow⟩
 ·intro r hr
  obtain ⟨i, hi⟩ := List.getElem?_of_mem hr
  rcases get_set hi with ⟨_, rfl⟩ | ⟨e, hi⟩
  ·exact hq
  ·refine (H.ok r (List.mem_of_getElem? hi)).kept hK (fun j hj hP => ?_)
   rcases hP with e1 | e1
   ·subst e1
    obtain ⟨c3, hc3⟩ := holds_type (H.ok r (List.mem_of_getElem? hi)) hj
    exact apart_types hc3 hc (by decide)
   ·exact H.sep k i p r hk hi (fun h => e h.symm) j e1.symm hj
 ·intro i j r s hi hj hne b hb
  rcases get_set hi with ⟨rfl, rfl⟩ | ⟨ei, hi⟩
  ·rcases get_set hj with ⟨rfl, rfl⟩ | ⟨ej, hj⟩
   ·exact absurd rfl hne
   ·rw [hqB] at hb
    exact H.sep i j p s hk hj hne b hb
  ·rcases get_set hj with ⟨e1, e2⟩ | ⟨ej, hj⟩
   ·rw [e2]; exact hsep i r ‹ps[i]? = some r› ei b hb
   ·exact H.sep i j r s hi hj hne b hb

def fillP (p : Pg) : Pg := if p.dn then p else { p with dn := true, gr := false }
theorem fillP_B (p : Pg) : (fillP p).B = p.B := by unfold fillP; split <;> rfl
theorem fillP_dn (p : Pg) : (fillP p).dn = true := by unfold fillP; split <;> simp_all

theorem page_row {w : World} {base pk cp : Nat} {ps : List Pg} {k : Nat} {p : Pg} (h : w.ownsRow base 89 5 (.slice (some ⟨pk, 0, none⟩) ps.length cp) ps.length (rows ps)) (hk : ps[k]? = some p) :
  ∃ cur, w.heap[pk]? = some (.cells cur 89 (0, 0)) /\ cur.toList.take (ps.length * 5) = rows ps /\ cur[k * 5]? = some p.B /\ cur[k * 5 + 1]? = some p.G /\ cur[k * 5 + 2]? = some p.V /\ cur[k * 5 + 3]? = some (.int .i64 p.id) /\ cur[k * 5 + 4]? = some (.bool p.dn) := by
 have hlt : k < ps.length := (List.getElem?_eq_some_iff.1 hk).1
 rcases h.2 with ⟨h1, _⟩ | ⟨g, cap, c2, hv, hb, hg, hn, hcm, hcs, ht⟩
 ·simp at h1
 ·simp only [Value.slice.injEq, Option.some.injEq, Addr.mk.injEq, and_true, true_and] at hv
  obtain ⟨rfl, rfl⟩ := hv
  have key : ∀ j, j < 5 -> c2[k * 5 + j]? = (pgc p)[j]? := by
   intro j hj
   rw [<- rows_get ps k p hk j hj, <- ht, List.getElem?_take, if_pos (by omega)]
   simp
  exact ⟨c2, hg, ht, key 0 (by decide), key 1 (by decide), key 2 (by decide), key 3 (by decide), key 4 (by decide)⟩

theorem fill_page (base kb pk cp : Nat) (nx : Int) (ps : List Pg) (k : Nat) (p : Pg) (w : World) (H : BookIs F w base kb (.slice (some ⟨pk, 0, none⟩) ps.length cp) nx ps) (hk : ps[k]? = some p) (hd : p.dn = false) :
  Calls Try.prog 56 #[.pointer (some ⟨pk, k * 5, none⟩)] w fun e w' => e = .returned (.tuple #[]) /\ BookIs F w' base kb (.slice (some ⟨pk, 0, none⟩) ps.length cp) nx (ps.set k (fillP p)) /\ Kept w w' (fun j => j = pk ∨ some j = p.B.ownBlock) := by
 obtain ⟨cur, hc, ht, c0, c1, c2, c3, c4⟩ := page_row H.o hk
 have hpm := List.mem_of_getElem? hk
 have hok := H.ok p hpm
 have hb := hok.b
 unfold cont at hb
 rw [hd] at hb
 have hlt : k < ps.length := (List.getElem?_eq_some_iff.1 hk).1
 refine (fill_any pk (k * 5) cur p.B base p.bs p.id p.dn w hb hc c0 c3 c4 hok.i0 (by have := hok.i1; omega) (by have := hok.len; omega)).mono fun e w' h => ?_
 obtain ⟨h1, h2, h3, h4⟩ := h
 have hf : fillP p = { p with dn := true, gr := false } := by unfold fillP; rw [hd]; rfl
 refine ⟨h1, book_set H hk (fillP p) (fillP_B p) ?_ h4 cur _ hc h3 (by simp) ?_ ?_, h4⟩
 ·rw [hf]
  exact ⟨h2, fun e => by simp at e, fun e => by simp at e, hok.i0, hok.i1, hok.len, fun e => by simp at e⟩
 ·rw [row_set ht (by omega)]
  exact rows_set ps k p (fillP p) 4 (.bool true) hk (by decide) (by rw [hf]; rfl)
 ·intro i r hi hne j hj hh
  rw [hf] at hh
  rcases hh with e | ⟨e, _⟩ | ⟨e, _⟩
  ·exact H.sep i k r p hi hk hne j hj (.inl e)
  ·simp at e
  ·simp at e

theorem grow_page (base kb pk cp : Nat) (nx : Int) (ps : List Pg) (k : Nat) (p : Pg) (w : World) (H : BookIs F w base kb (.slice (some ⟨pk, 0, none⟩) ps.length cp) nx ps) (hk : ps[k]? = some p) (hd : p.dn = true) :
  Calls Try.prog 58 #[.pointer (some ⟨pk, k * 5, none⟩)] w fun e w' => e = .returned (.tuple #[]) /\ ∃ G, BookIs F w' base kb (.slice (some ⟨pk, 0, none⟩) ps.length cp) nx (ps.set k { p with G := G, gr := true }) /\ Kept w w' (fun j => j = pk ∨ some j = p.B.ownBlock) /\ (G.ownBlock = p.B.ownBlock ∨ ∃ g', G.ownBlock = some g' /\ w.heap.size ≤ g') := by
 obtain ⟨cur, hc, ht, c0, c1, c2, c3, c4⟩ := page_row H.o hk
 have hpm := List.mem_of_getElem? hk
 have hok := H.ok p hpm
 have hlt : k < ps.length := (List.getElem?_eq_some_iff.1 hk).1
 refine (grow_any pk (k * 5) cur p.B base (cont p) p.id p.G w hok.b H.b hc c0 c1 c3 hok.i0 (by have := hok.i1; omega) (by rw [cont_len]; exact hok.len)).mono fun e w' h => ?_
 obtain ⟨h1, G, h2, h3, h4, h5, h6⟩ := h
 refine ⟨h1, G, book_set H hk { p with G := G, gr := true } rfl ?_ h5 cur _ hc h4 (by simp) ?_ ?_, h5, h6⟩
 ·exact ⟨h2, fun e => by simp [hd] at e, fun _ => h3, hok.i0, hok.i1, hok.len, fun _ => hd⟩
 ·rw [row_set ht (by omega)]
  exact rows_set ps k p _ 1 G hk (by decide) rfl
 ·intro i r hi hne j hj hh
  rcases hh with e | ⟨_, e⟩ | ⟨e, _⟩
  ·exact H.sep i k r p hi hk hne j hj (.inl e)
  ·rcases h6 with h | ⟨g', h, h'⟩
   ·exact H.sep i k r p hi hk hne j hj (.inl (h.symm.trans e))
   ·have hlt := ((H.ok r (List.mem_of_getElem? hi)).b.lt j hj).2
    rw [h] at e
    obtain rfl := Option.some.inj e
    omega
  ·simp [hd] at e

theorem wpList_make_cap {P : Program} (w : World) {ops : Array Oper} {rest : List Oper} {o : Oper} {a : Act} {Q : Exit -> Act -> World -> Prop}
  (hg : o.guard = none) (l c : Operand) (t : TypeId) (hop : o.op = Op.makeSlice t l c)
  (e : TypeId) (i : TypeInfo) (z : Value) (h1 : P.underlying t = some (.slice e)) (h2 : P.info? e = some i) (h3 : i.zero = some z) (h4 : i.size = 1) (h5 : z.cells = #[z]) (bytes : Nat) (h6 : i.bytes = bytes)
  (kl kc : IntKind) (L C : Int) (n m : Nat) (hl : a.eval l = .int kl L) (hc : a.eval c = .int kc C) (hL : L = (n : Int)) (hC : C = (m : Int)) (hnm : n ≤ m) (b2 : bytes * m ≤ 281474976710656) (b3 : m ≤ 9223372036854775807)
  (hK : ∀ w', Hid (w'.heap[w.heap.size]? = some (.cells (List.replicate m z).toArray e (0, 0))) -> w'.heap.size = w.heap.size + 1 -> Below w.heap.size w w' -> wpList P ops Q rest (a.put o.dst (.slice (some ⟨w.heap.size, 0, none⟩) n m)) w') :
  wpList P ops Q (o :: rest) a w := by
 refine wpList_plain hg fun K hK' => ?_
 subst h6
 have hrun := run_make (P := P) w t e i z h1 h2 h3 kl kc L C (by omega) (by omega) (by rw [hC, show (i.bytes : Int) * (m : Int) = ((i.bytes * m : Nat) : Int) from by push_cast; rfl]; omega) (by omega)
 have hm : madeCells z.cells (C.toNat * i.size) = (List.replicate m z).toArray := by
  rw [h5, h4, hC]
  simp only [Int.toNat_natCast, Nat.mul_one]
  rw [<- toList_madeCells_one, Array.toArray_toList]
 rw [hm] at hrun
 have hLn : L.toNat = n := by omega
 have hCn : C.toNat = m := by omega
 rw [hLn, hCn] at hrun
 unfold Oper.wp
 simp [execOp, hop, hl, hc, hrun, Result.andThen]
 exact hK' _ _ (hK _ (heap_alloc_new w _) (by simp) ((Below.refl _ _).alloc (Nat.le_refl _) _))

theorem info_bool : (Try.prog.info? 4).map (fun i => (i.zero, i.size, i.bytes)) = some (some (.bool false), 1, 1) := by kernel_rfl

def midL (ps : List Pg) (k : Nat) : List Pg := ps.mapIdx fun i p => if i < k then fillP p else p
theorem midL_len (ps : List Pg) (k : Nat) : (midL ps k).length = ps.length := by simp [midL]
theorem midL_get (ps : List Pg) (k i : Nat) (p : Pg) (h : ps[i]? = some p) : (midL ps k)[i]? = some (if i < k then fillP p else p) := by simp [midL, h]
theorem midL_zero (ps : List Pg) : midL ps 0 = ps := by
 apply List.ext_getElem?
 intro i
 cases h : ps[i]? with
 | none => simp [midL, h]
 | some p => rw [midL_get ps 0 i p h]; simp
theorem midL_step (ps : List Pg) (k : Nat) (p : Pg) (h : ps[k]? = some p) : (midL ps k).set k (fillP p) = midL ps (k + 1) := by
 have hk : k < ps.length := (List.getElem?_eq_some_iff.1 h).1
 apply List.ext_getElem?
 intro i
 rw [List.getElem?_set, midL_len]
 by_cases e : k = i
 ·subst e
  rw [if_pos rfl, if_pos hk, midL_get ps (k + 1) k p h, if_pos (by omega)]
 ·rw [if_neg e]
  cases h2 : ps[i]? with
  | none => simp [midL, h2]
  | some r =>
   rw [midL_get ps k i r h2, midL_get ps (k + 1) i r h2]
   by_cases h3 : i < k
   ·rw [if_pos h3, if_pos (by omega)]
   ·rw [if_neg h3, if_neg (by omega)]
theorem midL_same (ps : List Pg) (k : Nat) (p : Pg) (h : ps[k]? = some p) (hd : p.dn = true) : midL ps (k + 1) = midL ps k := by
 rw [<- midL_step ps k p h]
 have : fillP p = p := by unfold fillP; rw [hd]; rfl
 rw [this]
 apply List.ext_getElem?
 intro i
 rw [List.getElem?_set]
 by_cases e : k = i
 ·subst e
  have hk : k < ps.length := (List.getElem?_eq_some_iff.1 h).1
  rw [if_pos rfl, if_pos (by rw [midL_len]; exact hk), midL_get ps k k p h, if_neg (by omega)]
 ·rw [if_neg e]

def frs (ps : List Pg) (k : Nat) : List Value := ps.mapIdx fun i p => Value.bool (if i < k then !p.dn else false)
theorem frs_len (ps : List Pg) (k : Nat) : (frs ps k).length = ps.length := by simp [frs]
theorem frs_get (ps : List Pg) (k i : Nat) (p : Pg) (h : ps[i]? = some p) : (frs ps k)[i]? = some (.bool (if i < k then !p.dn else false)) := by simp [frs, h]
theorem frs_zero (ps : List Pg) : frs ps 0 = List.replicate ps.length (.bool false) := by
 apply List.ext_getElem?
 intro i
 cases h : ps[i]? with
 | none =>
  have : ps.length ≤ i := List.getElem?_eq_none_iff.1 h
  simp [frs, h, List.getElem?_replicate]; omega
 | some p =>
  have : i < ps.length := (List.getElem?_eq_some_iff.1 h).1
  rw [frs_get ps 0 i p h]; simp [this]
theorem frs_set (ps : List Pg) (k : Nat) (p : Pg) (h : ps[k]? = some p) : (frs ps k).set k (.bool (!p.dn)) = frs ps (k + 1) := by
 have hk : k < ps.length := (List.getElem?_eq_some_iff.1 h).1
 apply List.ext_getElem?
 intro i
 rw [List.getElem?_set, frs_len]
 by_cases e : k = i
 ·subst e
  rw [if_pos rfl, if_pos hk, frs_get ps (k + 1) k p h, if_pos (by omega)]
 ·rw [if_neg e]
  cases h2 : ps[i]? with
  | none => simp [frs, h2]
  | some r =>
   rw [frs_get ps k i r h2, frs_get ps (k + 1) i r h2]
   by_cases h3 : i < k
   ·rw [if_pos h3, if_pos (by omega)]
   ·rw [if_neg h3, if_neg (by omega)]

def FrRow (w : World) (fb n : Nat) (xs : List Value) : Prop := w.ownsRow fb 4 1 (.slice (some ⟨fb, 0, none⟩) n n) n xs
theorem FrRow.blk {w : World} {fb n : Nat} {xs : List Value} (h : FrRow w fb n xs) : ∃ cur, w.heap[fb]? = some (.cells cur 4 (0, 0)) := owns_type h rfl

theorem book_fr {w w' : World} {base kb fb n : Nat} {vp : Value} {nx : Int} {ps : List Pg} {xs : List Value} (H : BookIs F w base kb vp nx ps) (hf : FrRow w fb n xs) (hK : Kept w w' (fun j => j = fb)) : BookIs F w' base kb vp nx ps := by
 obtain ⟨cur, hcur⟩ := hf.blk
 refine H.kept hK (fun e => ?_) (fun k hk e => ?_) (fun p hp k hk e => ?_)
 ·subst e; exact apart_types hcur H.k (by decide)
 ·subst e
  obtain ⟨c2, hc2⟩ := owns_type H.o hk
  exact apart_types hcur hc2 (by decide)
 ·subst e
  obtain ⟨c2, hc2⟩ := holds_type (H.ok p hp) hk
  exact apart_types hcur hc2 (by decide)

theorem fr_book {w w' : World} {base kb fb n pk m cp k : Nat} {nx : Int} {ps : List Pg} {p : Pg} {xs : List Value} (H : BookIs F w base kb (.slice (some ⟨pk, 0, none⟩) m cp) nx ps) (hk : ps[k]? = some p) (hf : FrRow w fb n xs) (hK : Kept w w' (fun j => j = pk ∨ some j = p.B.ownBlock)) : FrRow w' fb n xs := by
 obtain ⟨cur, hcur⟩ := hf.blk
 refine hK.owns hf (fun j hj hP => ?_)
 have e : j = fb := by simp [Value.ownBlock] at hj; exact hj.symm
 subst e
 rcases hP with e | e
 ·subst e
  obtain ⟨c2, hc2⟩ := owns_type H.o rfl
  exact apart_types hcur hc2 (by decide)
 ·obtain ⟨c2, hc2⟩ := holds_type (H.ok p (List.mem_of_getElem? hk)) (.inl e.symm)
  exact apart_types hcur hc2 (by decide)

theorem fr_store {wr : World} {fb n k : Nat} {xs : List Value} (h : FrRow wr fb n xs) (v : Value) : FrRow (wr.setCell ⟨fb, k, none⟩ v) fb n (xs.set k v) /\ Kept wr (wr.setCell ⟨fb, k, none⟩ v) (fun j => j = fb) := by
 have hs := World.ownsRow.stored h k v
 exact ⟨hs.1, (Kept.ofGrown hs.2).mono (fun j _ h => by simpa using h)⟩

theorem fill_page' (base kb pk cp n : Nat) (nx : Int) (ps : List Pg) (k : Nat) (p : Pg) (w : World) (hn : ps.length = n) (H : BookIs F w base kb (.slice (some ⟨pk, 0, none⟩) n cp) nx ps) (hk : ps[k]? = some p) (hd : p.dn = false) :
  Calls Try.prog 56 #[.pointer (some ⟨pk, k * 5, none⟩)] w fun e w' => e = .returned (.tuple #[]) /\ BookIs F w' base kb (.slice (some ⟨pk, 0, none⟩) n cp) nx (ps.set k (fillP p)) /\ Kept w w' (fun j => j = pk ∨ some j = p.B.ownBlock) := by
 subst hn; exact fill_page base kb pk cp nx ps k p w H hk hd

theorem grow_page' (base kb pk cp n : Nat) (nx : Int) (ps : List Pg) (k : Nat) (p : Pg) (w : World) (hn : ps.length = n) (H : BookIs F w base kb (.slice (some ⟨pk, 0, none⟩) n cp) nx ps) (hk : ps[k]? = some p) (hd : p.dn = true) :
  Calls Try.prog 58 #[.pointer (some ⟨pk, k * 5, none⟩)] w fun e w' => e = .returned (.tuple #[]) /\ ∃ G, BookIs F w' base kb (.slice (some ⟨pk, 0, none⟩) n cp) nx (ps.set k { p with G := G, gr := true }) /\ Kept w w' (fun j => j = pk ∨ some j = p.B.ownBlock) /\ (G.ownBlock = p.B.ownBlock ∨ ∃ g', G.ownBlock = some g' /\ w.heap.size ≤ g') := by
 subst hn; exact grow_page base kb pk cp nx ps k p w H hk hd

end Go.Proofs.Ythanifbimndhaaa.Bk
namespace Go.Proofs.Ythanifbimndhaaa.Bk
set_option maxHeartbeats 40000000
open Go.RowKit Lo
set_option linter.unusedVariables false
variable {F : Fr}

def PSet (pk : Nat) (ps : List Pg) (j : Nat) : Prop := j = pk ∨ ∃ p ∈ ps, some j = p.B.ownBlock

def GrRel (sz : Nat) (ps qs : List Pg) (k : Nat) : Prop := qs.length = ps.length /\ ∀ (i : Nat) (p : Pg), ps[i]? = some p -> ∃ q, qs[i]? = some q /\ q.dn = true /\ (q.gr = true ∨ (k ≤ i /\ p.dn = false)) /\ q.B = p.B /\ (∀ j, holds q j -> holds p j ∨ sz ≤ j)

theorem fillP_holds (p : Pg) (j : Nat) (h : holds (fillP p) j) : holds p j := by
 unfold fillP at h
 split at h
 ·exact h
 ·rcases h with e | ⟨e, _⟩ | ⟨e, _⟩
  ·exact .inl e
  ·simp at e
  ·simp at e

theorem grRel_start (sz : Nat) (ps : List Pg) (n : Nat) (hn : ps.length = n) (hi : ∀ p ∈ ps, p.gr = p.dn) : GrRel sz ps (midL ps n) 0 := by
 refine ⟨midL_len ps n, fun i p hp => ?_⟩
 have hlt : i < ps.length := (List.getElem?_eq_some_iff.1 hp).1
 refine ⟨fillP p, by rw [midL_get ps n i p hp, if_pos (by omega)], fillP_dn p, ?_, fillP_B p, fun j h => .inl (fillP_holds p j h)⟩
 cases hd : p.dn with
 | true => exact .inl (by unfold fillP; rw [hd]; exact (hi p (List.mem_of_getElem? hp)).trans hd)
 | false => exact .inr ⟨Nat.zero_le _, rfl⟩

theorem grRel_skip {sz : Nat} {ps qs : List Pg} {k : Nat} {p : Pg} (h : GrRel sz ps qs k) (hp : ps[k]? = some p) (hd : p.dn = true) : GrRel sz ps qs (k + 1) := by
 refine ⟨h.1, fun i r hr => ?_⟩
 obtain ⟨q, h1, h2, h3, h4, h5⟩ := h.2 i r hr
 refine ⟨q, h1, h2, ?_, h4, h5⟩
 rcases h3 with h3 | ⟨h3, h6⟩
 ·exact .inl h3
 ·by_cases e : k = i
  ·subst e
   rw [hp] at hr
   obtain rfl := Option.some.inj hr
   rw [hd] at h6; simp at h6
  ·exact .inr ⟨by omega, h6⟩

theorem grRel_grow {sz m : Nat} {ps qs : List Pg} {k : Nat} {q : Pg} {G : Value} (h : GrRel sz ps qs k) (hq : qs[k]? = some q) (hG : G.ownBlock = q.B.ownBlock ∨ ∃ g', G.ownBlock = some g' /\ m ≤ g') (hm : sz ≤ m) : GrRel sz ps (qs.set k { q with G := G, gr := true }) (k + 1) := by
 refine ⟨by rw [List.length_set]; exact h.1, fun i r hr => ?_⟩
 obtain ⟨q', h1, h2, h3, h4, h5⟩ := h.2 i r hr
 have hlt : k < qs.length := (List.getElem?_eq_some_iff.1 hq).1
 by_cases e : k = i
 ·subst e
  rw [hq] at h1
  obtain rfl := Option.some.inj h1
  refine ⟨{ q with G := G, gr := true }, by rw [List.getElem?_set, if_pos rfl, if_pos hlt], h2, .inl rfl, h4, fun j hj => ?_⟩
  rcases hj with e | ⟨_, e⟩ | ⟨e, _⟩
  ·exact h5 j (.inl e)
  ·rcases hG with hG | ⟨g', hG, hg⟩
   ·exact h5 j (.inl (hG.symm.trans e))
   ·have e' : G.ownBlock = some j := e
    rw [hG] at e'
    obtain rfl := Option.some.inj e'
    exact .inr (by omega)
  ·have e' : q.dn = false := e
   rw [h2] at e'; simp at e'
 ·refine ⟨q', by rw [List.getElem?_set, if_neg e]; exact h1, h2, ?_, h4, h5⟩
  rcases h3 with h3 | ⟨h3, h6⟩
  ·exact .inl h3
  ·exact .inr ⟨by omega, h6⟩

theorem grRel_end {sz : Nat} {ps qs : List Pg} {n : Nat} (h : GrRel sz ps qs n) (hn : ps.length = n) : (∀ q ∈ qs, q.gr = q.dn) /\ (∀ q ∈ qs, ∀ j, holds q j -> (∃ p ∈ ps, holds p j) ∨ sz ≤ j) := by
 have key : ∀ q ∈ qs, ∃ p ∈ ps, q.dn = true /\ q.gr = true /\ (∀ j, holds q j -> holds p j ∨ sz ≤ j) := by
  intro q hq
  obtain ⟨i, hi⟩ := List.getElem?_of_mem hq
  have hlt : i < qs.length := (List.getElem?_eq_some_iff.1 hi).1
  obtain ⟨p, hp⟩ : ∃ p, ps[i]? = some p := ⟨_, List.getElem?_eq_getElem (by have := h.1; omega)⟩
  obtain ⟨q', h1, h2, h3, h4, h5⟩ := h.2 i p hp
  rw [hi] at h1
  obtain rfl := Option.some.inj h1
  refine ⟨p, List.mem_of_getElem? hp, h2, ?_, h5⟩
  rcases h3 with h3 | ⟨h3, _⟩
  ·exact h3
  ·have := h.1; omega
 refine ⟨fun q hq => ?_, fun q hq j hj => ?_⟩
 ·obtain ⟨p, _, h1, h2, _⟩ := key q hq
  rw [h1, h2]
 ·obtain ⟨p, hp, _, _, h3⟩ := key q hq
  rcases h3 j hj with h | h
  ·exact .inl ⟨p, hp, h⟩
  ·exact .inr h

theorem PSet.of {pk k : Nat} {ps : List Pg} {p : Pg} (hp : ps[k]? = some p) (B : Value) (hB : B = p.B) (j : Nat) (h : j = pk ∨ some j = B.ownBlock) : PSet pk ps j := by
 subst hB
 exact h.imp id (fun e => ⟨p, List.mem_of_getElem? hp, e⟩)

theorem Kept.step {w a b : World} {P Q : Nat -> Prop} (h : Kept w a P) (hs : Kept a b Q) (hq : ∀ j, j < w.heap.size -> Q j -> P j) : Kept w b P :=
 ⟨hs.os.trans h.os, hs.tape.trans h.tape, hs.output.trans h.output, Nat.le_trans h.size hs.size, fun i hi hp => (hs.block i (Nat.lt_of_lt_of_le hi h.size) (fun e => hp (hq i hi e))).trans (h.block i hi hp)⟩

set_option maxRecDepth 100000 in
theorem settle_some (base kb pk cp n : Nat) (nx : Int) (ps : List Pg) (w : World) (hn : ps.length = n) (H : BookIs F w base kb (.slice (some ⟨pk, 0, none⟩) n cp) nx ps) (hi : ∀ p ∈ ps, p.gr = p.dn) :
  Calls Try.prog 19 #[.pointer (some ⟨kb, 6, none⟩)] w fun e w' => e = .returned (.bool true) /\ (∃ qs, qs.length = n /\ BookIs F w' base kb (.slice (some ⟨pk, 0, none⟩) n cp) nx qs /\ (∀ q ∈ qs, q.gr = q.dn) /\ (∀ q ∈ qs, ∀ j, holds q j -> (∃ p ∈ ps, holds p j) ∨ w.heap.size ≤ j)) /\ Kept w w' (PSet pk ps) := by
 obtain ⟨ib, hib, hb0, hb1, hb2⟩ := info_parts info_bool
 have HH : Hid (BookIs F w base kb (.slice (some ⟨pk, 0, none⟩) n cp) nx ps) := H
 have HI : Hid (∀ p ∈ ps, p.gr = p.dn) := hi
 have hcnt : n ≤ 96 := by have := H.cnt; omega
 have Hn : Hid (ps.length = n) := hn
 clear H hi hn
 go_enter Try.func19, Try.ntmps19
 go_wp2_with fail
 refine (intact_any base kb _ nx ps w HH.out HI.out).mono ?_
 rintro e w1 ⟨rfl, hbw1⟩
 have H1 : Hid (BookIs F w1 base kb (.slice (some ⟨pk, 0, none⟩) n cp) nx ps) := HH.out.below hbw1
 have K1 : Hid (Kept w w1 (PSet pk ps)) := Kept.ofBelow hbw1 _
 clear hbw1
 have c0 : w1.cell? ⟨kb, 6, none⟩ = some (.slice (some ⟨pk, 0, none⟩) n cp) := (cell_block H1.out.k).trans rfl
 go_wp2_with (first
  | (at_make; refine wpList_make_cap _ rfl _ _ 87 rfl 4 ib (.bool false) Try.underlying87 hib hb0 hb1 rfl 1 hb2 _ _ _ _ n n rfl rfl rfl rfl (Nat.le_refl _) (by omega) (by omega) ?_; intro w2 hg2 hsz2 hbel2)
  | fail)
 obtain ⟨fb, hfb⟩ : ∃ fb, fb = w1.heap.size := ⟨_, rfl⟩
 rw [<- hfb] at hg2 ⊢
 have HF2 : Hid (FrRow w2 fb n (frs ps 0)) := by
  have h : w2.heap[fb]? = some (.cells (frs ps 0).toArray 4 (0, 0)) := by rw [frs_zero, Hn.out]; exact hg2.out
  refine ⟨by rw [frs_len, Hn.out]; omega, .inr ⟨fb, n, _, rfl, Nat.le_refl _, h, Nat.le_refl _, by unfold maxLen; omega, by simp [frs_len, Hn.out], ?_⟩⟩
  simp only [Nat.mul_one]
  exact List.take_of_length_le (by simp [frs_len, Hn.out])
 have H2 : Hid (BookIs F w2 base kb (.slice (some ⟨pk, 0, none⟩) n cp) nx ps) := H1.out.below hbel2
 have K2 : Hid (Kept w w2 (PSet pk ps)) := K1.out.trans (Kept.ofBelow hbel2 _)
 have Hfw : Hid (w.heap.size ≤ fb) := by have := K1.out.size; show w.heap.size ≤ fb; omega
 clear hfb hg2 hsz2 hbel2 c0
 go_loopw [4] (fun i wr => ∃ k : Nat, k ≤ n /\ i = .int .i64 k /\ BookIs F wr base kb (.slice (some ⟨pk, 0, none⟩) n cp) nx (midL ps k) /\ FrRow wr fb n (frs ps k) /\ Kept w wr (PSet pk ps)) (fun i _ => n - (intOf i).toNat)
 case atStart => exact ⟨0, Nat.zero_le _, rfl, by rw [midL_zero]; exact H2, HF2, K2⟩
 case round =>
  obtain ⟨k, hk, rfl, hB, hF, hK⟩ := hrel
  have c0 : wr.cell? ⟨kb, 6, none⟩ = some (.slice (some ⟨pk, 0, none⟩) n cp) := (cell_block hB.k).trans rfl
  by_cases hlt : k < n
  ·obtain ⟨p, hp⟩ : ∃ p, ps[k]? = some p := ⟨_, List.getElem?_eq_getElem (by have := Hn.out; omega)⟩
   have hmk : (midL ps k)[k]? = some p := by rw [midL_get ps k k p hp, if_neg (by omega)]
   have hml : (midL ps k).length = n := by rw [midL_len]; exact Hn.out
   have e4 : wr.cell? ⟨pk, k * 5 + 4, none⟩ = some (.bool p.dn) := by
    have ho := hB.o
    rw [hml] at ho
    exact (World.ownsRow.cellAt ho (k * 5 + 4) (by omega)).trans (rows_get _ k p hmk 4 (by decide))
   have f0 : wr.cell? ⟨fb, k, none⟩ = some (.bool false) := by
    have := World.ownsRow.cellAt hF k (by omega)
    rw [this, frs_get ps k k p hp, if_neg (by omega)]
   have ff : wr.frozen? ⟨fb, k, none⟩ = false := World.ownsRow.frozenAt hF k
   have hst := fr_store (k := k) hF (.bool (!p.dn))
   rw [frs_set ps k p hp] at hst
   have HST : Hid (FrRow (wr.setCell ⟨fb, k, none⟩ (.bool (!p.dn))) fb n (frs ps (k + 1))) := hst.1
   have HBS : Hid (BookIs F (wr.setCell ⟨fb, k, none⟩ (.bool (!p.dn))) base kb (.slice (some ⟨pk, 0, none⟩) n cp) nx (midL ps k)) := book_fr hB hF hst.2
   have HKS : Hid (Kept w (wr.setCell ⟨fb, k, none⟩ (.bool (!p.dn))) (PSet pk ps)) := hK.step hst.2 (fun j hj e => absurd e (by have := Hfw.out; omega))
   clear hst hB hF hK
   cases hd : p.dn with
   | true =>
    rw [hd] at e4 HST HBS HKS
    have hms : midL ps (k + 1) = midL ps k := midL_same ps k p hp hd
    have HBS' : Hid (BookIs F (wr.setCell ⟨fb, k, none⟩ (.bool (!true))) base kb (.slice (some ⟨pk, 0, none⟩) n cp) nx (midL ps (k + 1))) := by rw [hms]; exact HBS.out
    clear HBS hms hmk hml hp hd
    simp only [Bool.not_true] at HST HBS' HKS
    go_wp2
    go_roundw
    case rel => exact ⟨k + 1, by omega, by go_num, HBS', HST, HKS⟩
    case measure => simp [intOf]; omega
   | false =>
    rw [hd] at e4 HST HBS HKS
    simp only [Bool.not_false] at HST HBS HKS
    have hpc : (wr.setCell ⟨fb, k, none⟩ (.bool true)).cell? ⟨kb, 6, none⟩ = some (.slice (some ⟨pk, 0, none⟩) n cp) := (cell_block HBS.out.k).trans rfl
    have Hmk : Hid ((midL ps k)[k]? = some p) := hmk
    have Hml : Hid ((midL ps k).length = n) := hml
    have Hd : Hid (p.dn = false) := hd
    have Hp : Hid (ps[k]? = some p) := hp
    clear hmk hml hp hd
    go_wp2_with fail
    refine (fill_page' base kb pk cp n nx (midL ps k) k p _ Hml.out HBS.out Hmk.out Hd.out).mono ?_
    rintro e w3 ⟨rfl, hB3, hK3⟩
    have HB3 : Hid (BookIs F w3 base kb (.slice (some ⟨pk, 0, none⟩) n cp) nx (midL ps (k + 1))) := by rw [<- midL_step ps k p Hp.out]; exact hB3
    have HF3 : Hid (FrRow w3 fb n (frs ps (k + 1))) := fr_book HBS.out Hmk.out HST.out hK3
    have HK3 : Hid (Kept w w3 (PSet pk ps)) := HKS.out.step hK3 (fun j hj e => PSet.of Hp.out _ rfl j e)
    clear hB3 hK3 HST HBS HKS
    go_wp2
    go_roundw
    case rel => exact ⟨k + 1, by omega, by go_num, HB3, HF3, HK3⟩
    case measure => simp [intOf]; omega
  ·obtain rfl : k = n := by omega
   have c1 : wr.cell? ⟨kb, 7, none⟩ = some (.slice none 0 0) := (cell_block hB.k).trans rfl
   have HB : Hid (BookIs F wr base kb (.slice (some ⟨pk, 0, none⟩) k cp) nx (midL ps k)) := hB
   have HF : Hid (FrRow wr fb k (frs ps k)) := hF
   have HK : Hid (Kept w wr (PSet pk ps)) := hK
   clear hB hF hK hlt H2 HF2 K2 H1 K1
   go_wp2_with (first
    | (at_make; refine wpList_make_cap _ rfl _ _ 87 rfl 4 ib (.bool false) Try.underlying87 hib hb0 hb1 rfl 1 hb2 _ _ _ _ 0 0 rfl rfl rfl rfl (Nat.le_refl _) (by omega) (by omega) ?_; intro w4 hg4 hsz4 hbel4)
    | fail)
   have HB4 : Hid (BookIs F w4 base kb (.slice (some ⟨pk, 0, none⟩) k cp) nx (midL ps k)) := HB.out.below hbel4
   have HF4 : Hid (FrRow w4 fb k (frs ps k)) := (Kept.ofBelow hbel4 (fun _ => False)).owns HF.out (fun _ _ h => h)
   have HK4 : Hid (Kept w w4 (PSet pk ps)) := HK.out.trans (Kept.ofBelow hbel4 _)
   have c1 : w4.cell? ⟨kb, 7, none⟩ = some (.slice none 0 0) := (cell_block HB4.out.k).trans rfl
   clear HB HF HK hg4 hsz4 hbel4
   refine wp_loop_rounds 1 ?_
   rw [rounds_succ]
   go_wp2_with fail
   go_loopw [7] (fun i wr => ∃ m : Nat, m ≤ k /\ i = .int .i64 m /\ ∃ qs, GrRel w.heap.size ps qs m /\ BookIs F wr base kb (.slice (some ⟨pk, 0, none⟩) k cp) nx qs /\ FrRow wr fb k (frs ps k) /\ Kept w wr (PSet pk ps)) (fun i _ => k - (intOf i).toNat)
   case atStart => exact ⟨0, Nat.zero_le _, rfl, midL ps k, grRel_start _ ps k Hn.out HI.out, HB4, HF4, HK4⟩
   case round =>
    obtain ⟨m, hm, rfl, qs, hG, hB, hF, hK⟩ := hrel
    have c0 : wr.cell? ⟨kb, 6, none⟩ = some (.slice (some ⟨pk, 0, none⟩) k cp) := (cell_block hB.k).trans rfl
    have c1 : wr.cell? ⟨kb, 7, none⟩ = some (.slice none 0 0) := (cell_block hB.k).trans rfl
    have HB : Hid (BookIs F wr base kb (.slice (some ⟨pk, 0, none⟩) k cp) nx qs) := hB
    have HF : Hid (FrRow wr fb k (frs ps k)) := hF
    have HK : Hid (Kept w wr (PSet pk ps)) := hK
    have HG : Hid (GrRel w.heap.size ps qs m) := hG
    clear hB hF hK hG HB4 HF4 HK4
    by_cases hlt : m < k
    ·obtain ⟨p, hp⟩ : ∃ p, ps[m]? = some p := ⟨_, List.getElem?_eq_getElem (by have := Hn.out; omega)⟩
     obtain ⟨q, hq, hqd, _, hqB, _⟩ := HG.out.2 m p hp
     have f0 : wr.cell? ⟨fb, m, none⟩ = some (.bool (!p.dn)) := by
      have := World.ownsRow.cellAt HF.out m (by omega)
      rw [this, frs_get ps k m p hp, if_pos (by omega)]
     have Hp : Hid (ps[m]? = some p) := hp
     have Hq : Hid (qs[m]? = some q) := hq
     have Hqd : Hid (q.dn = true) := hqd
     have HqB : Hid (q.B = p.B) := hqB
     clear hp hq hqd hqB
     cases hd : p.dn with
     | true =>
      rw [hd] at f0
      simp only [Bool.not_true] at f0
      have HG' : Hid (GrRel w.heap.size ps qs (m + 1)) := grRel_skip HG.out Hp.out hd
      clear hd
      go_wp2
      go_roundw
      case rel => exact ⟨m + 1, by omega, by go_num, qs, HG', HB, HF, HK⟩
      case measure => simp [intOf]; omega
     | false =>
      rw [hd] at f0
      simp only [Bool.not_false] at f0
      clear hd
      go_wp2_with fail
      refine (grow_page' base kb pk cp k nx qs m q _ (HG.out.1.trans Hn.out) HB.out Hq.out Hqd.out).mono ?_
      rintro e w3 ⟨rfl, G, hB3, hK3, hG3⟩
      have HB3 : Hid (BookIs F w3 base kb (.slice (some ⟨pk, 0, none⟩) k cp) nx (qs.set m { q with G := G, gr := true })) := hB3
      have HF3 : Hid (FrRow w3 fb k (frs ps k)) := fr_book HB.out Hq.out HF.out hK3
      have HK3 : Hid (Kept w w3 (PSet pk ps)) := HK.out.step hK3 (fun j hj e => PSet.of Hp.out _ HqB.out j e)
      have HG3 : Hid (GrRel w.heap.size ps (qs.set m { q with G := G, gr := true }) (m + 1)) := grRel_grow HG.out Hq.out hG3 HK.out.size
      clear hB3 hK3 hG3 HB HF HK HG
      go_wp2
      go_roundw
      case rel => exact ⟨m + 1, by omega, by go_num, _, HG3, HB3, HF3, HK3⟩
      case measure => simp [intOf]; omega
    ·obtain rfl : m = k := by omega
     go_wp2_with fail
     refine wp_loop_rounds 1 ?_
     rw [rounds_succ]
     go_wp2_with fail
     refine (intact_any base kb _ nx qs _ HB.out (grRel_end HG.out Hn.out).1).mono ?_
     rintro e w5 ⟨rfl, hbw5⟩
     have HR : Hid ((∃ qs, qs.length = m /\ BookIs F w5 base kb (.slice (some ⟨pk, 0, none⟩) m cp) nx qs /\ (∀ q ∈ qs, q.gr = q.dn) /\ (∀ q ∈ qs, ∀ j, holds q j -> (∃ p ∈ ps, holds p j) ∨ w.heap.size ≤ j)) /\ Kept w w5 (PSet pk ps)) :=
      ⟨⟨qs, HG.out.1.trans Hn.out, HB.out.below hbw5, (grRel_end HG.out Hn.out).1, (grRel_end HG.out Hn.out).2⟩, HK.out.trans (Kept.ofBelow hbw5 _)⟩
     clear hbw5
     go_wp2
     go_ret
     exact ⟨rfl, HR.out⟩

end Go.Proofs.Ythanifbimndhaaa.Bk
namespace Go.Proofs.Ythanifbimndhaaa.Bk
set_option maxHeartbeats 40000000
open Go.RowKit Lo
set_option linter.unusedVariables false
variable {F : Fr}

def BkAt (F : Fr) (w : World) (B kb : Nat) (nx : Int) (ps : List Pg) : Prop := B ≤ kb /\ ∃ vp, BookIs F w B kb vp nx ps

theorem holds_lt {w : World} {B kb : Nat} {nx : Int} {ps : List Pg} (h : BkAt F w B kb nx ps) : ∀ p ∈ ps, ∀ k, holds p k -> B ≤ k /\ k < w.heap.size := by
 obtain ⟨_, vp, h2⟩ := h
 intro p hp k hk
 have := h2.ok p hp
 rcases hk with e | ⟨e, e'⟩ | ⟨e, e'⟩
 ·exact this.b.lt k e
 ·exact (this.g e).lt k e'
 ·exact (this.v e).lt k e'

theorem vp_slice {w : World} {B kb : Nat} {vp : Value} {nx : Int} {ps : List Pg} (h : BookIs F w B kb vp nx ps) : ∃ av cv, vp = .slice av ps.length cv := by
 rcases vp_shape h.o with ⟨rfl, h0⟩ | ⟨pk, cp, rfl⟩
 ·exact ⟨none, 0, by rw [h0]⟩
 ·exact ⟨_, _, rfl⟩

end Go.Proofs.Ythanifbimndhaaa.Bk
