import Derived.Test.YthanifbimndhaaaM20
import Derived.Deep.RegionLaw
import Derived.Deep.DrawnRows
namespace Go.Proofs.Ythanifbimndhaaa.Bk
set_option maxHeartbeats 40000000
open Go.RowKit Lo
set_option linter.unusedVariables false
variable {F : Fr}

theorem info_page : (Try.prog.info? 89).map (fun i => (i.zero, i.size, i.bytes)) = some (some (.agg #[.slice none 0 0, .slice none 0 0, .slice none 0 0, .int .i64 0, .bool false]), 5, 88) := by kernel_rfl

theorem step_append_rd {P : Program} (w : World) {ops : Array Oper} {o : Oper} {a : Act} {K : Act -> World -> Prop} {Q : Exit -> Act -> World -> Prop} {E : Prop} (hgd : o.guard = none) (s x : Operand) (t : TypeId)
  (ho : o.op = .call { callee := .builtin .append, args := #[s, x], argTypes := #[t, t] })
  (base : Nat) (e : TypeId) (i : TypeInfo) (z : Value) (bytes : Nat) (ht : P.underlying t = some (.slice e)) (hi : P.info? e = some i) (hz : i.zero = some z)
  (hsize : i.size = 1) (hby : i.bytes = bytes) (hzs : z.cells.size = 1)
  (v : Value) (n : Nat) (xs : List Value) (hs : a.eval s = v) (hown : w.ownsRow base e 1 v n xs)
  (ao : Option Addr) (m c : Nat) (news : List Value) (hx : a.eval x = .slice ao m c) (hnone : ao = none -> m = 0 /\ c = 0) (hl : news.length = m) (hnews : ∀ ad, ao = some ad -> ∀ j u, news[j]? = some u -> w.cell? (ad.add j) = some u) (h1 : ∀ u ∈ news, u.oneCell' = true)
  (h63 : n + m ≤ maxLen) (hbytes : (n + m) * bytes ≤ 140737488355328) (hbase : base ≤ w.heap.size)
  (h : ∀ (a1 : Option Addr) (c1 : Nat) (w' : World), w'.ownsRow base e 1 (.slice a1 (n + m) c1) (n + m) (xs ++ news) -> w.grownBy w' v.ownBlock -> K (a.put o.dst (.slice a1 (n + m) c1)) w') :
  if Region.wanted o (yielded ops a.tmps) = true then Oper.wp P o a w K Q else E := by
 have hw : Region.wanted o (yielded ops a.tmps) = true := by simp [Region.wanted, hgd]
 rw [if_pos hw]
 have sh : ∀ (v' : Value) (w' : World), w'.ownsRow base e 1 v' (n + m) (xs ++ news) -> ∃ a1 c1, v' = Value.slice a1 (n + m) c1 := by
  intro v' w' h2
  rcases h2.2 with ⟨h3, h4⟩ | ⟨g, cap, cur, hv, _⟩
  ·exact ⟨none, 0, by rw [h4]; exact h3⟩
  ·exact ⟨_, _, hv⟩
 cases ao with
 | some ad =>
  refine wp_append_own w s x t ho base e i z 1 bytes ht hi hz hsize hby hzs (by decide) v n xs hs hown ad m c news hx (by omega) (hnews ad rfl) h1 h63 hbytes hbase fun v' w' h2 h3 _ => ?_
  obtain ⟨a1, c1, rfl⟩ := sh v' w' h2
  exact h a1 c1 w' h2 h3
 | none =>
  obtain ⟨rfl, rfl⟩ := hnone rfl
  obtain rfl : news = [] := List.eq_nil_of_length_eq_zero hl
  have hrun := run_append_owned_none (P := P) (w := w) base t o.type e i 1 ht hi v n xs hown
  have h2 : w.ownsRow base e 1 v (n + 0) (xs ++ []) := by simpa using hown
  obtain ⟨a1, c1, hv⟩ := sh v w h2
  have hK := h a1 c1 w (by rw [<- hv]; exact h2) (World.grownBy.refl _ _)
  rw [<- hv] at hK
  unfold Oper.wp
  simp [execOp, ho, resolve, invoke, builtin, hs, hx, hrun, Result.andThen]
  exact hK

theorem step_copy_rd {P : Program} (w : World) {ops : Array Oper} {o : Oper} {a : Act} {K : Act -> World -> Prop} {Q : Exit -> Act -> World -> Prop} {E : Prop} (hgd : o.guard = none) (s x : Operand) (t : TypeId)
  (ho : o.op = .call { callee := .builtin .append, args := #[s, x], argTypes := #[t, t] })
  (base : Nat) (e : TypeId) (i : TypeInfo) (z : Value) (bytes : Nat) (ht : P.underlying t = some (.slice e)) (hi : P.info? e = some i) (hz : i.zero = some z)
  (hsize : i.size = 1) (hby : i.bytes = bytes) (hzs : z.cells.size = 1)
  (v : Value) (hs : a.eval s = v) (hown : w.ownsRow base e 1 v 0 [])
  (ao : Option Addr) (m c : Nat) (news : List Value) (hx : a.eval x = .slice ao m c) (hnone : ao = none -> m = 0 /\ c = 0) (hl : news.length = m) (hnews : ∀ ad, ao = some ad -> ∀ j u, news[j]? = some u -> w.cell? (ad.add j) = some u) (h1 : ∀ u ∈ news, u.oneCell' = true)
  (h63 : m ≤ maxLen) (hbytes : m * bytes ≤ 140737488355328) (hbase : base ≤ w.heap.size)
  (h : ∀ (a1 : Option Addr) (c1 : Nat) (w' : World), w'.ownsRow base e 1 (.slice a1 m c1) m news -> w.grownBy w' v.ownBlock -> K (a.put o.dst (.slice a1 m c1)) w') :
  if Region.wanted o (yielded ops a.tmps) = true then Oper.wp P o a w K Q else E := by
 refine step_append_rd w hgd s x t ho base e i z bytes ht hi hz hsize hby hzs v 0 [] hs hown ao m c news hx hnone hl hnews h1 (by omega) (by simpa using hbytes) hbase fun a1 c1 w' h2 h3 => ?_
 simp only [Nat.zero_add, List.nil_append] at h2 ⊢
 exact h a1 c1 w' h2 h3

theorem page_oneCell (a1 a2 a3 : Option Addr) (n1 n2 n3 c1 c2 c3 : Nat) (id : Int) (b : Bool) : ∀ u ∈ [Value.slice a1 n1 c1, .slice a2 n2 c2, .slice a3 n3 c3, .int .i64 id, .bool b], u.oneCell' = true := by
 intro u hu
 simp at hu
 rcases hu with rfl | rfl | rfl | rfl | rfl <;> rfl

theorem keep_S3 {w1 w2 w3 : World} {o : Obj} {r : Option Nat} {kb : Nat} {v0 v2 : Value} (hg3 : (w2.alloc o).grownBy w3 r) (hb2 : Below w1.heap.size w1 w2) (hkb : kb < w1.heap.size) (hne : some kb ≠ r) (h0 : w1.cell? ⟨kb, 6, none⟩ = some v0) (h2 : w1.cell? ⟨kb, 8, none⟩ = some v2) (hf : w1.frozen? ⟨kb, 6, none⟩ = false) :
  w3.cell? ⟨kb, 6, none⟩ = some v0 /\ w3.cell? ⟨kb, 8, none⟩ = some v2 /\ w3.frozen? ⟨kb, 6, none⟩ = false := by
 have hb : w3.heap[kb]? = w1.heap[kb]? := (hg3.block kb (by simp; have := hb2.size; omega) hne).trans ((Below.heap_alloc w2 o kb (by have := hb2.size; omega)).trans (hb2.block kb hkb))
 exact ⟨(World.cell?_of_block (a := ⟨kb, 6, none⟩) hb).trans h0, (World.cell?_of_block (a := ⟨kb, 8, none⟩) hb).trans h2, (World.frozen?_of_block (a := ⟨kb, 6, none⟩) hb).trans hf⟩

theorem book_next {w : World} {base kb : Nat} {vp : Value} {nx : Int} {ps : List Pg} (h : BookIs F w base kb vp nx ps) (m : Int) (h0 : 0 ≤ m) (h1 : m ≤ 900) :
  BookIs F (w.setCell ⟨kb, 8, none⟩ (.int .i64 m)) base kb vp m ps /\ Kept w (w.setCell ⟨kb, 8, none⟩ (.int .i64 m)) (fun j => j = kb) := by
 have hs : Kept w (w.setCell ⟨kb, 8, none⟩ (.int .i64 m)) (fun j => j = kb) := ⟨rfl, rfl, rfl, by simp, fun j hj hq => Below.heap_setCell w ⟨kb, 8, none⟩ _ j hq⟩
 have hrow : ∀ k, vp.ownBlock = some k -> k ≠ kb := by
  intro k hk e
  subst e
  rcases h.o.2 with ⟨h1, _⟩ | ⟨g, cap, cur, hv, _, hg, _⟩
  ·rw [h1] at hk; simp [Value.ownBlock] at hk
  ·rw [hv] at hk; simp [Value.ownBlock] at hk; subst hk; have := h.k; rw [hg] at this; simp at this
 refine ⟨⟨?_, hs.owns h.o hrow, fun p hp => (h.ok p hp).kept hs (fun k hk e => ?_), h.sep, by simpa using h.b, h0, h1, h.cnt⟩, hs⟩
 ·have := heap_setCell_same w kb 8 _ 37 (.int .i64 m) h.k
  simpa using this
 ·subst e
  obtain ⟨cur, hc⟩ := holds_type (h.ok p hp) hk
  have := h.k
  rw [hc] at this
  simp at this

theorem frozen_alloc {w : World} {o : Obj} {b j : Nat} (h : b < w.heap.size) : (w.alloc o).frozen? ⟨b, j, none⟩ = w.frozen? ⟨b, j, none⟩ :=
 World.frozen?_of_block (Below.heap_alloc w o b h)

theorem cell_alloc {w : World} {o : Obj} {b j : Nat} (h : b < w.heap.size) : (w.alloc o).cell? ⟨b, j, none⟩ = w.cell? ⟨b, j, none⟩ :=
 World.cell?_of_block (Below.heap_alloc w o b h)

theorem keep_b3 {w1 W w2 : World} (hW : Below w1.heap.size w1 W) (hg : W.grownBy w2 (some w1.heap.size)) : Below w1.heap.size w1 w2 :=
 hW.grown hg hW.size (fun k hk => by obtain rfl := Option.some.inj hk; exact Nat.le_refl _)

theorem keep_S4 {w1 w2 W w3 : World} {r : Option Nat} {kb : Nat} {v0 : Value} (hW : Below w2.heap.size w2 W) (hg3 : W.grownBy w3 r) (hb2 : Below w1.heap.size w1 w2) (hkb : kb < w1.heap.size) (hne : some kb ≠ r) (h0 : w1.cell? ⟨kb, 6, none⟩ = some v0) (hf : w1.frozen? ⟨kb, 6, none⟩ = false) :
  w3.cell? ⟨kb, 6, none⟩ = some v0 /\ w3.frozen? ⟨kb, 6, none⟩ = false := by
 have hb : w3.heap[kb]? = w1.heap[kb]? := (hg3.block kb (by have := hb2.size; have := hW.size; omega) hne).trans ((hW.block kb (by have := hb2.size; omega)).trans (hb2.block kb hkb))
 exact ⟨(World.cell?_of_block (a := ⟨kb, 6, none⟩) hb).trans h0, (World.frozen?_of_block (a := ⟨kb, 6, none⟩) hb).trans hf⟩

theorem own_src {w : World} {base : Nat} {ao : Option Addr} {len cap : Nat} {bs : List Int} (h : Own w base (.slice ao len cap) bs) (hr : ∀ i, 0 ≤ bs.getD i 0 /\ bs.getD i 0 ≤ 255) : Rd w ao len cap bs := by
 obtain ⟨a, c, hv, hrd⟩ := h.rdAny hr
 simp only [Value.slice.injEq] at hv
 obtain ⟨rfl, rfl, rfl⟩ := hv
 exact hrd

theorem notKb {w : World} {base kb : Nat} {vp v : Value} {nx : Int} {ps : List Pg} {bs : List Int} (h : BookIs F w base kb vp nx ps) (ho : Own w base v bs) : ∀ k, v.ownBlock = some k -> k ≠ kb := by
 intro k hk e
 subst e
 exact own_notType ho h.k (by decide) hk.symm

theorem owns_type {w : World} {base e size n k : Nat} {v : Value} {xs : List Value} (h : w.ownsRow base e size v n xs) (hk : v.ownBlock = some k) : ∃ cur, w.heap[k]? = some (.cells cur e (0, 0)) := by
 rcases h.2 with ⟨h1, _⟩ | ⟨g, cap, cur, hv, _, hg, _⟩
 ·rw [h1] at hk; simp [Value.ownBlock] at hk
 ·rw [hv] at hk; simp [Value.ownBlock] at hk; subst hk; exact ⟨cur, hg⟩

theorem apart_types {w : World} {k : Nat} {c1 c2 : Array Value} {t1 t2 : TypeId} {f1 f2 : Nat × Nat} (h1 : w.heap[k]? = some (.cells c1 t1 f1)) (h2 : w.heap[k]? = some (.cells c2 t2 f2)) (hne : t1 ≠ t2) : False := by
 rw [h1] at h2; simp at h2; exact hne h2.2.1

theorem sep_snoc {ps : List Pg} {q : Pg} (h : Sep ps) (h1 : ∀ p ∈ ps, ∀ k, p.B.ownBlock = some k -> ¬ holds q k) (h2 : ∀ p ∈ ps, ∀ k, q.B.ownBlock = some k -> ¬ holds p k) : Sep (ps ++ [q]) := by
 intro i j p r hi hj hne k hk
 by_cases a : i < ps.length
 ·rw [List.getElem?_append_left a] at hi
  by_cases b : j < ps.length
  ·rw [List.getElem?_append_left b] at hj
   exact h i j p r hi hj hne k hk
  ·rw [List.getElem?_append_right (by omega)] at hj
   have hj' := (List.getElem?_eq_some_iff.1 hj).1
   have e : j - ps.length = 0 := by simp at hj'; omega
   rw [e] at hj
   simp at hj
   subst hj
   exact h1 p (List.mem_of_getElem? hi) k hk
 ·rw [List.getElem?_append_right (by omega)] at hi
  have hi' := (List.getElem?_eq_some_iff.1 hi).1
  have e : i - ps.length = 0 := by simp at hi'; omega
  rw [e] at hi
  simp at hi
  subst hi
  by_cases b : j < ps.length
  ·rw [List.getElem?_append_left b] at hj
   exact h2 r (List.mem_of_getElem? hj) k hk
  ·rw [List.getElem?_append_right (by omega)] at hj
   have hj' := (List.getElem?_eq_some_iff.1 hj).1
   simp at hi' hj'
   omega

theorem keep_fin {w w1 w2 W w3 : World} {base kb g3 c3 c1 len cap : Nat} {vp : Value} {nx : Int} {ps : List Pg} {ao a1 : Option Addr} {bs : List Int} (H1 : BookIs F w1 base kb vp (nx + 1) ps) (HK1 : Kept w w1 (fun j => j = kb)) (hb2 : Below w1.heap.size w1 w2)
  (ho2 : w2.ownsRow w1.heap.size 5 1 (.slice a1 len c1) len (bs.map (Value.int .u8))) (hW : Below w2.heap.size w2 W) (ho3 : w3.ownsRow base 89 5 (.slice (some ⟨g3, 0, none⟩) (ps.length + 1) c3) (ps.length + 1) (rows ps ++ [.slice ao len cap, .slice none 0 0, .slice a1 len c1, .int .i64 (nx + 1), .bool false])) (hg3 : W.grownBy w3 vp.ownBlock)
  (hB1 : Own w1 base (.slice ao len cap) bs) (hs1 : ∀ p ∈ ps, ∀ k, p.B.ownBlock = some k -> (Value.slice ao len cap).ownBlock ≠ some k) (hs2 : ∀ p ∈ ps, ∀ k, (Value.slice ao len cap).ownBlock = some k -> ¬ holds p k) (hll : bs.length = len) (hlen : bs.length ≤ 140737488355264) (hn0 : 0 ≤ nx) (hn : nx ≤ 800) (hc : ps.length < 96) :
  BookIs F (w3.setCell ⟨kb, 6, none⟩ (.slice (some ⟨g3, 0, none⟩) (ps.length + 1) c3)) base kb (.slice (some ⟨g3, 0, none⟩) (ps.length + 1) c3) (nx + 1) (ps ++ [⟨.slice ao len cap, .slice none 0 0, .slice a1 len c1, nx + 1, false, false, bs⟩]) /\
  Kept w (w3.setCell ⟨kb, 6, none⟩ (.slice (some ⟨g3, 0, none⟩) (ps.length + 1) c3)) (fun j => j = kb ∨ some j = vp.ownBlock) /\ ∀ k, (Value.slice a1 len c1).ownBlock = some k -> w.heap.size ≤ k := by
 have K13 : Kept w1 w3 (fun j => some j = vp.ownBlock) := (Kept.ofBelow hb2 _).trans ((Kept.ofBelow hW _).trans (Kept.ofGrown hg3))
 have K23 : Kept w2 w3 (fun j => some j = vp.ownBlock) := (Kept.ofBelow hW _).trans (Kept.ofGrown hg3)
 have K3X : Kept w3 (w3.setCell ⟨kb, 6, none⟩ (.slice (some ⟨g3, 0, none⟩) (ps.length + 1) c3)) (fun j => j = kb) := ⟨rfl, rfl, rfl, by simp, fun j hj hq => Below.heap_setCell w3 ⟨kb, 6, none⟩ _ j hq⟩
 have hkv : some kb ≠ vp.ownBlock := fun e => by
  obtain ⟨cur, hcur⟩ := owns_type H1.o e.symm
  exact apart_types hcur H1.k (by decide)
 have hk3 : w3.heap[kb]? = some (.cells #[F.p0, F.p1, F.p2, F.d0, F.d1, F.d2, vp, .slice none 0 0, .int .i64 (nx + 1), F.ls, F.os, F.tn] 37 (0, 0)) := (K13.block kb (lt_heap H1.k) hkv).trans H1.k
 have own13 : ∀ (v : Value) (xs : List Int), Own w1 base v xs -> Own (w3.setCell ⟨kb, 6, none⟩ (.slice (some ⟨g3, 0, none⟩) (ps.length + 1) c3)) base v xs := by
  intro v xs ho
  refine K3X.owns (K13.owns ho (fun k hk e => ?_)) (fun k hk e => ?_)
  ·obtain ⟨cur, hcur⟩ := owns_type H1.o e.symm
   exact own_notType ho hcur (by decide) hk.symm
  ·subst e
   exact own_notType ho H1.k (by decide) hk.symm
 have hV2 : Own w2 w1.heap.size (.slice a1 len c1) bs := by unfold Own; rw [hll]; exact ho2
 have hV2b : Own w2 base (.slice a1 len c1) bs := hV2.mono H1.b
 have hV : Own (w3.setCell ⟨kb, 6, none⟩ (.slice (some ⟨g3, 0, none⟩) (ps.length + 1) c3)) base (.slice a1 len c1) bs := by
  refine K3X.owns (K23.owns hV2b (fun k hk e => ?_)) (fun k hk e => ?_)
  ·have h1 := (H1.o.lt k e.symm).2
   have h2 := (hV2.lt k hk).1
   omega
  ·subst e
   have h1 := lt_heap H1.k
   have h2 := (hV2.lt k hk).1
   omega
 refine ⟨⟨?_, ?_, ?_, ?_, ?_, by omega, by omega, by simp; omega⟩, ?_, fun k hk => ?_⟩
 ·have := heap_setCell_same w3 kb 6 _ 37 (.slice (some ⟨g3, 0, none⟩) (ps.length + 1) c3) hk3
  simpa using this
 ·have h := K3X.owns ho3 (fun k hk e => by
   subst e
   obtain ⟨cur, hcur⟩ := owns_type ho3 hk
   exact apart_types hcur hk3 (by decide))
  rw [rows_snoc]
  simpa [pgc] using h
 ·intro p hp
  rcases List.mem_append.1 hp with hp | hp
  ·have hok := H1.ok p hp
   exact ⟨own13 _ _ hok.b, fun e => own13 _ _ (hok.v e), fun e => own13 _ _ (hok.g e), hok.i0, hok.i1, hok.len, hok.gd⟩
  ·simp at hp
   subst hp
   exact ⟨own13 _ _ hB1, fun _ => hV, fun e => by simp at e, by simp; omega, by simp; omega, hlen, fun e => by simp at e⟩
 ·refine sep_snoc H1.sep (fun p hp k hk hh => ?_) (fun p hp k hk => hs2 p hp k hk)
  have hlt := ((H1.ok p hp).b.lt k hk).2
  rcases hh with e | ⟨e, _⟩ | ⟨_, e⟩
  ·exact hs1 p hp k hk e
  ·simp at e
  ·have := (hV2.lt k e).1
   omega
 ·have h1 := H1.b
  have h2 := K13.size
  have h3 := K3X.size
  omega
 ·exact (HK1.mono (fun _ _ h => .inl h)).trans ((K13.mono (fun _ _ h => .inr h)).trans (K3X.mono (fun _ _ h => .inl h)))
 ·have := (hV2.lt k hk).1
  have := HK1.size
  omega

set_option maxRecDepth 100000 in
theorem keep_walk (base kb : Nat) (av : Option Addr) (cv : Nat) (nx : Int) (ps : List Pg) (ao : Option Addr) (len cap : Nat) (bs : List Int) (w : World) (h : BookIs F w base kb (.slice av ps.length cv) nx ps) (hB : Own w base (.slice ao len cap) bs) (hn : nx ≤ 800) (hc : ps.length < 96) (hr : ∀ i, 0 ≤ bs.getD i 0 /\ bs.getD i 0 ≤ 255) (hlen : bs.length ≤ 140737488355264) (hll : bs.length = len)
  (hs1 : ∀ p ∈ ps, ∀ k, p.B.ownBlock = some k -> (Value.slice ao len cap).ownBlock ≠ some k) (hs2 : ∀ p ∈ ps, ∀ k, (Value.slice ao len cap).ownBlock = some k -> ¬ holds p k) :
  Calls Try.prog 82 #[.pointer (some ⟨kb, 6, none⟩), .slice ao len cap] w fun e w' => e = .returned (.tuple #[]) /\ ∃ vp' a1 c1, BookIs F w' base kb vp' (nx + 1) (ps ++ [⟨.slice ao len cap, .slice none 0 0, .slice a1 len c1, nx + 1, false, false, bs⟩]) /\ Kept w w' (fun j => j = kb ∨ some j = (Value.slice av ps.length cv).ownBlock) /\ ∀ k, (Value.slice a1 len c1).ownBlock = some k -> w.heap.size ≤ k := by
 have HS1 : Hid (∀ p ∈ ps, ∀ k, p.B.ownBlock = some k -> (Value.slice ao len cap).ownBlock ≠ some k) := hs1
 have HS2 : Hid (∀ p ∈ ps, ∀ k, (Value.slice ao len cap).ownBlock = some k -> ¬ holds p k) := hs2
 clear hs1 hs2
 obtain ⟨i0, hi, hz0, hz1, hz2⟩ := info_parts info_u8
 obtain ⟨i5, hi5, hy0, hy1, hy2⟩ := info_parts info_page
 have hn0 := h.n0
 have c0 : w.cell? ⟨kb, 6, none⟩ = some (.slice av ps.length cv) := (cell_block h.k).trans rfl
 have c2 : w.cell? ⟨kb, 8, none⟩ = some (.int .i64 nx) := (cell_block h.k).trans rfl
 have hf2 : w.frozen? ⟨kb, 8, none⟩ = false := frozen_of_row w kb 8 _ 37 h.k
 have h96 : decide ((96 : Int) ≤ (ps.length : Int)) = false := by simp; omega
 have hbn := book_next h (nx + 1) (by omega) (by omega)
 have H1 : Hid (BookIs F (w.setCell ⟨kb, 8, none⟩ (.int .i64 (nx + 1))) base kb (.slice av ps.length cv) (nx + 1) ps) := hbn.1
 have HK1 : Hid (Kept w (w.setCell ⟨kb, 8, none⟩ (.int .i64 (nx + 1))) (fun j => j = kb)) := hbn.2
 have HO1 : Hid (Own (w.setCell ⟨kb, 8, none⟩ (.int .i64 (nx + 1))) base (.slice ao len cap) bs) := hbn.2.owns hB (notKb h hB)
 clear h hbn hB
 go_enter Try.func82, Try.ntmps82
 go_wp2_with fail
 clear c0 c2 hf2
 generalize hw1 : w.setCell ⟨kb, 8, none⟩ (.int .i64 (nx + 1)) = w1 at *
 clear hw1
 have C0 : w1.cell? ⟨kb, 6, none⟩ = some (.slice av ps.length cv) := (cell_block H1.out.k).trans rfl
 have C2 : w1.cell? ⟨kb, 8, none⟩ = some (.int .i64 (nx + 1)) := (cell_block H1.out.k).trans rfl
 have F0 : w1.frozen? ⟨kb, 6, none⟩ = false := frozen_of_row w1 kb 6 _ 37 H1.out.k
 have HC0 : Hid (w1.cell? ⟨kb, 6, none⟩ = some (.slice av ps.length cv)) := C0
 have HC2 : Hid (w1.cell? ⟨kb, 8, none⟩ = some (.int .i64 (nx + 1))) := C2
 have HF0 : Hid (w1.frozen? ⟨kb, 6, none⟩ = false) := F0
 have hkb := lt_heap H1.out.k
 have hbs := H1.out.b
 have HRd : Hid (Rd w1 ao len cap bs) := own_src HO1.out hr
 have HVo : Hid (w1.ownsRow base 89 5 (.slice av ps.length cv) ps.length (rows ps)) := H1.out.o
 have HVn : Hid (some kb ≠ (Value.slice av ps.length cv).ownBlock) := by
  intro e
  rcases H1.out.o.2 with ⟨h1, _⟩ | ⟨g, cap', cur, hv, _, hg, _⟩
  ·rw [h1] at e; simp [Value.ownBlock] at e
  ·rw [hv] at e; simp [Value.ownBlock] at e; subst e; have := H1.out.k; rw [hg] at this; simp at this
 have hA1 : ps.length + 1 ≤ maxLen := by unfold maxLen; omega
 have hA2 : (ps.length + 1) * 88 ≤ 140737488355328 := by omega
 have FA : ∀ o, (w1.alloc o).frozen? ⟨kb, 6, none⟩ = false := fun o => (frozen_alloc hkb).trans F0
 have CA0 : ∀ o, (w1.alloc o).cell? ⟨kb, 6, none⟩ = some (.slice av ps.length cv) := fun o => (cell_alloc hkb).trans C0
 have CA2 : ∀ o, (w1.alloc o).cell? ⟨kb, 8, none⟩ = some (.int .i64 (nx + 1)) := fun o => (cell_alloc hkb).trans C2
 go_region_law
  ((first
   | (refine step_copy_rd _ (by rfl) _ _ _ (by rfl) w1.heap.size 5 i0 _ 1 Try.underlying40 hi hz0 hz1 hz2 rfl _ (by rfl) (by exact own_empty w1) _ _ _ (bs.map (Value.int .u8)) (by rfl) HRd.out.2.1 (by simpa using hll) (by exact HRd.out.cells (by repeat (first | exact Below.refl _ _ | apply Below.drew | refine Below.alloc ?_ (Nat.le_refl _) _))) (bytes_oneCell bs) (by unfold maxLen; omega) (by omega) (by simp) ?_; intro a1 c1 w2 ho2 hg2; have hb2 : Below w1.heap.size w1 w2 := keep_b3 (by repeat (first | exact Below.refl _ _ | apply Below.drew | refine Below.alloc ?_ (Nat.le_refl _) _)) hg2; have hlt2 : kb < w2.heap.size := Nat.lt_of_lt_of_le hkb hb2.size; have FB0 : w2.frozen? ⟨kb, 6, none⟩ = false := (hb2.frozen hkb).trans HF0.out; have FB : ∀ o, (w2.alloc o).frozen? ⟨kb, 6, none⟩ = false := fun o => (frozen_alloc hlt2).trans FB0; have CB0 : w2.cell? ⟨kb, 6, none⟩ = some (.slice av ps.length cv) := (hb2.cell hkb).trans HC0.out; have CB2 : w2.cell? ⟨kb, 8, none⟩ = some (.int .i64 (nx + 1)) := (hb2.cell hkb).trans HC2.out; have CD0 : ∀ o, (w2.alloc o).cell? ⟨kb, 6, none⟩ = some (.slice av ps.length cv) := fun o => (cell_alloc hlt2).trans CB0)
   | (refine step_append_lies _ (by rfl) _ _ _ (by rfl) base 89 i5 _ 5 88 Try.underlying30 hi5 hy0 hy1 hy2 rfl (by decide) (.slice av ps.length cv) ps.length (rows ps) (by rfl) (by exact (owns_below HVo.out hb2).alloc _) ⟨w2.heap.size, 0, none⟩ 1 1 [.slice ao len cap, .slice none 0 0, .slice a1 len c1, .int .i64 (nx + 1), .bool false] (by rfl) (by rfl) (World.news_of_block (cs := #[.slice ao len cap, .slice none 0 0, .slice a1 len c1, .int .i64 (nx + 1), .bool false]) (t := 89) (fr := (0, 0)) (heap_alloc_new w2 _)) (page_oneCell _ _ _ _ _ _ _ _ _ _ _) (by decide) hA1 hA2 (by simp; have := hb2.size; omega) (w2.heap.size + 1) (by simp) ?_; intro g3 c3 w3 ho3 hg3 hat3 hlt3; have hS3 := keep_S4 (by repeat (first | exact Below.refl _ _ | apply Below.drew | refine Below.alloc ?_ (Nat.le_refl _) _)) hg3 hb2 hkb (by exact HVn.out) HC0.out HF0.out; obtain ⟨CE0, FE0⟩ := hS3)))
 all_goals
  have HF := keep_fin H1.out HK1.out hb2 ho2 (by repeat (first | exact Below.refl _ _ | apply Below.drew | refine Below.alloc ?_ (Nat.le_refl _) _)) ho3 hg3 HO1.out HS1.out HS2.out hll hlen hn0 hn hc
  clear CE0 FE0 ho3 hg3 hat3 hlt3 ho2 hg2 hb2 hlt2 FB0 FB CB0 CB2 CD0
  have HF' : Hid (_ /\ _ /\ _) := HF
  clear HF
  go_wp2
  go_end0
  first
   | exact ⟨rfl, _, _, _, HF'.out.1, HF'.out.2.1, HF'.out.2.2⟩
   | exact ⟨rfl, _, _, _, HF'.out.1.drew, HF'.out.2.1.drew, HF'.out.2.2⟩

end Go.Proofs.Ythanifbimndhaaa.Bk
