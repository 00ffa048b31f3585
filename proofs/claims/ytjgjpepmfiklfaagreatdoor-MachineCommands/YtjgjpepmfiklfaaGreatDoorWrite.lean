import Derived.Test.YtjgjpepmfiklfaaGreatDoorKeep
namespace Go.Proofs.YtjgjpepmfiklfaaGreatDoor.Bk
open Go.RowKit Lo
set_option linter.unusedVariables false

theorem push_fin {w2 W w3 : World} {base kb g3 c3 : Nat} {vp : Value} {nx : Int} {ps : List Pg} {q : Pg} (H : BookIs w2 base kb vp nx ps) (hq : PgOK w2 base q) (hW : Below w2.heap.size w2 W)
    (ho3 : w3.ownsRow base 75 5 (.slice (some ⟨g3, 0, none⟩) (ps.length + 1) c3) (ps.length + 1) (rows ps ++ pgc q)) (hg3 : W.grownBy w3 vp.ownBlock)
    (hs1 : ∀ p ∈ ps, ∀ k, p.B.ownBlock = some k → ¬ holds q k) (hs2 : ∀ p ∈ ps, ∀ k, q.B.ownBlock = some k → ¬ holds p k) (hc : ps.length < 96) :
    BookIs (w3.setCell ⟨kb, 0, none⟩ (.slice (some ⟨g3, 0, none⟩) (ps.length + 1) c3)) base kb (.slice (some ⟨g3, 0, none⟩) (ps.length + 1) c3) nx (ps ++ [q]) ∧
    Kept w2 (w3.setCell ⟨kb, 0, none⟩ (.slice (some ⟨g3, 0, none⟩) (ps.length + 1) c3)) (fun j => j = kb ∨ some j = vp.ownBlock) := by
  have K23 : Kept w2 w3 (fun j => some j = vp.ownBlock) := (Kept.ofBelow hW _).trans (Kept.ofGrown hg3)
  have K3X : Kept w3 (w3.setCell ⟨kb, 0, none⟩ (.slice (some ⟨g3, 0, none⟩) (ps.length + 1) c3)) (fun j => j = kb) := ⟨rfl, rfl, rfl, by simp, fun j hj hq => Below.heap_setCell w3 ⟨kb, 0, none⟩ _ j hq⟩
  have hkv : some kb ≠ vp.ownBlock := fun e => by
    obtain ⟨cur, hcur⟩ := owns_type H.o e.symm
    exact apart_types hcur H.k (by decide)
  have hk3 : w3.heap[kb]? = some (.cells #[vp, .slice none 0 0, .int .i64 nx] 44 (0, 0)) := (K23.block kb (lt_heap H.k) hkv).trans H.k
  have own : ∀ (v : Value) (xs : List Int), Own w2 base v xs → Own (w3.setCell ⟨kb, 0, none⟩ (.slice (some ⟨g3, 0, none⟩) (ps.length + 1) c3)) base v xs := by
    intro v xs ho
    refine K3X.owns (K23.owns ho (fun k hk e => ?_)) (fun k hk e => ?_)
    · obtain ⟨cur, hcur⟩ := owns_type H.o e.symm
      exact own_notType ho hcur (by decide) hk.symm
    · subst e
      exact own_notType ho H.k (by decide) hk.symm
  have okp : ∀ p, PgOK w2 base p → PgOK (w3.setCell ⟨kb, 0, none⟩ (.slice (some ⟨g3, 0, none⟩) (ps.length + 1) c3)) base p := fun p hok => ⟨own _ _ hok.b, fun e => own _ _ (hok.v e), fun e => own _ _ (hok.g e), hok.i0, hok.i1, hok.len, hok.gd⟩
  refine ⟨⟨?_, ?_, ?_, sep_snoc H.sep hs1 hs2, ?_, H.n0, H.n1, by simp; omega⟩, (K23.mono (fun _ _ h => .inr h)).trans (K3X.mono (fun _ _ h => .inl h))⟩
  · have := heap_setCell_same w3 kb 0 _ 44 (.slice (some ⟨g3, 0, none⟩) (ps.length + 1) c3) hk3
    simpa using this
  · have h := K3X.owns ho3 (fun k hk e => by
      subst e
      obtain ⟨cur, hcur⟩ := owns_type ho3 hk
      exact apart_types hcur hk3 (by decide))
    rw [rows_snoc]
    simpa using h
  · intro p hp
    rcases List.mem_append.1 hp with hp | hp
    · exact okp p (H.ok p hp)
    · simp at hp
      subst hp
      exact okp _ hq
  · have h1 := H.b
    have h2 := K23.size
    have h3 := K3X.size
    omega

theorem BookIs.kept {w w' : World} {base kb : Nat} {vp : Value} {nx : Int} {ps : List Pg} {P : Nat → Prop} (h : BookIs w base kb vp nx ps) (hk : Kept w w' P) (h1 : ¬ P kb) (h2 : ∀ k, vp.ownBlock = some k → ¬ P k) (h3 : ∀ p ∈ ps, ∀ k, holds p k → ¬ P k) : BookIs w' base kb vp nx ps :=
  ⟨(hk.block kb (lt_heap h.k) h1).trans h.k, hk.owns h.o h2, fun p hp => (h.ok p hp).kept hk (h3 p hp), h.sep, Nat.le_trans h.b hk.size, h.n0, h.n1, h.cnt⟩

set_option maxRecDepth 100000 in
set_option maxHeartbeats 8000000 in
theorem write_walk (base kb : Nat) (av : Option Addr) (cv : Nat) (nx : Int) (ps : List Pg) (ao : Option Addr) (len cap : Nat) (bs : List Int) (w : World) (h : BookIs w base kb (.slice av ps.length cv) nx ps) (hB : Own w base (.slice ao len cap) bs) (hn : nx ≤ 800) (hc : ps.length < 96) (hlen : bs.length ≤ 140737488355264) (hll : bs.length = len)
    (hs1 : ∀ p ∈ ps, ∀ k, p.B.ownBlock = some k → (Value.slice ao len cap).ownBlock ≠ some k) (hs2 : ∀ p ∈ ps, ∀ k, (Value.slice ao len cap).ownBlock = some k → ¬ holds p k) :
    Calls Tryz.prog 16 #[.pointer (some ⟨kb, 0, none⟩), .slice ao len cap] w fun e w' => e = .returned (.tuple #[]) ∧ ∃ vp' G, BookIs w' base kb vp' (nx + 1) (ps ++ [⟨.slice ao len cap, G, .slice none 0 0, nx + 1, true, true, bs⟩]) ∧ Kept w w' (fun j => j = kb ∨ some j = (Value.slice av ps.length cv).ownBlock ∨ some j = (Value.slice ao len cap).ownBlock) ∧ (G.ownBlock = (Value.slice ao len cap).ownBlock ∨ ∃ g', G.ownBlock = some g' ∧ w.heap.size ≤ g') := by
  subst hll
  obtain ⟨i5, hi5, hy0, hy1, hy2⟩ := info_parts info_page
  have HS1 : Hid (∀ p ∈ ps, ∀ k, p.B.ownBlock = some k → (Value.slice ao bs.length cap).ownBlock ≠ some k) := hs1
  have HS2 : Hid (∀ p ∈ ps, ∀ k, (Value.slice ao bs.length cap).ownBlock = some k → ¬ holds p k) := hs2
  clear hs1 hs2
  have hn0 := h.n0
  have c0 : w.cell? ⟨kb, 0, none⟩ = some (.slice av ps.length cv) := (cell_block h.k).trans rfl
  have c2 : w.cell? ⟨kb, 2, none⟩ = some (.int .i64 nx) := (cell_block h.k).trans rfl
  have hf2 : w.frozen? ⟨kb, 2, none⟩ = false := frozen_of_row w kb 2 _ 44 h.k
  have h96 : decide ((96 : Int) ≤ (ps.length : Int)) = false := by simp; omega
  have hbn := book_next h (nx + 1) (by omega) (by omega)
  have H1 : Hid (BookIs (w.setCell ⟨kb, 2, none⟩ (.int .i64 (nx + 1))) base kb (.slice av ps.length cv) (nx + 1) ps) := hbn.1
  have HK1 : Hid (Kept w (w.setCell ⟨kb, 2, none⟩ (.int .i64 (nx + 1))) (fun j => j = kb)) := hbn.2
  have HO1 : Hid (Own (w.setCell ⟨kb, 2, none⟩ (.int .i64 (nx + 1))) base (.slice ao bs.length cap) bs) := hbn.2.owns hB (notKb h hB)
  have C2 : (w.setCell ⟨kb, 2, none⟩ (.int .i64 (nx + 1))).cell? ⟨kb, 2, none⟩ = some (.int .i64 (nx + 1)) := (cell_block hbn.1.k).trans rfl
  clear h hbn hB
  go_enter Tryz.func16, Tryz.ntmps16
  go_wp2_with fail
  have hz : (w.setCell ⟨kb, 2, none⟩ (.int .i64 (nx + 1))).heap.size = w.heap.size := by simp
  clear c0 c2 hf2 C2
  generalize hw1 : w.setCell ⟨kb, 2, none⟩ (.int .i64 (nx + 1)) = w1 at *
  have Hz : Hid (w1.heap.size = w.heap.size) := hz
  clear hw1 hz
  have hkb : kb < w.heap.size := by have := lt_heap H1.out.k; have := Hz.out; omega
  have hbb : base ≤ w.heap.size := by have := H1.out.b; have := Hz.out; omega
  have hp1 : Hid ((w1.alloc (.cells #[.slice ao bs.length cap, .slice none 0 0, .slice none 0 0, .int .i64 (nx + 1), .bool false] 75)).heap[w.heap.size]? = some (.cells #[.slice ao bs.length cap, .slice none 0 0, .slice none 0 0, .int .i64 (nx + 1), .bool false] 75 (0, 0))) := by
    rw [← Hz.out]; exact heap_alloc_new w1 _
  refine (fill_any w.heap.size 0 #[.slice ao bs.length cap, .slice none 0 0, .slice none 0 0, .int .i64 (nx + 1), .bool false] (.slice ao bs.length cap) base bs (nx + 1) false _ (HO1.out.alloc _) hp1.out rfl rfl rfl (by omega) (by omega) (by omega)).mono ?_
  rintro e w2 ⟨rfl, hB2, hp2, hk2⟩
  have hw1 : Below w1.heap.size w1 (w1.alloc (.cells #[.slice ao bs.length cap, .slice none 0 0, .slice none 0 0, .int .i64 (nx + 1), .bool false] 75)) := (Below.refl _ _).alloc (Nat.le_refl _) _
  have K12 : Kept w1 w2 (fun j => j = w.heap.size ∨ some j = (Value.slice ao bs.length cap).ownBlock) := (Kept.ofBelow hw1 _).trans hk2
  have hcond : ∀ k, k < w.heap.size → k = w.heap.size ∨ some k = (Value.slice ao bs.length cap).ownBlock → (Value.slice ao bs.length cap).ownBlock = some k := fun k hk h => h.elim (fun e => absurd e (by omega)) (fun e => e.symm)
  have nk : ¬ (kb = w.heap.size ∨ some kb = (Value.slice ao bs.length cap).ownBlock) := fun h => notKb H1.out HO1.out kb (hcond kb hkb h) rfl
  have nv : ∀ k, (Value.slice av ps.length cv).ownBlock = some k → ¬ (k = w.heap.size ∨ some k = (Value.slice ao bs.length cap).ownBlock) := fun k hk h => by
    have hlt := (H1.out.o.lt k hk).2
    have e := hcond k (by have := Hz.out; omega) h
    obtain ⟨cur, hcur⟩ := owns_type H1.out.o hk
    exact own_notType HO1.out hcur (by decide) e.symm
  have np : ∀ p ∈ ps, ∀ k, holds p k → ¬ (k = w.heap.size ∨ some k = (Value.slice ao bs.length cap).ownBlock) := fun p hp k hk h => by
    obtain ⟨cur, hcur⟩ := holds_type (H1.out.ok p hp) hk
    have hlt := lt_heap hcur
    exact HS2.out p hp k (hcond k (by have := Hz.out; omega) h) hk
  have B2 : Hid (BookIs w2 base kb (.slice av ps.length cv) (nx + 1) ps) := H1.out.kept K12 nk nv np
  have HK2 : Hid (Kept w1 w2 (fun j => j = w.heap.size ∨ some j = (Value.slice ao bs.length cap).ownBlock)) := K12
  have HB2 : Hid (Own w2 base (.slice ao bs.length cap) (pats (nx + 1) bs.length)) := hB2
  have hp2' : w2.heap[w.heap.size]? = some (.cells #[.slice ao bs.length cap, .slice none 0 0, .slice none 0 0, .int .i64 (nx + 1), .bool true] 75 (0, 0)) := by simpa using hp2
  have HP2 : Hid (w2.heap[w.heap.size]? = some (.cells #[.slice ao bs.length cap, .slice none 0 0, .slice none 0 0, .int .i64 (nx + 1), .bool true] 75 (0, 0))) := hp2'
  have NK : Hid (¬ (kb = w.heap.size ∨ some kb = (Value.slice ao bs.length cap).ownBlock)) := nk
  have NV : Hid (∀ k, (Value.slice av ps.length cv).ownBlock = some k → ¬ (k = w.heap.size ∨ some k = (Value.slice ao bs.length cap).ownBlock)) := nv
  have NP : Hid (∀ p ∈ ps, ∀ k, holds p k → ¬ (k = w.heap.size ∨ some k = (Value.slice ao bs.length cap).ownBlock)) := np
  clear hB2 hp2 hp2' hk2 hw1 K12 hcond nk nv np hp1
  go_wp2_with fail
  have hpl := pats_len (nx + 1) bs.length
  refine (grow_any w.heap.size 0 #[.slice ao bs.length cap, .slice none 0 0, .slice none 0 0, .int .i64 (nx + 1), .bool true] (.slice ao bs.length cap) base (pats (nx + 1) bs.length) (nx + 1) (.slice none 0 0) w2 HB2.out B2.out.b HP2.out rfl rfl rfl (by omega) (by omega) (by omega)).mono ?_
  rintro e w3 ⟨rfl, G, hB3, hG3, hp3, hk3, hloc⟩
  have hGs : ∃ aG cG, G = .slice aG (bs.length + 64) cG := by
    rcases own_shape hG3 with ⟨h, _⟩ | ⟨_, g, c, hv, _⟩
    · have := congrArg List.length h; simp [pats_len] at this
    · exact ⟨_, c, by rw [hv]; simp [pats_len]; rfl⟩
  obtain ⟨aG, cG, hGv⟩ := hGs
  subst hGv
  have B3 : Hid (BookIs w3 base kb (.slice av ps.length cv) (nx + 1) ps) := B2.out.kept hk3 NK.out NV.out NP.out
  have K13 : Hid (Kept w w3 (fun j => j = kb ∨ some j = (Value.slice ao bs.length cap).ownBlock)) :=
    (HK1.out.mono (fun _ _ h => .inl h)).trans (((HK2.out.trans hk3).mono (fun k hk h => h.elim (fun e => absurd e (by have := Hz.out; omega)) (fun e => .inr e))))
  have hp3' : w3.heap[w.heap.size]? = some (.cells #[.slice ao bs.length cap, .slice aG (bs.length + 64) cG, .slice none 0 0, .int .i64 (nx + 1), .bool true] 75 (0, 0)) := by simpa using hp3
  have Q3 : Hid (PgOK w3 base ⟨.slice ao bs.length cap, .slice aG (bs.length + 64) cG, .slice none 0 0, nx + 1, true, true, bs⟩) := ⟨hB3, fun e => by simp at e, fun _ => hG3, by simp; omega, by simp; omega, hlen, fun _ => rfl⟩
  have HL : Hid ((Value.slice aG (bs.length + 64) cG).ownBlock = (Value.slice ao bs.length cap).ownBlock ∨ ∃ g', (Value.slice aG (bs.length + 64) cG).ownBlock = some g' ∧ w.heap.size ≤ g') := by
    rcases hloc with h | ⟨g', h, h'⟩
    · exact .inl h
    · exact .inr ⟨g', h, by have := HK2.out.size; have := Hz.out; omega⟩
  have T1 : Hid (∀ p ∈ ps, ∀ k, p.B.ownBlock = some k → ¬ holds ⟨.slice ao bs.length cap, .slice aG (bs.length + 64) cG, .slice none 0 0, nx + 1, true, true, bs⟩ k) := by
    intro p hp k hk hh
    have hlt := ((H1.out.ok p hp).b.lt k hk).2
    rcases hh with e | ⟨_, e⟩ | ⟨e, _⟩
    · exact HS1.out p hp k hk e
    · rcases HL.out with h | ⟨g', h, h'⟩
      · exact HS1.out p hp k hk (h.symm.trans e)
      · rw [h] at e
        obtain rfl := Option.some.inj e
        have := Hz.out
        omega
    · simp at e
  have d0 : w3.cell? ⟨w.heap.size, 0, none⟩ = some (.slice ao bs.length cap) := (cell_block hp3').trans rfl
  have d1 : w3.cell? ⟨w.heap.size, 1, none⟩ = some (.slice aG (bs.length + 64) cG) := (cell_block hp3').trans rfl
  have d2 : w3.cell? ⟨w.heap.size, 2, none⟩ = some (.slice none 0 0) := (cell_block hp3').trans rfl
  have d3 : w3.cell? ⟨w.heap.size, 3, none⟩ = some (.int .i64 (nx + 1)) := (cell_block hp3').trans rfl
  have d4 : w3.cell? ⟨w.heap.size, 4, none⟩ = some (.bool true) := (cell_block hp3').trans rfl
  have C0 : w3.cell? ⟨kb, 0, none⟩ = some (.slice av ps.length cv) := (cell_block B3.out.k).trans rfl
  have F0 : w3.frozen? ⟨kb, 0, none⟩ = false := frozen_of_row w3 kb 0 _ 44 B3.out.k
  have hk3' := lt_heap B3.out.k
  have CA0 : ∀ o, (w3.alloc o).cell? ⟨kb, 0, none⟩ = some (.slice av ps.length cv) := fun o => (cell_alloc hk3').trans C0
  have FA : ∀ o, (w3.alloc o).frozen? ⟨kb, 0, none⟩ = false := fun o => (frozen_alloc hk3').trans F0
  have HC0 : Hid (w3.cell? ⟨kb, 0, none⟩ = some (.slice av ps.length cv)) := C0
  have HF0 : Hid (w3.frozen? ⟨kb, 0, none⟩ = false) := F0
  have HVo : Hid (w3.ownsRow base 75 5 (.slice av ps.length cv) ps.length (rows ps)) := B3.out.o
  have HVn : Hid (some kb ≠ (Value.slice av ps.length cv).ownBlock) := fun e => by
    obtain ⟨cur, hcur⟩ := owns_type B3.out.o e.symm
    exact apart_types hcur B3.out.k (by decide)
  have hA1 : ps.length + 1 ≤ maxLen := by unfold maxLen; omega
  have hA2 : (ps.length + 1) * 88 ≤ 140737488355328 := by omega
  have hb3 := B3.out.b
  clear hB3 hG3 hp3 hp3' hk3 hloc B2 HB2 HP2 HK2 NK NV NP
  go_wp2_with fail
  go_region_law
    ((refine step_append_lies _ (by rfl) _ _ _ (by rfl) base 75 i5 _ 5 88 Tryz.underlying41 hi5 hy0 hy1 hy2 rfl (by decide) (.slice av ps.length cv) ps.length (rows ps) (by rfl) (by exact HVo.out.alloc _) ⟨w3.heap.size, 0, none⟩ 1 1 [.slice ao bs.length cap, .slice aG (bs.length + 64) cG, .slice none 0 0, .int .i64 (nx + 1), .bool true] (by rfl) (by rfl) (World.news_of_block (cs := #[.slice ao bs.length cap, .slice aG (bs.length + 64) cG, .slice none 0 0, .int .i64 (nx + 1), .bool true]) (t := 75) (fr := (0, 0)) (heap_alloc_new w3 _)) (page_oneCell _ _ _ _ _ _ _ _ _ _ _) (by decide) hA1 hA2 (by simp; omega) (w3.heap.size + 1) (by simp) ?_; intro g5 c5 w5 ho5 hg5 hat5 hlt5; have hS5 := keep_S4 (by repeat (first | exact Below.refl _ _ | apply Below.drew | refine Below.alloc ?_ (Nat.le_refl _) _)) hg5 (Below.refl _ w3) hk3' (by exact HVn.out) HC0.out HF0.out; obtain ⟨CE0, FE0⟩ := hS5))
  all_goals
    have HF := push_fin B3.out Q3.out (by repeat (first | exact Below.refl _ _ | apply Below.drew | refine Below.alloc ?_ (Nat.le_refl _) _)) ho5 hg5 T1.out HS2.out hc
    clear CE0 FE0 ho5 hg5 hat5 hlt5
    have HF' : Hid (_ ∧ _) := HF
    clear HF
    go_wp2
    go_end0
    first
      | exact ⟨rfl, _, _, HF'.out.1, (K13.out.mono (fun _ _ h => h.elim .inl (fun e => .inr (.inr e)))).trans (HF'.out.2.mono (fun _ _ h => h.elim .inl (fun e => .inr (.inl e)))), HL.out⟩
      | exact ⟨rfl, _, _, HF'.out.1.drew, ((K13.out.mono (fun _ _ h => h.elim .inl (fun e => .inr (.inr e)))).trans (HF'.out.2.mono (fun _ _ h => h.elim .inl (fun e => .inr (.inl e))))).drew, HL.out⟩

end Go.Proofs.YtjgjpepmfiklfaaGreatDoor.Bk
