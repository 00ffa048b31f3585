import Derived.Test.YtihcaopcfhbofaaX13
namespace Go.Proofs.Ytihcaopcfhbofaa.Fm
open Go.RowKit Go.Maps Mb
set_option linter.unusedVariables false
set_option maxRecDepth 100000
set_option linter.unusedSimpArgs false
section
variable {w w' W : World} {B : Nat}
def forkR (a b : Co) (i : Nat) : Bool := (List.range b.sl.length).any fun j : Nat => (decide (a.base + (i : Int) = b.base + (j : Int))) != (decide (a.sl.getD i z2 = b.sl.getD j z2))
theorem fork_no {a b : Co} (h : ∀ i, i < a.sl.length → forkR a b i = false) : forkB a b = false := by
  unfold forkB
  rw [List.any_eq_false]
  intro i hi
  have := h i (List.mem_range.1 hi)
  unfold forkR at this
  rw [this]
  simp
theorem fork_yes {a b : Co} {i j : Nat} (hi : i < a.sl.length) (hj : j < b.sl.length) (h : ((decide (a.base + (i : Int) = b.base + (j : Int))) != (decide (a.sl.getD i z2 = b.sl.getD j z2))) = true) : forkB a b = true := by
  unfold forkB
  rw [List.any_eq_true]
  refine ⟨i, List.mem_range.2 hi, ?_⟩
  rw [List.any_eq_true]
  exact ⟨j, List.mem_range.2 hj, h⟩
theorem forkR_no {a b : Co} {i : Nat} (h : ∀ j : Nat, j < b.sl.length → ((decide (a.base + (i : Int) = b.base + (j : Int))) != (decide (a.sl.getD i z2 = b.sl.getD j z2))) = false) : forkR a b i = false := by
  unfold forkR
  rw [List.any_eq_false]
  intro j hj
  rw [h j (List.mem_range.1 hj)]
  simp
set_option maxHeartbeats 8000000 in
theorem qfork_any {f g : Fl} (hf : f.Rd w) (hg : g.Rd w) (sf : Snd f.c) (sg : Snd g.c) : Calls Try.prog 53 #[.agg f.cs.toArray, .agg g.cs.toArray] w fun e w' => e = .returned (.bool (forkB f.c g.c)) ∧ Below w.heap.size w w' := by
  generalize hW1 : w.alloc (.cells f.cs.toArray 28) = W1
  generalize hW2 : W1.alloc (.cells g.cs.toArray 28) = W2
  have b1 : Below w.heap.size w W1 := hW1 ▸ balloc (Below.refl _ _)
  have b2 : Below W1.heap.size W1 W2 := hW2 ▸ balloc (Below.refl _ _)
  have k1 : W1.heap[w.heap.size]? = some (.cells f.cs.toArray 28 (0, 0)) := by rw [← hW1]; exact heap_alloc_new w _
  have k2 : W2.heap[W1.heap.size]? = some (.cells g.cs.toArray 28 (0, 0)) := by rw [← hW2]; exact heap_alloc_new W1 _
  have k1' : W2.heap[w.heap.size]? = some (.cells f.cs.toArray 28 (0, 0)) := (b2.block _ (lt_heap k1)).trans k1
  have HF : Hid (f.Rd W2) := (hf.still b1).still b2
  have HG : Hid (g.Rd W2) := (hg.still b1).still b2
  have HB : Hid (Below w.heap.size w W2) := bstep b1 b2
  have HBz : Hid (w.heap.size ≤ W2.heap.size) := (bstep b1 b2).size
  have HC : Hid (∀ V : World, Below W2.heap.size W2 V → (V.cell? ⟨w.heap.size, 4, none⟩ = some (.int .i64 f.c.base) ∧ V.cell? ⟨w.heap.size, 5, none⟩ = some (.slice f.sa f.c.sl.length f.sc)) ∧ (V.cell? ⟨W1.heap.size, 4, none⟩ = some (.int .i64 g.c.base) ∧ V.cell? ⟨W1.heap.size, 5, none⟩ = some (.slice g.sa g.c.sl.length g.sc))) := fun V hV => ⟨⟨below_at hV (blk_cell k1' 4), below_at hV (blk_cell k1' 5)⟩, below_at hV (blk_cell k2 4), below_at hV (blk_cell k2 5)⟩
  have f1 := sf.bM
  have f2 := sf.b0
  have f3 := sf.s128
  have g1 := sg.bM
  have g2 := sg.b0
  have g3 := sg.s128
  have Hyes : Hid (∀ i j : Nat, i < f.c.sl.length → j < g.c.sl.length → ((decide (f.c.base + (i : Int) = g.c.base + (j : Int))) != (decide (f.c.sl.getD i z2 = g.c.sl.getD j z2))) = true → forkB f.c g.c = true) := fun i j hi hj h => fork_yes hi hj h
  have Hno : Hid ((∀ i, i < f.c.sl.length → forkR f.c g.c i = false) → forkB f.c g.c = false) := fork_no
  have HnR : Hid (∀ i : Nat, (∀ j : Nat, j < g.c.sl.length → ((decide (f.c.base + (i : Int) = g.c.base + (j : Int))) != (decide (f.c.sl.getD i z2 = g.c.sl.getD j z2))) = false) → forkR f.c g.c i = false) := fun i h => forkR_no h
  clear hf hg sf sg b1 b2 k1 k2 k1'
  generalize hfl : f.c.sl.length = fn at *
  generalize hgl : g.c.sl.length = gn at *
  have Hfl : Hid (f.c.sl.length = fn) := hfl
  have Hgl : Hid (g.c.sl.length = gn) := hgl
  generalize hfb : f.c.base = fb at *
  generalize hgb : g.c.base = gb at *
  generalize f.cs.toArray = pf at *
  generalize g.cs.toArray = pg at *
  generalize hR : forkB f.c g.c = rr at *
  clear hfl hgl hfb hgb hR
  obtain ⟨⟨e4, e5⟩, d4, d5⟩ := HC.out W2 (Below.refl _ _)
  go_enter Try.func53, Try.ntmps53
  go_wp2
  generalize hkf : w.heap.size = kf at *
  have Hkf : Hid (w.heap.size = kf) := hkf
  generalize hkg : W1.heap.size = kg at *
  clear hkf hkg hW1 hW2 e4 e5 d4 d5
  go_loopw [5] (fun i wr => ∃ j : Nat, j ≤ fn ∧ i = .int .i64 j ∧ (∀ k, k < j → forkR f.c g.c k = false) ∧ Below W2.heap.size W2 wr) (fun i _ => fn - (intOf i).toNat)
  case atStart => exact ⟨0, Nat.zero_le _, rfl, fun k hk => by omega, Below.refl _ _⟩
  case round =>
    obtain ⟨i, hi, rfl, hno, hb⟩ := hrel
    have HN : Hid (∀ k, k < i → forkR f.c g.c k = false) := hno
    have HW : Hid (Below W2.heap.size W2 wr) := hb
    clear hno hb
    obtain ⟨⟨e4, e5⟩, d4, d5⟩ := HC.out wr HW.out
    by_cases hlt : i < fn
    · have i1 : (0 : Int) ≤ (i : Int) := Int.natCast_nonneg _
      have i2 : (i : Int) < (fn : Int) := by omega
      go_wp2
      clear e4 d4 d5
      go_loopw [6] (fun v wv => ∃ j : Nat, j ≤ gn ∧ v = .int .i64 j ∧ (∀ k : Nat, k < j → ((decide (fb + (i : Int) = gb + (k : Int))) != (decide (f.c.sl.getD i z2 = g.c.sl.getD k z2))) = false) ∧ Below W2.heap.size W2 wv) (fun v _ => gn - (intOf v).toNat)
      case atStart => exact ⟨0, Nat.zero_le _, rfl, fun k hk => by omega, HW.out⟩
      case round =>
        obtain ⟨j, hj, rfl, hno, hb⟩ := hrel
        have HM : Hid (∀ k : Nat, k < j → ((decide (fb + (i : Int) = gb + (k : Int))) != (decide (f.c.sl.getD i z2 = g.c.sl.getD k z2))) = false) := hno
        clear HW e5
        have HW : Hid (Below W2.heap.size W2 wr) := hb
        clear hno hb
        obtain ⟨⟨e4, e5⟩, d4, d5⟩ := HC.out wr HW.out
        by_cases hjt : j < gn
        · have j1 : (0 : Int) ≤ (j : Int) := Int.natCast_nonneg _
          have j2 : (j : Int) < (gn : Int) := by omega
          obtain ⟨bf, of, hsf, rf, _, _⟩ := (HF.out.s.still HW.out).at (i := i) (by rw [Hfl.out]; exact hlt)
          obtain ⟨bg, og, hsg, rg, _, _⟩ := (HG.out.s.still HW.out).at (i := j) (by rw [Hgl.out]; exact hjt)
          rw [hsf] at e5
          rw [hsg] at d5
          have Hy : Hid (((decide (fb + (i : Int) = gb + (j : Int))) != (decide (f.c.sl.getD i z2 = g.c.sl.getD j z2))) = true → rr = true) := Hyes.out i j hlt hjt
          have Hn : Hid (((decide (fb + (i : Int) = gb + (j : Int))) != (decide (f.c.sl.getD i z2 = g.c.sl.getD j z2))) = false → ∀ k : Nat, k < j + 1 → ((decide (fb + (i : Int) = gb + (k : Int))) != (decide (f.c.sl.getD i z2 = g.c.sl.getD k z2))) = false) := fun h k hk => by
            by_cases e : k = j
            · subst e; exact h
            · exact HM.out k (by omega)
          have HEq : Hid (∀ W, (Op.equalIn 10000 70 (.agg (slotV (f.c.sl.getD i z2)).toArray) (.agg (slotV (g.c.sl.getD j z2)).toArray)).run Try.prog W = .ok (decide (f.c.sl.getD i z2 = g.c.sl.getD j z2)) W) := fun W => eq_slot _ _
          generalize hu : f.c.sl.getD i z2 = u at rf HEq Hy
          generalize hv : g.c.sl.getD j z2 = v at rg HEq Hy
          have Hn2 : Hid (((decide (fb + (i : Int) = gb + (j : Int))) != (decide (u = v))) = false → ∀ k : Nat, k < j + 1 → ((decide (fb + (i : Int) = gb + (k : Int))) != (decide (f.c.sl.getD i z2 = g.c.sl.getD k z2))) = false) := by rw [← hu, ← hv]; exact Hn.out
          have Hu : Hid (f.c.sl.getD i z2 = u) := hu
          clear Hn hu hv
          generalize hb2 : decide (u = v) = b2 at *
          clear hb2
          have rf2 : wr.drew.rangeAt bf (of + i * 2) (slotV u) := rf
          have rg2 : wr.drew.rangeAt bg (og + j * 2) (slotV v) := rg
          clear rf rg
          by_cases hp : fb + (i : Int) = gb + (j : Int)
          · rw [decide_eq_true hp] at Hy Hn2
            cases b2 with
            | true =>
              have Hr : Hid (∀ k : Nat, k < j + 1 → ((decide (fb + (i : Int) = gb + (k : Int))) != (decide (f.c.sl.getD i z2 = g.c.sl.getD k z2))) = false) := Hn2.out rfl
              clear Hn2 Hy
              go_wp2_with (first | (refine wl_at 23 rfl ?_) | fail)
              refine wl_take (v := ?_) (by kernel_rfl) (by go_simp; exact rfl) ?_
              simp only [Act.put, gA9, gZ9, gC9, sA9, sZ9, sC9]
              refine wl_take (v := ?_) (by kernel_rfl) (by go_simp; exact rfl) ?_
              simp only [Act.put, gA9, gZ9, gC9, sA9, sZ9, sC9]
              refine wl_take (v := ?_) (by kernel_rfl) (by go_simp; exact rfl) ?_
              simp only [Act.put, gA9, gZ9, gC9, sA9, sZ9, sC9]
              refine wl_take (v := .int .i64 (fb + (i : Int))) (by kernel_rfl) (by go_simp; exact wrap_id (by omega) (by omega)) ?_
              simp only [Act.put, gA9, gZ9, gC9, sA9, sZ9, sC9]
              refine wl_take (v := ?_) (by kernel_rfl) (by go_simp; exact rfl) ?_
              simp only [Act.put, gA9, gZ9, gC9, sA9, sZ9, sC9]
              refine wl_take (v := ?_) (by kernel_rfl) (by go_simp; exact rfl) ?_
              simp only [Act.put, gA9, gZ9, gC9, sA9, sZ9, sC9]
              refine wl_take (v := ?_) (by kernel_rfl) (by go_simp; exact rfl) ?_
              simp only [Act.put, gA9, gZ9, gC9, sA9, sZ9, sC9]
              refine wl_take (v := .int .i64 (gb + (j : Int))) (by kernel_rfl) (by go_simp; exact wrap_id (by omega) (by omega)) ?_
              simp only [Act.put, gA9, gZ9, gC9, sA9, sZ9, sC9]
              refine wl_take (v := .bool true) (by kernel_rfl) (by first | (go_simp; done) | (go_simp; omega) | (go_simp; simp; omega)) ?_
              simp only [Act.put, gA9, gZ9, gC9, sA9, sZ9, sC9]
              refine wl_take (v := ?_) (by kernel_rfl) (by go_simp; exact rfl) ?_
              simp only [Act.put, gA9, gZ9, gC9, sA9, sZ9, sC9]
              refine ⟨?_⟩
              go_wp2_with (fail)
              refine wp_region_held_drew (S := (fun w' => w'.cell? ⟨kf, 5, none⟩ = some (.slice (some ⟨bf, of, none⟩) fn f.sc) ∧ w'.cell? ⟨kg, 5, none⟩ = some (.slice (some ⟨bg, og, none⟩) gn g.sc) ∧ w'.rangeAt bf (of + i * 2) (slotV u) ∧ w'.rangeAt bg (og + j * 2) (slotV v))) (by kernel_rfl) ⟨below_at (Below.refl _ _).drew e5, below_at (Below.refl _ _).drew d5, rf2, rg2⟩ (fun hHeld => ?_)
              simp only [Act.put, List.size_toArray, List.length_cons, List.length_nil, Nat.zero_add]
              refine wpAnyH_take (i := 0) (v := .pointer (some ⟨kf, 5, none⟩)) rfl (by kernel_rfl) (by kernel_rfl) (by kernel_rfl) (fun _ _ _ h => h) (Or.inl ⟨by rfl, fun w' hS => by go_simp⟩) hHeld ?_
              simp only [Act.put, gA9, gZ9, gC9, sA9, sZ9, sC9]
              refine wpAnyH_take (i := 1) (v := .slice (some ⟨bf, of, none⟩) fn f.sc) rfl (by kernel_rfl) (by kernel_rfl) (by kernel_rfl) (fun _ _ _ h => h) (Or.inl ⟨by rfl, fun w' hS => by (obtain ⟨t1, t2, t3, t4⟩ := hS; go_simp)⟩) hHeld ?_
              simp only [Act.put, gA9, gZ9, gC9, sA9, sZ9, sC9]
              refine wpAnyH_take (i := 2) (v := .int .i64 (i : Int)) rfl (by kernel_rfl) (by kernel_rfl) (by kernel_rfl) (fun _ _ _ h => h) (Or.inl ⟨by rfl, fun w' hS => by go_simp⟩) hHeld ?_
              simp only [Act.put, gA9, gZ9, gC9, sA9, sZ9, sC9]
              refine wpAnyH_take (i := 3) (v := .pointer (some ⟨bf, of + i * 2, none⟩)) rfl (by kernel_rfl) (by kernel_rfl) (by kernel_rfl) (fun _ _ _ h => h) (Or.inl ⟨by rfl, fun w' hS => by go_simp⟩) hHeld ?_
              simp only [Act.put, gA9, gZ9, gC9, sA9, sZ9, sC9]
              refine wpAnyH_take (i := 4) (v := .agg (slotV u).toArray) rfl (by kernel_rfl) (by kernel_rfl) (by kernel_rfl) (fun _ _ _ h => h) (yieldsIf_load_mid (by rfl) 70 (.tmp 35) rfl bf (of + i * 2) (by rfl) (slotV u) _ (fun w' hS => hS.2.2.1) Try.underlying70 rfl info_slot) hHeld ?_
              simp only [Act.put, gA9, gZ9, gC9, sA9, sZ9, sC9]
              refine wpAnyH_take (i := 5) (v := .pointer (some ⟨kg, 5, none⟩)) rfl (by kernel_rfl) (by kernel_rfl) (by kernel_rfl) (fun _ _ _ h => h) (Or.inl ⟨by rfl, fun w' hS => by go_simp⟩) hHeld ?_
              simp only [Act.put, gA9, gZ9, gC9, sA9, sZ9, sC9]
              refine wpAnyH_take (i := 6) (v := .slice (some ⟨bg, og, none⟩) gn g.sc) rfl (by kernel_rfl) (by kernel_rfl) (by kernel_rfl) (fun _ _ _ h => h) (Or.inl ⟨by rfl, fun w' hS => by (obtain ⟨t1, t2, t3, t4⟩ := hS; go_simp)⟩) hHeld ?_
              simp only [Act.put, gA9, gZ9, gC9, sA9, sZ9, sC9]
              refine wpAnyH_take (i := 7) (v := .int .i64 (j : Int)) rfl (by kernel_rfl) (by kernel_rfl) (by kernel_rfl) (fun _ _ _ h => h) (Or.inl ⟨by rfl, fun w' hS => by go_simp⟩) hHeld ?_
              simp only [Act.put, gA9, gZ9, gC9, sA9, sZ9, sC9]
              refine wpAnyH_take (i := 8) (v := .pointer (some ⟨bg, og + j * 2, none⟩)) rfl (by kernel_rfl) (by kernel_rfl) (by kernel_rfl) (fun _ _ _ h => h) (Or.inl ⟨by rfl, fun w' hS => by go_simp⟩) hHeld ?_
              simp only [Act.put, gA9, gZ9, gC9, sA9, sZ9, sC9]
              refine wpAnyH_take (i := 9) (v := .agg (slotV v).toArray) rfl (by kernel_rfl) (by kernel_rfl) (by kernel_rfl) (fun _ _ _ h => h) (yieldsIf_load_mid (by rfl) 70 (.tmp 40) rfl bg (og + j * 2) (by rfl) (slotV v) _ (fun w' hS => hS.2.2.2) Try.underlying70 rfl info_slot) hHeld ?_
              simp only [Act.put, gA9, gZ9, gC9, sA9, sZ9, sC9]
              refine wpAnyH_take (i := 10) (v := .bool true) rfl (by kernel_rfl) (by kernel_rfl) (by kernel_rfl) (fun _ _ _ h => h) (Or.inl ⟨by rfl, fun w' hS => run_eqlop 70 (.tmp 36) (.tmp 41) 70 rfl _ _ (by rfl) (by rfl) guard_slot true (HEq.out _)⟩) hHeld ?_
              simp only [Act.put, gA9, gZ9, gC9, sA9, sZ9, sC9]
              refine wpAnyH_take (i := 11) (v := .bool true) rfl (by kernel_rfl) (by kernel_rfl) (by kernel_rfl) (fun _ _ _ h => h) (Or.inl ⟨by rfl, fun w' hS => by go_simp⟩) hHeld ?_
              simp only [Act.put, gA9, gZ9, gC9, sA9, sZ9, sC9]
              refine wpAnyH_done (by kernel_rfl) ?_ _
              clear hHeld
              have Hr2 := Hr.out
              rw [Hu.out] at Hr2
              have Hr3 : Hid _ := Hr2
              clear Hr2
              go_wp2
              exact ⟨⟨j + 1, by omega, by go_num, Hr3.out, HW.out.drew⟩, by simp [intOf]; omega⟩
            | false =>
              have Hr : Hid (rr = true) := Hy.out rfl
              clear Hn2 Hy
              go_wp2_with (first | (refine wl_at 23 rfl ?_) | fail)
              refine wl_take (v := ?_) (by kernel_rfl) (by go_simp; exact rfl) ?_
              simp only [Act.put, gA9, gZ9, gC9, sA9, sZ9, sC9]
              refine wl_take (v := ?_) (by kernel_rfl) (by go_simp; exact rfl) ?_
              simp only [Act.put, gA9, gZ9, gC9, sA9, sZ9, sC9]
              refine wl_take (v := ?_) (by kernel_rfl) (by go_simp; exact rfl) ?_
              simp only [Act.put, gA9, gZ9, gC9, sA9, sZ9, sC9]
              refine wl_take (v := .int .i64 (fb + (i : Int))) (by kernel_rfl) (by go_simp; exact wrap_id (by omega) (by omega)) ?_
              simp only [Act.put, gA9, gZ9, gC9, sA9, sZ9, sC9]
              refine wl_take (v := ?_) (by kernel_rfl) (by go_simp; exact rfl) ?_
              simp only [Act.put, gA9, gZ9, gC9, sA9, sZ9, sC9]
              refine wl_take (v := ?_) (by kernel_rfl) (by go_simp; exact rfl) ?_
              simp only [Act.put, gA9, gZ9, gC9, sA9, sZ9, sC9]
              refine wl_take (v := ?_) (by kernel_rfl) (by go_simp; exact rfl) ?_
              simp only [Act.put, gA9, gZ9, gC9, sA9, sZ9, sC9]
              refine wl_take (v := .int .i64 (gb + (j : Int))) (by kernel_rfl) (by go_simp; exact wrap_id (by omega) (by omega)) ?_
              simp only [Act.put, gA9, gZ9, gC9, sA9, sZ9, sC9]
              refine wl_take (v := .bool true) (by kernel_rfl) (by first | (go_simp; done) | (go_simp; omega) | (go_simp; simp; omega)) ?_
              simp only [Act.put, gA9, gZ9, gC9, sA9, sZ9, sC9]
              refine wl_take (v := ?_) (by kernel_rfl) (by go_simp; exact rfl) ?_
              simp only [Act.put, gA9, gZ9, gC9, sA9, sZ9, sC9]
              refine ⟨?_⟩
              go_wp2_with (fail)
              refine wp_region_held_drew (S := (fun w' => w'.cell? ⟨kf, 5, none⟩ = some (.slice (some ⟨bf, of, none⟩) fn f.sc) ∧ w'.cell? ⟨kg, 5, none⟩ = some (.slice (some ⟨bg, og, none⟩) gn g.sc) ∧ w'.rangeAt bf (of + i * 2) (slotV u) ∧ w'.rangeAt bg (og + j * 2) (slotV v))) (by kernel_rfl) ⟨below_at (Below.refl _ _).drew e5, below_at (Below.refl _ _).drew d5, rf2, rg2⟩ (fun hHeld => ?_)
              simp only [Act.put, List.size_toArray, List.length_cons, List.length_nil, Nat.zero_add]
              refine wpAnyH_take (i := 0) (v := .pointer (some ⟨kf, 5, none⟩)) rfl (by kernel_rfl) (by kernel_rfl) (by kernel_rfl) (fun _ _ _ h => h) (Or.inl ⟨by rfl, fun w' hS => by go_simp⟩) hHeld ?_
              simp only [Act.put, gA9, gZ9, gC9, sA9, sZ9, sC9]
              refine wpAnyH_take (i := 1) (v := .slice (some ⟨bf, of, none⟩) fn f.sc) rfl (by kernel_rfl) (by kernel_rfl) (by kernel_rfl) (fun _ _ _ h => h) (Or.inl ⟨by rfl, fun w' hS => by (obtain ⟨t1, t2, t3, t4⟩ := hS; go_simp)⟩) hHeld ?_
              simp only [Act.put, gA9, gZ9, gC9, sA9, sZ9, sC9]
              refine wpAnyH_take (i := 2) (v := .int .i64 (i : Int)) rfl (by kernel_rfl) (by kernel_rfl) (by kernel_rfl) (fun _ _ _ h => h) (Or.inl ⟨by rfl, fun w' hS => by go_simp⟩) hHeld ?_
              simp only [Act.put, gA9, gZ9, gC9, sA9, sZ9, sC9]
              refine wpAnyH_take (i := 3) (v := .pointer (some ⟨bf, of + i * 2, none⟩)) rfl (by kernel_rfl) (by kernel_rfl) (by kernel_rfl) (fun _ _ _ h => h) (Or.inl ⟨by rfl, fun w' hS => by go_simp⟩) hHeld ?_
              simp only [Act.put, gA9, gZ9, gC9, sA9, sZ9, sC9]
              refine wpAnyH_take (i := 4) (v := .agg (slotV u).toArray) rfl (by kernel_rfl) (by kernel_rfl) (by kernel_rfl) (fun _ _ _ h => h) (yieldsIf_load_mid (by rfl) 70 (.tmp 35) rfl bf (of + i * 2) (by rfl) (slotV u) _ (fun w' hS => hS.2.2.1) Try.underlying70 rfl info_slot) hHeld ?_
              simp only [Act.put, gA9, gZ9, gC9, sA9, sZ9, sC9]
              refine wpAnyH_take (i := 5) (v := .pointer (some ⟨kg, 5, none⟩)) rfl (by kernel_rfl) (by kernel_rfl) (by kernel_rfl) (fun _ _ _ h => h) (Or.inl ⟨by rfl, fun w' hS => by go_simp⟩) hHeld ?_
              simp only [Act.put, gA9, gZ9, gC9, sA9, sZ9, sC9]
              refine wpAnyH_take (i := 6) (v := .slice (some ⟨bg, og, none⟩) gn g.sc) rfl (by kernel_rfl) (by kernel_rfl) (by kernel_rfl) (fun _ _ _ h => h) (Or.inl ⟨by rfl, fun w' hS => by (obtain ⟨t1, t2, t3, t4⟩ := hS; go_simp)⟩) hHeld ?_
              simp only [Act.put, gA9, gZ9, gC9, sA9, sZ9, sC9]
              refine wpAnyH_take (i := 7) (v := .int .i64 (j : Int)) rfl (by kernel_rfl) (by kernel_rfl) (by kernel_rfl) (fun _ _ _ h => h) (Or.inl ⟨by rfl, fun w' hS => by go_simp⟩) hHeld ?_
              simp only [Act.put, gA9, gZ9, gC9, sA9, sZ9, sC9]
              refine wpAnyH_take (i := 8) (v := .pointer (some ⟨bg, og + j * 2, none⟩)) rfl (by kernel_rfl) (by kernel_rfl) (by kernel_rfl) (fun _ _ _ h => h) (Or.inl ⟨by rfl, fun w' hS => by go_simp⟩) hHeld ?_
              simp only [Act.put, gA9, gZ9, gC9, sA9, sZ9, sC9]
              refine wpAnyH_take (i := 9) (v := .agg (slotV v).toArray) rfl (by kernel_rfl) (by kernel_rfl) (by kernel_rfl) (fun _ _ _ h => h) (yieldsIf_load_mid (by rfl) 70 (.tmp 40) rfl bg (og + j * 2) (by rfl) (slotV v) _ (fun w' hS => hS.2.2.2) Try.underlying70 rfl info_slot) hHeld ?_
              simp only [Act.put, gA9, gZ9, gC9, sA9, sZ9, sC9]
              refine wpAnyH_take (i := 10) (v := .bool false) rfl (by kernel_rfl) (by kernel_rfl) (by kernel_rfl) (fun _ _ _ h => h) (Or.inl ⟨by rfl, fun w' hS => run_eqlop 70 (.tmp 36) (.tmp 41) 70 rfl _ _ (by rfl) (by rfl) guard_slot false (HEq.out _)⟩) hHeld ?_
              simp only [Act.put, gA9, gZ9, gC9, sA9, sZ9, sC9]
              refine wpAnyH_take (i := 11) (v := .bool false) rfl (by kernel_rfl) (by kernel_rfl) (by kernel_rfl) (fun _ _ _ h => h) (Or.inl ⟨by rfl, fun w' hS => by go_simp⟩) hHeld ?_
              simp only [Act.put, gA9, gZ9, gC9, sA9, sZ9, sC9]
              refine wpAnyH_done (by kernel_rfl) ?_ _
              clear hHeld
              go_wp2
              go_ret
              exact ⟨congrArg (fun b => Ending.returned (.bool b)) Hr.out.symm, by rw [Hkf.out]; exact (HB.out.trans (HW.out.mono HBz.out)).drew⟩
          · rw [decide_eq_false hp] at Hy Hn2
            cases b2 with
            | true =>
              have Hr : Hid (rr = true) := Hy.out rfl
              clear Hn2 Hy
              go_wp2_with (first | (refine wl_at 23 rfl ?_) | fail)
              refine wl_take (v := ?_) (by kernel_rfl) (by go_simp; exact rfl) ?_
              simp only [Act.put, gA9, gZ9, gC9, sA9, sZ9, sC9]
              refine wl_take (v := ?_) (by kernel_rfl) (by go_simp; exact rfl) ?_
              simp only [Act.put, gA9, gZ9, gC9, sA9, sZ9, sC9]
              refine wl_take (v := ?_) (by kernel_rfl) (by go_simp; exact rfl) ?_
              simp only [Act.put, gA9, gZ9, gC9, sA9, sZ9, sC9]
              refine wl_take (v := .int .i64 (fb + (i : Int))) (by kernel_rfl) (by go_simp; exact wrap_id (by omega) (by omega)) ?_
              simp only [Act.put, gA9, gZ9, gC9, sA9, sZ9, sC9]
              refine wl_take (v := ?_) (by kernel_rfl) (by go_simp; exact rfl) ?_
              simp only [Act.put, gA9, gZ9, gC9, sA9, sZ9, sC9]
              refine wl_take (v := ?_) (by kernel_rfl) (by go_simp; exact rfl) ?_
              simp only [Act.put, gA9, gZ9, gC9, sA9, sZ9, sC9]
              refine wl_take (v := ?_) (by kernel_rfl) (by go_simp; exact rfl) ?_
              simp only [Act.put, gA9, gZ9, gC9, sA9, sZ9, sC9]
              refine wl_take (v := .int .i64 (gb + (j : Int))) (by kernel_rfl) (by go_simp; exact wrap_id (by omega) (by omega)) ?_
              simp only [Act.put, gA9, gZ9, gC9, sA9, sZ9, sC9]
              refine wl_take (v := .bool false) (by kernel_rfl) (by first | (go_simp; done) | (go_simp; omega) | (go_simp; simp; omega)) ?_
              simp only [Act.put, gA9, gZ9, gC9, sA9, sZ9, sC9]
              refine wl_take (v := ?_) (by kernel_rfl) (by go_simp; exact rfl) ?_
              simp only [Act.put, gA9, gZ9, gC9, sA9, sZ9, sC9]
              refine ⟨?_⟩
              go_wp2_with (fail)
              refine wp_region_held_drew (S := (fun w' => w'.cell? ⟨kf, 5, none⟩ = some (.slice (some ⟨bf, of, none⟩) fn f.sc) ∧ w'.cell? ⟨kg, 5, none⟩ = some (.slice (some ⟨bg, og, none⟩) gn g.sc) ∧ w'.rangeAt bf (of + i * 2) (slotV u) ∧ w'.rangeAt bg (og + j * 2) (slotV v))) (by kernel_rfl) ⟨below_at (Below.refl _ _).drew e5, below_at (Below.refl _ _).drew d5, rf2, rg2⟩ (fun hHeld => ?_)
              simp only [Act.put, List.size_toArray, List.length_cons, List.length_nil, Nat.zero_add]
              refine wpAnyH_take (i := 0) (v := .pointer (some ⟨kf, 5, none⟩)) rfl (by kernel_rfl) (by kernel_rfl) (by kernel_rfl) (fun _ _ _ h => h) (Or.inl ⟨by rfl, fun w' hS => by go_simp⟩) hHeld ?_
              simp only [Act.put, gA9, gZ9, gC9, sA9, sZ9, sC9]
              refine wpAnyH_take (i := 1) (v := .slice (some ⟨bf, of, none⟩) fn f.sc) rfl (by kernel_rfl) (by kernel_rfl) (by kernel_rfl) (fun _ _ _ h => h) (Or.inl ⟨by rfl, fun w' hS => by (obtain ⟨t1, t2, t3, t4⟩ := hS; go_simp)⟩) hHeld ?_
              simp only [Act.put, gA9, gZ9, gC9, sA9, sZ9, sC9]
              refine wpAnyH_take (i := 2) (v := .int .i64 (i : Int)) rfl (by kernel_rfl) (by kernel_rfl) (by kernel_rfl) (fun _ _ _ h => h) (Or.inl ⟨by rfl, fun w' hS => by go_simp⟩) hHeld ?_
              simp only [Act.put, gA9, gZ9, gC9, sA9, sZ9, sC9]
              refine wpAnyH_take (i := 3) (v := .pointer (some ⟨bf, of + i * 2, none⟩)) rfl (by kernel_rfl) (by kernel_rfl) (by kernel_rfl) (fun _ _ _ h => h) (Or.inl ⟨by rfl, fun w' hS => by go_simp⟩) hHeld ?_
              simp only [Act.put, gA9, gZ9, gC9, sA9, sZ9, sC9]
              refine wpAnyH_take (i := 4) (v := .agg (slotV u).toArray) rfl (by kernel_rfl) (by kernel_rfl) (by kernel_rfl) (fun _ _ _ h => h) (yieldsIf_load_mid (by rfl) 70 (.tmp 35) rfl bf (of + i * 2) (by rfl) (slotV u) _ (fun w' hS => hS.2.2.1) Try.underlying70 rfl info_slot) hHeld ?_
              simp only [Act.put, gA9, gZ9, gC9, sA9, sZ9, sC9]
              refine wpAnyH_take (i := 5) (v := .pointer (some ⟨kg, 5, none⟩)) rfl (by kernel_rfl) (by kernel_rfl) (by kernel_rfl) (fun _ _ _ h => h) (Or.inl ⟨by rfl, fun w' hS => by go_simp⟩) hHeld ?_
              simp only [Act.put, gA9, gZ9, gC9, sA9, sZ9, sC9]
              refine wpAnyH_take (i := 6) (v := .slice (some ⟨bg, og, none⟩) gn g.sc) rfl (by kernel_rfl) (by kernel_rfl) (by kernel_rfl) (fun _ _ _ h => h) (Or.inl ⟨by rfl, fun w' hS => by (obtain ⟨t1, t2, t3, t4⟩ := hS; go_simp)⟩) hHeld ?_
              simp only [Act.put, gA9, gZ9, gC9, sA9, sZ9, sC9]
              refine wpAnyH_take (i := 7) (v := .int .i64 (j : Int)) rfl (by kernel_rfl) (by kernel_rfl) (by kernel_rfl) (fun _ _ _ h => h) (Or.inl ⟨by rfl, fun w' hS => by go_simp⟩) hHeld ?_
              simp only [Act.put, gA9, gZ9, gC9, sA9, sZ9, sC9]
              refine wpAnyH_take (i := 8) (v := .pointer (some ⟨bg, og + j * 2, none⟩)) rfl (by kernel_rfl) (by kernel_rfl) (by kernel_rfl) (fun _ _ _ h => h) (Or.inl ⟨by rfl, fun w' hS => by go_simp⟩) hHeld ?_
              simp only [Act.put, gA9, gZ9, gC9, sA9, sZ9, sC9]
              refine wpAnyH_take (i := 9) (v := .agg (slotV v).toArray) rfl (by kernel_rfl) (by kernel_rfl) (by kernel_rfl) (fun _ _ _ h => h) (yieldsIf_load_mid (by rfl) 70 (.tmp 40) rfl bg (og + j * 2) (by rfl) (slotV v) _ (fun w' hS => hS.2.2.2) Try.underlying70 rfl info_slot) hHeld ?_
              simp only [Act.put, gA9, gZ9, gC9, sA9, sZ9, sC9]
              refine wpAnyH_take (i := 10) (v := .bool true) rfl (by kernel_rfl) (by kernel_rfl) (by kernel_rfl) (fun _ _ _ h => h) (Or.inl ⟨by rfl, fun w' hS => run_eqlop 70 (.tmp 36) (.tmp 41) 70 rfl _ _ (by rfl) (by rfl) guard_slot true (HEq.out _)⟩) hHeld ?_
              simp only [Act.put, gA9, gZ9, gC9, sA9, sZ9, sC9]
              refine wpAnyH_take (i := 11) (v := .bool true) rfl (by kernel_rfl) (by kernel_rfl) (by kernel_rfl) (fun _ _ _ h => h) (Or.inl ⟨by rfl, fun w' hS => by go_simp⟩) hHeld ?_
              simp only [Act.put, gA9, gZ9, gC9, sA9, sZ9, sC9]
              refine wpAnyH_done (by kernel_rfl) ?_ _
              clear hHeld
              go_wp2
              go_ret
              exact ⟨congrArg (fun b => Ending.returned (.bool b)) Hr.out.symm, by rw [Hkf.out]; exact (HB.out.trans (HW.out.mono HBz.out)).drew⟩
            | false =>
              have Hr : Hid (∀ k : Nat, k < j + 1 → ((decide (fb + (i : Int) = gb + (k : Int))) != (decide (f.c.sl.getD i z2 = g.c.sl.getD k z2))) = false) := Hn2.out rfl
              clear Hn2 Hy
              go_wp2_with (first | (refine wl_at 23 rfl ?_) | fail)
              refine wl_take (v := ?_) (by kernel_rfl) (by go_simp; exact rfl) ?_
              simp only [Act.put, gA9, gZ9, gC9, sA9, sZ9, sC9]
              refine wl_take (v := ?_) (by kernel_rfl) (by go_simp; exact rfl) ?_
              simp only [Act.put, gA9, gZ9, gC9, sA9, sZ9, sC9]
              refine wl_take (v := ?_) (by kernel_rfl) (by go_simp; exact rfl) ?_
              simp only [Act.put, gA9, gZ9, gC9, sA9, sZ9, sC9]
              refine wl_take (v := .int .i64 (fb + (i : Int))) (by kernel_rfl) (by go_simp; exact wrap_id (by omega) (by omega)) ?_
              simp only [Act.put, gA9, gZ9, gC9, sA9, sZ9, sC9]
              refine wl_take (v := ?_) (by kernel_rfl) (by go_simp; exact rfl) ?_
              simp only [Act.put, gA9, gZ9, gC9, sA9, sZ9, sC9]
              refine wl_take (v := ?_) (by kernel_rfl) (by go_simp; exact rfl) ?_
              simp only [Act.put, gA9, gZ9, gC9, sA9, sZ9, sC9]
              refine wl_take (v := ?_) (by kernel_rfl) (by go_simp; exact rfl) ?_
              simp only [Act.put, gA9, gZ9, gC9, sA9, sZ9, sC9]
              refine wl_take (v := .int .i64 (gb + (j : Int))) (by kernel_rfl) (by go_simp; exact wrap_id (by omega) (by omega)) ?_
              simp only [Act.put, gA9, gZ9, gC9, sA9, sZ9, sC9]
              refine wl_take (v := .bool false) (by kernel_rfl) (by first | (go_simp; done) | (go_simp; omega) | (go_simp; simp; omega)) ?_
              simp only [Act.put, gA9, gZ9, gC9, sA9, sZ9, sC9]
              refine wl_take (v := ?_) (by kernel_rfl) (by go_simp; exact rfl) ?_
              simp only [Act.put, gA9, gZ9, gC9, sA9, sZ9, sC9]
              refine ⟨?_⟩
              go_wp2_with (fail)
              refine wp_region_held_drew (S := (fun w' => w'.cell? ⟨kf, 5, none⟩ = some (.slice (some ⟨bf, of, none⟩) fn f.sc) ∧ w'.cell? ⟨kg, 5, none⟩ = some (.slice (some ⟨bg, og, none⟩) gn g.sc) ∧ w'.rangeAt bf (of + i * 2) (slotV u) ∧ w'.rangeAt bg (og + j * 2) (slotV v))) (by kernel_rfl) ⟨below_at (Below.refl _ _).drew e5, below_at (Below.refl _ _).drew d5, rf2, rg2⟩ (fun hHeld => ?_)
              simp only [Act.put, List.size_toArray, List.length_cons, List.length_nil, Nat.zero_add]
              refine wpAnyH_take (i := 0) (v := .pointer (some ⟨kf, 5, none⟩)) rfl (by kernel_rfl) (by kernel_rfl) (by kernel_rfl) (fun _ _ _ h => h) (Or.inl ⟨by rfl, fun w' hS => by go_simp⟩) hHeld ?_
              simp only [Act.put, gA9, gZ9, gC9, sA9, sZ9, sC9]
              refine wpAnyH_take (i := 1) (v := .slice (some ⟨bf, of, none⟩) fn f.sc) rfl (by kernel_rfl) (by kernel_rfl) (by kernel_rfl) (fun _ _ _ h => h) (Or.inl ⟨by rfl, fun w' hS => by (obtain ⟨t1, t2, t3, t4⟩ := hS; go_simp)⟩) hHeld ?_
              simp only [Act.put, gA9, gZ9, gC9, sA9, sZ9, sC9]
              refine wpAnyH_take (i := 2) (v := .int .i64 (i : Int)) rfl (by kernel_rfl) (by kernel_rfl) (by kernel_rfl) (fun _ _ _ h => h) (Or.inl ⟨by rfl, fun w' hS => by go_simp⟩) hHeld ?_
              simp only [Act.put, gA9, gZ9, gC9, sA9, sZ9, sC9]
              refine wpAnyH_take (i := 3) (v := .pointer (some ⟨bf, of + i * 2, none⟩)) rfl (by kernel_rfl) (by kernel_rfl) (by kernel_rfl) (fun _ _ _ h => h) (Or.inl ⟨by rfl, fun w' hS => by go_simp⟩) hHeld ?_
              simp only [Act.put, gA9, gZ9, gC9, sA9, sZ9, sC9]
              refine wpAnyH_take (i := 4) (v := .agg (slotV u).toArray) rfl (by kernel_rfl) (by kernel_rfl) (by kernel_rfl) (fun _ _ _ h => h) (yieldsIf_load_mid (by rfl) 70 (.tmp 35) rfl bf (of + i * 2) (by rfl) (slotV u) _ (fun w' hS => hS.2.2.1) Try.underlying70 rfl info_slot) hHeld ?_
              simp only [Act.put, gA9, gZ9, gC9, sA9, sZ9, sC9]
              refine wpAnyH_take (i := 5) (v := .pointer (some ⟨kg, 5, none⟩)) rfl (by kernel_rfl) (by kernel_rfl) (by kernel_rfl) (fun _ _ _ h => h) (Or.inl ⟨by rfl, fun w' hS => by go_simp⟩) hHeld ?_
              simp only [Act.put, gA9, gZ9, gC9, sA9, sZ9, sC9]
              refine wpAnyH_take (i := 6) (v := .slice (some ⟨bg, og, none⟩) gn g.sc) rfl (by kernel_rfl) (by kernel_rfl) (by kernel_rfl) (fun _ _ _ h => h) (Or.inl ⟨by rfl, fun w' hS => by (obtain ⟨t1, t2, t3, t4⟩ := hS; go_simp)⟩) hHeld ?_
              simp only [Act.put, gA9, gZ9, gC9, sA9, sZ9, sC9]
              refine wpAnyH_take (i := 7) (v := .int .i64 (j : Int)) rfl (by kernel_rfl) (by kernel_rfl) (by kernel_rfl) (fun _ _ _ h => h) (Or.inl ⟨by rfl, fun w' hS => by go_simp⟩) hHeld ?_
              simp only [Act.put, gA9, gZ9, gC9, sA9, sZ9, sC9]
              refine wpAnyH_take (i := 8) (v := .pointer (some ⟨bg, og + j * 2, none⟩)) rfl (by kernel_rfl) (by kernel_rfl) (by kernel_rfl) (fun _ _ _ h => h) (Or.inl ⟨by rfl, fun w' hS => by go_simp⟩) hHeld ?_
              simp only [Act.put, gA9, gZ9, gC9, sA9, sZ9, sC9]
              refine wpAnyH_take (i := 9) (v := .agg (slotV v).toArray) rfl (by kernel_rfl) (by kernel_rfl) (by kernel_rfl) (fun _ _ _ h => h) (yieldsIf_load_mid (by rfl) 70 (.tmp 40) rfl bg (og + j * 2) (by rfl) (slotV v) _ (fun w' hS => hS.2.2.2) Try.underlying70 rfl info_slot) hHeld ?_
              simp only [Act.put, gA9, gZ9, gC9, sA9, sZ9, sC9]
              refine wpAnyH_take (i := 10) (v := .bool false) rfl (by kernel_rfl) (by kernel_rfl) (by kernel_rfl) (fun _ _ _ h => h) (Or.inl ⟨by rfl, fun w' hS => run_eqlop 70 (.tmp 36) (.tmp 41) 70 rfl _ _ (by rfl) (by rfl) guard_slot false (HEq.out _)⟩) hHeld ?_
              simp only [Act.put, gA9, gZ9, gC9, sA9, sZ9, sC9]
              refine wpAnyH_take (i := 11) (v := .bool false) rfl (by kernel_rfl) (by kernel_rfl) (by kernel_rfl) (fun _ _ _ h => h) (Or.inl ⟨by rfl, fun w' hS => by go_simp⟩) hHeld ?_
              simp only [Act.put, gA9, gZ9, gC9, sA9, sZ9, sC9]
              refine wpAnyH_done (by kernel_rfl) ?_ _
              clear hHeld
              have Hr2 := Hr.out
              rw [Hu.out] at Hr2
              have Hr3 : Hid _ := Hr2
              clear Hr2
              go_wp2
              exact ⟨⟨j + 1, by omega, by go_num, Hr3.out, HW.out.drew⟩, by simp [intOf]; omega⟩
        · obtain rfl : gn = j := by omega
          have HR : Hid (∀ k, k < i + 1 → forkR f.c g.c k = false) := fun k hk => by
            by_cases e : k = i
            · subst e; exact HnR.out _ HM.out
            · exact HN.out k (by omega)
          go_wp2
          exact ⟨⟨i + 1, by omega, by go_num, HR.out, HW.out⟩, by simp [intOf]; omega⟩
    · obtain rfl : fn = i := by omega
      have HR : Hid (rr = false) := Hno.out HN.out
      go_wp2
      go_ret
      exact ⟨congrArg (fun b => Ending.returned (.bool b)) HR.out.symm, by rw [Hkf.out]; exact HB.out.trans (HW.out.mono HBz.out)⟩
end
end Go.Proofs.Ytihcaopcfhbofaa.Fm
