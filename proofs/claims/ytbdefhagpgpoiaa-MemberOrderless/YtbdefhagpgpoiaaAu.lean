import Derived.Test.YtbdefhagpgpoiaaAt
namespace Go.Proofs.Ytbdefhagpgpoiaa.Mb
open Go.RowKit
set_option linter.unusedVariables false
set_option maxRecDepth 100000
set_option linter.unusedSimpArgs false
section
variable {A A' : Ag} {w w' W : World} {B : Nat} {T : Int}
def Own3 (w : World) (B : Nat) (v : Value) (k : Nat) (ms : List Int) : Prop := w.ownsRow B 86 3 v k (ints ms)
theorem eq_nil_ (d : Nat) (ao : Option Addr) (k c : Nat) : (Op.equalIn (d + 1) 30 (.slice ao k c) (.slice none 0 0)).run Try.prog w = .ok ao.isNone w := by
  cases ao <;> simp [Op.equalIn, run_underlying Try.underlying30]
theorem eq_nil (ao : Option Addr) (k c : Nat) : (binOp .eql 30 (.slice ao k c) (.slice none 0 0)).run Try.prog w = .ok (.bool ao.isNone) w := by
  have h : (Op.equal 30 (.slice ao k c) (.slice none 0 0)).run Try.prog w = .ok ao.isNone w := eq_nil_ 9999 ao k c
  simp only [binOp]
  simp [h]
theorem clone_nil : Calls Try.prog 39 #[.slice none 0 0] w fun e w' => e = .returned (.slice none 0 0) ∧ w = w' := by
  have E := eq_nil (w := w) none 0 0
  go_enter Try.func39, Try.ntmps39
  go_wp2
  go_ret
  exact ⟨rfl, rfl⟩
set_option maxHeartbeats 1000000 in
theorem clone_any {g k c : Nat} {ms : List Int} (hr : RdM w (some ⟨g, 0, none⟩) k ms) (hk : 0 < k) (hk16 : k ≤ 16) : Calls Try.prog 39 #[.slice (some ⟨g, 0, none⟩) k c] w fun e w' => ∃ g' c', e = .returned (.slice (some ⟨g', 0, none⟩) k c') ∧ w'.ownsRow w.heap.size 86 3 (.slice (some ⟨g', 0, none⟩) k c') k (ints ms) ∧ Below w.heap.size w w' := by
  obtain ⟨j0, hj, hy0, hy1, hy2⟩ := info_parts info_m
  have hl : (ints ms).length = k * 3 := by rw [ints_len, hr.1]; omega
  obtain ⟨g2, hg2, hc⟩ : ∃ g2, (some (⟨g, 0, none⟩ : Addr)) = some ⟨g2, 0, none⟩ ∧ ∀ j, j < 3 * k → w.cell? ⟨g2, j, none⟩ = some (.int .i64 (ms.getD j 0)) := by
    rcases hr.2 with h0 | h1
    · omega
    · exact h1
  obtain rfl : g = g2 := by cases hg2; rfl
  have Hc : Hid (∀ W, Below w.heap.size w W → ∀ j u, (ints ms)[j]? = some u → W.cell? ((⟨g, 0, none⟩ : Addr).add j) = some u) := fun W hb j u hu => by
    have hj2 : j < (ints ms).length := (List.getElem?_eq_some_iff.1 hu).1
    rw [Addr.add_mid, Nat.zero_add, below_at hb (hc j (by omega))]
    rw [ints_at ms j (by rw [ints_len] at hj2; exact hj2)] at hu
    exact hu
  have E := eq_nil (w := w) (some ⟨g, 0, none⟩) k c
  simp only [Option.isNone] at E
  generalize hW0 : w.alloc (.cells #[] 86) = W0
  have HB0 : Hid (Below w.heap.size w W0) := by show Below _ _ _; rw [← hW0]; exact balloc (Below.refl _ _)
  have HO : Hid (W0.ownsRow w.heap.size 86 3 (.slice (some ⟨w.heap.size, 0, none⟩) 0 0) 0 []) := by
    refine ⟨rfl, .inr ⟨w.heap.size, 0, #[], rfl, Nat.le_refl _, ?_, Nat.le_refl _, Nat.zero_le _, rfl, rfl⟩⟩
    rw [← hW0]; exact heap_alloc_new w _
  clear hr hc hg2
  go_enter Try.func39, Try.ntmps39
  go_wp2_with (first
    | (at_builtin; refine wpList_append_lies _ rfl _ _ 30 rfl w.heap.size 86 j0 (.agg #[.int .i64 0, .int .i64 0, .int .i64 0]) 3 24 Try.underlying30 hj hy0 hy1 hy2 rfl (by omega) (.slice (some ⟨w.heap.size, 0, none⟩) 0 0) 0 [] rfl HO.out ⟨g, 0, none⟩ k c (ints ms) rfl hl (Hc.out W0 HB0.out) (ints_one ms) hk (by unfold maxLen; omega) (by omega) HB0.out.size _ rfl ?_; intro g3 cap3 w3 hown3 hgrow3 hat3 hlt3)
    | fail)
  go_ret
  refine ⟨g3, cap3, by simp, by simpa using hown3, ?_⟩
  exact HB0.out.grown hgrow3 HB0.out.size (fun q hq => (World.ownsRow.lt HO.out q hq).1)
set_option maxHeartbeats 2000000 in
theorem view_nil (h : A.Ok w B T) (hm : A.msv = .slice none 0 0) : Calls Try.prog 16 #[.pointer (some ⟨A.b, 0, none⟩)] w fun e w' => e = .returned (.agg #[.int .i64 (A.id.getD 0 0), .int .i64 (A.id.getD 1 0), .int .i64 (A.id.getD 2 0), .int .i64 (A.id.getD 3 0), .slice none 0 0]) ∧ Below w.heap.size w w' := by
  obtain ⟨x0, x1, x2, x3, hx4⟩ := list4e A.id h.il
  have len4 : [x0, x1, x2, x3].length = 4 := rfl
  generalize hW1 : w.alloc (.cells #[.int .i64 0, .int .i64 0, .int .i64 0, .int .i64 0, .slice none 0 0] 32) = W1
  have b1 : Below w.heap.size w W1 := hW1 ▸ balloc (Below.refl _ _)
  have HZ : Hid (W1.drew.heap[w.heap.size]? = some (.cells #[.int .i64 0, .int .i64 0, .int .i64 0, .int .i64 0, .slice none 0 0] 32 (0, 0))) := by show W1.heap[w.heap.size]? = _; rw [← hW1]; exact heap_alloc_new w _
  have hA := h.still b1
  have HA : Hid (A.Ok w B T) := h
  have HB1 : Hid (Below w.heap.size w W1) := b1
  have c0 : W1.rangeAt A.b 665 (ints [x0, x1, x2, x3]) := by have := hA.id_r; rwa [hx4] at this
  have c1 := hA.c669
  have Hx4 : Hid (A.id = [x0, x1, x2, x3]) := hx4
  have HC : Hid (∀ W, Calls Try.prog 39 #[A.msv] W fun e w' => e = .returned (.slice none 0 0) ∧ Below W.heap.size W w') := fun W => by rw [hm]; exact (clone_nil (w := W)).mono (fun e w' hh => ⟨hh.1, hh.2 ▸ Below.refl _ _⟩)
  clear h hA b1 hx4 hm
  go_enter Try.func16, Try.ntmps16
  go_wp2
  refine wp_region_held_drew (S := (fun w' => w'.rangeAt A.b 665 (ints [x0, x1, x2, x3]) ∧ w'.cell? ⟨A.b, 669, none⟩ = some A.msv)) (by kernel_rfl) ⟨(World.rangeAt_drew _ _ _ _).2 c0, below_at (Below.refl _ _).drew c1⟩ (fun hHeld => ?_)
  simp only [Act.put, List.size_toArray, List.length_cons, List.length_nil, Nat.zero_add]
  refine wpAnyH_take (i := 0) (v := .pointer (some ⟨A.b, 0, none⟩)) rfl (by kernel_rfl) (by kernel_rfl) (by kernel_rfl) (fun _ _ _ h => h) (Or.inl ⟨by rfl, fun w' hS => by go_simp⟩) hHeld ?_
  simp only [Act.put, List.getElem_toArray, List.getElem_cons_zero, List.getElem_cons_succ, List.setIfInBounds_toArray, List.set_cons_zero, List.set_cons_succ]
  refine wpAnyH_take (i := 1) (v := .pointer (some ⟨A.b, 0, none⟩)) rfl (by kernel_rfl) (by kernel_rfl) (by kernel_rfl) (fun _ _ _ h => h) (Or.inl ⟨by rfl, fun w' hS => by go_simp⟩) hHeld ?_
  simp only [Act.put, List.getElem_toArray, List.getElem_cons_zero, List.getElem_cons_succ, List.setIfInBounds_toArray, List.set_cons_zero, List.set_cons_succ]
  refine wpAnyH_take (i := 2) (v := .pointer (some ⟨A.b, 665, none⟩)) rfl (by kernel_rfl) (by kernel_rfl) (by kernel_rfl) (fun _ _ _ h => h) (Or.inl ⟨by rfl, fun w' hS => by go_simp⟩) hHeld ?_
  simp only [Act.put, List.getElem_toArray, List.getElem_cons_zero, List.getElem_cons_succ, List.setIfInBounds_toArray, List.set_cons_zero, List.set_cons_succ]
  refine wpAnyH_take (i := 3) (v := .pointer (some ⟨A.b, 665, none⟩)) rfl (by kernel_rfl) (by kernel_rfl) (by kernel_rfl) (fun _ _ _ h => h) (Or.inl ⟨by rfl, fun w' hS => by go_simp⟩) hHeld ?_
  simp only [Act.put, List.getElem_toArray, List.getElem_cons_zero, List.getElem_cons_succ, List.setIfInBounds_toArray, List.set_cons_zero, List.set_cons_succ]
  refine wpAnyH_take (i := 4) (v := .agg (ints [x0, x1, x2, x3]).toArray) rfl (by kernel_rfl) (by kernel_rfl) (by kernel_rfl) (fun _ _ _ h => h) (yieldsIf_load_mid (by rfl) 29 (.tmp 6) rfl A.b (665) (by rfl) (ints [x0, x1, x2, x3]) _ (fun w' hS => hS.1) Try.underlying29 rfl (by rw [ints_len, len4]; exact info_id)) hHeld ?_
  simp only [Act.put, List.getElem_toArray, List.getElem_cons_zero, List.getElem_cons_succ, List.setIfInBounds_toArray, List.set_cons_zero, List.set_cons_succ]
  refine wpAnyH_take (i := 5) (v := .pointer (some ⟨A.b, 0, none⟩)) rfl (by kernel_rfl) (by kernel_rfl) (by kernel_rfl) (fun _ _ _ h => h) (Or.inl ⟨by rfl, fun w' hS => by go_simp⟩) hHeld ?_
  simp only [Act.put, List.getElem_toArray, List.getElem_cons_zero, List.getElem_cons_succ, List.setIfInBounds_toArray, List.set_cons_zero, List.set_cons_succ]
  refine wpAnyH_take (i := 6) (v := .pointer (some ⟨A.b, 0, none⟩)) rfl (by kernel_rfl) (by kernel_rfl) (by kernel_rfl) (fun _ _ _ h => h) (Or.inl ⟨by rfl, fun w' hS => by go_simp⟩) hHeld ?_
  simp only [Act.put, List.getElem_toArray, List.getElem_cons_zero, List.getElem_cons_succ, List.setIfInBounds_toArray, List.set_cons_zero, List.set_cons_succ]
  refine wpAnyH_take (i := 7) (v := .pointer (some ⟨A.b, 665, none⟩)) rfl (by kernel_rfl) (by kernel_rfl) (by kernel_rfl) (fun _ _ _ h => h) (Or.inl ⟨by rfl, fun w' hS => by go_simp⟩) hHeld ?_
  simp only [Act.put, List.getElem_toArray, List.getElem_cons_zero, List.getElem_cons_succ, List.setIfInBounds_toArray, List.set_cons_zero, List.set_cons_succ]
  refine wpAnyH_take (i := 8) (v := .pointer (some ⟨A.b, 669, none⟩)) rfl (by kernel_rfl) (by kernel_rfl) (by kernel_rfl) (fun _ _ _ h => h) (Or.inl ⟨by rfl, fun w' hS => by go_simp⟩) hHeld ?_
  simp only [Act.put, List.getElem_toArray, List.getElem_cons_zero, List.getElem_cons_succ, List.setIfInBounds_toArray, List.set_cons_zero, List.set_cons_succ]
  refine wpAnyH_take (i := 9) (v := A.msv) rfl (by kernel_rfl) (by kernel_rfl) (by kernel_rfl) (fun _ _ _ h => h) (Or.inl ⟨by rfl, fun w' hS => by (obtain ⟨s0, s1⟩ := hS; go_simp)⟩) hHeld ?_
  simp only [Act.put, List.getElem_toArray, List.getElem_cons_zero, List.getElem_cons_succ, List.setIfInBounds_toArray, List.set_cons_zero, List.set_cons_succ]
  refine wpAnyH_ready (rs := [10]) (by kernel_rfl) (by simp) ?_
  refine AllReadyH.cons rfl (fun K hK => ?_) AllReadyH.nil
  go_simp
  refine (HC.out _).mono ?_
  rintro e V1 ⟨rfl, hb1⟩
  refine hK.out _ _ ⟨rng_below hHeld.1 hb1, below_at hb1 hHeld.2⟩ (fun hHeld => ?_)
  clear hK K
  refine wpAnyH_take (i := 11) (v := .agg #[.int .i64 x0, .int .i64 x1, .int .i64 x2, .int .i64 x3, .slice none 0 0]) rfl (by kernel_rfl) (by kernel_rfl) (by kernel_rfl) (fun _ _ _ h => h) (Or.inl ⟨by rfl, fun w' hS => run_buildop 32 _ rfl _ (by kernel_rfl)⟩) hHeld ?_
  simp only [Act.put, List.getElem_toArray, List.getElem_cons_zero, List.getElem_cons_succ, List.setIfInBounds_toArray, List.set_cons_zero, List.set_cons_succ]
  refine wpAnyH_ready (rs := [12]) (by kernel_rfl) (by simp) ?_
  refine AllReadyH.cons rfl (fun K hK => ?_) AllReadyH.nil
  have hZ2 : V1.heap[w.heap.size]? = some (.cells #[.int .i64 0, .int .i64 0, .int .i64 0, .int .i64 0, .slice none 0 0] 32 (0, 0)) := (hb1.block _ (lt_heap HZ.out)).trans HZ.out
  have hB2 : Below w.heap.size w V1 := bstep (bstep HB1.out (Below.refl _ _).drew) hb1
  split
  · refine wp_store_row 32 (.tmp 2) (.tmp 14) rfl w.heap.size #[.int .i64 x0, .int .i64 x1, .int .i64 x2, .int .i64 x3, .slice none 0 0] rfl rfl 32 _ hZ2 (by kernel_rfl) (by rfl) (by simp [Value.oneCell']) ?_
    have hF := setRow_heap V1 w.heap.size _ #[.int .i64 x0, .int .i64 x1, .int .i64 x2, .int .i64 x3, .slice none 0 0] 32 _ hZ2
    have hBF : Below w.heap.size w (V1.setRow w.heap.size #[.int .i64 x0, .int .i64 x1, .int .i64 x2, .int .i64 x3, .slice none 0 0]) := below_setRow hB2 (Nat.le_refl _) _
    have kF : Kept V1 (V1.setRow w.heap.size #[.int .i64 x0, .int .i64 x1, .int .i64 x2, .int .i64 x3, .slice none 0 0]) (fun j => j = w.heap.size) := ⟨rfl, rfl, rfl, by simp [World.setRow], fun k hk hp => setRow_other V1 _ k _ hp⟩
    have hAF := HA.out.still hBF
    generalize V1.setRow w.heap.size #[.int .i64 x0, .int .i64 x1, .int .i64 x2, .int .i64 x3, .slice none 0 0] = F at *
    refine hK.out _ _ ⟨by have := hAF.id_r; rwa [Hx4.out] at this, hAF.c669⟩ (fun hHeld => ?_)
    clear hK K hHeld
    refine wpAnyH_done (by kernel_rfl) ?_ _
    go_wp2
    (try simp only [Exit.inBlock, Exit.then])
    refine bodyPost_ret (v := .agg #[.int .i64 x0, .int .i64 x1, .int .i64 x2, .int .i64 x3, .slice none 0 0]) ?_ ?_ ?_
    · exact results_cell_row rfl _ _ w.heap.size 32 _ (0, 0) _ rfl hF Try.underlying32 rfl (by kernel_rfl)
    · rfl
    · exact ⟨by rw [Hx4.out]; rfl, hBF⟩
  · rename_i hh; exact absurd rfl hh
set_option maxHeartbeats 2000000 in
theorem view_any (h : A.Ok w B T) (g c : Nat) (hm : A.msv = .slice (some ⟨g, 0, none⟩) A.k c) (hk : 0 < A.k) : Calls Try.prog 16 #[.pointer (some ⟨A.b, 0, none⟩)] w fun e w' => ∃ g' c', e = .returned (.agg #[.int .i64 (A.id.getD 0 0), .int .i64 (A.id.getD 1 0), .int .i64 (A.id.getD 2 0), .int .i64 (A.id.getD 3 0), .slice (some ⟨g', 0, none⟩) A.k c']) ∧ w'.ownsRow w.heap.size 86 3 (.slice (some ⟨g', 0, none⟩) A.k c') A.k (ints A.ms) ∧ Below w.heap.size w w' := by
  obtain ⟨x0, x1, x2, x3, hx4⟩ := list4e A.id h.il
  have len4 : [x0, x1, x2, x3].length = 4 := rfl
  generalize hW1 : w.alloc (.cells #[.int .i64 0, .int .i64 0, .int .i64 0, .int .i64 0, .slice none 0 0] 32) = W1
  have b1 : Below w.heap.size w W1 := hW1 ▸ balloc (Below.refl _ _)
  have hs1 : w.heap.size < W1.heap.size := by rw [← hW1]; simp
  have HZ : Hid (W1.drew.heap[w.heap.size]? = some (.cells #[.int .i64 0, .int .i64 0, .int .i64 0, .int .i64 0, .slice none 0 0] 32 (0, 0))) := by show W1.heap[w.heap.size]? = _; rw [← hW1]; exact heap_alloc_new w _
  have hA := h.still b1
  have HA : Hid (A.Ok w B T) := h
  have HB1 : Hid (Below w.heap.size w W1) := b1
  have c0 : W1.rangeAt A.b 665 (ints [x0, x1, x2, x3]) := by have := hA.id_r; rwa [hx4] at this
  have c1 := hA.c669
  have Hx4 : Hid (A.id = [x0, x1, x2, x3]) := hx4
  have HC : Hid (Calls Try.prog 39 #[A.msv] W1.drew fun e w' => ∃ g' c', e = .returned (.slice (some ⟨g', 0, none⟩) A.k c') ∧ w'.ownsRow W1.drew.heap.size 86 3 (.slice (some ⟨g', 0, none⟩) A.k c') A.k (ints A.ms) ∧ Below W1.drew.heap.size W1.drew w') := by
    have hmem := (hA.still (Below.refl _ _).drew).mem
    rw [hm] at hmem ⊢
    exact clone_any (own_rdM hmem) hk h.ml.2
  clear h hA b1 hx4 hm
  go_enter Try.func16, Try.ntmps16
  go_wp2
  refine wp_region_held_drew (S := (fun w' => w'.rangeAt A.b 665 (ints [x0, x1, x2, x3]) ∧ w'.cell? ⟨A.b, 669, none⟩ = some A.msv)) (by kernel_rfl) ⟨(World.rangeAt_drew _ _ _ _).2 c0, below_at (Below.refl _ _).drew c1⟩ (fun hHeld => ?_)
  simp only [Act.put, List.size_toArray, List.length_cons, List.length_nil, Nat.zero_add]
  refine wpAnyH_take (i := 0) (v := .pointer (some ⟨A.b, 0, none⟩)) rfl (by kernel_rfl) (by kernel_rfl) (by kernel_rfl) (fun _ _ _ h => h) (Or.inl ⟨by rfl, fun w' hS => by go_simp⟩) hHeld ?_
  simp only [Act.put, List.getElem_toArray, List.getElem_cons_zero, List.getElem_cons_succ, List.setIfInBounds_toArray, List.set_cons_zero, List.set_cons_succ]
  refine wpAnyH_take (i := 1) (v := .pointer (some ⟨A.b, 0, none⟩)) rfl (by kernel_rfl) (by kernel_rfl) (by kernel_rfl) (fun _ _ _ h => h) (Or.inl ⟨by rfl, fun w' hS => by go_simp⟩) hHeld ?_
  simp only [Act.put, List.getElem_toArray, List.getElem_cons_zero, List.getElem_cons_succ, List.setIfInBounds_toArray, List.set_cons_zero, List.set_cons_succ]
  refine wpAnyH_take (i := 2) (v := .pointer (some ⟨A.b, 665, none⟩)) rfl (by kernel_rfl) (by kernel_rfl) (by kernel_rfl) (fun _ _ _ h => h) (Or.inl ⟨by rfl, fun w' hS => by go_simp⟩) hHeld ?_
  simp only [Act.put, List.getElem_toArray, List.getElem_cons_zero, List.getElem_cons_succ, List.setIfInBounds_toArray, List.set_cons_zero, List.set_cons_succ]
  refine wpAnyH_take (i := 3) (v := .pointer (some ⟨A.b, 665, none⟩)) rfl (by kernel_rfl) (by kernel_rfl) (by kernel_rfl) (fun _ _ _ h => h) (Or.inl ⟨by rfl, fun w' hS => by go_simp⟩) hHeld ?_
  simp only [Act.put, List.getElem_toArray, List.getElem_cons_zero, List.getElem_cons_succ, List.setIfInBounds_toArray, List.set_cons_zero, List.set_cons_succ]
  refine wpAnyH_take (i := 4) (v := .agg (ints [x0, x1, x2, x3]).toArray) rfl (by kernel_rfl) (by kernel_rfl) (by kernel_rfl) (fun _ _ _ h => h) (yieldsIf_load_mid (by rfl) 29 (.tmp 6) rfl A.b (665) (by rfl) (ints [x0, x1, x2, x3]) _ (fun w' hS => hS.1) Try.underlying29 rfl (by rw [ints_len, len4]; exact info_id)) hHeld ?_
  simp only [Act.put, List.getElem_toArray, List.getElem_cons_zero, List.getElem_cons_succ, List.setIfInBounds_toArray, List.set_cons_zero, List.set_cons_succ]
  refine wpAnyH_take (i := 5) (v := .pointer (some ⟨A.b, 0, none⟩)) rfl (by kernel_rfl) (by kernel_rfl) (by kernel_rfl) (fun _ _ _ h => h) (Or.inl ⟨by rfl, fun w' hS => by go_simp⟩) hHeld ?_
  simp only [Act.put, List.getElem_toArray, List.getElem_cons_zero, List.getElem_cons_succ, List.setIfInBounds_toArray, List.set_cons_zero, List.set_cons_succ]
  refine wpAnyH_take (i := 6) (v := .pointer (some ⟨A.b, 0, none⟩)) rfl (by kernel_rfl) (by kernel_rfl) (by kernel_rfl) (fun _ _ _ h => h) (Or.inl ⟨by rfl, fun w' hS => by go_simp⟩) hHeld ?_
  simp only [Act.put, List.getElem_toArray, List.getElem_cons_zero, List.getElem_cons_succ, List.setIfInBounds_toArray, List.set_cons_zero, List.set_cons_succ]
  refine wpAnyH_take (i := 7) (v := .pointer (some ⟨A.b, 665, none⟩)) rfl (by kernel_rfl) (by kernel_rfl) (by kernel_rfl) (fun _ _ _ h => h) (Or.inl ⟨by rfl, fun w' hS => by go_simp⟩) hHeld ?_
  simp only [Act.put, List.getElem_toArray, List.getElem_cons_zero, List.getElem_cons_succ, List.setIfInBounds_toArray, List.set_cons_zero, List.set_cons_succ]
  refine wpAnyH_take (i := 8) (v := .pointer (some ⟨A.b, 669, none⟩)) rfl (by kernel_rfl) (by kernel_rfl) (by kernel_rfl) (fun _ _ _ h => h) (Or.inl ⟨by rfl, fun w' hS => by go_simp⟩) hHeld ?_
  simp only [Act.put, List.getElem_toArray, List.getElem_cons_zero, List.getElem_cons_succ, List.setIfInBounds_toArray, List.set_cons_zero, List.set_cons_succ]
  refine wpAnyH_take (i := 9) (v := A.msv) rfl (by kernel_rfl) (by kernel_rfl) (by kernel_rfl) (fun _ _ _ h => h) (Or.inl ⟨by rfl, fun w' hS => by (obtain ⟨s0, s1⟩ := hS; go_simp)⟩) hHeld ?_
  simp only [Act.put, List.getElem_toArray, List.getElem_cons_zero, List.getElem_cons_succ, List.setIfInBounds_toArray, List.set_cons_zero, List.set_cons_succ]
  refine wpAnyH_ready (rs := [10]) (by kernel_rfl) (by simp) ?_
  refine AllReadyH.cons rfl (fun K hK => ?_) AllReadyH.nil
  go_simp
  refine (HC.out).mono ?_
  rintro e V1 ⟨g1, q1, rfl, ho1, hb1⟩
  refine hK.out _ _ ⟨rng_below hHeld.1 hb1, below_at hb1 hHeld.2⟩ (fun hHeld => ?_)
  clear hK K
  refine wpAnyH_take (i := 11) (v := .agg #[.int .i64 x0, .int .i64 x1, .int .i64 x2, .int .i64 x3, .slice (some ⟨g1, 0, none⟩) A.k q1]) rfl (by kernel_rfl) (by kernel_rfl) (by kernel_rfl) (fun _ _ _ h => h) (Or.inl ⟨by rfl, fun w' hS => run_buildop 32 _ rfl _ (by kernel_rfl)⟩) hHeld ?_
  simp only [Act.put, List.getElem_toArray, List.getElem_cons_zero, List.getElem_cons_succ, List.setIfInBounds_toArray, List.set_cons_zero, List.set_cons_succ]
  refine wpAnyH_ready (rs := [12]) (by kernel_rfl) (by simp) ?_
  refine AllReadyH.cons rfl (fun K hK => ?_) AllReadyH.nil
  have hZ2 : V1.heap[w.heap.size]? = some (.cells #[.int .i64 0, .int .i64 0, .int .i64 0, .int .i64 0, .slice none 0 0] 32 (0, 0)) := (hb1.block _ (lt_heap HZ.out)).trans HZ.out
  have hB2 : Below w.heap.size w V1 := bstep (bstep HB1.out (Below.refl _ _).drew) hb1
  split
  · refine wp_store_row 32 (.tmp 2) (.tmp 14) rfl w.heap.size #[.int .i64 x0, .int .i64 x1, .int .i64 x2, .int .i64 x3, .slice (some ⟨g1, 0, none⟩) A.k q1] rfl rfl 32 _ hZ2 (by kernel_rfl) (by rfl) (by simp [Value.oneCell']) ?_
    have hF := setRow_heap V1 w.heap.size _ #[.int .i64 x0, .int .i64 x1, .int .i64 x2, .int .i64 x3, .slice (some ⟨g1, 0, none⟩) A.k q1] 32 _ hZ2
    have hBF : Below w.heap.size w (V1.setRow w.heap.size #[.int .i64 x0, .int .i64 x1, .int .i64 x2, .int .i64 x3, .slice (some ⟨g1, 0, none⟩) A.k q1]) := below_setRow hB2 (Nat.le_refl _) _
    have kF : Kept V1 (V1.setRow w.heap.size #[.int .i64 x0, .int .i64 x1, .int .i64 x2, .int .i64 x3, .slice (some ⟨g1, 0, none⟩) A.k q1]) (fun j => j = w.heap.size) := ⟨rfl, rfl, rfl, by simp [World.setRow], fun k hk hp => setRow_other V1 _ k _ hp⟩
    have hAF := HA.out.still hBF
    generalize V1.setRow w.heap.size #[.int .i64 x0, .int .i64 x1, .int .i64 x2, .int .i64 x3, .slice (some ⟨g1, 0, none⟩) A.k q1] = F at *
    refine hK.out _ _ ⟨by have := hAF.id_r; rwa [Hx4.out] at this, hAF.c669⟩ (fun hHeld => ?_)
    clear hK K hHeld
    refine wpAnyH_done (by kernel_rfl) ?_ _
    go_wp2
    (try simp only [Exit.inBlock, Exit.then])
    refine bodyPost_ret (v := .agg #[.int .i64 x0, .int .i64 x1, .int .i64 x2, .int .i64 x3, .slice (some ⟨g1, 0, none⟩) A.k q1]) ?_ ?_ ?_
    · exact results_cell_row rfl _ _ w.heap.size 32 _ (0, 0) _ rfl hF Try.underlying32 rfl (by kernel_rfl)
    · rfl
    · exact ⟨g1, q1, by rw [Hx4.out]; rfl, own_lower (kF.owns ho1 (fun k hk e => by have := (World.ownsRow.lt ho1 k hk).1; have hh : W1.heap.size ≤ k := this; omega)) (Nat.le_of_lt hs1), hBF⟩
  · rename_i hh; exact absurd rfl hh
end
end Go.Proofs.Ytbdefhagpgpoiaa.Mb
