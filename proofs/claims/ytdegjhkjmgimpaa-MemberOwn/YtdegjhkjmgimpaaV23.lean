import Derived.Test.YtdegjhkjmgimpaaV22
namespace Go.Proofs.Ytdegjhkjmgimpaa.Mb
open Go.RowKit
set_option linter.unusedVariables false
set_option maxRecDepth 100000
set_option linter.unusedSimpArgs false
section
variable {A A' : Ag} {w w' W : World} {B : Nat} {T : Int}
theorem eq_nil_ (d : Nat) (ao : Option Addr) (k c : Nat) : (Op.equalIn (d + 1) 40 (.slice ao k c) (.slice none 0 0)).run Try.prog w = .ok ao.isNone w := by
  cases ao <;> simp [Op.equalIn, run_underlying Try.underlying40]
theorem eq_nil (ao : Option Addr) (k c : Nat) : (binOp .eql 40 (.slice ao k c) (.slice none 0 0)).run Try.prog w = .ok (.bool ao.isNone) w := by
  have h : (Op.equal 40 (.slice ao k c) (.slice none 0 0)).run Try.prog w = .ok ao.isNone w := eq_nil_ 9999 ao k c
  simp only [binOp]
  simp [h]
theorem clone_nil : Calls Try.prog 30 #[.slice none 0 0] w fun e w' => e = .returned (.slice none 0 0) ∧ w = w' := by
  have E := eq_nil (w := w) none 0 0
  go_enter Try.func30, Try.ntmps30
  go_wp2
  go_ret
  exact ⟨rfl, rfl⟩
set_option maxHeartbeats 1000000 in
theorem clone_any {g k c : Nat} {ms : List Int} (hr : RdM w (some ⟨g, 0, none⟩) k ms) (hk : 0 < k) (hk16 : k ≤ 16) : Calls Try.prog 30 #[.slice (some ⟨g, 0, none⟩) k c] w fun e w' => ∃ g' c', e = .returned (.slice (some ⟨g', 0, none⟩) k c') ∧ w'.ownsRow w.heap.size 79 3 (.slice (some ⟨g', 0, none⟩) k c') k (ints ms) ∧ Below w.heap.size w w' := by
  obtain ⟨j0, hj, hy0, hy1, hy2⟩ := info_parts info_m
  have hl : (ints ms).length = k * 3 := by rw [ints_len, hr.1]; omega
  obtain ⟨g2, hg2, hc⟩ : ∃ g2, (some (⟨g, 0, none⟩ : Addr)) = some ⟨g2, 0, none⟩ ∧ ∀ j, j < 3 * k → w.cell? ⟨g2, j, none⟩ = some (.int .i64 (ms.getD j 0)) := by
    rcases hr.2 with h0 | h1
    · omega
    · exact h1
  obtain rfl : g = g2 := by cases hg2; rfl
  have Hc : Hid (∀ W, Below w.heap.size w W → ∀ j u, (ints ms)[j]? = some u → W.cell? ((⟨g, 0, none⟩ : Addr).add j) = some u) := fun W hb j u hu => by
    have hj2 : j < (ints ms).length := (List.getElem?_eq_some_iff.1 hu).1
    rw [Addr.add_mid, Nat.zero_add, below_at hb (hc j (by omega))]
    rw [ints_at ms j (by rw [ints_len] at hj2; exact hj2)] at hu
    exact hu
  have E := eq_nil (w := w) (some ⟨g, 0, none⟩) k c
  simp only [Option.isNone] at E
  generalize hW0 : w.alloc (.cells #[] 79) = W0
  have HB0 : Hid (Below w.heap.size w W0) := by show Below _ _ _; rw [← hW0]; exact balloc (Below.refl _ _)
  have HO : Hid (W0.ownsRow w.heap.size 79 3 (.slice (some ⟨w.heap.size, 0, none⟩) 0 0) 0 []) := by
    refine ⟨rfl, .inr ⟨w.heap.size, 0, #[], rfl, Nat.le_refl _, ?_, Nat.le_refl _, Nat.zero_le _, rfl, rfl⟩⟩
    rw [← hW0]; exact heap_alloc_new w _
  clear hr hc hg2
  go_enter Try.func30, Try.ntmps30
  go_wp2_with (first
    | (at_builtin; refine wpList_append_lies _ rfl _ _ 40 rfl w.heap.size 79 j0 (.agg #[.int .i64 0, .int .i64 0, .int .i64 0]) 3 24 Try.underlying40 hj hy0 hy1 hy2 rfl (by omega) (.slice (some ⟨w.heap.size, 0, none⟩) 0 0) 0 [] rfl HO.out ⟨g, 0, none⟩ k c (ints ms) rfl hl (Hc.out W0 HB0.out) (ints_one ms) hk (by unfold maxLen; omega) (by omega) HB0.out.size _ rfl ?_; intro g3 cap3 w3 hown3 hgrow3 hat3 hlt3)
    | fail)
  go_ret
  refine ⟨g3, cap3, by simp, by simpa using hown3, ?_⟩
  exact HB0.out.grown hgrow3 HB0.out.size (fun q hq => (World.ownsRow.lt HO.out q hq).1)
set_option maxHeartbeats 2000000 in
theorem view_nil (h : A.Ok w B T) (hm : A.msv = .slice none 0 0) : Calls Try.prog 18 #[.pointer (some ⟨A.b, 0, none⟩)] w fun e w' => e = .returned (.agg #[.int .i64 (A.id.getD 0 0), .int .i64 (A.id.getD 1 0), .int .i64 (A.id.getD 2 0), .int .i64 (A.id.getD 3 0), .slice none 0 0]) ∧ Below w.heap.size w w' := by
  obtain ⟨x0, x1, x2, x3, hx4⟩ := list4e A.id h.il
  have len4 : [x0, x1, x2, x3].length = 4 := rfl
  generalize hW1 : w.alloc (.cells #[.int .i64 0, .int .i64 0, .int .i64 0, .int .i64 0, .slice none 0 0] 42) = W1
  have b1 : Below w.heap.size w W1 := hW1 ▸ balloc (Below.refl _ _)
  have HZ : Hid (W1.drew.heap[w.heap.size]? = some (.cells #[.int .i64 0, .int .i64 0, .int .i64 0, .int .i64 0, .slice none 0 0] 42 (0, 0))) := by show W1.heap[w.heap.size]? = _; rw [← hW1]; exact heap_alloc_new w _
  have hA := h.still b1
  have HA : Hid (A.Ok w B T) := h
  have HB1 : Hid (Below w.heap.size w W1) := b1
  have c0 : W1.rangeAt A.b 665 (ints [x0, x1, x2, x3]) := by have := hA.id_r; rwa [hx4] at this
  have c1 := hA.c669
  have Hx4 : Hid (A.id = [x0, x1, x2, x3]) := hx4
  have HC : Hid (∀ W, Calls Try.prog 30 #[A.msv] W fun e w' => e = .returned (.slice none 0 0) ∧ Below W.heap.size W w') := fun W => by rw [hm]; exact (clone_nil (w := W)).mono (fun e w' hh => ⟨hh.1, hh.2 ▸ Below.refl _ _⟩)
  clear h hA b1 hx4 hm
  go_enter Try.func18, Try.ntmps18
  go_wp2
  refine wp_region_held_drew (S := (fun w' => w'.rangeAt A.b 665 (ints [x0, x1, x2, x3]) ∧ w'.cell? ⟨A.b, 669, none⟩ = some A.msv)) (by kernel_rfl) ⟨(World.rangeAt_drew _ _ _ _).2 c0, below_at (Below.refl _ _).drew c1⟩ (fun hHeld => ?_)
  simp only [Act.put, List.size_toArray, List.length_cons, List.length_nil, Nat.zero_add]
  refine wpAnyH_take (i := 0) (v := .pointer (some ⟨A.b, 0, none⟩)) rfl (by kernel_rfl) (by kernel_rfl) (by kernel_rfl) (fun _ _ _ h => h) (Or.inl ⟨by rfl, fun w' hS => by go_simp⟩) hHeld ?_
  simp only [Act.put, gA9, gZ9, gC9, sA9, sZ9, sC9]
  refine wpAnyH_take (i := 1) (v := .pointer (some ⟨A.b, 0, none⟩)) rfl (by kernel_rfl) (by kernel_rfl) (by kernel_rfl) (fun _ _ _ h => h) (Or.inl ⟨by rfl, fun w' hS => by go_simp⟩) hHeld ?_
  simp only [Act.put, gA9, gZ9, gC9, sA9, sZ9, sC9]
  refine wpAnyH_take (i := 2) (v := .pointer (some ⟨A.b, 665, none⟩)) rfl (by kernel_rfl) (by kernel_rfl) (by kernel_rfl) (fun _ _ _ h => h) (Or.inl ⟨by rfl, fun w' hS => by go_simp⟩) hHeld ?_
  simp only [Act.put, gA9, gZ9, gC9, sA9, sZ9, sC9]
  refine wpAnyH_take (i := 3) (v := .pointer (some ⟨A.b, 665, none⟩)) rfl (by kernel_rfl) (by kernel_rfl) (by kernel_rfl) (fun _ _ _ h => h) (Or.inl ⟨by rfl, fun w' hS => by go_simp⟩) hHeld ?_
  simp only [Act.put, gA9, gZ9, gC9, sA9, sZ9, sC9]
  refine wpAnyH_take (i := 4) (v := .agg (ints [x0, x1, x2, x3]).toArray) rfl (by kernel_rfl) (by kernel_rfl) (by kernel_rfl) (fun _ _ _ h => h) (yieldsIf_load_mid (by rfl) 31 (.tmp 6) rfl A.b (665) (by rfl) (ints [x0, x1, x2, x3]) _ (fun w' hS => hS.1) Try.underlying31 rfl (by rw [ints_len, len4]; exact info_id)) hHeld ?_
  simp only [Act.put, gA9, gZ9, gC9, sA9, sZ9, sC9]
  refine wpAnyH_take (i := 5) (v := .pointer (some ⟨A.b, 0, none⟩)) rfl (by kernel_rfl) (by kernel_rfl) (by kernel_rfl) (fun _ _ _ h => h) (Or.inl ⟨by rfl, fun w' hS => by go_simp⟩) hHeld ?_
  simp only [Act.put, gA9, gZ9, gC9, sA9, sZ9, sC9]
  refine wpAnyH_take (i := 6) (v := .pointer (some ⟨A.b, 0, none⟩)) rfl (by kernel_rfl) (by kernel_rfl) (by kernel_rfl) (fun _ _ _ h => h) (Or.inl ⟨by rfl, fun w' hS => by go_simp⟩) hHeld ?_
  simp only [Act.put, gA9, gZ9, gC9, sA9, sZ9, sC9]
  refine wpAnyH_take (i := 7) (v := .pointer (some ⟨A.b, 665, none⟩)) rfl (by kernel_rfl) (by kernel_rfl) (by kernel_rfl) (fun _ _ _ h => h) (Or.inl ⟨by rfl, fun w' hS => by go_simp⟩) hHeld ?_
  simp only [Act.put, gA9, gZ9, gC9, sA9, sZ9, sC9]
  refine wpAnyH_take (i := 8) (v := .pointer (some ⟨A.b, 669, none⟩)) rfl (by kernel_rfl) (by kernel_rfl) (by kernel_rfl) (fun _ _ _ h => h) (Or.inl ⟨by rfl, fun w' hS => by go_simp⟩) hHeld ?_
  simp only [Act.put, gA9, gZ9, gC9, sA9, sZ9, sC9]
  refine wpAnyH_take (i := 9) (v := A.msv) rfl (by kernel_rfl) (by kernel_rfl) (by kernel_rfl) (fun _ _ _ h => h) (Or.inl ⟨by rfl, fun w' hS => by (obtain ⟨s0, s1⟩ := hS; go_simp)⟩) hHeld ?_
  simp only [Act.put, gA9, gZ9, gC9, sA9, sZ9, sC9]
  refine wpAnyH_ready (rs := [10]) (by kernel_rfl) (by simp) ?_
  refine AllReadyH.cons rfl (fun K hK => ?_) AllReadyH.nil
  go_simp
  refine (HC.out _).mono ?_
  rintro e V1 ⟨rfl, hb1⟩
  refine hK.out _ _ ⟨rng_below hHeld.1 hb1, below_at hb1 hHeld.2⟩ (fun hHeld => ?_)
  clear hK K
  refine wpAnyH_take (i := 11) (v := .agg #[.int .i64 x0, .int .i64 x1, .int .i64 x2, .int .i64 x3, .slice none 0 0]) rfl (by kernel_rfl) (by kernel_rfl) (by kernel_rfl) (fun _ _ _ h => h) (Or.inl ⟨by rfl, fun w' hS => run_buildop 42 _ rfl _ (by kernel_rfl)⟩) hHeld ?_
  simp only [Act.put, gA9, gZ9, gC9, sA9, sZ9, sC9]
  refine wpAnyH_ready (rs := [12]) (by kernel_rfl) (by simp) ?_
  refine AllReadyH.cons rfl (fun K hK => ?_) AllReadyH.nil
  have hZ2 : V1.heap[w.heap.size]? = some (.cells #[.int .i64 0, .int .i64 0, .int .i64 0, .int .i64 0, .slice none 0 0] 42 (0, 0)) := (hb1.block _ (lt_heap HZ.out)).trans HZ.out
  have hB2 : Below w.heap.size w V1 := bstep (bstep HB1.out (Below.refl _ _).drew) hb1
  split
  · refine wp_store_row 42 (.tmp 2) (.tmp 14) rfl w.heap.size #[.int .i64 x0, .int .i64 x1, .int .i64 x2, .int .i64 x3, .slice none 0 0] rfl rfl 42 _ hZ2 (by kernel_rfl) (by rfl) (by simp [Value.oneCell']) ?_
    have hF := setRow_heap V1 w.heap.size _ #[.int .i64 x0, .int .i64 x1, .int .i64 x2, .int .i64 x3, .slice none 0 0] 42 _ hZ2
    have hBF : Below w.heap.size w (V1.setRow w.heap.size #[.int .i64 x0, .int .i64 x1, .int .i64 x2, .int .i64 x3, .slice none 0 0]) := below_setRow hB2 (Nat.le_refl _) _
    have kF : Kept V1 (V1.setRow w.heap.size #[.int .i64 x0, .int .i64 x1, .int .i64 x2, .int .i64 x3, .slice none 0 0]) (fun j => j = w.heap.size) := ⟨rfl, rfl, rfl, by simp [World.setRow], fun k hk hp => setRow_other V1 _ k _ hp⟩
    have hAF := HA.out.still hBF
    generalize V1.setRow w.heap.size #[.int .i64 x0, .int .i64 x1, .int .i64 x2, .int .i64 x3, .slice none 0 0] = F at *
    refine hK.out _ _ ⟨by have := hAF.id_r; rwa [Hx4.out] at this, hAF.c669⟩ (fun hHeld => ?_)
    clear hK K hHeld
    refine wpAnyH_done (by kernel_rfl) ?_ _
    go_wp2
    (try simp only [Exit.inBlock, Exit.then])
    refine bodyPost_ret (v := .agg #[.int .i64 x0, .int .i64 x1, .int .i64 x2, .int .i64 x3, .slice none 0 0]) ?_ ?_ ?_
    · exact results_cell_row rfl _ _ w.heap.size 42 _ (0, 0) _ rfl hF Try.underlying42 rfl (by kernel_rfl)
    · rfl
    · exact ⟨by rw [Hx4.out]; rfl, hBF⟩
  · rename_i hh; exact absurd rfl hh
set_option maxHeartbeats 2000000 in
theorem view_any (h : A.Ok w B T) (g c : Nat) (hm : A.msv = .slice (some ⟨g, 0, none⟩) A.k c) (hk : 0 < A.k) : Calls Try.prog 18 #[.pointer (some ⟨A.b, 0, none⟩)] w fun e w' => ∃ g' c', e = .returned (.agg #[.int .i64 (A.id.getD 0 0), .int .i64 (A.id.getD 1 0), .int .i64 (A.id.getD 2 0), .int .i64 (A.id.getD 3 0), .slice (some ⟨g', 0, none⟩) A.k c']) ∧ w'.ownsRow w.heap.size 79 3 (.slice (some ⟨g', 0, none⟩) A.k c') A.k (ints A.ms) ∧ Below w.heap.size w w' := by
  obtain ⟨x0, x1, x2, x3, hx4⟩ := list4e A.id h.il
  have len4 : [x0, x1, x2, x3].length = 4 := rfl
  generalize hW1 : w.alloc (.cells #[.int .i64 0, .int .i64 0, .int .i64 0, .int .i64 0, .slice none 0 0] 42) = W1
  have b1 : Below w.heap.size w W1 := hW1 ▸ balloc (Below.refl _ _)
  have hs1 : w.heap.size < W1.heap.size := by rw [← hW1]; simp
  have HZ : Hid (W1.drew.heap[w.heap.size]? = some (.cells #[.int .i64 0, .int .i64 0, .int .i64 0, .int .i64 0, .slice none 0 0] 42 (0, 0))) := by show W1.heap[w.heap.size]? = _; rw [← hW1]; exact heap_alloc_new w _
  have hA := h.still b1
  have HA : Hid (A.Ok w B T) := h
  have HB1 : Hid (Below w.heap.size w W1) := b1
  have c0 : W1.rangeAt A.b 665 (ints [x0, x1, x2, x3]) := by have := hA.id_r; rwa [hx4] at this
  have c1 := hA.c669
  have Hx4 : Hid (A.id = [x0, x1, x2, x3]) := hx4
  have HC : Hid (Calls Try.prog 30 #[A.msv] W1.drew fun e w' => ∃ g' c', e = .returned (.slice (some ⟨g', 0, none⟩) A.k c') ∧ w'.ownsRow W1.drew.heap.size 79 3 (.slice (some ⟨g', 0, none⟩) A.k c') A.k (ints A.ms) ∧ Below W1.drew.heap.size W1.drew w') := by
    have hmem := (hA.still (Below.refl _ _).drew).mem
    rw [hm] at hmem ⊢
    exact clone_any (own_rdM hmem) hk h.ml.2
  clear h hA b1 hx4 hm
  go_enter Try.func18, Try.ntmps18
  go_wp2
  refine wp_region_held_drew (S := (fun w' => w'.rangeAt A.b 665 (ints [x0, x1, x2, x3]) ∧ w'.cell? ⟨A.b, 669, none⟩ = some A.msv)) (by kernel_rfl) ⟨(World.rangeAt_drew _ _ _ _).2 c0, below_at (Below.refl _ _).drew c1⟩ (fun hHeld => ?_)
  simp only [Act.put, List.size_toArray, List.length_cons, List.length_nil, Nat.zero_add]
  refine wpAnyH_take (i := 0) (v := .pointer (some ⟨A.b, 0, none⟩)) rfl (by kernel_rfl) (by kernel_rfl) (by kernel_rfl) (fun _ _ _ h => h) (Or.inl ⟨by rfl, fun w' hS => by go_simp⟩) hHeld ?_
  simp only [Act.put, gA9, gZ9, gC9, sA9, sZ9, sC9]
  refine wpAnyH_take (i := 1) (v := .pointer (some ⟨A.b, 0, none⟩)) rfl (by kernel_rfl) (by kernel_rfl) (by kernel_rfl) (fun _ _ _ h => h) (Or.inl ⟨by rfl, fun w' hS => by go_simp⟩) hHeld ?_
  simp only [Act.put, gA9, gZ9, gC9, sA9, sZ9, sC9]
  refine wpAnyH_take (i := 2) (v := .pointer (some ⟨A.b, 665, none⟩)) rfl (by kernel_rfl) (by kernel_rfl) (by kernel_rfl) (fun _ _ _ h => h) (Or.inl ⟨by rfl, fun w' hS => by go_simp⟩) hHeld ?_
  simp only [Act.put, gA9, gZ9, gC9, sA9, sZ9, sC9]
  refine wpAnyH_take (i := 3) (v := .pointer (some ⟨A.b, 665, none⟩)) rfl (by kernel_rfl) (by kernel_rfl) (by kernel_rfl) (fun _ _ _ h => h) (Or.inl ⟨by rfl, fun w' hS => by go_simp⟩) hHeld ?_
  simp only [Act.put, gA9, gZ9, gC9, sA9, sZ9, sC9]
  refine wpAnyH_take (i := 4) (v := .agg (ints [x0, x1, x2, x3]).toArray) rfl (by kernel_rfl) (by kernel_rfl) (by kernel_rfl) (fun _ _ _ h => h) (yieldsIf_load_mid (by rfl) 31 (.tmp 6) rfl A.b (665) (by rfl) (ints [x0, x1, x2, x3]) _ (fun w' hS => hS.1) Try.underlying31 rfl (by rw [ints_len, len4]; exact info_id)) hHeld ?_
  simp only [Act.put, gA9, gZ9, gC9, sA9, sZ9, sC9]
  refine wpAnyH_take (i := 5) (v := .pointer (some ⟨A.b, 0, none⟩)) rfl (by kernel_rfl) (by kernel_rfl) (by kernel_rfl) (fun _ _ _ h => h) (Or.inl ⟨by rfl, fun w' hS => by go_simp⟩) hHeld ?_
  simp only [Act.put, gA9, gZ9, gC9, sA9, sZ9, sC9]
  refine wpAnyH_take (i := 6) (v := .pointer (some ⟨A.b, 0, none⟩)) rfl (by kernel_rfl) (by kernel_rfl) (by kernel_rfl) (fun _ _ _ h => h) (Or.inl ⟨by rfl, fun w' hS => by go_simp⟩) hHeld ?_
  simp only [Act.put, gA9, gZ9, gC9, sA9, sZ9, sC9]
  refine wpAnyH_take (i := 7) (v := .pointer (some ⟨A.b, 665, none⟩)) rfl (by kernel_rfl) (by kernel_rfl) (by kernel_rfl) (fun _ _ _ h => h) (Or.inl ⟨by rfl, fun w' hS => by go_simp⟩) hHeld ?_
  simp only [Act.put, gA9, gZ9, gC9, sA9, sZ9, sC9]
  refine wpAnyH_take (i := 8) (v := .pointer (some ⟨A.b, 669, none⟩)) rfl (by kernel_rfl) (by kernel_rfl) (by kernel_rfl) (fun _ _ _ h => h) (Or.inl ⟨by rfl, fun w' hS => by go_simp⟩) hHeld ?_
  simp only [Act.put, gA9, gZ9, gC9, sA9, sZ9, sC9]
  refine wpAnyH_take (i := 9) (v := A.msv) rfl (by kernel_rfl) (by kernel_rfl) (by kernel_rfl) (fun _ _ _ h => h) (Or.inl ⟨by rfl, fun w' hS => by (obtain ⟨s0, s1⟩ := hS; go_simp)⟩) hHeld ?_
  simp only [Act.put, gA9, gZ9, gC9, sA9, sZ9, sC9]
  refine wpAnyH_ready (rs := [10]) (by kernel_rfl) (by simp) ?_
  refine AllReadyH.cons rfl (fun K hK => ?_) AllReadyH.nil
  go_simp
  refine (HC.out).mono ?_
  rintro e V1 ⟨g1, q1, rfl, ho1, hb1⟩
  refine hK.out _ _ ⟨rng_below hHeld.1 hb1, below_at hb1 hHeld.2⟩ (fun hHeld => ?_)
  clear hK K
  refine wpAnyH_take (i := 11) (v := .agg #[.int .i64 x0, .int .i64 x1, .int .i64 x2, .int .i64 x3, .slice (some ⟨g1, 0, none⟩) A.k q1]) rfl (by kernel_rfl) (by kernel_rfl) (by kernel_rfl) (fun _ _ _ h => h) (Or.inl ⟨by rfl, fun w' hS => run_buildop 42 _ rfl _ (by kernel_rfl)⟩) hHeld ?_
  simp only [Act.put, gA9, gZ9, gC9, sA9, sZ9, sC9]
  refine wpAnyH_ready (rs := [12]) (by kernel_rfl) (by simp) ?_
  refine AllReadyH.cons rfl (fun K hK => ?_) AllReadyH.nil
  have hZ2 : V1.heap[w.heap.size]? = some (.cells #[.int .i64 0, .int .i64 0, .int .i64 0, .int .i64 0, .slice none 0 0] 42 (0, 0)) := (hb1.block _ (lt_heap HZ.out)).trans HZ.out
  have hB2 : Below w.heap.size w V1 := bstep (bstep HB1.out (Below.refl _ _).drew) hb1
  split
  · refine wp_store_row 42 (.tmp 2) (.tmp 14) rfl w.heap.size #[.int .i64 x0, .int .i64 x1, .int .i64 x2, .int .i64 x3, .slice (some ⟨g1, 0, none⟩) A.k q1] rfl rfl 42 _ hZ2 (by kernel_rfl) (by rfl) (by simp [Value.oneCell']) ?_
    have hF := setRow_heap V1 w.heap.size _ #[.int .i64 x0, .int .i64 x1, .int .i64 x2, .int .i64 x3, .slice (some ⟨g1, 0, none⟩) A.k q1] 42 _ hZ2
    have hBF : Below w.heap.size w (V1.setRow w.heap.size #[.int .i64 x0, .int .i64 x1, .int .i64 x2, .int .i64 x3, .slice (some ⟨g1, 0, none⟩) A.k q1]) := below_setRow hB2 (Nat.le_refl _) _
    have kF : Kept V1 (V1.setRow w.heap.size #[.int .i64 x0, .int .i64 x1, .int .i64 x2, .int .i64 x3, .slice (some ⟨g1, 0, none⟩) A.k q1]) (fun j => j = w.heap.size) := ⟨rfl, rfl, rfl, by simp [World.setRow], fun k hk hp => setRow_other V1 _ k _ hp⟩
    have hAF := HA.out.still hBF
    generalize V1.setRow w.heap.size #[.int .i64 x0, .int .i64 x1, .int .i64 x2, .int .i64 x3, .slice (some ⟨g1, 0, none⟩) A.k q1] = F at *
    refine hK.out _ _ ⟨by have := hAF.id_r; rwa [Hx4.out] at this, hAF.c669⟩ (fun hHeld => ?_)
    clear hK K hHeld
    refine wpAnyH_done (by kernel_rfl) ?_ _
    go_wp2
    (try simp only [Exit.inBlock, Exit.then])
    refine bodyPost_ret (v := .agg #[.int .i64 x0, .int .i64 x1, .int .i64 x2, .int .i64 x3, .slice (some ⟨g1, 0, none⟩) A.k q1]) ?_ ?_ ?_
    · exact results_cell_row rfl _ _ w.heap.size 42 _ (0, 0) _ rfl hF Try.underlying42 rfl (by kernel_rfl)
    · rfl
    · exact ⟨g1, q1, by rw [Hx4.out]; rfl, own_lower (kF.owns ho1 (fun k hk e => by have := (World.ownsRow.lt ho1 k hk).1; have hh : W1.heap.size ≤ k := this; omega)) (Nat.le_of_lt hs1), hBF⟩
  · rename_i hh; exact absurd rfl hh
end
end Go.Proofs.Ytdegjhkjmgimpaa.Mb
namespace Go.Proofs.Ytdegjhkjmgimpaa.Mb
open Go.RowKit
set_option linter.unusedVariables false
set_option maxRecDepth 100000
set_option linter.unusedSimpArgs false
section
variable {A A' : Ag} {w w' W : World} {B : Nat} {T : Int}
theorem results_cell_tmp2 {fn : Func} {p u x : Tmp} {ty : TypeId} (h : fn.results = #[.cell p ty, .tmp u, .tmp x]) (tmps : Array Value) (w : World) (g : Nat) (t : TypeId) (cs : Array Value) (d : TypeDesc) (v v' : Value)
    (hp : tmps.getD p undef = .pointer (some ⟨g, 0, none⟩)) (hv : tmps.getD u undef = v) (hv' : tmps.getD x undef = v') (hg : w.heap[g]? = some (.cells cs t (0, 0)))
    (hu : Try.prog.underlying ty = some d) (hd : (match d with | .struct _ | .array _ _ => true | _ => false) = true) (hi : (Try.prog.info? ty).map (·.size) = some cs.size) :
    (results fn tmps).run Try.prog w = .ok (.tuple #[.agg cs, v, v']) w := by
  have hp' : tmps[p]?.getD undef = .pointer (some ⟨g, 0, none⟩) := by simpa using hp
  have hv1 : tmps[u]?.getD undef = v := by simpa using hv
  have hv2 : tmps[x]?.getD undef = v' := by simpa using hv'
  have hl := run_loadVar_row w g t ty cs (0, 0) d hg hu (by cases d <;> simp_all) hi
  simp [results, h, hp', hv1, hv2, asAddr, hl, Sem.run_bind]
theorem mids_pos (A : Ag) (h16 : 1 ≤ A.n ∧ A.n ≤ 16 ∧ A.self < A.n) (hs : A.own.set.getD A.self 0 ≠ 0) : 0 < A.mids.length := by
  have : A.self ∈ A.mids := List.mem_filter.2 ⟨List.mem_range.2 h16.2.2, by simpa [Ag.all1] using hs⟩
  exact List.length_pos_of_mem this
set_option maxHeartbeats 2000000 in
theorem agreed_no (h : A.Ok w B T) (hg : A.agr = false) : Calls Try.prog 17 #[.pointer (some ⟨A.b, 0, none⟩)] w fun e w' => e = .returned (.tuple #[.agg #[.int .i64 0, .int .i64 0, .int .i64 0, .int .i64 0, .slice none 0 0], .slice none 0 0, .bool false]) ∧ Below w.heap.size w w' := by
  generalize hW1 : w.alloc (.cells #[.int .i64 0, .int .i64 0, .int .i64 0, .int .i64 0, .slice none 0 0] 42) = W1
  have b1 : Below w.heap.size w W1 := hW1 ▸ balloc (Below.refl _ _)
  have k1 : W1.heap[w.heap.size]? = some (.cells #[.int .i64 0, .int .i64 0, .int .i64 0, .int .i64 0, .slice none 0 0] 42 (0, 0)) := by rw [← hW1]; exact heap_alloc_new w _
  have HI : Hid (Calls Try.prog 27 #[.pointer (some ⟨A.b, 0, none⟩)] W1 fun e w' => e = .returned (.bool false) ∧ Below W1.heap.size W1 w') := hg ▸ isAgreed_any (h.still b1)
  have HK : Hid (W1.heap[w.heap.size]? = some (.cells #[.int .i64 0, .int .i64 0, .int .i64 0, .int .i64 0, .slice none 0 0] 42 (0, 0))) := k1
  have HB1 : Hid (Below w.heap.size w W1) := b1
  clear h b1 k1
  go_enter Try.func17, Try.ntmps17
  go_wp2_with (first
    | (go_at_call 27; refine HI.out.mono ?_; rintro e W2 ⟨rfl, hb2⟩; have HB2 : Hid (Below W1.heap.size W1 W2) := hb2; have HK2 : Hid (W2.heap[w.heap.size]? = some (.cells #[.int .i64 0, .int .i64 0, .int .i64 0, .int .i64 0, .slice none 0 0] 42 (0, 0))) := (hb2.block _ (lt_heap HK.out)).trans HK.out; clear hb2)
    | (refine wpList_store_row rfl 42 (.tmp 2) (.tmp 8) rfl w.heap.size #[.int .i64 0, .int .i64 0, .int .i64 0, .int .i64 0, .slice none 0 0] rfl rfl 42 _ HK2.out (by kernel_rfl) rfl (by simp [Value.oneCell']) ?_)
    | fail)
  (try simp only [Exit.inBlock, Exit.then])
  refine bodyPost_ret (v := .tuple #[.agg #[.int .i64 0, .int .i64 0, .int .i64 0, .int .i64 0, .slice none 0 0], .slice none 0 0, .bool false]) ?_ ?_ ?_
  · exact results_cell_tmp2 rfl _ _ w.heap.size 42 _ _ _ _ rfl rfl rfl (setRow_heap W2 w.heap.size _ #[.int .i64 0, .int .i64 0, .int .i64 0, .int .i64 0, .slice none 0 0] 42 _ HK2.out) Try.underlying42 rfl (by kernel_rfl)
  · rfl
  · exact ⟨rfl, below_setRow (bstep HB1.out HB2.out) (Nat.le_refl _) _⟩
set_option maxHeartbeats 2000000 in
theorem agreed_yes (h : A.Ok w B T) (hT : T ≤ 4611686018427387904) (hs : A.own.set.getD A.self 0 ≠ 0) (hg : A.agr = true) : Calls Try.prog 17 #[.pointer (some ⟨A.b, 0, none⟩)] w fun e w' => ∃ g c v, e = .returned (.tuple #[.agg (A.avC g c), v, .bool true]) ∧ w'.ownsRow w.heap.size 79 3 (.slice (some ⟨g, 0, none⟩) A.mids.length c) A.mids.length (ints (A.msL A.mids)) ∧ w'.ownsRow w.heap.size 3 1 v (A.wl (A.tog)).length (ints (A.wl (A.tog))) ∧ (∀ k, v.ownBlock = some k → g < k) ∧ Below w.heap.size w w' := by
  generalize hW1 : w.alloc (.cells #[.int .i64 0, .int .i64 0, .int .i64 0, .int .i64 0, .slice none 0 0] 42) = W1
  have b1 : Below w.heap.size w W1 := hW1 ▸ balloc (Below.refl _ _)
  have hs1 : w.heap.size < W1.heap.size := by rw [← hW1]; simp
  have k1 : W1.heap[w.heap.size]? = some (.cells #[.int .i64 0, .int .i64 0, .int .i64 0, .int .i64 0, .slice none 0 0] 42 (0, 0)) := by rw [← hW1]; exact heap_alloc_new w _
  have HI : Hid (Calls Try.prog 27 #[.pointer (some ⟨A.b, 0, none⟩)] W1 fun e w' => e = .returned (.bool true) ∧ Below W1.heap.size W1 w') := hg ▸ isAgreed_any (h.still b1)
  have HK : Hid (W1.heap[w.heap.size]? = some (.cells #[.int .i64 0, .int .i64 0, .int .i64 0, .int .i64 0, .slice none 0 0] 42 (0, 0))) := k1
  have HB1 : Hid (Below w.heap.size w W1) := b1
  have HA1 : Hid (A.Ok W1 B T) := h.still b1
  have Hpos : Hid (0 < A.mids.length) := mids_pos A h.n16 hs
  clear h b1 k1 hs
  go_enter Try.func17, Try.ntmps17
  go_wp2_with (first
    | (refine wpList_store_row rfl 42 (.tmp 2) (.tmp 10) rfl w.heap.size (A.avC g c) rfl rfl 42 _ HK4.out (by kernel_rfl) rfl (by simp [Ag.avC, Value.oneCell']) ?_)
    | (go_at_call 29; refine (trans_any HA3.out).mono ?_; rintro e W4 ⟨v, rfl, ho4, hb4⟩; have HB4 : Hid (Below W3.heap.size W3 W4) := hb4; have HO4 : Hid (W4.ownsRow W3.heap.size 3 1 v (A.wl (A.tog)).length (ints (A.wl (A.tog)))) := ho4; have HK4 : Hid (W4.heap[w.heap.size]? = some (.cells #[.int .i64 0, .int .i64 0, .int .i64 0, .int .i64 0, .slice none 0 0] 42 (0, 0))) := (hb4.block _ (lt_heap HK3.out)).trans HK3.out; clear hb4 ho4)
    | (go_at_call 28; refine (agreedView_any HA2.out hT Hpos.out).mono ?_; rintro e W3 ⟨g, c, rfl, ho3, hb3⟩; have HB3 : Hid (Below W2.heap.size W2 W3) := hb3; have HO3 : Hid (W3.ownsRow W2.heap.size 79 3 (.slice (some ⟨g, 0, none⟩) A.mids.length c) A.mids.length (ints (A.msL A.mids))) := ho3; have HK3 : Hid (W3.heap[w.heap.size]? = some (.cells #[.int .i64 0, .int .i64 0, .int .i64 0, .int .i64 0, .slice none 0 0] 42 (0, 0))) := (hb3.block _ (lt_heap HK2.out)).trans HK2.out; have HA3 : Hid (A.Ok W3 B T) := HA2.out.still hb3; clear hb3 ho3)
    | (go_at_call 27; refine HI.out.mono ?_; rintro e W2 ⟨rfl, hb2⟩; have HB2 : Hid (Below W1.heap.size W1 W2) := hb2; have HK2 : Hid (W2.heap[w.heap.size]? = some (.cells #[.int .i64 0, .int .i64 0, .int .i64 0, .int .i64 0, .slice none 0 0] 42 (0, 0))) := (hb2.block _ (lt_heap HK.out)).trans HK.out; have HA2 : Hid (A.Ok W2 B T) := HA1.out.still hb2; clear hb2)
    | fail)
  (try simp only [Exit.inBlock, Exit.then])
  have hB4 := bstep (bstep (bstep HB1.out HB2.out) HB3.out) HB4.out
  have kF : Kept W4 (W4.setRow w.heap.size (A.avC g c)) (fun j => j = w.heap.size) := ⟨rfl, rfl, rfl, by simp [World.setRow], fun k hk hp => setRow_other W4 _ k _ hp⟩
  have l1 := HB2.out.size
  have l2 := HB3.out.size
  have hg3 := World.ownsRow.lt HO3.out g rfl
  refine bodyPost_ret (v := .tuple #[.agg (A.avC g c), v, .bool true]) ?_ ?_ ?_
  · exact results_cell_tmp2 rfl _ _ w.heap.size 42 _ _ _ _ rfl rfl rfl (setRow_heap W4 w.heap.size _ (A.avC g c) 42 _ HK4.out) Try.underlying42 rfl (by kernel_rfl)
  · rfl
  · refine ⟨g, c, v, rfl, own_lower (kF.owns (own_still HO3.out HB4.out) (fun k hk e => ?_)) (by omega), own_lower (kF.owns HO4.out (fun k hk e => ?_)) (by omega), fun k hk => ?_, below_setRow hB4 (Nat.le_refl _) _⟩
    · have := (World.ownsRow.lt HO3.out k hk).1; omega
    · have := (World.ownsRow.lt HO4.out k hk).1; omega
    · have := (World.ownsRow.lt HO4.out k hk).1; omega
end
end Go.Proofs.Ytdegjhkjmgimpaa.Mb
