import Derived.Test.YtbdefhagpgpoiacQ00
import Derived.Test.YtbdefhagpgpoiacQ26
import Derived.Test.YtbdefhagpgpoiacQ23
namespace Go.Proofs.Ytbdefhagpgpoiac.Mb
open Go.RowKit
set_option linter.unusedVariables false
set_option maxRecDepth 100000
set_option linter.unusedSimpArgs false
section
variable {A A' : Ag} {w w' W : World} {B : Nat} {T : Int}
theorem eq_nil_ (d : Nat) (ao : Option Addr) (k c : Nat) : (Op.equalIn (d + 1) 49 (.slice ao k c) (.slice none 0 0)).run Try.prog w = .ok ao.isNone w := by
  cases ao <;> simp [Op.equalIn, run_underlying Try.underlying49]
theorem eq_nil (ao : Option Addr) (k c : Nat) : (binOp .eql 49 (.slice ao k c) (.slice none 0 0)).run Try.prog w = .ok (.bool ao.isNone) w := by
  have h : (Op.equal 49 (.slice ao k c) (.slice none 0 0)).run Try.prog w = .ok ao.isNone w := eq_nil_ 9999 ao k c
  simp only [binOp]
  simp [h]
theorem clone_nil : Calls Try.prog 53 #[.slice none 0 0] w fun e w' => e = .returned (.slice none 0 0) ∧ w = w' := by
  have E := eq_nil (w := w) none 0 0
  go_enter Try.func53, Try.ntmps53
  go_wp2
  go_ret
  exact ⟨rfl, rfl⟩
set_option maxHeartbeats 1000000 in
theorem clone_any {g k c : Nat} {ms : List Int} (hr : RdM w (some ⟨g, 0, none⟩) k ms) (hk : 0 < k) (hk16 : k ≤ 16) : Calls Try.prog 53 #[.slice (some ⟨g, 0, none⟩) k c] w fun e w' => ∃ g' c', e = .returned (.slice (some ⟨g', 0, none⟩) k c') ∧ w'.ownsRow w.heap.size 92 3 (.slice (some ⟨g', 0, none⟩) k c') k (ints ms) ∧ Below w.heap.size w w' := by
  obtain ⟨j0, hj, hy0, hy1, hy2⟩ := info_parts info_m
  have hl : (ints ms).length = k * 3 := by rw [ints_len, hr.1]; omega
  obtain ⟨g2, hg2, hc⟩ : ∃ g2, (some (⟨g, 0, none⟩ : Addr)) = some ⟨g2, 0, none⟩ ∧ ∀ j, j < 3 * k → w.cell? ⟨g2, j, none⟩ = some (.int .i64 (ms.getD j 0)) := by
    rcases hr.2 with h0 | h1
    · omega
    · exact h1
  obtain rfl : g = g2 := by cases hg2; rfl
  have Hc : Hid (∀ W, Below w.heap.size w W → ∀ j u, (ints ms)[j]? = some u → W.cell? ((⟨g, 0, none⟩ : Addr).add j) = some u) := fun W hb j u hu => by
    have hj2 : j < (ints ms).length := (List.getElem?_eq_some_iff.1 hu).1
    rw [Addr.add_mid, Nat.zero_add, below_at hb (hc j (by omega))]
    rw [ints_at ms j (by rw [ints_len] at hj2; exact hj2)] at hu
    exact hu
  have E := eq_nil (w := w) (some ⟨g, 0, none⟩) k c
  simp only [Option.isNone] at E
  generalize hW0 : w.alloc (.cells #[] 92) = W0
  have HB0 : Hid (Below w.heap.size w W0) := by show Below _ _ _; rw [← hW0]; exact balloc (Below.refl _ _)
  have HO : Hid (W0.ownsRow w.heap.size 92 3 (.slice (some ⟨w.heap.size, 0, none⟩) 0 0) 0 []) := by
    refine ⟨rfl, .inr ⟨w.heap.size, 0, #[], rfl, Nat.le_refl _, ?_, Nat.le_refl _, Nat.zero_le _, rfl, rfl⟩⟩
    rw [← hW0]; exact heap_alloc_new w _
  clear hr hc hg2
  go_enter Try.func53, Try.ntmps53
  go_wp2_with (first
    | (at_builtin; refine wpList_append_lies _ rfl _ _ 49 rfl w.heap.size 92 j0 (.agg #[.int .i64 0, .int .i64 0, .int .i64 0]) 3 24 Try.underlying49 hj hy0 hy1 hy2 rfl (by omega) (.slice (some ⟨w.heap.size, 0, none⟩) 0 0) 0 [] rfl HO.out ⟨g, 0, none⟩ k c (ints ms) rfl hl (Hc.out W0 HB0.out) (ints_one ms) hk (by unfold maxLen; omega) (by omega) HB0.out.size _ rfl ?_; intro g3 cap3 w3 hown3 hgrow3 hat3 hlt3)
    | fail)
  go_ret
  refine ⟨g3, cap3, by simp, by simpa using hown3, ?_⟩
  exact HB0.out.grown hgrow3 HB0.out.size (fun q hq => (World.ownsRow.lt HO.out q hq).1)
set_option maxHeartbeats 2000000 in
theorem view_nil (h : A.Ok w B T) (hm : A.msv = .slice none 0 0) : Calls Try.prog 28 #[.pointer (some ⟨A.b, 0, none⟩)] w fun e w' => e = .returned (.agg #[.int .i64 (A.id.getD 0 0), .int .i64 (A.id.getD 1 0), .int .i64 (A.id.getD 2 0), .int .i64 (A.id.getD 3 0), .slice none 0 0]) ∧ Below w.heap.size w w' := by
  obtain ⟨x0, x1, x2, x3, hx4⟩ := list4e A.id h.il
  have len4 : [x0, x1, x2, x3].length = 4 := rfl
  generalize hW1 : w.alloc (.cells #[.int .i64 0, .int .i64 0, .int .i64 0, .int .i64 0, .slice none 0 0] 51) = W1
  have b1 : Below w.heap.size w W1 := hW1 ▸ balloc (Below.refl _ _)
  have HZ : Hid (W1.drew.heap[w.heap.size]? = some (.cells #[.int .i64 0, .int .i64 0, .int .i64 0, .int .i64 0, .slice none 0 0] 51 (0, 0))) := by show W1.heap[w.heap.size]? = _; rw [← hW1]; exact heap_alloc_new w _
  have hA := h.still b1
  have HA : Hid (A.Ok w B T) := h
  have HB1 : Hid (Below w.heap.size w W1) := b1
  have c0 : W1.rangeAt A.b 665 (ints [x0, x1, x2, x3]) := by have := hA.id_r; rwa [hx4] at this
  have c1 := hA.c669
  have Hx4 : Hid (A.id = [x0, x1, x2, x3]) := hx4
  have HC : Hid (∀ W, Calls Try.prog 53 #[A.msv] W fun e w' => e = .returned (.slice none 0 0) ∧ Below W.heap.size W w') := fun W => by rw [hm]; exact (clone_nil (w := W)).mono (fun e w' hh => ⟨hh.1, hh.2 ▸ Below.refl _ _⟩)
  clear h hA b1 hx4 hm
  go_enter Try.func28, Try.ntmps28
  go_wp2
  refine wp_region_held_drew (S := (fun w' => w'.rangeAt A.b 665 (ints [x0, x1, x2, x3]) ∧ w'.cell? ⟨A.b, 669, none⟩ = some A.msv)) (by kernel_rfl) ⟨(World.rangeAt_drew _ _ _ _).2 c0, below_at (Below.refl _ _).drew c1⟩ (fun hHeld => ?_)
  simp only [Act.put, List.size_toArray, List.length_cons, List.length_nil, Nat.zero_add]
  refine tkI 0 (.pointer (some ⟨A.b, 0, none⟩)) rfl hHeld ?_
  simp only [Act.put, gA, gB, gC, gD, gE, gF]
  refine tkI 1 (.pointer (some ⟨A.b, 0, none⟩)) rfl hHeld ?_
  simp only [Act.put, gA, gB, gC, gD, gE, gF]
  refine tkI 2 (.pointer (some ⟨A.b, 665, none⟩)) rfl hHeld ?_
  simp only [Act.put, gA, gB, gC, gD, gE, gF]
  refine tkI 3 (.pointer (some ⟨A.b, 665, none⟩)) rfl hHeld ?_
  simp only [Act.put, gA, gB, gC, gD, gE, gF]
  refine wpAnyH_take (i := 4) (v := .agg (ints [x0, x1, x2, x3]).toArray) rfl (by kernel_rfl) (by kernel_rfl) (by kernel_rfl) (fun _ _ _ h => h) (yieldsIf_load_mid (by rfl) 38 (.tmp 6) rfl A.b (665) (by rfl) (ints [x0, x1, x2, x3]) _ (fun w' hS => hS.1) Try.underlying38 rfl (by rw [ints_len, len4]; exact info_id)) hHeld ?_
  simp only [Act.put, gA, gB, gC, gD, gE, gF]
  refine tkI 5 (.pointer (some ⟨A.b, 0, none⟩)) rfl hHeld ?_
  simp only [Act.put, gA, gB, gC, gD, gE, gF]
  refine tkI 6 (.pointer (some ⟨A.b, 0, none⟩)) rfl hHeld ?_
  simp only [Act.put, gA, gB, gC, gD, gE, gF]
  refine tkI 7 (.pointer (some ⟨A.b, 665, none⟩)) rfl hHeld ?_
  simp only [Act.put, gA, gB, gC, gD, gE, gF]
  refine tkI 8 (.pointer (some ⟨A.b, 669, none⟩)) rfl hHeld ?_
  simp only [Act.put, gA, gB, gC, gD, gE, gF]
  refine tkL 9 (A.msv) rfl (fun w' hS => by (obtain ⟨s0, s1⟩ := hS; go_simp)) hHeld ?_
  simp only [Act.put, gA, gB, gC, gD, gE, gF]
  refine wpAnyH_ready (rs := [10]) (by kernel_rfl) (by simp) ?_
  refine AllReadyH.cons rfl (fun K hK => ?_) AllReadyH.nil
  go_simp
  refine (HC.out _).mono ?_
  rintro e V1 ⟨rfl, hb1⟩
  refine hK.out _ _ ⟨rng_below hHeld.1 hb1, below_at hb1 hHeld.2⟩ (fun hHeld => ?_)
  clear hK K
  refine tkL 11 (.agg #[.int .i64 x0, .int .i64 x1, .int .i64 x2, .int .i64 x3, .slice none 0 0]) rfl (fun w' hS => run_buildop 51 _ rfl _ (by kernel_rfl)) hHeld ?_
  simp only [Act.put, gA, gB, gC, gD, gE, gF]
  refine wpAnyH_ready (rs := [12]) (by kernel_rfl) (by simp) ?_
  refine AllReadyH.cons rfl (fun K hK => ?_) AllReadyH.nil
  have hZ2 : V1.heap[w.heap.size]? = some (.cells #[.int .i64 0, .int .i64 0, .int .i64 0, .int .i64 0, .slice none 0 0] 51 (0, 0)) := (hb1.block _ (lt_heap HZ.out)).trans HZ.out
  have hB2 : Below w.heap.size w V1 := bstep (bstep HB1.out (Below.refl _ _).drew) hb1
  split
  · refine wp_store_row 51 (.tmp 2) (.tmp 14) rfl w.heap.size #[.int .i64 x0, .int .i64 x1, .int .i64 x2, .int .i64 x3, .slice none 0 0] rfl rfl 51 _ hZ2 (by kernel_rfl) (by rfl) (by simp [Value.oneCell']) ?_
    have hF := setRow_heap V1 w.heap.size _ #[.int .i64 x0, .int .i64 x1, .int .i64 x2, .int .i64 x3, .slice none 0 0] 51 _ hZ2
    have hBF : Below w.heap.size w (V1.setRow w.heap.size #[.int .i64 x0, .int .i64 x1, .int .i64 x2, .int .i64 x3, .slice none 0 0]) := below_setRow hB2 (Nat.le_refl _) _
    have kF : Kept V1 (V1.setRow w.heap.size #[.int .i64 x0, .int .i64 x1, .int .i64 x2, .int .i64 x3, .slice none 0 0]) (fun j => j = w.heap.size) := ⟨rfl, rfl, rfl, by simp [World.setRow], fun k hk hp => setRow_other V1 _ k _ hp⟩
    have hAF := HA.out.still hBF
    generalize V1.setRow w.heap.size #[.int .i64 x0, .int .i64 x1, .int .i64 x2, .int .i64 x3, .slice none 0 0] = F at *
    refine hK.out _ _ ⟨by have := hAF.id_r; rwa [Hx4.out] at this, hAF.c669⟩ (fun hHeld => ?_)
    clear hK K hHeld
    refine wpAnyH_done (by kernel_rfl) ?_ _
    go_wp2
    (try simp only [Exit.inBlock, Exit.then])
    refine bodyPost_ret (v := .agg #[.int .i64 x0, .int .i64 x1, .int .i64 x2, .int .i64 x3, .slice none 0 0]) ?_ ?_ ?_
    · exact results_cell_row rfl _ _ w.heap.size 51 _ (0, 0) _ rfl hF Try.underlying51 rfl (by kernel_rfl)
    · rfl
    · exact ⟨by rw [Hx4.out]; rfl, hBF⟩
  · rename_i hh; exact absurd rfl hh
set_option maxHeartbeats 2000000 in
theorem view_any (h : A.Ok w B T) (g c : Nat) (hm : A.msv = .slice (some ⟨g, 0, none⟩) A.k c) (hk : 0 < A.k) : Calls Try.prog 28 #[.pointer (some ⟨A.b, 0, none⟩)] w fun e w' => ∃ g' c', e = .returned (.agg #[.int .i64 (A.id.getD 0 0), .int .i64 (A.id.getD 1 0), .int .i64 (A.id.getD 2 0), .int .i64 (A.id.getD 3 0), .slice (some ⟨g', 0, none⟩) A.k c']) ∧ w'.ownsRow w.heap.size 92 3 (.slice (some ⟨g', 0, none⟩) A.k c') A.k (ints A.ms) ∧ Below w.heap.size w w' := by
  obtain ⟨x0, x1, x2, x3, hx4⟩ := list4e A.id h.il
  have len4 : [x0, x1, x2, x3].length = 4 := rfl
  generalize hW1 : w.alloc (.cells #[.int .i64 0, .int .i64 0, .int .i64 0, .int .i64 0, .slice none 0 0] 51) = W1
  have b1 : Below w.heap.size w W1 := hW1 ▸ balloc (Below.refl _ _)
  have hs1 : w.heap.size < W1.heap.size := by rw [← hW1]; simp
  have HZ : Hid (W1.drew.heap[w.heap.size]? = some (.cells #[.int .i64 0, .int .i64 0, .int .i64 0, .int .i64 0, .slice none 0 0] 51 (0, 0))) := by show W1.heap[w.heap.size]? = _; rw [← hW1]; exact heap_alloc_new w _
  have hA := h.still b1
  have HA : Hid (A.Ok w B T) := h
  have HB1 : Hid (Below w.heap.size w W1) := b1
  have c0 : W1.rangeAt A.b 665 (ints [x0, x1, x2, x3]) := by have := hA.id_r; rwa [hx4] at this
  have c1 := hA.c669
  have Hx4 : Hid (A.id = [x0, x1, x2, x3]) := hx4
  have HC : Hid (Calls Try.prog 53 #[A.msv] W1.drew fun e w' => ∃ g' c', e = .returned (.slice (some ⟨g', 0, none⟩) A.k c') ∧ w'.ownsRow W1.drew.heap.size 92 3 (.slice (some ⟨g', 0, none⟩) A.k c') A.k (ints A.ms) ∧ Below W1.drew.heap.size W1.drew w') := by
    have hmem := (hA.still (Below.refl _ _).drew).mem
    rw [hm] at hmem ⊢
    exact clone_any (own_rdM hmem) hk h.ml.2
  clear h hA b1 hx4 hm
  go_enter Try.func28, Try.ntmps28
  go_wp2
  refine wp_region_held_drew (S := (fun w' => w'.rangeAt A.b 665 (ints [x0, x1, x2, x3]) ∧ w'.cell? ⟨A.b, 669, none⟩ = some A.msv)) (by kernel_rfl) ⟨(World.rangeAt_drew _ _ _ _).2 c0, below_at (Below.refl _ _).drew c1⟩ (fun hHeld => ?_)
  simp only [Act.put, List.size_toArray, List.length_cons, List.length_nil, Nat.zero_add]
  refine tkI 0 (.pointer (some ⟨A.b, 0, none⟩)) rfl hHeld ?_
  simp only [Act.put, gA, gB, gC, gD, gE, gF]
  refine tkI 1 (.pointer (some ⟨A.b, 0, none⟩)) rfl hHeld ?_
  simp only [Act.put, gA, gB, gC, gD, gE, gF]
  refine tkI 2 (.pointer (some ⟨A.b, 665, none⟩)) rfl hHeld ?_
  simp only [Act.put, gA, gB, gC, gD, gE, gF]
  refine tkI 3 (.pointer (some ⟨A.b, 665, none⟩)) rfl hHeld ?_
  simp only [Act.put, gA, gB, gC, gD, gE, gF]
  refine wpAnyH_take (i := 4) (v := .agg (ints [x0, x1, x2, x3]).toArray) rfl (by kernel_rfl) (by kernel_rfl) (by kernel_rfl) (fun _ _ _ h => h) (yieldsIf_load_mid (by rfl) 38 (.tmp 6) rfl A.b (665) (by rfl) (ints [x0, x1, x2, x3]) _ (fun w' hS => hS.1) Try.underlying38 rfl (by rw [ints_len, len4]; exact info_id)) hHeld ?_
  simp only [Act.put, gA, gB, gC, gD, gE, gF]
  refine tkI 5 (.pointer (some ⟨A.b, 0, none⟩)) rfl hHeld ?_
  simp only [Act.put, gA, gB, gC, gD, gE, gF]
  refine tkI 6 (.pointer (some ⟨A.b, 0, none⟩)) rfl hHeld ?_
  simp only [Act.put, gA, gB, gC, gD, gE, gF]
  refine tkI 7 (.pointer (some ⟨A.b, 665, none⟩)) rfl hHeld ?_
  simp only [Act.put, gA, gB, gC, gD, gE, gF]
  refine tkI 8 (.pointer (some ⟨A.b, 669, none⟩)) rfl hHeld ?_
  simp only [Act.put, gA, gB, gC, gD, gE, gF]
  refine tkL 9 (A.msv) rfl (fun w' hS => by (obtain ⟨s0, s1⟩ := hS; go_simp)) hHeld ?_
  simp only [Act.put, gA, gB, gC, gD, gE, gF]
  refine wpAnyH_ready (rs := [10]) (by kernel_rfl) (by simp) ?_
  refine AllReadyH.cons rfl (fun K hK => ?_) AllReadyH.nil
  go_simp
  refine (HC.out).mono ?_
  rintro e V1 ⟨g1, q1, rfl, ho1, hb1⟩
  refine hK.out _ _ ⟨rng_below hHeld.1 hb1, below_at hb1 hHeld.2⟩ (fun hHeld => ?_)
  clear hK K
  refine tkL 11 (.agg #[.int .i64 x0, .int .i64 x1, .int .i64 x2, .int .i64 x3, .slice (some ⟨g1, 0, none⟩) A.k q1]) rfl (fun w' hS => run_buildop 51 _ rfl _ (by kernel_rfl)) hHeld ?_
  simp only [Act.put, gA, gB, gC, gD, gE, gF]
  refine wpAnyH_ready (rs := [12]) (by kernel_rfl) (by simp) ?_
  refine AllReadyH.cons rfl (fun K hK => ?_) AllReadyH.nil
  have hZ2 : V1.heap[w.heap.size]? = some (.cells #[.int .i64 0, .int .i64 0, .int .i64 0, .int .i64 0, .slice none 0 0] 51 (0, 0)) := (hb1.block _ (lt_heap HZ.out)).trans HZ.out
  have hB2 : Below w.heap.size w V1 := bstep (bstep HB1.out (Below.refl _ _).drew) hb1
  split
  · refine wp_store_row 51 (.tmp 2) (.tmp 14) rfl w.heap.size #[.int .i64 x0, .int .i64 x1, .int .i64 x2, .int .i64 x3, .slice (some ⟨g1, 0, none⟩) A.k q1] rfl rfl 51 _ hZ2 (by kernel_rfl) (by rfl) (by simp [Value.oneCell']) ?_
    have hF := setRow_heap V1 w.heap.size _ #[.int .i64 x0, .int .i64 x1, .int .i64 x2, .int .i64 x3, .slice (some ⟨g1, 0, none⟩) A.k q1] 51 _ hZ2
    have hBF : Below w.heap.size w (V1.setRow w.heap.size #[.int .i64 x0, .int .i64 x1, .int .i64 x2, .int .i64 x3, .slice (some ⟨g1, 0, none⟩) A.k q1]) := below_setRow hB2 (Nat.le_refl _) _
    have kF : Kept V1 (V1.setRow w.heap.size #[.int .i64 x0, .int .i64 x1, .int .i64 x2, .int .i64 x3, .slice (some ⟨g1, 0, none⟩) A.k q1]) (fun j => j = w.heap.size) := ⟨rfl, rfl, rfl, by simp [World.setRow], fun k hk hp => setRow_other V1 _ k _ hp⟩
    have hAF := HA.out.still hBF
    generalize V1.setRow w.heap.size #[.int .i64 x0, .int .i64 x1, .int .i64 x2, .int .i64 x3, .slice (some ⟨g1, 0, none⟩) A.k q1] = F at *
    refine hK.out _ _ ⟨by have := hAF.id_r; rwa [Hx4.out] at this, hAF.c669⟩ (fun hHeld => ?_)
    clear hK K hHeld
    refine wpAnyH_done (by kernel_rfl) ?_ _
    go_wp2
    (try simp only [Exit.inBlock, Exit.then])
    refine bodyPost_ret (v := .agg #[.int .i64 x0, .int .i64 x1, .int .i64 x2, .int .i64 x3, .slice (some ⟨g1, 0, none⟩) A.k q1]) ?_ ?_ ?_
    · exact results_cell_row rfl _ _ w.heap.size 51 _ (0, 0) _ rfl hF Try.underlying51 rfl (by kernel_rfl)
    · rfl
    · exact ⟨g1, q1, by rw [Hx4.out]; rfl, own_lower (kF.owns ho1 (fun k hk e => by have := (World.ownsRow.lt ho1 k hk).1; have hh : W1.heap.size ≤ k := this; omega)) (Nat.le_of_lt hs1), hBF⟩
  · rename_i hh; exact absurd rfl hh
end
end Go.Proofs.Ytbdefhagpgpoiac.Mb
namespace Go.Proofs.Ytbdefhagpgpoiac.Mb
open Go.RowKit
set_option linter.unusedVariables false
set_option maxRecDepth 100000
set_option linter.unusedSimpArgs false
section
variable {A A' : Ag} {w w' W : World} {B : Nat} {T : Int}
theorem results_cell_tmp2 {fn : Func} {p u x : Tmp} {ty : TypeId} (h : fn.results = #[.cell p ty, .tmp u, .tmp x]) (tmps : Array Value) (w : World) (g : Nat) (t : TypeId) (cs : Array Value) (d : TypeDesc) (v v' : Value)
    (hp : tmps.getD p undef = .pointer (some ⟨g, 0, none⟩)) (hv : tmps.getD u undef = v) (hv' : tmps.getD x undef = v') (hg : w.heap[g]? = some (.cells cs t (0, 0)))
    (hu : Try.prog.underlying ty = some d) (hd : (match d with | .struct _ | .array _ _ => true | _ => false) = true) (hi : (Try.prog.info? ty).map (·.size) = some cs.size) :
    (results fn tmps).run Try.prog w = .ok (.tuple #[.agg cs, v, v']) w := by
  have hp' : tmps[p]?.getD undef = .pointer (some ⟨g, 0, none⟩) := by simpa using hp
  have hv1 : tmps[u]?.getD undef = v := by simpa using hv
  have hv2 : tmps[x]?.getD undef = v' := by simpa using hv'
  have hl := run_loadVar_row w g t ty cs (0, 0) d hg hu (by cases d <;> simp_all) hi
  simp [results, h, hp', hv1, hv2, asAddr, hl, Sem.run_bind]
theorem mids_pos (A : Ag) (h16 : 1 ≤ A.n ∧ A.n ≤ 16 ∧ A.self < A.n) (hs : A.own.set.getD A.self 0 ≠ 0) : 0 < A.mids.length := by
  have : A.self ∈ A.mids := List.mem_filter.2 ⟨List.mem_range.2 h16.2.2, by simpa [Ag.all1] using hs⟩
  exact List.length_pos_of_mem this
set_option maxHeartbeats 2000000 in
theorem agreed_no (h : A.Ok w B T) (hg : A.agr = false) : Calls Try.prog 22 #[.pointer (some ⟨A.b, 0, none⟩)] w fun e w' => e = .returned (.tuple #[.agg #[.int .i64 0, .int .i64 0, .int .i64 0, .int .i64 0, .slice none 0 0], .slice none 0 0, .bool false]) ∧ Below w.heap.size w w' := by
  generalize hW1 : w.alloc (.cells #[.int .i64 0, .int .i64 0, .int .i64 0, .int .i64 0, .slice none 0 0] 51) = W1
  have b1 : Below w.heap.size w W1 := hW1 ▸ balloc (Below.refl _ _)
  have k1 : W1.heap[w.heap.size]? = some (.cells #[.int .i64 0, .int .i64 0, .int .i64 0, .int .i64 0, .slice none 0 0] 51 (0, 0)) := by rw [← hW1]; exact heap_alloc_new w _
  have HI : Hid (Calls Try.prog 46 #[.pointer (some ⟨A.b, 0, none⟩)] W1 fun e w' => e = .returned (.bool false) ∧ Below W1.heap.size W1 w') := hg ▸ isAgreed_any (h.still b1)
  have HK : Hid (W1.heap[w.heap.size]? = some (.cells #[.int .i64 0, .int .i64 0, .int .i64 0, .int .i64 0, .slice none 0 0] 51 (0, 0))) := k1
  have HB1 : Hid (Below w.heap.size w W1) := b1
  clear h b1 k1
  go_enter Try.func22, Try.ntmps22
  go_wp2_with (first
    | (go_at_call 46; refine HI.out.mono ?_; rintro e W2 ⟨rfl, hb2⟩; have HB2 : Hid (Below W1.heap.size W1 W2) := hb2; have HK2 : Hid (W2.heap[w.heap.size]? = some (.cells #[.int .i64 0, .int .i64 0, .int .i64 0, .int .i64 0, .slice none 0 0] 51 (0, 0))) := (hb2.block _ (lt_heap HK.out)).trans HK.out; clear hb2)
    | (refine wpList_store_row rfl 51 (.tmp 2) (.tmp 8) rfl w.heap.size #[.int .i64 0, .int .i64 0, .int .i64 0, .int .i64 0, .slice none 0 0] rfl rfl 51 _ HK2.out (by kernel_rfl) rfl (by simp [Value.oneCell']) ?_)
    | fail)
  (try simp only [Exit.inBlock, Exit.then])
  refine bodyPost_ret (v := .tuple #[.agg #[.int .i64 0, .int .i64 0, .int .i64 0, .int .i64 0, .slice none 0 0], .slice none 0 0, .bool false]) ?_ ?_ ?_
  · exact results_cell_tmp2 rfl _ _ w.heap.size 51 _ _ _ _ rfl rfl rfl (setRow_heap W2 w.heap.size _ #[.int .i64 0, .int .i64 0, .int .i64 0, .int .i64 0, .slice none 0 0] 51 _ HK2.out) Try.underlying51 rfl (by kernel_rfl)
  · rfl
  · exact ⟨rfl, below_setRow (bstep HB1.out HB2.out) (Nat.le_refl _) _⟩
set_option maxHeartbeats 2000000 in
theorem agreed_yes (h : A.Ok w B T) (hT : T ≤ 4611686018427387904) (hs : A.own.set.getD A.self 0 ≠ 0) (hg : A.agr = true) : Calls Try.prog 22 #[.pointer (some ⟨A.b, 0, none⟩)] w fun e w' => ∃ g c v, e = .returned (.tuple #[.agg (A.avC g c), v, .bool true]) ∧ w'.ownsRow w.heap.size 92 3 (.slice (some ⟨g, 0, none⟩) A.mids.length c) A.mids.length (ints (A.msL A.mids)) ∧ w'.ownsRow w.heap.size 3 1 v (A.wl (A.tog)).length (ints (A.wl (A.tog))) ∧ (∀ k, v.ownBlock = some k → g < k) ∧ Below w.heap.size w w' := by
  generalize hW1 : w.alloc (.cells #[.int .i64 0, .int .i64 0, .int .i64 0, .int .i64 0, .slice none 0 0] 51) = W1
  have b1 : Below w.heap.size w W1 := hW1 ▸ balloc (Below.refl _ _)
  have hs1 : w.heap.size < W1.heap.size := by rw [← hW1]; simp
  have k1 : W1.heap[w.heap.size]? = some (.cells #[.int .i64 0, .int .i64 0, .int .i64 0, .int .i64 0, .slice none 0 0] 51 (0, 0)) := by rw [← hW1]; exact heap_alloc_new w _
  have HI : Hid (Calls Try.prog 46 #[.pointer (some ⟨A.b, 0, none⟩)] W1 fun e w' => e = .returned (.bool true) ∧ Below W1.heap.size W1 w') := hg ▸ isAgreed_any (h.still b1)
  have HK : Hid (W1.heap[w.heap.size]? = some (.cells #[.int .i64 0, .int .i64 0, .int .i64 0, .int .i64 0, .slice none 0 0] 51 (0, 0))) := k1
  have HB1 : Hid (Below w.heap.size w W1) := b1
  have HA1 : Hid (A.Ok W1 B T) := h.still b1
  have Hpos : Hid (0 < A.mids.length) := mids_pos A h.n16 hs
  clear h b1 k1 hs
  go_enter Try.func22, Try.ntmps22
  go_wp2_with (first
    | (refine wpList_store_row rfl 51 (.tmp 2) (.tmp 10) rfl w.heap.size (A.avC g c) rfl rfl 51 _ HK4.out (by kernel_rfl) rfl (by simp [Ag.avC, Value.oneCell']) ?_)
    | (go_at_call 48; refine (trans_any HA3.out).mono ?_; rintro e W4 ⟨v, rfl, ho4, hb4⟩; have HB4 : Hid (Below W3.heap.size W3 W4) := hb4; have HO4 : Hid (W4.ownsRow W3.heap.size 3 1 v (A.wl (A.tog)).length (ints (A.wl (A.tog)))) := ho4; have HK4 : Hid (W4.heap[w.heap.size]? = some (.cells #[.int .i64 0, .int .i64 0, .int .i64 0, .int .i64 0, .slice none 0 0] 51 (0, 0))) := (hb4.block _ (lt_heap HK3.out)).trans HK3.out; clear hb4 ho4)
    | (go_at_call 47; refine (agreedView_any HA2.out hT Hpos.out).mono ?_; rintro e W3 ⟨g, c, rfl, ho3, hb3⟩; have HB3 : Hid (Below W2.heap.size W2 W3) := hb3; have HO3 : Hid (W3.ownsRow W2.heap.size 92 3 (.slice (some ⟨g, 0, none⟩) A.mids.length c) A.mids.length (ints (A.msL A.mids))) := ho3; have HK3 : Hid (W3.heap[w.heap.size]? = some (.cells #[.int .i64 0, .int .i64 0, .int .i64 0, .int .i64 0, .slice none 0 0] 51 (0, 0))) := (hb3.block _ (lt_heap HK2.out)).trans HK2.out; have HA3 : Hid (A.Ok W3 B T) := HA2.out.still hb3; clear hb3 ho3)
    | (go_at_call 46; refine HI.out.mono ?_; rintro e W2 ⟨rfl, hb2⟩; have HB2 : Hid (Below W1.heap.size W1 W2) := hb2; have HK2 : Hid (W2.heap[w.heap.size]? = some (.cells #[.int .i64 0, .int .i64 0, .int .i64 0, .int .i64 0, .slice none 0 0] 51 (0, 0))) := (hb2.block _ (lt_heap HK.out)).trans HK.out; have HA2 : Hid (A.Ok W2 B T) := HA1.out.still hb2; clear hb2)
    | fail)
  (try simp only [Exit.inBlock, Exit.then])
  have hB4 := bstep (bstep (bstep HB1.out HB2.out) HB3.out) HB4.out
  have kF : Kept W4 (W4.setRow w.heap.size (A.avC g c)) (fun j => j = w.heap.size) := ⟨rfl, rfl, rfl, by simp [World.setRow], fun k hk hp => setRow_other W4 _ k _ hp⟩
  have l1 := HB2.out.size
  have l2 := HB3.out.size
  have hg3 := World.ownsRow.lt HO3.out g rfl
  refine bodyPost_ret (v := .tuple #[.agg (A.avC g c), v, .bool true]) ?_ ?_ ?_
  · exact results_cell_tmp2 rfl _ _ w.heap.size 51 _ _ _ _ rfl rfl rfl (setRow_heap W4 w.heap.size _ (A.avC g c) 51 _ HK4.out) Try.underlying51 rfl (by kernel_rfl)
  · rfl
  · refine ⟨g, c, v, rfl, own_lower (kF.owns (own_still HO3.out HB4.out) (fun k hk e => ?_)) (by omega), own_lower (kF.owns HO4.out (fun k hk e => ?_)) (by omega), fun k hk => ?_, below_setRow hB4 (Nat.le_refl _) _⟩
    · have := (World.ownsRow.lt HO3.out k hk).1; omega
    · have := (World.ownsRow.lt HO4.out k hk).1; omega
    · have := (World.ownsRow.lt HO4.out k hk).1; omega
end
end Go.Proofs.Ytbdefhagpgpoiac.Mb
namespace Go.Proofs.Ytbdefhagpgpoiac.Mb
open Go.RowKit
set_option linter.unusedVariables false
set_option maxRecDepth 100000
set_option linter.unusedSimpArgs false
section
variable {A A' : Ag} {w w' W : World} {B : Nat} {T : Int}
theorem topL_le2 (A : Ag) (h0 : 0 ≤ A.own.top ∧ A.own.top ≤ 4611686018427387903) (hl : ∀ q, 0 ≤ (A.lat q).top ∧ (A.lat q).top ≤ 4611686018427387903) (l : List Nat) : 0 ≤ A.topL l ∧ A.topL l ≤ 4611686018427387903 := by
  unfold Ag.topL
  generalize A.own.top = t at *
  induction l generalizing t with
  | nil => exact h0
  | cons q l ih => exact ih (max t (A.lat q).top) (by have := hl q; omega)
def Ag.avI (A : Ag) : List Int := [A.topL A.mids + 1, ((A.mids.getD 0 0 : Nat) : Int), A.own.set.getD (A.mids.getD 0 0) 0, A.own.vec.getD (A.mids.getD 0 0) 0]
def Ag.inst (A : Ag) (g c : Nat) : Ag := { A with id := A.avI, msv := .slice (some ⟨g, 0, none⟩) A.mids.length c, k := A.mids.length, ms := A.msL A.mids, chg := false }
theorem msL_len (A : Ag) (l : List Nat) : (A.msL l).length = 3 * l.length := by
  induction l with
  | nil => rfl
  | cons q l ih =>
    have : A.msL (q :: l) = [(q : Int), A.own.set.getD q 0, A.own.vec.getD q 0] ++ A.msL l := rfl
    rw [this, List.length_append, ih]
    simp
    omega
theorem Ag.Ok.putView (h : A.Ok w B T) (g c : Nat) (ho : w.ownsRow B 92 3 (.slice (some ⟨g, 0, none⟩) A.mids.length c) A.mids.length (ints (A.msL A.mids))) (hgb : g ≠ A.b) (ht : 0 ≤ A.own.top ∧ A.own.top ≤ 4611686018427387903) : ({ A with id := A.avI, msv := .slice (some ⟨g, 0, none⟩) A.mids.length c, k := A.mids.length, ms := A.msL A.mids } : Ag).Ok (w.setCells A.b 665 (A.avC g c).toList) B T := by
  have k := ksets (P := fun j => j = A.b) rfl (A.avC g c).toList 665 w
  have htl := topL_le2 A ht h.lt A.mids
  refine { h with blk := ?_, il := rfl, mem := k.owns ho (fun j hj e => ?_), ml := ⟨msL_len A _, by have := mids_len A; have := h.n16; show A.mids.length ≤ 16; omega⟩, ep := ⟨by show 0 ≤ A.topL A.mids + 1; omega, by show A.topL A.mids + 1 ≤ _; omega⟩ }
  · refine (Fb.sets (A.avC g c).toList 665 w _ h.blk).congr fun i hi => ?_
    have hl : (A.avC g c).toList.length = 5 := rfl
    rw [hl]
    by_cases e : 665 ≤ i ∧ i < 665 + 5
    · rw [if_pos e]
      have : i = 665 ∨ i = 666 ∨ i = 667 ∨ i = 668 ∨ i = 669 := by omega
      rcases this with rfl | rfl | rfl | rfl | rfl <;> rfl
    · rw [if_neg e]
      unfold Ag.at
      by_cases e0 : i < 665
      · repeat' split
        all_goals first | rfl | omega
      · have : i = 670 := by omega
        subst this
        rfl
  · simp [Value.ownBlock] at hj; omega
set_option maxHeartbeats 2000000 in
theorem install_no (h : A.Ok w B T) (hg : A.agr = false) : Calls Try.prog 26 #[.pointer (some ⟨A.b, 0, none⟩)] w fun e w' => e = .returned (.tuple #[.agg #[.int .i64 0, .int .i64 0, .int .i64 0, .int .i64 0, .slice none 0 0], .slice none 0 0, .int .i64 61]) ∧ Below w.heap.size w w' := by
  generalize hW1 : w.alloc (.cells #[.int .i64 0, .int .i64 0, .int .i64 0, .int .i64 0, .slice none 0 0] 51) = W1
  have b1 : Below w.heap.size w W1 := hW1 ▸ balloc (Below.refl _ _)
  have k1 : W1.heap[w.heap.size]? = some (.cells #[.int .i64 0, .int .i64 0, .int .i64 0, .int .i64 0, .slice none 0 0] 51 (0, 0)) := by rw [← hW1]; exact heap_alloc_new w _
  have HI : Hid (Calls Try.prog 22 #[.pointer (some ⟨A.b, 0, none⟩)] W1 fun e w' => e = .returned (.tuple #[.agg #[.int .i64 0, .int .i64 0, .int .i64 0, .int .i64 0, .slice none 0 0], .slice none 0 0, .bool false]) ∧ Below W1.heap.size W1 w') := agreed_no (h.still b1) hg
  have HK : Hid (W1.heap[w.heap.size]? = some (.cells #[.int .i64 0, .int .i64 0, .int .i64 0, .int .i64 0, .slice none 0 0] 51 (0, 0))) := k1
  have HB1 : Hid (Below w.heap.size w W1) := b1
  clear h b1 k1
  go_enter Try.func26, Try.ntmps26
  go_wp2_with (first
    | (refine wpList_store_row rfl 51 (.tmp 5) (.tmp 11) rfl W2.heap.size #[.int .i64 0, .int .i64 0, .int .i64 0, .int .i64 0, .slice none 0 0] rfl rfl 51 _ HK3.out (by kernel_rfl) rfl (by simp [Value.oneCell']) ?_; have HK4 : Hid ((W3.setRow W2.heap.size #[.int .i64 0, .int .i64 0, .int .i64 0, .int .i64 0, .slice none 0 0]).heap[w.heap.size]? = some (.cells #[.int .i64 0, .int .i64 0, .int .i64 0, .int .i64 0, .slice none 0 0] 51 (0, 0))) := (setRow_other W3 _ _ _ (by omega)).trans HK3w.out; have HB4 : Hid (Below w.heap.size w (W3.setRow W2.heap.size #[.int .i64 0, .int .i64 0, .int .i64 0, .int .i64 0, .slice none 0 0])) := below_setRow HB3.out (by omega) _; generalize W3.setRow W2.heap.size #[.int .i64 0, .int .i64 0, .int .i64 0, .int .i64 0, .slice none 0 0] = V at *; clear HK3 HK3w HB3)
    | (refine wpList_store_row rfl 51 (.tmp 2) (.tmp 16) rfl w.heap.size #[.int .i64 0, .int .i64 0, .int .i64 0, .int .i64 0, .slice none 0 0] rfl rfl 51 _ HK4.out (by kernel_rfl) rfl (by simp [Value.oneCell']) ?_)
    | (go_at_call 22; refine HI.out.mono ?_; rintro e W2 ⟨rfl, hb2⟩; generalize hW3 : W2.alloc (.cells #[.int .i64 0, .int .i64 0, .int .i64 0, .int .i64 0, .slice none 0 0] 51) = W3; have hlt2 : w.heap.size < W2.heap.size := (by have := lt_heap HK.out; have := hb2.size; omega); have HK3 : Hid (W3.heap[W2.heap.size]? = some (.cells #[.int .i64 0, .int .i64 0, .int .i64 0, .int .i64 0, .slice none 0 0] 51 (0, 0))) := (by show _ = _; rw [← hW3]; exact heap_alloc_new W2 _); have HK3w : Hid (W3.heap[w.heap.size]? = some (.cells #[.int .i64 0, .int .i64 0, .int .i64 0, .int .i64 0, .slice none 0 0] 51 (0, 0))) := (by show _ = _; rw [← hW3]; exact blk_alloc ((hb2.block _ (lt_heap HK.out)).trans HK.out)); have HB3 : Hid (Below w.heap.size w W3) := (by show Below _ _ _; rw [← hW3]; exact balloc (bstep HB1.out hb2)); clear hb2)
    | fail)
  (try simp only [Exit.inBlock, Exit.then])
  refine bodyPost_ret (v := .tuple #[.agg #[.int .i64 0, .int .i64 0, .int .i64 0, .int .i64 0, .slice none 0 0], .slice none 0 0, .int .i64 61]) ?_ ?_ ?_
  · exact results_cell_tmp2 rfl _ _ w.heap.size 51 _ _ _ _ rfl rfl rfl (setRow_heap V w.heap.size _ #[.int .i64 0, .int .i64 0, .int .i64 0, .int .i64 0, .slice none 0 0] 51 _ HK4.out) Try.underlying51 rfl (by kernel_rfl)
  · rfl
  · exact ⟨rfl, below_setRow HB4.out (Nat.le_refl _) _⟩
theorem install_mid {W1 W2 : World} {g c : Nat} {v : Value} (h : A.Ok w B 4611686018427387903) (hB1 : Below w.heap.size w W1) (hK : W1.heap[w.heap.size]? = some (.cells #[.int .i64 0, .int .i64 0, .int .i64 0, .int .i64 0, .slice none 0 0] 51 (0, 0))) (ho2 : W2.ownsRow W1.heap.size 92 3 (.slice (some ⟨g, 0, none⟩) A.mids.length c) A.mids.length (ints (A.msL A.mids))) (ht2 : W2.ownsRow W1.heap.size 3 1 v (A.wl (A.tog)).length (ints (A.wl (A.tog)))) (hgv : ∀ k, v.ownBlock = some k → g < k) (hb2 : Below W1.heap.size W1 W2) :
    ∃ W3 V4 V6 W7 : World, W2.alloc (.cells #[.int .i64 0, .int .i64 0, .int .i64 0, .int .i64 0, .slice none 0 0] 51) = W3 ∧ W3.setRow W2.heap.size (A.avC g c) = V4 ∧ V4.setCells A.b 665 (A.avC g c).toList = V6 ∧ V6.setCell ⟨A.b, 670, none⟩ (.bool false) = W7 ∧ Hid (W3.heap[W2.heap.size]? = some (.cells #[.int .i64 0, .int .i64 0, .int .i64 0, .int .i64 0, .slice none 0 0] 51 (0, 0))) ∧ Hid (V4.heap[W2.heap.size]? = some (.cells (A.avC g c) 51 (0, 0))) ∧ Hid (A.Ok V4 B 4611686018427387903) ∧ (V6.cell? ⟨A.b, 670, none⟩ = some (.bool A.chg) ∧ V6.frozen? ⟨A.b, 670, none⟩ = false) ∧ Hid ((A.inst g c).Ok W7 B 4611686018427387903) ∧ Hid (W7.heap[w.heap.size]? = some (.cells #[.int .i64 0, .int .i64 0, .int .i64 0, .int .i64 0, .slice none 0 0] 51 (0, 0))) ∧
      Hid (W7.ownsRow W1.heap.size 3 1 v (A.wl (A.tog)).length (ints (A.wl (A.tog))) ∧ w.heap.size < g ∧ g < W7.heap.size ∧ (∀ k, v.ownBlock = some k → g < k ∧ k < W7.heap.size) ∧ w.heap.size < W1.heap.size ∧ Kept w W7 (fun j => j = A.b)) := by
  have l0 := lt_heap hK
  have l1 := hb2.size
  have lb := h.lt_b
  have hge := h.ge
  have hgl := World.ownsRow.lt ho2 g rfl
  have a3 : Below W2.heap.size W2 (W2.alloc (.cells #[.int .i64 0, .int .i64 0, .int .i64 0, .int .i64 0, .slice none 0 0] 51)) := balloc (Below.refl _ _)
  have b3 : Below W2.heap.size W2 ((W2.alloc (.cells #[.int .i64 0, .int .i64 0, .int .i64 0, .int .i64 0, .slice none 0 0] 51)).setRow W2.heap.size (A.avC g c)) := below_setRow a3 (Nat.le_refl _) _
  have k3 : (W2.alloc (.cells #[.int .i64 0, .int .i64 0, .int .i64 0, .int .i64 0, .slice none 0 0] 51)).heap[W2.heap.size]? = some (.cells #[.int .i64 0, .int .i64 0, .int .i64 0, .int .i64 0, .slice none 0 0] 51 (0, 0)) := heap_alloc_new W2 _
  have k4 := setRow_heap (W2.alloc (.cells #[.int .i64 0, .int .i64 0, .int .i64 0, .int .i64 0, .slice none 0 0] 51)) W2.heap.size _ (A.avC g c) 51 _ k3
  have hB4 := bstep (bstep hB1 hb2) b3
  have hA4 := h.still hB4
  have ho4 := own_still ho2 b3
  have ht4 := own_still ht2 b3
  generalize hW3 : W2.alloc (.cells #[.int .i64 0, .int .i64 0, .int .i64 0, .int .i64 0, .slice none 0 0] 51) = W3 at *
  generalize hV4 : W3.setRow W2.heap.size (A.avC g c) = V4 at *
  have hA6 := hA4.putView g c (own_lower ho4 (by omega)) (by omega) h.top
  have k6 := ksets (P := fun j => j = A.b) rfl (A.avC g c).toList 665 V4
  generalize hV6 : V4.setCells A.b 665 (A.avC g c).toList = V6 at *
  have hA7 := hA6.putChg false
  have k7 := kset (P := fun j => j = A.b) V6 A.b 670 (.bool false) rfl
  have kk := k6.trans k7
  have hs7 : V4.heap.size ≤ (V6.setCell ⟨A.b, 670, none⟩ (.bool false)).heap.size := kk.size
  refine ⟨W3, V4, V6, _, rfl, hV4, hV6, rfl, k3, k4, hA4, ⟨hA6.c670, hA6.fz 670⟩, hA7, ?_, ?_⟩
  · have e1 : V4.heap[w.heap.size]? = some (.cells #[.int .i64 0, .int .i64 0, .int .i64 0, .int .i64 0, .slice none 0 0] 51 (0, 0)) := (b3.block _ (by omega)).trans ((hb2.block _ l0).trans hK)
    exact kk.obj e1 (by omega)
  · have hsV := b3.size
    refine ⟨kk.owns ht4 (fun k hk e => ?_), by omega, by omega, fun k hk => ⟨hgv k hk, ?_⟩, by omega, (Kept.ofBelow hB4 _).trans kk⟩
    · have := (World.ownsRow.lt ht2 k hk).1; omega
    · have := (World.ownsRow.lt ht2 k hk).2; omega
def Ag.viewC (A : Ag) (v : Value) : Array Value := #[.int .i64 (A.id.getD 0 0), .int .i64 (A.id.getD 1 0), .int .i64 (A.id.getD 2 0), .int .i64 (A.id.getD 3 0), v]
set_option maxHeartbeats 4000000 in
theorem install_yes (h : A.Ok w B 4611686018427387903) (hs : A.own.set.getD A.self 0 ≠ 0) (hg : A.agr = true) : Calls Try.prog 26 #[.pointer (some ⟨A.b, 0, none⟩)] w fun e w' => ∃ g c g' c' v, e = .returned (.tuple #[.agg ((A.inst g c).viewC (.slice (some ⟨g', 0, none⟩) A.mids.length c')), v, .int .i64 0]) ∧ (A.inst g c).Ok w' B 4611686018427387903 ∧ w'.ownsRow w.heap.size 92 3 (.slice (some ⟨g', 0, none⟩) A.mids.length c') A.mids.length (ints (A.msL A.mids)) ∧ w'.ownsRow w.heap.size 3 1 v (A.wl (A.tog)).length (ints (A.wl (A.tog))) ∧ w.heap.size ≤ g ∧ g < g' ∧ (∀ k, v.ownBlock = some k → g < k ∧ k < g') ∧ Kept w w' (fun j => j = A.b) := by
  generalize hW1 : w.alloc (.cells #[.int .i64 0, .int .i64 0, .int .i64 0, .int .i64 0, .slice none 0 0] 51) = W1
  have b1 : Below w.heap.size w W1 := hW1 ▸ balloc (Below.refl _ _)
  have k1 : W1.heap[w.heap.size]? = some (.cells #[.int .i64 0, .int .i64 0, .int .i64 0, .int .i64 0, .slice none 0 0] 51 (0, 0)) := by rw [← hW1]; exact heap_alloc_new w _
  have HA0 : Hid (A.Ok w B 4611686018427387903) := h
  have HA1 : Hid (A.Ok W1 B 4611686018427387903) := h.still b1
  have HK : Hid (W1.heap[w.heap.size]? = some (.cells #[.int .i64 0, .int .i64 0, .int .i64 0, .int .i64 0, .slice none 0 0] 51 (0, 0))) := k1
  have HB1 : Hid (Below w.heap.size w W1) := b1
  have Hs : Hid (A.own.set.getD A.self 0 ≠ 0) := hs
  have Hgr : Hid (A.agr = true) := hg
  have hlb := h.lt_b
  have Hge : Hid (B ≤ A.b) := h.ge
  have Hpos : Hid (0 < A.mids.length) := mids_pos A h.n16 hs
  clear h b1 k1 hs hg
  go_enter Try.func26, Try.ntmps26
  go_wp2_with (first
    | (go_at_call 28; refine (view_any HO7.out g c rfl Hpos.out).mono ?_; rintro e W8 ⟨g', c', rfl, ho8, hb8⟩; have HB8 : Hid (Below W7.heap.size W7 W8) := hb8; have HO8 : Hid (W8.ownsRow W7.heap.size 92 3 (.slice (some ⟨g', 0, none⟩) A.mids.length c') A.mids.length (ints (A.msL A.mids))) := ho8; have HK8 : Hid (W8.heap[w.heap.size]? = some (.cells #[.int .i64 0, .int .i64 0, .int .i64 0, .int .i64 0, .slice none 0 0] 51 (0, 0))) := (hb8.block _ (lt_heap HK7.out)).trans HK7.out; clear hb8 ho8)
    | (refine wpList_store_row rfl 51 (.tmp 2) (.tmp 25) rfl w.heap.size ((A.inst g c).viewC (.slice (some ⟨g', 0, none⟩) A.mids.length c')) rfl rfl 51 _ HK8.out (by kernel_rfl) rfl (by simp [Ag.viewC, Value.oneCell']) ?_)
    | (refine wpList_store_mid rfl 51 (.tmp 21) (.tmp 19) rfl A.b 665 (A.avC g c) rfl rfl (HA4.out.blk.there 665 5 (by omega)) (by kernel_rfl) (by simp [Ag.avC, Value.oneCell']) ?_; rw [hV6])
    | (refine wpList_load_row rfl 51 (.tmp 5) rfl W2.heap.size rfl 51 (A.avC g c) (0, 0) _ HK4.out Try.underlying51 rfl (by kernel_rfl) ?_)
    | (refine wpList_store_row rfl 51 (.tmp 5) (.tmp 11) rfl W2.heap.size (A.avC g c) rfl rfl 51 _ HK3.out (by kernel_rfl) rfl (by simp [Ag.avC, Value.oneCell']) ?_; rw [hV4])
    | (go_at_call 22; refine (agreed_yes HA1.out (by omega) Hs.out Hgr.out).mono ?_; rintro e W2 ⟨g, c, v, rfl, ho2, ht2, hgv, hb2⟩; obtain ⟨W3, V4, V6, W7, hW3, hV4, hV6, hW7, HK3, HK4, HA4, f670, HO7, HK7, HQ⟩ := install_mid HA0.out HB1.out HK.out ho2 ht2 hgv hb2; obtain ⟨c670, f670⟩ := f670)
    | fail)
  (try simp only [Exit.inBlock, Exit.then])
  obtain ⟨ht7, q1, q2, q3, q4, kW7⟩ := HQ.out
  have kF : Kept W8 (W8.setRow w.heap.size ((A.inst g c).viewC (.slice (some ⟨g', 0, none⟩) A.mids.length c'))) (fun j => j = w.heap.size) := ⟨rfl, rfl, rfl, by simp [World.setRow], fun k hk hp => setRow_other W8 _ k _ hp⟩
  have hg8 := World.ownsRow.lt HO8.out g' rfl
  have hs7 := kW7.size
  refine bodyPost_ret (v := .tuple #[.agg ((A.inst g c).viewC (.slice (some ⟨g', 0, none⟩) A.mids.length c')), v, .int .i64 0]) ?_ ?_ ?_
  · exact results_cell_tmp2 rfl _ _ w.heap.size 51 _ _ _ _ rfl rfl rfl (setRow_heap W8 w.heap.size _ ((A.inst g c).viewC (.slice (some ⟨g', 0, none⟩) A.mids.length c')) 51 _ HK8.out) Try.underlying51 rfl (by kernel_rfl)
  · rfl
  · refine ⟨g, c, g', c', v, rfl, ?_, ?_, ?_, by omega, by omega, fun k hk => ⟨(q3 k hk).1, by have := (q3 k hk).2; omega⟩, ?_⟩
    · refine (HO7.out.still HB8.out).keep kF (fun e => ?_) (fun k hk e => ?_)
      · have : A.b = w.heap.size := e
        omega
      · have hk' : some g = some k := hk
        cases hk'
        omega
    · exact own_lower (kF.owns HO8.out (fun k hk e => by have := (World.ownsRow.lt HO8.out k hk).1; omega)) (by omega)
    · exact own_lower (kF.owns (own_still ht7 HB8.out) (fun k hk e => by have := (q3 k hk).1; omega)) (by omega)
    · exact (kW7.trans (Kept.ofBelow HB8.out _)).step kF (fun j hj => .inr (by omega))
end
end Go.Proofs.Ytbdefhagpgpoiac.Mb
namespace Go.Proofs.Ytbdefhagpgpoiac.Mb
open Go.RowKit
set_option linter.unusedVariables false
set_option maxRecDepth 100000
set_option linter.unusedSimpArgs false
section
variable {A A' : Ag} {w w' W : World} {B : Nat} {T : Int}
structure Opx where
  kind : Int
  q : Int
  inc : Int
  sa : Option Addr
  sn : Nat
  sc : Nat
  ss : List Int
  p : Pq
def Opx.cs (o : Opx) : Array Value := #[.int .i64 o.kind, .int .i64 o.q, .int .i64 o.inc, .slice o.sa o.sn o.sc, .slice o.p.sa o.p.sn o.p.sc, .int .i64 o.p.cid, .int .i64 o.p.rev, .int .i64 o.p.top, .int .i64 (o.p.prev.getD 0 0), .int .i64 (o.p.prev.getD 1 0), .int .i64 (o.p.prev.getD 2 0), .int .i64 (o.p.prev.getD 3 0), .slice o.p.va o.p.vn o.p.vc]
structure Opx.Rd (o : Opx) (w : World) : Prop where
  s : RdI w o.sa o.sn o.ss
  sn : o.sn ≤ 17592186044416
  p : o.p.Rd w
theorem Opx.Rd.still {o : Opx} (h : o.Rd w) (hb : Below w.heap.size w w') : o.Rd w' := { h with s := h.s.still hb, p := h.p.still hb }
inductive Stp (A : Ag) (o : Opx) : Int → Ag → Prop
  | est : o.kind = 1 → Stp A o (A.estE o.ss) (A.estA o.ss)
  | tak : o.kind = 2 → Stp A o (A.takE o.q o.inc o.p) (A.takA o.q o.inc o.p)
  | ins (g c : Nat) : o.kind = 5 → A.agr = true → Stp A o 0 (A.inst g c)
  | apart : o.kind = 5 → A.agr = false → Stp A o 61 A
  | none : o.kind ≠ 1 → o.kind ≠ 2 → o.kind ≠ 5 → Stp A o 0 A
theorem op_range {o : Opx} {k : Nat} (h : w.heap[k]? = some (.cells o.cs 42 (0, 0))) : w.rangeAt k 4 o.p.cs.toList := fun j v hv => by
  rw [blk_cell h]
  match j, hv with
  | 0, hv => exact hv
  | 1, hv => exact hv
  | 2, hv => exact hv
  | 3, hv => exact hv
  | 4, hv => exact hv
  | 5, hv => exact hv
  | 6, hv => exact hv
  | 7, hv => exact hv
  | 8, hv => exact hv
  | j + 9, hv => cases hv
end
end Go.Proofs.Ytbdefhagpgpoiac.Mb
namespace Go.Proofs.Ytbdefhagpgpoiac.Mb
open Go.RowKit
set_option linter.unusedVariables false
set_option linter.unusedSimpArgs false
section
variable {A A' : Ag} {w w' W : World} {B : Nat} {T : Int}
structure Ag.Iv (A : Ag) (inc : Int) : Prop where
  n16 : 1 ≤ A.n ∧ A.n ≤ 16 ∧ A.self < A.n
  inc1 : 1 ≤ inc
  ol : A.own.L
  set : A.own.set.getD A.self 0 = inc
  vec : A.own.vec.getD A.self 0 = A.own.cid
  sz : ∀ q, A.n ≤ q → A.own.set.getD q 0 = 0
  vz : ∀ q, A.n ≤ q → A.own.vec.getD q 0 = 0
  vw : (A.id = [0, 0, 0, 0] ∧ A.msv = .slice none 0 0 ∧ A.k = 0 ∧ A.ms = []) ∨ (1 ≤ A.id.getD 0 0 ∧ 0 < A.k ∧ ∃ g c, A.msv = .slice (some ⟨g, 0, none⟩) A.k c)
theorem vecOf_self (A : Ag) (p : Pp) (h : A.self < 16) : (A.vecOf p).getD A.self 0 = p.cid := by
  unfold Ag.vecOf
  simp [List.getD, List.getElem?_set, vecK_len, h]
theorem vecOf_zero (A : Ag) (p : Pp) (h16 : 1 ≤ A.n ∧ A.n ≤ 16 ∧ A.self < A.n) (q : Nat) (hq : A.n ≤ q) : (A.vecOf p).getD q 0 = 0 := by
  unfold Ag.vecOf
  have hne : ¬ A.self = q := by omega
  simp only [List.getD, List.getElem?_set, if_neg hne]
  unfold Ag.vecK
  by_cases h : q < 16
  · have : ¬ q < A.n := by omega
    simp [h, this]
  · simp [h]
theorem Ag.Iv.rev {inc : Int} (h : A.Iv inc) (p : Pp) (hp : p.L) (hs : p.set.getD A.self 0 = inc) (hz : ∀ q, A.n ≤ q → p.set.getD q 0 = 0) : (A.revA p).Iv inc := by
  have h16 := h.n16
  unfold Ag.revA
  split
  · exact h
  · split
    · exact h
    · exact { h with ol := ⟨hp.ls, hp.lp, vecOf_len A p⟩, set := hs, vec := vecOf_self A p (by omega), sz := hz, vz := fun q hq => vecOf_zero A p h16 q hq }
theorem begP_set (A : Ag) (s : List Int) : (A.begP s).set = s := by unfold Ag.begP; split <;> rfl
theorem begP_cid (A : Ag) (s : List Int) : (A.begP s).cid = A.own.cid + 1 := by unfold Ag.begP; split <;> rfl
theorem begP_rev (A : Ag) (s : List Int) : (A.begP s).rev = A.own.rev := by unfold Ag.begP; split <;> rfl
theorem begP_L (A : Ag) (s : List Int) (ho : A.own.L) (hi : A.id.length = 4) (hs : s.length = 16) : (A.begP s).L := by
  unfold Ag.begP
  split
  · exact ⟨hs, ho.lp, ho.lv⟩
  · exact ⟨hs, hi, ho.lv⟩
theorem Ag.Iv.chg {inc : Int} (h : A.Iv inc) (c : Bool) : ({ A with chg := c } : Ag).Iv inc := { h with }
theorem Ag.Iv.beg {inc : Int} (h : A.Iv inc) (hi : A.id.length = 4) (s : List Int) (hs : s.length = 16) (h1 : s.getD A.self 0 = inc) (hz : ∀ q, A.n ≤ q → s.getD q 0 = 0) : (A.begA s).Iv inc := by
  unfold Ag.begA
  split
  · exact h
  · split
    · exact (h.rev (A.begP s) (begP_L A s h.ol hi hs) (by rw [begP_set]; exact h1) (by rw [begP_set]; exact hz)).chg true
    · exact h
theorem pad_zero (xs : List Int) (n q : Nat) (hl : xs.length = n) (hq : n ≤ q) : (pad xs).getD q 0 = 0 := by
  unfold pad
  by_cases h : q < 16
  · simp [List.getD, h, show ¬ q < xs.length by omega]
  · simp [List.getD, h]
theorem Ag.Iv.set1 {inc : Int} (h : A.Iv inc) (q : Nat) (p : Pp) : (A.set1 q p).Iv inc := { h with }
theorem Ag.Iv.fol {inc : Int} (h : A.Iv inc) (hi : A.id.length = 4) (q : Nat) : (A.folA q).Iv inc := by
  unfold Ag.folA
  split
  · exact h.rev A.own h.ol h.set h.sz
  · split
    · exact h.beg hi A.own.set h.ol.ls h.set h.sz
    · exact h
theorem Ag.Iv.ins {inc : Int} (h : A.Iv inc) (g c : Nat) (ht : 0 ≤ A.topL A.mids) : (A.inst g c).Iv inc := by
  have hp := mids_pos A h.n16 (by rw [h.set]; have := h.inc1; omega)
  exact { h with vw := .inr ⟨by show 1 ≤ A.topL A.mids + 1; omega, hp, g, c, rfl⟩ }
end
end Go.Proofs.Ytbdefhagpgpoiac.Mb
