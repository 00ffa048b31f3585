import Derived.Test.YtihcaopcfhbofaaX16
import Derived.Test.YtihcaopcfhbofaaX23
namespace Go.Proofs.Ytihcaopcfhbofaa.Fm
open Go.RowKit Go.Maps Mb
set_option linter.unusedVariables false
set_option maxRecDepth 100000
set_option linter.unusedSimpArgs false
section
variable {w w' W : World} {B : Nat}
set_option maxHeartbeats 1000000 in
theorem behind_any (b : Int) (g n c : Nat) (hnc : n ≤ c) (hc : c ≤ 9223372036854775807) (h0 : 0 ≤ b) (d : Int) (h1 : b ≤ d) (h2 : d ≤ 4611686018427387904) : Calls Try.prog 25 #[.agg (endV b (some ⟨g, 0, none⟩) n c).toArray, .int .i64 d] w fun e w' => e = .returned (.slice (some ⟨g, if c = min (d - b).toNat n then 0 else (min (d - b).toNat n) * 2, none⟩) (n - min (d - b).toNat n) (c - min (d - b).toNat n)) ∧ Below w.heap.size w w' := by
  generalize hW1 : w.alloc (.cells (endV b (some ⟨g, 0, none⟩) n c).toArray 61) = W1
  have HB : Hid (Below w.heap.size w W1) := hW1 ▸ balloc (Below.refl _ _)
  have k1 : W1.heap[w.heap.size]? = some (.cells (endV b (some ⟨g, 0, none⟩) n c).toArray 61 (0, 0)) := by rw [← hW1]; exact heap_alloc_new w _
  have q0 : W1.cell? ⟨w.heap.size, 0, none⟩ = some (.int .i64 b) := blk_cell k1 0
  have q1 : W1.cell? ⟨w.heap.size, 1, none⟩ = some (.slice (some ⟨g, 0, none⟩) n c) := blk_cell k1 1
  generalize (endV b (some ⟨g, 0, none⟩) n c).toArray = pc at *
  clear k1
  obtain ⟨k, hk⟩ : ∃ k : Nat, k = min (d - b).toNat n := ⟨_, rfl⟩
  rw [← hk]
  have hkn : k ≤ n := by omega
  have hmin : min (d - b) (n : Int) = (k : Int) := by omega
  clear hk
  obtain ⟨o, ho⟩ : ∃ o, o = if c = k then 0 else k * 2 := ⟨_, rfl⟩
  rw [← ho]
  have Ho : Hid (o = if c = k then 0 else k * 2) := ho
  clear ho
  go_enter Try.func25, Try.ntmps25
  go_wp2_with (first | (refine wl_at 5 rfl ?_) | fail)
  refine wl_take (v := ?_) (by kernel_rfl) (by go_simp; exact rfl) ?_
  simp only [Act.put, gA9, gZ9, gC9, sA9, sZ9, sC9]
  refine wl_take (v := ?_) (by kernel_rfl) (by go_simp; exact rfl) ?_
  simp only [Act.put, gA9, gZ9, gC9, sA9, sZ9, sC9]
  refine wl_take (v := ?_) (by kernel_rfl) (by go_simp; exact rfl) ?_
  simp only [Act.put, gA9, gZ9, gC9, sA9, sZ9, sC9]
  refine wl_take (v := ?_) (by kernel_rfl) (by go_simp; exact rfl) ?_
  simp only [Act.put, gA9, gZ9, gC9, sA9, sZ9, sC9]
  refine wl_take (v := ?_) (by kernel_rfl) (by go_simp; exact rfl) ?_
  simp only [Act.put, gA9, gZ9, gC9, sA9, sZ9, sC9]
  refine wl_take (v := .int .i64 (d - b)) (by kernel_rfl) (by go_simp; exact wrap_id (by omega) (by omega)) ?_
  simp only [Act.put, gA9, gZ9, gC9, sA9, sZ9, sC9]
  refine wl_take (v := ?_) (by kernel_rfl) (by go_simp; exact rfl) ?_
  simp only [Act.put, gA9, gZ9, gC9, sA9, sZ9, sC9]
  refine wl_take (v := ?_) (by kernel_rfl) (by go_simp; exact rfl) ?_
  simp only [Act.put, gA9, gZ9, gC9, sA9, sZ9, sC9]
  refine wl_take (v := ?_) (by kernel_rfl) (by go_simp; exact rfl) ?_
  simp only [Act.put, gA9, gZ9, gC9, sA9, sZ9, sC9]
  refine wl_take (v := .int .i64 (k : Int)) (by kernel_rfl) (by go_simp; split <;> first | omega | (congr 1; omega)) ?_
  simp only [Act.put, gA9, gZ9, gC9, sA9, sZ9, sC9]
  refine wl_take (v := .slice (some ⟨g, o, none⟩) (n - k) (c - k)) (by kernel_rfl) (by rw [Ho.out]; go_simp; split <;> first | rfl | (simp_all; done) | omega) ?_
  simp only [Act.put, gA9, gZ9, gC9, sA9, sZ9, sC9]
  refine wl_take (v := ?_) (by kernel_rfl) (by go_simp; exact rfl) ?_
  simp only [Act.put, gA9, gZ9, gC9, sA9, sZ9, sC9]
  refine ⟨?_⟩
  go_wp2
  go_ret
  exact ⟨rfl, HB.out⟩
set_option maxHeartbeats 1000000 in
theorem behind_none (b : Int) (h0 : 0 ≤ b) (d : Int) (h1 : b ≤ d) (h2 : d ≤ 4611686018427387904) : Calls Try.prog 25 #[.agg (endV b none 0 0).toArray, .int .i64 d] w fun e w' => e = .returned (.slice none 0 0) ∧ Below w.heap.size w w' := by
  generalize hW1 : w.alloc (.cells (endV b none 0 0).toArray 61) = W1
  have HB : Hid (Below w.heap.size w W1) := hW1 ▸ balloc (Below.refl _ _)
  have k1 : W1.heap[w.heap.size]? = some (.cells (endV b none 0 0).toArray 61 (0, 0)) := by rw [← hW1]; exact heap_alloc_new w _
  have q0 : W1.cell? ⟨w.heap.size, 0, none⟩ = some (.int .i64 b) := blk_cell k1 0
  have q1 : W1.cell? ⟨w.heap.size, 1, none⟩ = some (.slice none 0 0) := blk_cell k1 1
  generalize (endV b none 0 0).toArray = pc at *
  clear k1
  go_enter Try.func25, Try.ntmps25
  go_wp2_with (first | (refine wl_at 5 rfl ?_) | fail)
  refine wl_take (v := ?_) (by kernel_rfl) (by go_simp; exact rfl) ?_
  simp only [Act.put, gA9, gZ9, gC9, sA9, sZ9, sC9]
  refine wl_take (v := ?_) (by kernel_rfl) (by go_simp; exact rfl) ?_
  simp only [Act.put, gA9, gZ9, gC9, sA9, sZ9, sC9]
  refine wl_take (v := ?_) (by kernel_rfl) (by go_simp; exact rfl) ?_
  simp only [Act.put, gA9, gZ9, gC9, sA9, sZ9, sC9]
  refine wl_take (v := ?_) (by kernel_rfl) (by go_simp; exact rfl) ?_
  simp only [Act.put, gA9, gZ9, gC9, sA9, sZ9, sC9]
  refine wl_take (v := ?_) (by kernel_rfl) (by go_simp; exact rfl) ?_
  simp only [Act.put, gA9, gZ9, gC9, sA9, sZ9, sC9]
  refine wl_take (v := .int .i64 (d - b)) (by kernel_rfl) (by go_simp; exact wrap_id (by omega) (by omega)) ?_
  simp only [Act.put, gA9, gZ9, gC9, sA9, sZ9, sC9]
  refine wl_take (v := ?_) (by kernel_rfl) (by go_simp; exact rfl) ?_
  simp only [Act.put, gA9, gZ9, gC9, sA9, sZ9, sC9]
  refine wl_take (v := ?_) (by kernel_rfl) (by go_simp; exact rfl) ?_
  simp only [Act.put, gA9, gZ9, gC9, sA9, sZ9, sC9]
  refine wl_take (v := ?_) (by kernel_rfl) (by go_simp; exact rfl) ?_
  simp only [Act.put, gA9, gZ9, gC9, sA9, sZ9, sC9]
  refine wl_take (v := .int .i64 0) (by kernel_rfl) (by first | (go_simp; done) | (go_simp; omega) | (go_simp; split <;> first | omega | (congr 1; omega))) ?_
  simp only [Act.put, gA9, gZ9, gC9, sA9, sZ9, sC9]
  refine wl_take (v := .slice none 0 0) (by kernel_rfl) (by first | (go_simp; done) | (go_simp; omega)) ?_
  simp only [Act.put, gA9, gZ9, gC9, sA9, sZ9, sC9]
  refine wl_take (v := ?_) (by kernel_rfl) (by go_simp; exact rfl) ?_
  simp only [Act.put, gA9, gZ9, gC9, sA9, sZ9, sC9]
  refine ⟨?_⟩
  go_wp2
  go_ret
  exact ⟨rfl, HB.out⟩
theorem rdS_drop {g n c k : Nat} {ss : List (Int × Int)} (h : RdS w (some ⟨g, 0, none⟩) ss) (hn : ss.length = n) (hnc : n ≤ c) (hk : k ≤ n) : RdS w (some ⟨g, if c = k then 0 else k * 2, none⟩) (ss.drop k) := by
  unfold RdS Row
  rw [List.length_drop]
  by_cases h0 : ss.length - k = 0
  · exact .inl h0
  · rw [if_neg (by omega)]
    rcases h with h | ⟨b, off, h1, h2⟩
    · omega
    · simp at h1
      obtain ⟨rfl, rfl⟩ := h1
      refine .inr ⟨g, k * 2, rfl, fun i hi => ?_⟩
      have := h2 (k * 2 + i) (by omega)
      rw [Nat.zero_add] at this
      rw [this]
      unfold slotC
      rw [show (k * 2 + i) / 2 = k + i / 2 by omega, show (k * 2 + i) % 2 = i % 2 by omega]
      simp [List.getD, List.getElem?_drop]
end
end Go.Proofs.Ytihcaopcfhbofaa.Fm
