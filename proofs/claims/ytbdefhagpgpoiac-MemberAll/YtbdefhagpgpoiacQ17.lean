import Derived.Test.YtbdefhagpgpoiacQ00
import Derived.Test.YtbdefhagpgpoiacQ16
namespace Go.Proofs.Ytbdefhagpgpoiac.Mb
open Go.RowKit
set_option linter.unusedVariables false
set_option maxRecDepth 100000
set_option linter.unusedSimpArgs false
section
variable {A A' : Ag} {w w' W : World} {B : Nat} {T : Int}
set_option maxHeartbeats 1000000 in
theorem qequal_any {a1 a2 : Option Addr} {n m c1 c2 : Nat} {xs ys : List Int} (h1 : RdI w a1 n xs) (h2 : RdI w a2 m ys) (hn : n ≤ 17592186044420) : Calls Try.prog 35 #[.slice a1 n c1, .slice a2 m c2] w fun e w' => e = .returned (.bool (decide (xs = ys))) ∧ Below w.heap.size w w' := by
  have lx := h1.1
  have ly := h2.1
  by_cases hnm : n = m
  · subst hnm
    have H1 : Hid (RdI w a1 n xs) := h1
    have H2 : Hid (RdI w a2 n ys) := h2
    have Hx : Hid (xs.length = n) := lx
    have Hy : Hid (ys.length = n) := ly
    clear h1 h2 lx ly
    obtain ⟨r, hr⟩ : ∃ r, decide (xs = ys) = r := ⟨_, rfl⟩
    have Hr : Hid (decide (xs = ys) = r) := hr
    rw [hr]
    clear hr
    go_enter Try.func35, Try.ntmps35
    go_wp2
    go_loopw [5] (fun i wr => ∃ k : Nat, k ≤ n ∧ i = .int .i64 k ∧ xs.take k = ys.take k ∧ Below w.heap.size w wr) (fun i _ => n - (intOf i).toNat)
    case atStart => exact ⟨0, Nat.zero_le _, rfl, rfl, Below.refl _ _⟩
    case round =>
      obtain ⟨k, hk, rfl, het, hb⟩ := hrel
      by_cases hlt : k < n
      · obtain ⟨g1, o1, e1, h1⟩ := (H1.out.still hb).at hlt
        obtain ⟨g2, o2, e2, h2⟩ := (H2.out.still hb).at hlt
        have i1 : (0 : Int) ≤ (k : Int) := Int.natCast_nonneg _
        have i2 : (k : Int) < (n : Int) := by omega
        have HB : Hid (Below w.heap.size w wr) := hb
        have Hn : Hid (xs.getD k 0 = ys.getD k 0 → xs.take (k + 1) = ys.take (k + 1)) := ext_take Hx.out Hy.out hlt het
        have Hne : Hid (xs.getD k 0 ≠ ys.getD k 0 → r = false) := fun hh => by rw [← Hr.out]; exact decide_eq_false (fun e => hh (by rw [e]))
        generalize xs.getD k 0 = x at *
        generalize ys.getD k 0 = y at *
        subst e1 e2
        clear hb het
        by_cases he : x = y
        · have hxy : (x != y) = false := by simpa using he
          have He : Hid (x = y) := he
          clear he
          go_wp2
          refine wp_region_held_drew (S := (fun w' => w'.cell? ⟨g1, o1 + k, none⟩ = some (.int .i64 x) ∧ w'.cell? ⟨g2, o2 + k, none⟩ = some (.int .i64 y))) (by kernel_rfl) ⟨below_at (Below.refl _ _).drew h1, below_at (Below.refl _ _).drew h2⟩ (fun hHeld => ?_)
          simp only [Act.put, List.size_toArray, List.length_cons, List.length_nil, Nat.zero_add]
          refine tkI 0 (.slice (some ⟨g1, o1, none⟩) n c1) rfl hHeld ?_
          simp only [Act.put, gA, gB, gC, gD, gE, gF]
          refine tkI 1 (.int .i64 (k : Int)) rfl hHeld ?_
          simp only [Act.put, gA, gB, gC, gD, gE, gF]
          refine tkI 2 (.pointer (some ⟨g1, o1 + k, none⟩)) rfl hHeld ?_
          simp only [Act.put, gA, gB, gC, gD, gE, gF]
          refine tkL 3 (.int .i64 x) rfl (fun w' hS => by (obtain ⟨s0, s1⟩ := hS; go_simp)) hHeld ?_
          simp only [Act.put, gA, gB, gC, gD, gE, gF]
          refine tkI 4 (.slice (some ⟨g2, o2, none⟩) n c2) rfl hHeld ?_
          simp only [Act.put, gA, gB, gC, gD, gE, gF]
          refine tkI 5 (.int .i64 (k : Int)) rfl hHeld ?_
          simp only [Act.put, gA, gB, gC, gD, gE, gF]
          refine tkI 6 (.pointer (some ⟨g2, o2 + k, none⟩)) rfl hHeld ?_
          simp only [Act.put, gA, gB, gC, gD, gE, gF]
          refine tkL 7 (.int .i64 y) rfl (fun w' hS => by (obtain ⟨s0, s1⟩ := hS; go_simp)) hHeld ?_
          simp only [Act.put, gA, gB, gC, gD, gE, gF]
          refine tkL 8 (.bool false) rfl (fun w' hS => by (go_simp <;> simpa using hxy)) hHeld ?_
          simp only [Act.put, gA, gB, gC, gD, gE, gF]
          refine wpAnyH_done (by kernel_rfl) ?_ _
          clear hHeld
          go_wp2
          exact ⟨⟨k + 1, by omega, by go_num, Hn.out He.out, HB.out.drew⟩, by simp [intOf]; omega⟩
        · have hxy : (x != y) = true := by simpa using he
          have He : Hid (x ≠ y) := he
          clear he
          go_wp2
          refine wp_region_held_drew (S := (fun w' => w'.cell? ⟨g1, o1 + k, none⟩ = some (.int .i64 x) ∧ w'.cell? ⟨g2, o2 + k, none⟩ = some (.int .i64 y))) (by kernel_rfl) ⟨below_at (Below.refl _ _).drew h1, below_at (Below.refl _ _).drew h2⟩ (fun hHeld => ?_)
          simp only [Act.put, List.size_toArray, List.length_cons, List.length_nil, Nat.zero_add]
          refine tkI 0 (.slice (some ⟨g1, o1, none⟩) n c1) rfl hHeld ?_
          simp only [Act.put, gA, gB, gC, gD, gE, gF]
          refine tkI 1 (.int .i64 (k : Int)) rfl hHeld ?_
          simp only [Act.put, gA, gB, gC, gD, gE, gF]
          refine tkI 2 (.pointer (some ⟨g1, o1 + k, none⟩)) rfl hHeld ?_
          simp only [Act.put, gA, gB, gC, gD, gE, gF]
          refine tkL 3 (.int .i64 x) rfl (fun w' hS => by (obtain ⟨s0, s1⟩ := hS; go_simp)) hHeld ?_
          simp only [Act.put, gA, gB, gC, gD, gE, gF]
          refine tkI 4 (.slice (some ⟨g2, o2, none⟩) n c2) rfl hHeld ?_
          simp only [Act.put, gA, gB, gC, gD, gE, gF]
          refine tkI 5 (.int .i64 (k : Int)) rfl hHeld ?_
          simp only [Act.put, gA, gB, gC, gD, gE, gF]
          refine tkI 6 (.pointer (some ⟨g2, o2 + k, none⟩)) rfl hHeld ?_
          simp only [Act.put, gA, gB, gC, gD, gE, gF]
          refine tkL 7 (.int .i64 y) rfl (fun w' hS => by (obtain ⟨s0, s1⟩ := hS; go_simp)) hHeld ?_
          simp only [Act.put, gA, gB, gC, gD, gE, gF]
          refine tkL 8 (.bool true) rfl (fun w' hS => by (go_simp <;> simpa using hxy)) hHeld ?_
          simp only [Act.put, gA, gB, gC, gD, gE, gF]
          refine wpAnyH_done (by kernel_rfl) ?_ _
          clear hHeld
          go_wp2
          go_ret
          exact ⟨by rw [Hne.out He.out]; rfl, HB.out.drew⟩
      · obtain rfl : k = n := by omega
        have Hr1 : Hid (r = true) := by
          rw [List.take_of_length_le (by rw [Hx.out]; exact Nat.le_refl _), List.take_of_length_le (by rw [Hy.out]; exact Nat.le_refl _)] at het
          show r = true
          rw [← Hr.out]
          exact decide_eq_true het
        clear het
        go_wp2
        go_ret
        exact ⟨by rw [Hr1.out]; rfl, hb⟩
  · have hne : ¬ xs = ys := fun e => hnm (by rw [← lx, ← ly, e])
    rw [decide_eq_false hne]
    have hn2 : ¬ ((n : Int) = (m : Int)) := by omega
    clear h1 h2 lx ly hne
    go_enter Try.func35, Try.ntmps35
    go_wp2
    go_ret
    exact ⟨rfl, Below.refl _ _⟩
set_option maxHeartbeats 2000000 in
theorem qsid4 (x0 x1 x2 x3 y0 y1 y2 y3 : Int) : Calls Try.prog 50 #[.agg #[.int .i64 x0, .int .i64 x1, .int .i64 x2, .int .i64 x3], .agg #[.int .i64 y0, .int .i64 y1, .int .i64 y2, .int .i64 y3]] w fun e w' => e = .returned (.bool ((x0 == y0) && (x1 == y1) && (x2 == y2) && (x3 == y3))) ∧ Below w.heap.size w w' := by
  generalize hW1 : w.alloc (.cells #[.int .i64 x0, .int .i64 x1, .int .i64 x2, .int .i64 x3] 38) = W1
  generalize hW2 : W1.alloc (.cells #[.int .i64 y0, .int .i64 y1, .int .i64 y2, .int .i64 y3] 38) = W2
  have b1 : Below w.heap.size w W1 := hW1 ▸ balloc (Below.refl _ _)
  have b2 : Below W1.heap.size W1 W2 := hW2 ▸ balloc (Below.refl _ _)
  have k1 : W1.heap[w.heap.size]? = some (.cells #[.int .i64 x0, .int .i64 x1, .int .i64 x2, .int .i64 x3] 38 (0, 0)) := by rw [← hW1]; exact heap_alloc_new w _
  have k2 : W2.heap[W1.heap.size]? = some (.cells #[.int .i64 y0, .int .i64 y1, .int .i64 y2, .int .i64 y3] 38 (0, 0)) := by rw [← hW2]; exact heap_alloc_new W1 _
  have k12 : W2.heap[w.heap.size]? = some (.cells #[.int .i64 x0, .int .i64 x1, .int .i64 x2, .int .i64 x3] 38 (0, 0)) := (b2.block _ (lt_heap k1)).trans k1
  have a0 : W2.cell? ⟨w.heap.size, 0, none⟩ = some (.int .i64 x0) := blk_cell k12 0
  have b0' : W2.cell? ⟨W1.heap.size, 0, none⟩ = some (.int .i64 y0) := blk_cell k2 0
  have a1 : W2.cell? ⟨w.heap.size, 1, none⟩ = some (.int .i64 x1) := blk_cell k12 1
  have b1' : W2.cell? ⟨W1.heap.size, 1, none⟩ = some (.int .i64 y1) := blk_cell k2 1
  have a2 : W2.cell? ⟨w.heap.size, 2, none⟩ = some (.int .i64 x2) := blk_cell k12 2
  have b2' : W2.cell? ⟨W1.heap.size, 2, none⟩ = some (.int .i64 y2) := blk_cell k2 2
  have a3 : W2.cell? ⟨w.heap.size, 3, none⟩ = some (.int .i64 x3) := blk_cell k12 3
  have b3' : W2.cell? ⟨W1.heap.size, 3, none⟩ = some (.int .i64 y3) := blk_cell k2 3
  have HB2 : Hid (Below w.heap.size w W2) := bstep b1 b2
  clear b1 b2 k1 k2 k12
  rcases Bool.eq_false_or_eq_true (x0 == y0) with g0 | g0
  rotate_left
  · skip
    go_enter Try.func50, Try.ntmps50
    go_wp2_with (first | (refine wl_at 9 rfl ?_) | fail)
    refine wl_take (v := .bool false) (by kernel_rfl) (by (go_simp <;> simpa using g0)) ?_
    simp only [Act.put, gA, gB, gC, gD, gE, gF]
    refine wlT (.bool false) ?_
    simp only [Act.put, gA, gB, gC, gD, gE, gF]
    refine wlS ?_
    simp only [Act.put, gA, gB, gC, gD, gE, gF]
    refine wlS ?_
    simp only [Act.put, gA, gB, gC, gD, gE, gF]
    refine wlS ?_
    simp only [Act.put, gA, gB, gC, gD, gE, gF]
    refine wlS ?_
    simp only [Act.put, gA, gB, gC, gD, gE, gF]
    refine wlS ?_
    simp only [Act.put, gA, gB, gC, gD, gE, gF]
    refine wlT (.bool false) ?_
    simp only [Act.put, gA, gB, gC, gD, gE, gF]
    refine wlT (.bool false) ?_
    simp only [Act.put, gA, gB, gC, gD, gE, gF]
    refine wlS ?_
    simp only [Act.put, gA, gB, gC, gD, gE, gF]
    refine wlS ?_
    simp only [Act.put, gA, gB, gC, gD, gE, gF]
    refine wlS ?_
    simp only [Act.put, gA, gB, gC, gD, gE, gF]
    refine wlS ?_
    simp only [Act.put, gA, gB, gC, gD, gE, gF]
    refine wlS ?_
    simp only [Act.put, gA, gB, gC, gD, gE, gF]
    refine wlT (.bool false) ?_
    simp only [Act.put, gA, gB, gC, gD, gE, gF]
    refine wlT (.bool false) ?_
    simp only [Act.put, gA, gB, gC, gD, gE, gF]
    refine wlS ?_
    simp only [Act.put, gA, gB, gC, gD, gE, gF]
    refine wlS ?_
    simp only [Act.put, gA, gB, gC, gD, gE, gF]
    refine wlS ?_
    simp only [Act.put, gA, gB, gC, gD, gE, gF]
    refine wlS ?_
    simp only [Act.put, gA, gB, gC, gD, gE, gF]
    refine wlS ?_
    simp only [Act.put, gA, gB, gC, gD, gE, gF]
    refine wlT (.bool false) ?_
    simp only [Act.put, gA, gB, gC, gD, gE, gF]
    refine wlT (.bool false) ?_
    simp only [Act.put, gA, gB, gC, gD, gE, gF]
    refine ⟨?_⟩
    go_wp2
    go_ret
    exact ⟨by rw [g0]; rfl, HB2.out⟩
  rcases Bool.eq_false_or_eq_true (x1 == y1) with g1 | g1
  rotate_left
  · skip
    go_enter Try.func50, Try.ntmps50
    go_wp2_with (first | (refine wl_at 9 rfl ?_) | fail)
    refine wl_take (v := .bool true) (by kernel_rfl) (by (go_simp <;> simpa using g0)) ?_
    simp only [Act.put, gA, gB, gC, gD, gE, gF]
    refine wlT (.bool true) ?_
    simp only [Act.put, gA, gB, gC, gD, gE, gF]
    refine wlT (.pointer (some ⟨w.heap.size, 1, none⟩)) ?_
    simp only [Act.put, gA, gB, gC, gD, gE, gF]
    refine wlT (.int .i64 x1) ?_
    simp only [Act.put, gA, gB, gC, gD, gE, gF]
    refine wlT (.pointer (some ⟨W1.heap.size, 1, none⟩)) ?_
    simp only [Act.put, gA, gB, gC, gD, gE, gF]
    refine wlT (.int .i64 y1) ?_
    simp only [Act.put, gA, gB, gC, gD, gE, gF]
    refine wl_take (v := .bool false) (by kernel_rfl) (by (go_simp <;> simpa using g1)) ?_
    simp only [Act.put, gA, gB, gC, gD, gE, gF]
    refine wlT (.bool false) ?_
    simp only [Act.put, gA, gB, gC, gD, gE, gF]
    refine wlT (.bool false) ?_
    simp only [Act.put, gA, gB, gC, gD, gE, gF]
    refine wlS ?_
    simp only [Act.put, gA, gB, gC, gD, gE, gF]
    refine wlS ?_
    simp only [Act.put, gA, gB, gC, gD, gE, gF]
    refine wlS ?_
    simp only [Act.put, gA, gB, gC, gD, gE, gF]
    refine wlS ?_
    simp only [Act.put, gA, gB, gC, gD, gE, gF]
    refine wlS ?_
    simp only [Act.put, gA, gB, gC, gD, gE, gF]
    refine wlT (.bool false) ?_
    simp only [Act.put, gA, gB, gC, gD, gE, gF]
    refine wlT (.bool false) ?_
    simp only [Act.put, gA, gB, gC, gD, gE, gF]
    refine wlS ?_
    simp only [Act.put, gA, gB, gC, gD, gE, gF]
    refine wlS ?_
    simp only [Act.put, gA, gB, gC, gD, gE, gF]
    refine wlS ?_
    simp only [Act.put, gA, gB, gC, gD, gE, gF]
    refine wlS ?_
    simp only [Act.put, gA, gB, gC, gD, gE, gF]
    refine wlS ?_
    simp only [Act.put, gA, gB, gC, gD, gE, gF]
    refine wlT (.bool false) ?_
    simp only [Act.put, gA, gB, gC, gD, gE, gF]
    refine wlT (.bool false) ?_
    simp only [Act.put, gA, gB, gC, gD, gE, gF]
    refine ⟨?_⟩
    go_wp2
    go_ret
    exact ⟨by rw [g0, g1]; rfl, HB2.out⟩
  rcases Bool.eq_false_or_eq_true (x2 == y2) with g2 | g2
  rotate_left
  · skip
    go_enter Try.func50, Try.ntmps50
    go_wp2_with (first | (refine wl_at 9 rfl ?_) | fail)
    refine wl_take (v := .bool true) (by kernel_rfl) (by (go_simp <;> simpa using g0)) ?_
    simp only [Act.put, gA, gB, gC, gD, gE, gF]
    refine wlT (.bool true) ?_
    simp only [Act.put, gA, gB, gC, gD, gE, gF]
    refine wlT (.pointer (some ⟨w.heap.size, 1, none⟩)) ?_
    simp only [Act.put, gA, gB, gC, gD, gE, gF]
    refine wlT (.int .i64 x1) ?_
    simp only [Act.put, gA, gB, gC, gD, gE, gF]
    refine wlT (.pointer (some ⟨W1.heap.size, 1, none⟩)) ?_
    simp only [Act.put, gA, gB, gC, gD, gE, gF]
    refine wlT (.int .i64 y1) ?_
    simp only [Act.put, gA, gB, gC, gD, gE, gF]
    refine wl_take (v := .bool true) (by kernel_rfl) (by (go_simp <;> simpa using g1)) ?_
    simp only [Act.put, gA, gB, gC, gD, gE, gF]
    refine wlT (.bool true) ?_
    simp only [Act.put, gA, gB, gC, gD, gE, gF]
    refine wlT (.bool true) ?_
    simp only [Act.put, gA, gB, gC, gD, gE, gF]
    refine wlT (.pointer (some ⟨w.heap.size, 2, none⟩)) ?_
    simp only [Act.put, gA, gB, gC, gD, gE, gF]
    refine wlT (.int .i64 x2) ?_
    simp only [Act.put, gA, gB, gC, gD, gE, gF]
    refine wlT (.pointer (some ⟨W1.heap.size, 2, none⟩)) ?_
    simp only [Act.put, gA, gB, gC, gD, gE, gF]
    refine wlT (.int .i64 y2) ?_
    simp only [Act.put, gA, gB, gC, gD, gE, gF]
    refine wl_take (v := .bool false) (by kernel_rfl) (by (go_simp <;> simpa using g2)) ?_
    simp only [Act.put, gA, gB, gC, gD, gE, gF]
    refine wlT (.bool false) ?_
    simp only [Act.put, gA, gB, gC, gD, gE, gF]
    refine wlT (.bool false) ?_
    simp only [Act.put, gA, gB, gC, gD, gE, gF]
    refine wlS ?_
    simp only [Act.put, gA, gB, gC, gD, gE, gF]
    refine wlS ?_
    simp only [Act.put, gA, gB, gC, gD, gE, gF]
    refine wlS ?_
    simp only [Act.put, gA, gB, gC, gD, gE, gF]
    refine wlS ?_
    simp only [Act.put, gA, gB, gC, gD, gE, gF]
    refine wlS ?_
    simp only [Act.put, gA, gB, gC, gD, gE, gF]
    refine wlT (.bool false) ?_
    simp only [Act.put, gA, gB, gC, gD, gE, gF]
    refine wlT (.bool false) ?_
    simp only [Act.put, gA, gB, gC, gD, gE, gF]
    refine ⟨?_⟩
    go_wp2
    go_ret
    exact ⟨by rw [g0, g1, g2]; rfl, HB2.out⟩
  rcases Bool.eq_false_or_eq_true (x3 == y3) with g3 | g3
  rotate_left
  · skip
    go_enter Try.func50, Try.ntmps50
    go_wp2_with (first | (refine wl_at 9 rfl ?_) | fail)
    refine wl_take (v := .bool true) (by kernel_rfl) (by (go_simp <;> simpa using g0)) ?_
    simp only [Act.put, gA, gB, gC, gD, gE, gF]
    refine wlT (.bool true) ?_
    simp only [Act.put, gA, gB, gC, gD, gE, gF]
    refine wlT (.pointer (some ⟨w.heap.size, 1, none⟩)) ?_
    simp only [Act.put, gA, gB, gC, gD, gE, gF]
    refine wlT (.int .i64 x1) ?_
    simp only [Act.put, gA, gB, gC, gD, gE, gF]
    refine wlT (.pointer (some ⟨W1.heap.size, 1, none⟩)) ?_
    simp only [Act.put, gA, gB, gC, gD, gE, gF]
    refine wlT (.int .i64 y1) ?_
    simp only [Act.put, gA, gB, gC, gD, gE, gF]
    refine wl_take (v := .bool true) (by kernel_rfl) (by (go_simp <;> simpa using g1)) ?_
    simp only [Act.put, gA, gB, gC, gD, gE, gF]
    refine wlT (.bool true) ?_
    simp only [Act.put, gA, gB, gC, gD, gE, gF]
    refine wlT (.bool true) ?_
    simp only [Act.put, gA, gB, gC, gD, gE, gF]
    refine wlT (.pointer (some ⟨w.heap.size, 2, none⟩)) ?_
    simp only [Act.put, gA, gB, gC, gD, gE, gF]
    refine wlT (.int .i64 x2) ?_
    simp only [Act.put, gA, gB, gC, gD, gE, gF]
    refine wlT (.pointer (some ⟨W1.heap.size, 2, none⟩)) ?_
    simp only [Act.put, gA, gB, gC, gD, gE, gF]
    refine wlT (.int .i64 y2) ?_
    simp only [Act.put, gA, gB, gC, gD, gE, gF]
    refine wl_take (v := .bool true) (by kernel_rfl) (by (go_simp <;> simpa using g2)) ?_
    simp only [Act.put, gA, gB, gC, gD, gE, gF]
    refine wlT (.bool true) ?_
    simp only [Act.put, gA, gB, gC, gD, gE, gF]
    refine wlT (.bool true) ?_
    simp only [Act.put, gA, gB, gC, gD, gE, gF]
    refine wlT (.pointer (some ⟨w.heap.size, 3, none⟩)) ?_
    simp only [Act.put, gA, gB, gC, gD, gE, gF]
    refine wlT (.int .i64 x3) ?_
    simp only [Act.put, gA, gB, gC, gD, gE, gF]
    refine wlT (.pointer (some ⟨W1.heap.size, 3, none⟩)) ?_
    simp only [Act.put, gA, gB, gC, gD, gE, gF]
    refine wlT (.int .i64 y3) ?_
    simp only [Act.put, gA, gB, gC, gD, gE, gF]
    refine wl_take (v := .bool false) (by kernel_rfl) (by (go_simp <;> simpa using g3)) ?_
    simp only [Act.put, gA, gB, gC, gD, gE, gF]
    refine wlT (.bool false) ?_
    simp only [Act.put, gA, gB, gC, gD, gE, gF]
    refine wlT (.bool false) ?_
    simp only [Act.put, gA, gB, gC, gD, gE, gF]
    refine ⟨?_⟩
    go_wp2
    go_ret
    exact ⟨by rw [g0, g1, g2, g3]; rfl, HB2.out⟩
  go_enter Try.func50, Try.ntmps50
  go_wp2_with (first | (refine wl_at 9 rfl ?_) | fail)
  refine wl_take (v := .bool true) (by kernel_rfl) (by (go_simp <;> simpa using g0)) ?_
  simp only [Act.put, gA, gB, gC, gD, gE, gF]
  refine wlT (.bool true) ?_
  simp only [Act.put, gA, gB, gC, gD, gE, gF]
  refine wlT (.pointer (some ⟨w.heap.size, 1, none⟩)) ?_
  simp only [Act.put, gA, gB, gC, gD, gE, gF]
  refine wlT (.int .i64 x1) ?_
  simp only [Act.put, gA, gB, gC, gD, gE, gF]
  refine wlT (.pointer (some ⟨W1.heap.size, 1, none⟩)) ?_
  simp only [Act.put, gA, gB, gC, gD, gE, gF]
  refine wlT (.int .i64 y1) ?_
  simp only [Act.put, gA, gB, gC, gD, gE, gF]
  refine wl_take (v := .bool true) (by kernel_rfl) (by (go_simp <;> simpa using g1)) ?_
  simp only [Act.put, gA, gB, gC, gD, gE, gF]
  refine wlT (.bool true) ?_
  simp only [Act.put, gA, gB, gC, gD, gE, gF]
  refine wlT (.bool true) ?_
  simp only [Act.put, gA, gB, gC, gD, gE, gF]
  refine wlT (.pointer (some ⟨w.heap.size, 2, none⟩)) ?_
  simp only [Act.put, gA, gB, gC, gD, gE, gF]
  refine wlT (.int .i64 x2) ?_
  simp only [Act.put, gA, gB, gC, gD, gE, gF]
  refine wlT (.pointer (some ⟨W1.heap.size, 2, none⟩)) ?_
  simp only [Act.put, gA, gB, gC, gD, gE, gF]
  refine wlT (.int .i64 y2) ?_
  simp only [Act.put, gA, gB, gC, gD, gE, gF]
  refine wl_take (v := .bool true) (by kernel_rfl) (by (go_simp <;> simpa using g2)) ?_
  simp only [Act.put, gA, gB, gC, gD, gE, gF]
  refine wlT (.bool true) ?_
  simp only [Act.put, gA, gB, gC, gD, gE, gF]
  refine wlT (.bool true) ?_
  simp only [Act.put, gA, gB, gC, gD, gE, gF]
  refine wlT (.pointer (some ⟨w.heap.size, 3, none⟩)) ?_
  simp only [Act.put, gA, gB, gC, gD, gE, gF]
  refine wlT (.int .i64 x3) ?_
  simp only [Act.put, gA, gB, gC, gD, gE, gF]
  refine wlT (.pointer (some ⟨W1.heap.size, 3, none⟩)) ?_
  simp only [Act.put, gA, gB, gC, gD, gE, gF]
  refine wlT (.int .i64 y3) ?_
  simp only [Act.put, gA, gB, gC, gD, gE, gF]
  refine wl_take (v := .bool true) (by kernel_rfl) (by (go_simp <;> simpa using g3)) ?_
  simp only [Act.put, gA, gB, gC, gD, gE, gF]
  refine wlT (.bool true) ?_
  simp only [Act.put, gA, gB, gC, gD, gE, gF]
  refine wlT (.bool true) ?_
  simp only [Act.put, gA, gB, gC, gD, gE, gF]
  refine ⟨?_⟩
  go_wp2
  go_ret
  exact ⟨by rw [g0, g1, g2, g3]; rfl, HB2.out⟩
theorem qsid_any (xs ys : List Int) (hx : xs.length = 4) (hy : ys.length = 4) : Calls Try.prog 50 #[.agg (ints xs).toArray, .agg (ints ys).toArray] w fun e w' => e = .returned (.bool (decide (xs = ys))) ∧ Below w.heap.size w w' := by
  match xs, ys, hx, hy with
  | [x0, x1, x2, x3], [y0, y1, y2, y3], _, _ =>
    have e : decide ([x0, x1, x2, x3] = [y0, y1, y2, y3]) = ((x0 == y0) && (x1 == y1) && (x2 == y2) && (x3 == y3)) := by
      rw [Bool.eq_iff_iff]
      simp [and_assoc]
    rw [e]
    exact qsid4 x0 x1 x2 x3 y0 y1 y2 y3
set_option maxHeartbeats 2000000 in
theorem qints_any {ao : Option Addr} {n c : Nat} {xs : List Int} (hr : RdI w ao n xs) (hn : n ≤ 1000) : Calls Try.prog 55 #[.slice ao n c] w fun e w' => ∃ v, e = .returned v ∧ w'.ownsRow w.heap.size 3 1 v n (ints xs) ∧ Below w.heap.size w w' := by
  obtain ⟨i0, hi, hz0, hz1, hz2⟩ := info_parts info_i
  have hl := hr.1
  have Hr : Hid (RdI w ao n xs) := hr
  clear hr
  go_enter Try.func55, Try.ntmps55
  go_wp2
  go_loopw [3, 4] (fun v i wr => ∃ k : Nat, k ≤ n ∧ i = .int .i64 k ∧ wr.ownsRow w.heap.size 3 1 v k (ints (xs.take k)) ∧ Below w.heap.size w wr) (fun _ i _ => n - (intOf i).toNat)
  case atStart => exact ⟨0, Nat.zero_le _, rfl, ⟨rfl, .inl ⟨rfl, rfl⟩⟩, Below.refl _ _⟩
  case round =>
    obtain ⟨k, hk, rfl, ho, hb⟩ := hrel
    by_cases hlt : k < n
    · obtain ⟨g, o, hg, e0⟩ := (Hr.out.still hb).at hlt
      have HO : Hid (wr.ownsRow w.heap.size 3 1 u3 k (ints (xs.take k))) := ho
      have HB : Hid (Below w.heap.size w wr) := hb
      have hs1 := hb.size
      have i1 : (0 : Int) ≤ (k : Int) := Int.natCast_nonneg _
      have i2 : (k : Int) < (n : Int) := by omega
      have hnx : Hid (ints (xs.take (k + 1)) = ints (xs.take k) ++ [.int .i64 (xs.getD k 0)]) := by
        show _ = _
        rw [List.take_add_one]
        have e2 : xs[k]? = some (xs.getD k 0) := by simp [List.getD, show k < xs.length by omega]
        rw [e2]
        simp [ints]
      subst hg
      generalize xs.getD k 0 = x at e0 hnx
      generalize hI : ints (xs.take k) = I at HO hnx
      clear ho hb
      go_wp2_with (first
        | (at_builtin; refine wpList_append_lies _ rfl _ _ 36 rfl w.heap.size 3 i0 (.int .i64 0) 1 8 Try.underlying36 hi hz0 hz1 hz2 rfl (by omega) u3 k I rfl (World.ownsRow.alloc HO.out _) _ 1 1 _ rfl rfl (World.news_of_block (heap_alloc_new _ _)) (by simp [Value.oneCell']) (by omega) (by unfold maxLen; omega) (by omega) (by simp; omega) _ rfl ?_; intro g3 cap3 w3 hown3 hgrow3 hat3 hlt3)
        | fail)
      go_roundw
      case rel =>
        refine ⟨k + 1, by omega, by go_num, by rw [hnx.out]; simpa using hown3, ?_⟩
        exact (balloc HB.out).grown hgrow3 (by simp; omega) (fun q hq => (World.ownsRow.lt HO.out q hq).1)
      case measure => simp [intOf]; omega
    · obtain rfl : k = n := by omega
      rw [List.take_of_length_le (by omega)] at ho
      go_wp2
      go_ret
      exact ⟨_, rfl, ho, hb⟩
set_option maxHeartbeats 2000000 in
theorem qcounts_any {ao : Option Addr} {n c : Nat} {xs : List Int} (hr : RdI w ao n xs) (hn : n ≤ 17592186044416) (m : Nat) (hm : m ≤ 16) : Calls Try.prog 34 #[.slice ao n c, .int .i64 m] w fun e w' => e = .returned (.bool (okL xs m)) ∧ w = w' := by
  have hl := hr.1
  by_cases hnm : n = m
  · subst hnm
    have Hr : Hid (RdI w ao n xs) := hr
    clear hr
    have hok : okL xs n = xs.all inR := by unfold okL; rw [decide_eq_true hl, Bool.true_and]
    rw [hok]
    go_enter Try.func34, Try.ntmps34
    go_wp2
    go_loopw [5] (fun i wr => ∃ k : Nat, k ≤ n ∧ i = .int .i64 k ∧ (xs.take k).all inR = true ∧ w = wr) (fun i _ => n - (intOf i).toNat)
    case atStart => exact ⟨0, Nat.zero_le _, rfl, by simp, rfl⟩
    case round =>
      obtain ⟨k, hk, rfl, hall, rfl⟩ := hrel
      by_cases hlt : k < n
      · obtain ⟨g, o, hg, e0⟩ := Hr.out.at hlt
        have i1 : (0 : Int) ≤ (k : Int) := Int.natCast_nonneg _
        have i2 : (k : Int) < (n : Int) := by omega
        have hm0 : xs.getD k 0 ∈ xs := by
          have : k < xs.length := by omega
          simp [List.getD, this]
        have hmem : Hid (xs.getD k 0 ∈ xs) := hm0
        have hnext : Hid (inR (xs.getD k 0) = true → (xs.take (k + 1)).all inR = true) := fun h => by
          have : k < xs.length := by omega
          rw [List.take_add_one, List.all_append, hall]
          have e2 : xs[k]? = some (xs.getD k 0) := by simp [List.getD, this]
          rw [e2]
          simpa using h
        subst hg
        generalize xs.getD k 0 = x at *
        clear hall hm0
        by_cases h0 : x < 0
        · have hx : inR x = false := by unfold inR; exact decide_eq_false (by omega)
          go_wp2
          go_ret
          refine ⟨?_, rfl⟩
          congr 2
          cases ha : xs.all inR with
          | false => rfl
          | true => have := List.all_eq_true.1 ha x hmem.out; rw [hx] at this; cases this
        · by_cases h1 : 4611686018427387904 < x
          · have hx : inR x = false := by unfold inR; exact decide_eq_false (by omega)
            have h0' : decide (x < 0) = false := decide_eq_false h0
            go_wp2
            go_ret
            refine ⟨?_, rfl⟩
            congr 2
            cases ha : xs.all inR with
            | false => rfl
            | true => have := List.all_eq_true.1 ha x hmem.out; rw [hx] at this; cases this
          · have hx : inR x = true := by unfold inR; exact decide_eq_true (by omega)
            have h0' : decide (x < 0) = false := decide_eq_false h0
            have h1' : decide (4611686018427387904 < x) = false := decide_eq_false h1
            have Hnx : Hid ((xs.take (k + 1)).all inR = true) := hnext.out hx
            clear hnext hx
            go_wp2
            first
              | exact ⟨⟨k + 1, by omega, by go_num, Hnx.out, by first | rfl | trivial⟩, by simp [intOf]; omega⟩
              | (go_roundw
                 case rel => exact ⟨k + 1, by omega, by go_num, Hnx.out, by first | rfl | trivial⟩
                 case measure => simp [intOf]; omega)
      · obtain rfl : k = n := by omega
        rw [List.take_of_length_le (by omega)] at hall
        have Hall : Hid (xs.all inR = true) := hall
        clear hall
        go_wp2
        go_ret
        exact ⟨by rw [Hall.out]; rfl, rfl⟩
  · have hok : okL xs m = false := by unfold okL; rw [decide_eq_false (by omega), Bool.false_and]
    rw [hok]
    have hne : ¬ ((n : Int) = (m : Int)) := by omega
    have hne' : ((n : Int) == (m : Int)) = false := by simpa using hne
    clear hr
    go_enter Try.func34, Try.ntmps34
    go_wp2
    go_ret
    exact ⟨rfl, rfl⟩
theorem qnone_any (xs : List Int) (hx : xs.length = 4) : Calls Try.prog 51 #[.agg (ints xs).toArray] w fun e w' => e = .returned (.bool (decide (xs = [0, 0, 0, 0]))) ∧ Below w.heap.size w w' := by
  obtain ⟨x0, x1, x2, x3, rfl⟩ := list4e xs hx
  show Calls Try.prog 51 #[.agg #[.int .i64 x0, .int .i64 x1, .int .i64 x2, .int .i64 x3]] w fun e w' => _
  generalize hW1 : w.alloc (.cells #[.int .i64 x0, .int .i64 x1, .int .i64 x2, .int .i64 x3] 38) = W1
  have b1 : Below w.heap.size w W1 := hW1 ▸ balloc (Below.refl _ _)
  have k1 : W1.heap[w.heap.size]? = some (.cells #[.int .i64 x0, .int .i64 x1, .int .i64 x2, .int .i64 x3] 38 (0, 0)) := by rw [← hW1]; exact heap_alloc_new w _
  have c0 : W1.cell? ⟨w.heap.size, 0, none⟩ = some (.int .i64 x0) := blk_cell k1 0
  have c1 : W1.cell? ⟨w.heap.size, 1, none⟩ = some (.int .i64 x1) := blk_cell k1 1
  have c2 : W1.cell? ⟨w.heap.size, 2, none⟩ = some (.int .i64 x2) := blk_cell k1 2
  have c3 : W1.cell? ⟨w.heap.size, 3, none⟩ = some (.int .i64 x3) := blk_cell k1 3
  have HS : Calls Try.prog 50 #[.agg #[.int .i64 x0, .int .i64 x1, .int .i64 x2, .int .i64 x3], .agg #[.int .i64 0, .int .i64 0, .int .i64 0, .int .i64 0]] W1 fun e w' => e = .returned (.bool (decide ([x0, x1, x2, x3] = [0, 0, 0, 0]))) ∧ Below W1.heap.size W1 w' := qsid_any [x0, x1, x2, x3] [0, 0, 0, 0] rfl rfl
  have HB : Hid (Below w.heap.size w W1) := b1
  clear b1 k1
  generalize decide ([x0, x1, x2, x3] = [0, 0, 0, 0]) = bb at HS ⊢
  go_enter Try.func51, Try.ntmps51
  go_wp2_with (first | (go_at_call 50; refine HS.mono ?_; rintro e w2 ⟨rfl, hb2⟩) | fail)
  go_ret
  exact ⟨rfl, bstep HB.out hb2⟩
end
end Go.Proofs.Ytbdefhagpgpoiac.Mb
