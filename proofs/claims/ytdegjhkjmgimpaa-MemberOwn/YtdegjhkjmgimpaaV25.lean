import Derived.Test.YtdegjhkjmgimpaaV17
namespace Go.Proofs.Ytdegjhkjmgimpaa.Mb
open Go.RowKit
set_option linter.unusedVariables false
set_option maxRecDepth 100000
set_option linter.unusedSimpArgs false
section
variable {A A' : Ag} {w w' W : World} {B : Nat} {T : Int}
theorem ext_take {xs ys : List Int} {n k : Nat} (hx : xs.length = n) (hy : ys.length = n) (hk : k < n) (h : xs.take k = ys.take k) (e : xs.getD k 0 = ys.getD k 0) : xs.take (k + 1) = ys.take (k + 1) := by
  have hx' : k < xs.length := by omega
  have hy' : k < ys.length := by omega
  rw [List.take_add_one, List.take_add_one, h]
  have e1 : xs[k]? = some (xs.getD k 0) := by simp [List.getD, hx']
  have e2 : ys[k]? = some (ys.getD k 0) := by simp [List.getD, hy']
  rw [e1, e2, e]
set_option maxHeartbeats 1000000 in
theorem ints_any {a1 a2 : Option Addr} {n m c1 c2 : Nat} {xs ys : List Int} (h1 : RdI w a1 n xs) (h2 : RdI w a2 m ys) (hn : n ≤ 17592186044420) : Calls Try.prog 24 #[.slice a1 n c1, .slice a2 m c2] w fun e w' => e = .returned (.bool (decide (xs = ys))) ∧ Below w.heap.size w w' := by
  have lx := h1.1
  have ly := h2.1
  by_cases hnm : n = m
  · subst hnm
    have H1 : Hid (RdI w a1 n xs) := h1
    have H2 : Hid (RdI w a2 n ys) := h2
    have Hx : Hid (xs.length = n) := lx
    have Hy : Hid (ys.length = n) := ly
    clear h1 h2 lx ly
    obtain ⟨r, hr⟩ : ∃ r, decide (xs = ys) = r := ⟨_, rfl⟩
    have Hr : Hid (decide (xs = ys) = r) := hr
    rw [hr]
    clear hr
    go_enter Try.func24, Try.ntmps24
    go_wp2
    go_loopw [5] (fun i wr => ∃ k : Nat, k ≤ n ∧ i = .int .i64 k ∧ xs.take k = ys.take k ∧ Below w.heap.size w wr) (fun i _ => n - (intOf i).toNat)
    case atStart => exact ⟨0, Nat.zero_le _, rfl, rfl, Below.refl _ _⟩
    case round =>
      obtain ⟨k, hk, rfl, het, hb⟩ := hrel
      by_cases hlt : k < n
      · obtain ⟨g1, o1, e1, h1⟩ := (H1.out.still hb).at hlt
        obtain ⟨g2, o2, e2, h2⟩ := (H2.out.still hb).at hlt
        have i1 : (0 : Int) ≤ (k : Int) := Int.natCast_nonneg _
        have i2 : (k : Int) < (n : Int) := by omega
        have HB : Hid (Below w.heap.size w wr) := hb
        have Hn : Hid (xs.getD k 0 = ys.getD k 0 → xs.take (k + 1) = ys.take (k + 1)) := ext_take Hx.out Hy.out hlt het
        have Hne : Hid (xs.getD k 0 ≠ ys.getD k 0 → r = false) := fun hh => by rw [← Hr.out]; exact decide_eq_false (fun e => hh (by rw [e]))
        generalize xs.getD k 0 = x at *
        generalize ys.getD k 0 = y at *
        subst e1 e2
        clear hb het
        by_cases he : x = y
        · have hxy : (x != y) = false := by simpa using he
          have He : Hid (x = y) := he
          clear he
          go_wp2
          refine wp_region_held_drew (S := (fun w' => w'.cell? ⟨g1, o1 + k, none⟩ = some (.int .i64 x) ∧ w'.cell? ⟨g2, o2 + k, none⟩ = some (.int .i64 y))) (by kernel_rfl) ⟨below_at (Below.refl _ _).drew h1, below_at (Below.refl _ _).drew h2⟩ (fun hHeld => ?_)
          simp only [Act.put, List.size_toArray, List.length_cons, List.length_nil, Nat.zero_add]
          refine wpAnyH_take (i := 0) (v := .slice (some ⟨g1, o1, none⟩) n c1) rfl (by kernel_rfl) (by kernel_rfl) (by kernel_rfl) (fun _ _ _ h => h) (Or.inl ⟨by rfl, fun w' hS => by go_simp⟩) hHeld ?_
          simp only [Act.put, gA9, gZ9, gC9, sA9, sZ9, sC9]
          refine wpAnyH_take (i := 1) (v := .int .i64 (k : Int)) rfl (by kernel_rfl) (by kernel_rfl) (by kernel_rfl) (fun _ _ _ h => h) (Or.inl ⟨by rfl, fun w' hS => by go_simp⟩) hHeld ?_
          simp only [Act.put, gA9, gZ9, gC9, sA9, sZ9, sC9]
          refine wpAnyH_take (i := 2) (v := .pointer (some ⟨g1, o1 + k, none⟩)) rfl (by kernel_rfl) (by kernel_rfl) (by kernel_rfl) (fun _ _ _ h => h) (Or.inl ⟨by rfl, fun w' hS => by go_simp⟩) hHeld ?_
          simp only [Act.put, gA9, gZ9, gC9, sA9, sZ9, sC9]
          refine wpAnyH_take (i := 3) (v := .int .i64 x) rfl (by kernel_rfl) (by kernel_rfl) (by kernel_rfl) (fun _ _ _ h => h) (Or.inl ⟨by rfl, fun w' hS => by (obtain ⟨s0, s1⟩ := hS; go_simp)⟩) hHeld ?_
          simp only [Act.put, gA9, gZ9, gC9, sA9, sZ9, sC9]
          refine wpAnyH_take (i := 4) (v := .slice (some ⟨g2, o2, none⟩) n c2) rfl (by kernel_rfl) (by kernel_rfl) (by kernel_rfl) (fun _ _ _ h => h) (Or.inl ⟨by rfl, fun w' hS => by go_simp⟩) hHeld ?_
          simp only [Act.put, gA9, gZ9, gC9, sA9, sZ9, sC9]
          refine wpAnyH_take (i := 5) (v := .int .i64 (k : Int)) rfl (by kernel_rfl) (by kernel_rfl) (by kernel_rfl) (fun _ _ _ h => h) (Or.inl ⟨by rfl, fun w' hS => by go_simp⟩) hHeld ?_
          simp only [Act.put, gA9, gZ9, gC9, sA9, sZ9, sC9]
          refine wpAnyH_take (i := 6) (v := .pointer (some ⟨g2, o2 + k, none⟩)) rfl (by kernel_rfl) (by kernel_rfl) (by kernel_rfl) (fun _ _ _ h => h) (Or.inl ⟨by rfl, fun w' hS => by go_simp⟩) hHeld ?_
          simp only [Act.put, gA9, gZ9, gC9, sA9, sZ9, sC9]
          refine wpAnyH_take (i := 7) (v := .int .i64 y) rfl (by kernel_rfl) (by kernel_rfl) (by kernel_rfl) (fun _ _ _ h => h) (Or.inl ⟨by rfl, fun w' hS => by (obtain ⟨s0, s1⟩ := hS; go_simp)⟩) hHeld ?_
          simp only [Act.put, gA9, gZ9, gC9, sA9, sZ9, sC9]
          refine wpAnyH_take (i := 8) (v := .bool false) rfl (by kernel_rfl) (by kernel_rfl) (by kernel_rfl) (fun _ _ _ h => h) (Or.inl ⟨by rfl, fun w' hS => by (go_simp <;> simpa using hxy)⟩) hHeld ?_
          simp only [Act.put, gA9, gZ9, gC9, sA9, sZ9, sC9]
          refine wpAnyH_done (by kernel_rfl) ?_ _
          clear hHeld
          go_wp2
          exact ⟨⟨k + 1, by omega, by go_num, Hn.out He.out, HB.out.drew⟩, by simp [intOf]; omega⟩
        · have hxy : (x != y) = true := by simpa using he
          have He : Hid (x ≠ y) := he
          clear he
          go_wp2
          refine wp_region_held_drew (S := (fun w' => w'.cell? ⟨g1, o1 + k, none⟩ = some (.int .i64 x) ∧ w'.cell? ⟨g2, o2 + k, none⟩ = some (.int .i64 y))) (by kernel_rfl) ⟨below_at (Below.refl _ _).drew h1, below_at (Below.refl _ _).drew h2⟩ (fun hHeld => ?_)
          simp only [Act.put, List.size_toArray, List.length_cons, List.length_nil, Nat.zero_add]
          refine wpAnyH_take (i := 0) (v := .slice (some ⟨g1, o1, none⟩) n c1) rfl (by kernel_rfl) (by kernel_rfl) (by kernel_rfl) (fun _ _ _ h => h) (Or.inl ⟨by rfl, fun w' hS => by go_simp⟩) hHeld ?_
          simp only [Act.put, gA9, gZ9, gC9, sA9, sZ9, sC9]
          refine wpAnyH_take (i := 1) (v := .int .i64 (k : Int)) rfl (by kernel_rfl) (by kernel_rfl) (by kernel_rfl) (fun _ _ _ h => h) (Or.inl ⟨by rfl, fun w' hS => by go_simp⟩) hHeld ?_
          simp only [Act.put, gA9, gZ9, gC9, sA9, sZ9, sC9]
          refine wpAnyH_take (i := 2) (v := .pointer (some ⟨g1, o1 + k, none⟩)) rfl (by kernel_rfl) (by kernel_rfl) (by kernel_rfl) (fun _ _ _ h => h) (Or.inl ⟨by rfl, fun w' hS => by go_simp⟩) hHeld ?_
          simp only [Act.put, gA9, gZ9, gC9, sA9, sZ9, sC9]
          refine wpAnyH_take (i := 3) (v := .int .i64 x) rfl (by kernel_rfl) (by kernel_rfl) (by kernel_rfl) (fun _ _ _ h => h) (Or.inl ⟨by rfl, fun w' hS => by (obtain ⟨s0, s1⟩ := hS; go_simp)⟩) hHeld ?_
          simp only [Act.put, gA9, gZ9, gC9, sA9, sZ9, sC9]
          refine wpAnyH_take (i := 4) (v := .slice (some ⟨g2, o2, none⟩) n c2) rfl (by kernel_rfl) (by kernel_rfl) (by kernel_rfl) (fun _ _ _ h => h) (Or.inl ⟨by rfl, fun w' hS => by go_simp⟩) hHeld ?_
          simp only [Act.put, gA9, gZ9, gC9, sA9, sZ9, sC9]
          refine wpAnyH_take (i := 5) (v := .int .i64 (k : Int)) rfl (by kernel_rfl) (by kernel_rfl) (by kernel_rfl) (fun _ _ _ h => h) (Or.inl ⟨by rfl, fun w' hS => by go_simp⟩) hHeld ?_
          simp only [Act.put, gA9, gZ9, gC9, sA9, sZ9, sC9]
          refine wpAnyH_take (i := 6) (v := .pointer (some ⟨g2, o2 + k, none⟩)) rfl (by kernel_rfl) (by kernel_rfl) (by kernel_rfl) (fun _ _ _ h => h) (Or.inl ⟨by rfl, fun w' hS => by go_simp⟩) hHeld ?_
          simp only [Act.put, gA9, gZ9, gC9, sA9, sZ9, sC9]
          refine wpAnyH_take (i := 7) (v := .int .i64 y) rfl (by kernel_rfl) (by kernel_rfl) (by kernel_rfl) (fun _ _ _ h => h) (Or.inl ⟨by rfl, fun w' hS => by (obtain ⟨s0, s1⟩ := hS; go_simp)⟩) hHeld ?_
          simp only [Act.put, gA9, gZ9, gC9, sA9, sZ9, sC9]
          refine wpAnyH_take (i := 8) (v := .bool true) rfl (by kernel_rfl) (by kernel_rfl) (by kernel_rfl) (fun _ _ _ h => h) (Or.inl ⟨by rfl, fun w' hS => by (go_simp <;> simpa using hxy)⟩) hHeld ?_
          simp only [Act.put, gA9, gZ9, gC9, sA9, sZ9, sC9]
          refine wpAnyH_done (by kernel_rfl) ?_ _
          clear hHeld
          go_wp2
          go_ret
          exact ⟨by rw [Hne.out He.out]; rfl, HB.out.drew⟩
      · obtain rfl : k = n := by omega
        have Hr1 : Hid (r = true) := by
          rw [List.take_of_length_le (by rw [Hx.out]; exact Nat.le_refl _), List.take_of_length_le (by rw [Hy.out]; exact Nat.le_refl _)] at het
          show r = true
          rw [← Hr.out]
          exact decide_eq_true het
        clear het
        go_wp2
        go_ret
        exact ⟨by rw [Hr1.out]; rfl, hb⟩
  · have hne : ¬ xs = ys := fun e => hnm (by rw [← lx, ← ly, e])
    rw [decide_eq_false hne]
    have hn2 : ¬ ((n : Int) = (m : Int)) := by omega
    clear h1 h2 lx ly hne
    go_enter Try.func24, Try.ntmps24
    go_wp2
    go_ret
    exact ⟨rfl, Below.refl _ _⟩
set_option maxHeartbeats 2000000 in
theorem sid4 (x0 x1 x2 x3 y0 y1 y2 y3 : Int) : Calls Try.prog 34 #[.agg #[.int .i64 x0, .int .i64 x1, .int .i64 x2, .int .i64 x3], .agg #[.int .i64 y0, .int .i64 y1, .int .i64 y2, .int .i64 y3]] w fun e w' => e = .returned (.bool ((x0 == y0) && (x1 == y1) && (x2 == y2) && (x3 == y3))) ∧ Below w.heap.size w w' := by
  generalize hW1 : w.alloc (.cells #[.int .i64 x0, .int .i64 x1, .int .i64 x2, .int .i64 x3] 31) = W1
  generalize hW2 : W1.alloc (.cells #[.int .i64 y0, .int .i64 y1, .int .i64 y2, .int .i64 y3] 31) = W2
  have b1 : Below w.heap.size w W1 := hW1 ▸ balloc (Below.refl _ _)
  have b2 : Below W1.heap.size W1 W2 := hW2 ▸ balloc (Below.refl _ _)
  have k1 : W1.heap[w.heap.size]? = some (.cells #[.int .i64 x0, .int .i64 x1, .int .i64 x2, .int .i64 x3] 31 (0, 0)) := by rw [← hW1]; exact heap_alloc_new w _
  have k2 : W2.heap[W1.heap.size]? = some (.cells #[.int .i64 y0, .int .i64 y1, .int .i64 y2, .int .i64 y3] 31 (0, 0)) := by rw [← hW2]; exact heap_alloc_new W1 _
  have k12 : W2.heap[w.heap.size]? = some (.cells #[.int .i64 x0, .int .i64 x1, .int .i64 x2, .int .i64 x3] 31 (0, 0)) := (b2.block _ (lt_heap k1)).trans k1
  have a0 : W2.cell? ⟨w.heap.size, 0, none⟩ = some (.int .i64 x0) := blk_cell k12 0
  have b0' : W2.cell? ⟨W1.heap.size, 0, none⟩ = some (.int .i64 y0) := blk_cell k2 0
  have a1 : W2.cell? ⟨w.heap.size, 1, none⟩ = some (.int .i64 x1) := blk_cell k12 1
  have b1' : W2.cell? ⟨W1.heap.size, 1, none⟩ = some (.int .i64 y1) := blk_cell k2 1
  have a2 : W2.cell? ⟨w.heap.size, 2, none⟩ = some (.int .i64 x2) := blk_cell k12 2
  have b2' : W2.cell? ⟨W1.heap.size, 2, none⟩ = some (.int .i64 y2) := blk_cell k2 2
  have a3 : W2.cell? ⟨w.heap.size, 3, none⟩ = some (.int .i64 x3) := blk_cell k12 3
  have b3' : W2.cell? ⟨W1.heap.size, 3, none⟩ = some (.int .i64 y3) := blk_cell k2 3
  have HB2 : Hid (Below w.heap.size w W2) := bstep b1 b2
  clear b1 b2 k1 k2 k12
  rcases Bool.eq_false_or_eq_true (x0 == y0) with g0 | g0
  rotate_left
  · skip
    go_enter Try.func34, Try.ntmps34
    go_wp2_with (first | (refine wl_at 9 rfl ?_) | fail)
    refine wl_take (v := .bool false) (by kernel_rfl) (by (go_simp <;> simpa using g0)) ?_
    simp only [Act.put, gA9, gZ9, gC9, sA9, sZ9, sC9]
    refine wl_take (v := .bool false) (by kernel_rfl) (by go_simp) ?_
    simp only [Act.put, gA9, gZ9, gC9, sA9, sZ9, sC9]
    refine wl_skip (by kernel_rfl) ?_
    simp only [Act.put, gA9, gZ9, gC9, sA9, sZ9, sC9]
    refine wl_skip (by kernel_rfl) ?_
    simp only [Act.put, gA9, gZ9, gC9, sA9, sZ9, sC9]
    refine wl_skip (by kernel_rfl) ?_
    simp only [Act.put, gA9, gZ9, gC9, sA9, sZ9, sC9]
    refine wl_skip (by kernel_rfl) ?_
    simp only [Act.put, gA9, gZ9, gC9, sA9, sZ9, sC9]
    refine wl_skip (by kernel_rfl) ?_
    simp only [Act.put, gA9, gZ9, gC9, sA9, sZ9, sC9]
    refine wl_take (v := .bool false) (by kernel_rfl) (by go_simp) ?_
    simp only [Act.put, gA9, gZ9, gC9, sA9, sZ9, sC9]
    refine wl_take (v := .bool false) (by kernel_rfl) (by go_simp) ?_
    simp only [Act.put, gA9, gZ9, gC9, sA9, sZ9, sC9]
    refine wl_skip (by kernel_rfl) ?_
    simp only [Act.put, gA9, gZ9, gC9, sA9, sZ9, sC9]
    refine wl_skip (by kernel_rfl) ?_
    simp only [Act.put, gA9, gZ9, gC9, sA9, sZ9, sC9]
    refine wl_skip (by kernel_rfl) ?_
    simp only [Act.put, gA9, gZ9, gC9, sA9, sZ9, sC9]
    refine wl_skip (by kernel_rfl) ?_
    simp only [Act.put, gA9, gZ9, gC9, sA9, sZ9, sC9]
    refine wl_skip (by kernel_rfl) ?_
    simp only [Act.put, gA9, gZ9, gC9, sA9, sZ9, sC9]
    refine wl_take (v := .bool false) (by kernel_rfl) (by go_simp) ?_
    simp only [Act.put, gA9, gZ9, gC9, sA9, sZ9, sC9]
    refine wl_take (v := .bool false) (by kernel_rfl) (by go_simp) ?_
    simp only [Act.put, gA9, gZ9, gC9, sA9, sZ9, sC9]
    refine wl_skip (by kernel_rfl) ?_
    simp only [Act.put, gA9, gZ9, gC9, sA9, sZ9, sC9]
    refine wl_skip (by kernel_rfl) ?_
    simp only [Act.put, gA9, gZ9, gC9, sA9, sZ9, sC9]
    refine wl_skip (by kernel_rfl) ?_
    simp only [Act.put, gA9, gZ9, gC9, sA9, sZ9, sC9]
    refine wl_skip (by kernel_rfl) ?_
    simp only [Act.put, gA9, gZ9, gC9, sA9, sZ9, sC9]
    refine wl_skip (by kernel_rfl) ?_
    simp only [Act.put, gA9, gZ9, gC9, sA9, sZ9, sC9]
    refine wl_take (v := .bool false) (by kernel_rfl) (by go_simp) ?_
    simp only [Act.put, gA9, gZ9, gC9, sA9, sZ9, sC9]
    refine wl_take (v := .bool false) (by kernel_rfl) (by go_simp) ?_
    simp only [Act.put, gA9, gZ9, gC9, sA9, sZ9, sC9]
    refine ⟨?_⟩
    go_wp2
    go_ret
    exact ⟨by rw [g0]; rfl, HB2.out⟩
  rcases Bool.eq_false_or_eq_true (x1 == y1) with g1 | g1
  rotate_left
  · skip
    go_enter Try.func34, Try.ntmps34
    go_wp2_with (first | (refine wl_at 9 rfl ?_) | fail)
    refine wl_take (v := .bool true) (by kernel_rfl) (by (go_simp <;> simpa using g0)) ?_
    simp only [Act.put, gA9, gZ9, gC9, sA9, sZ9, sC9]
    refine wl_take (v := .bool true) (by kernel_rfl) (by go_simp) ?_
    simp only [Act.put, gA9, gZ9, gC9, sA9, sZ9, sC9]
    refine wl_take (v := .pointer (some ⟨w.heap.size, 1, none⟩)) (by kernel_rfl) (by go_simp) ?_
    simp only [Act.put, gA9, gZ9, gC9, sA9, sZ9, sC9]
    refine wl_take (v := .int .i64 x1) (by kernel_rfl) (by go_simp) ?_
    simp only [Act.put, gA9, gZ9, gC9, sA9, sZ9, sC9]
    refine wl_take (v := .pointer (some ⟨W1.heap.size, 1, none⟩)) (by kernel_rfl) (by go_simp) ?_
    simp only [Act.put, gA9, gZ9, gC9, sA9, sZ9, sC9]
    refine wl_take (v := .int .i64 y1) (by kernel_rfl) (by go_simp) ?_
    simp only [Act.put, gA9, gZ9, gC9, sA9, sZ9, sC9]
    refine wl_take (v := .bool false) (by kernel_rfl) (by (go_simp <;> simpa using g1)) ?_
    simp only [Act.put, gA9, gZ9, gC9, sA9, sZ9, sC9]
    refine wl_take (v := .bool false) (by kernel_rfl) (by go_simp) ?_
    simp only [Act.put, gA9, gZ9, gC9, sA9, sZ9, sC9]
    refine wl_take (v := .bool false) (by kernel_rfl) (by go_simp) ?_
    simp only [Act.put, gA9, gZ9, gC9, sA9, sZ9, sC9]
    refine wl_skip (by kernel_rfl) ?_
    simp only [Act.put, gA9, gZ9, gC9, sA9, sZ9, sC9]
    refine wl_skip (by kernel_rfl) ?_
    simp only [Act.put, gA9, gZ9, gC9, sA9, sZ9, sC9]
    refine wl_skip (by kernel_rfl) ?_
    simp only [Act.put, gA9, gZ9, gC9, sA9, sZ9, sC9]
    refine wl_skip (by kernel_rfl) ?_
    simp only [Act.put, gA9, gZ9, gC9, sA9, sZ9, sC9]
    refine wl_skip (by kernel_rfl) ?_
    simp only [Act.put, gA9, gZ9, gC9, sA9, sZ9, sC9]
    refine wl_take (v := .bool false) (by kernel_rfl) (by go_simp) ?_
    simp only [Act.put, gA9, gZ9, gC9, sA9, sZ9, sC9]
    refine wl_take (v := .bool false) (by kernel_rfl) (by go_simp) ?_
    simp only [Act.put, gA9, gZ9, gC9, sA9, sZ9, sC9]
    refine wl_skip (by kernel_rfl) ?_
    simp only [Act.put, gA9, gZ9, gC9, sA9, sZ9, sC9]
    refine wl_skip (by kernel_rfl) ?_
    simp only [Act.put, gA9, gZ9, gC9, sA9, sZ9, sC9]
    refine wl_skip (by kernel_rfl) ?_
    simp only [Act.put, gA9, gZ9, gC9, sA9, sZ9, sC9]
    refine wl_skip (by kernel_rfl) ?_
    simp only [Act.put, gA9, gZ9, gC9, sA9, sZ9, sC9]
    refine wl_skip (by kernel_rfl) ?_
    simp only [Act.put, gA9, gZ9, gC9, sA9, sZ9, sC9]
    refine wl_take (v := .bool false) (by kernel_rfl) (by go_simp) ?_
    simp only [Act.put, gA9, gZ9, gC9, sA9, sZ9, sC9]
    refine wl_take (v := .bool false) (by kernel_rfl) (by go_simp) ?_
    simp only [Act.put, gA9, gZ9, gC9, sA9, sZ9, sC9]
    refine ⟨?_⟩
    go_wp2
    go_ret
    exact ⟨by rw [g0, g1]; rfl, HB2.out⟩
  rcases Bool.eq_false_or_eq_true (x2 == y2) with g2 | g2
  rotate_left
  · skip
    go_enter Try.func34, Try.ntmps34
    go_wp2_with (first | (refine wl_at 9 rfl ?_) | fail)
    refine wl_take (v := .bool true) (by kernel_rfl) (by (go_simp <;> simpa using g0)) ?_
    simp only [Act.put, gA9, gZ9, gC9, sA9, sZ9, sC9]
    refine wl_take (v := .bool true) (by kernel_rfl) (by go_simp) ?_
    simp only [Act.put, gA9, gZ9, gC9, sA9, sZ9, sC9]
    refine wl_take (v := .pointer (some ⟨w.heap.size, 1, none⟩)) (by kernel_rfl) (by go_simp) ?_
    simp only [Act.put, gA9, gZ9, gC9, sA9, sZ9, sC9]
    refine wl_take (v := .int .i64 x1) (by kernel_rfl) (by go_simp) ?_
    simp only [Act.put, gA9, gZ9, gC9, sA9, sZ9, sC9]
    refine wl_take (v := .pointer (some ⟨W1.heap.size, 1, none⟩)) (by kernel_rfl) (by go_simp) ?_
    simp only [Act.put, gA9, gZ9, gC9, sA9, sZ9, sC9]
    refine wl_take (v := .int .i64 y1) (by kernel_rfl) (by go_simp) ?_
    simp only [Act.put, gA9, gZ9, gC9, sA9, sZ9, sC9]
    refine wl_take (v := .bool true) (by kernel_rfl) (by (go_simp <;> simpa using g1)) ?_
    simp only [Act.put, gA9, gZ9, gC9, sA9, sZ9, sC9]
    refine wl_take (v := .bool true) (by kernel_rfl) (by go_simp) ?_
    simp only [Act.put, gA9, gZ9, gC9, sA9, sZ9, sC9]
    refine wl_take (v := .bool true) (by kernel_rfl) (by go_simp) ?_
    simp only [Act.put, gA9, gZ9, gC9, sA9, sZ9, sC9]
    refine wl_take (v := .pointer (some ⟨w.heap.size, 2, none⟩)) (by kernel_rfl) (by go_simp) ?_
    simp only [Act.put, gA9, gZ9, gC9, sA9, sZ9, sC9]
    refine wl_take (v := .int .i64 x2) (by kernel_rfl) (by go_simp) ?_
    simp only [Act.put, gA9, gZ9, gC9, sA9, sZ9, sC9]
    refine wl_take (v := .pointer (some ⟨W1.heap.size, 2, none⟩)) (by kernel_rfl) (by go_simp) ?_
    simp only [Act.put, gA9, gZ9, gC9, sA9, sZ9, sC9]
    refine wl_take (v := .int .i64 y2) (by kernel_rfl) (by go_simp) ?_
    simp only [Act.put, gA9, gZ9, gC9, sA9, sZ9, sC9]
    refine wl_take (v := .bool false) (by kernel_rfl) (by (go_simp <;> simpa using g2)) ?_
    simp only [Act.put, gA9, gZ9, gC9, sA9, sZ9, sC9]
    refine wl_take (v := .bool false) (by kernel_rfl) (by go_simp) ?_
    simp only [Act.put, gA9, gZ9, gC9, sA9, sZ9, sC9]
    refine wl_take (v := .bool false) (by kernel_rfl) (by go_simp) ?_
    simp only [Act.put, gA9, gZ9, gC9, sA9, sZ9, sC9]
    refine wl_skip (by kernel_rfl) ?_
    simp only [Act.put, gA9, gZ9, gC9, sA9, sZ9, sC9]
    refine wl_skip (by kernel_rfl) ?_
    simp only [Act.put, gA9, gZ9, gC9, sA9, sZ9, sC9]
    refine wl_skip (by kernel_rfl) ?_
    simp only [Act.put, gA9, gZ9, gC9, sA9, sZ9, sC9]
    refine wl_skip (by kernel_rfl) ?_
    simp only [Act.put, gA9, gZ9, gC9, sA9, sZ9, sC9]
    refine wl_skip (by kernel_rfl) ?_
    simp only [Act.put, gA9, gZ9, gC9, sA9, sZ9, sC9]
    refine wl_take (v := .bool false) (by kernel_rfl) (by go_simp) ?_
    simp only [Act.put, gA9, gZ9, gC9, sA9, sZ9, sC9]
    refine wl_take (v := .bool false) (by kernel_rfl) (by go_simp) ?_
    simp only [Act.put, gA9, gZ9, gC9, sA9, sZ9, sC9]
    refine ⟨?_⟩
    go_wp2
    go_ret
    exact ⟨by rw [g0, g1, g2]; rfl, HB2.out⟩
  rcases Bool.eq_false_or_eq_true (x3 == y3) with g3 | g3
  rotate_left
  · skip
    go_enter Try.func34, Try.ntmps34
    go_wp2_with (first | (refine wl_at 9 rfl ?_) | fail)
    refine wl_take (v := .bool true) (by kernel_rfl) (by (go_simp <;> simpa using g0)) ?_
    simp only [Act.put, gA9, gZ9, gC9, sA9, sZ9, sC9]
    refine wl_take (v := .bool true) (by kernel_rfl) (by go_simp) ?_
    simp only [Act.put, gA9, gZ9, gC9, sA9, sZ9, sC9]
    refine wl_take (v := .pointer (some ⟨w.heap.size, 1, none⟩)) (by kernel_rfl) (by go_simp) ?_
    simp only [Act.put, gA9, gZ9, gC9, sA9, sZ9, sC9]
    refine wl_take (v := .int .i64 x1) (by kernel_rfl) (by go_simp) ?_
    simp only [Act.put, gA9, gZ9, gC9, sA9, sZ9, sC9]
    refine wl_take (v := .pointer (some ⟨W1.heap.size, 1, none⟩)) (by kernel_rfl) (by go_simp) ?_
    simp only [Act.put, gA9, gZ9, gC9, sA9, sZ9, sC9]
    refine wl_take (v := .int .i64 y1) (by kernel_rfl) (by go_simp) ?_
    simp only [Act.put, gA9, gZ9, gC9, sA9, sZ9, sC9]
    refine wl_take (v := .bool true) (by kernel_rfl) (by (go_simp <;> simpa using g1)) ?_
    simp only [Act.put, gA9, gZ9, gC9, sA9, sZ9, sC9]
    refine wl_take (v := .bool true) (by kernel_rfl) (by go_simp) ?_
    simp only [Act.put, gA9, gZ9, gC9, sA9, sZ9, sC9]
    refine wl_take (v := .bool true) (by kernel_rfl) (by go_simp) ?_
    simp only [Act.put, gA9, gZ9, gC9, sA9, sZ9, sC9]
    refine wl_take (v := .pointer (some ⟨w.heap.size, 2, none⟩)) (by kernel_rfl) (by go_simp) ?_
    simp only [Act.put, gA9, gZ9, gC9, sA9, sZ9, sC9]
    refine wl_take (v := .int .i64 x2) (by kernel_rfl) (by go_simp) ?_
    simp only [Act.put, gA9, gZ9, gC9, sA9, sZ9, sC9]
    refine wl_take (v := .pointer (some ⟨W1.heap.size, 2, none⟩)) (by kernel_rfl) (by go_simp) ?_
    simp only [Act.put, gA9, gZ9, gC9, sA9, sZ9, sC9]
    refine wl_take (v := .int .i64 y2) (by kernel_rfl) (by go_simp) ?_
    simp only [Act.put, gA9, gZ9, gC9, sA9, sZ9, sC9]
    refine wl_take (v := .bool true) (by kernel_rfl) (by (go_simp <;> simpa using g2)) ?_
    simp only [Act.put, gA9, gZ9, gC9, sA9, sZ9, sC9]
    refine wl_take (v := .bool true) (by kernel_rfl) (by go_simp) ?_
    simp only [Act.put, gA9, gZ9, gC9, sA9, sZ9, sC9]
    refine wl_take (v := .bool true) (by kernel_rfl) (by go_simp) ?_
    simp only [Act.put, gA9, gZ9, gC9, sA9, sZ9, sC9]
    refine wl_take (v := .pointer (some ⟨w.heap.size, 3, none⟩)) (by kernel_rfl) (by go_simp) ?_
    simp only [Act.put, gA9, gZ9, gC9, sA9, sZ9, sC9]
    refine wl_take (v := .int .i64 x3) (by kernel_rfl) (by go_simp) ?_
    simp only [Act.put, gA9, gZ9, gC9, sA9, sZ9, sC9]
    refine wl_take (v := .pointer (some ⟨W1.heap.size, 3, none⟩)) (by kernel_rfl) (by go_simp) ?_
    simp only [Act.put, gA9, gZ9, gC9, sA9, sZ9, sC9]
    refine wl_take (v := .int .i64 y3) (by kernel_rfl) (by go_simp) ?_
    simp only [Act.put, gA9, gZ9, gC9, sA9, sZ9, sC9]
    refine wl_take (v := .bool false) (by kernel_rfl) (by (go_simp <;> simpa using g3)) ?_
    simp only [Act.put, gA9, gZ9, gC9, sA9, sZ9, sC9]
    refine wl_take (v := .bool false) (by kernel_rfl) (by go_simp) ?_
    simp only [Act.put, gA9, gZ9, gC9, sA9, sZ9, sC9]
    refine wl_take (v := .bool false) (by kernel_rfl) (by go_simp) ?_
    simp only [Act.put, gA9, gZ9, gC9, sA9, sZ9, sC9]
    refine ⟨?_⟩
    go_wp2
    go_ret
    exact ⟨by rw [g0, g1, g2, g3]; rfl, HB2.out⟩
  go_enter Try.func34, Try.ntmps34
  go_wp2_with (first | (refine wl_at 9 rfl ?_) | fail)
  refine wl_take (v := .bool true) (by kernel_rfl) (by (go_simp <;> simpa using g0)) ?_
  simp only [Act.put, gA9, gZ9, gC9, sA9, sZ9, sC9]
  refine wl_take (v := .bool true) (by kernel_rfl) (by go_simp) ?_
  simp only [Act.put, gA9, gZ9, gC9, sA9, sZ9, sC9]
  refine wl_take (v := .pointer (some ⟨w.heap.size, 1, none⟩)) (by kernel_rfl) (by go_simp) ?_
  simp only [Act.put, gA9, gZ9, gC9, sA9, sZ9, sC9]
  refine wl_take (v := .int .i64 x1) (by kernel_rfl) (by go_simp) ?_
  simp only [Act.put, gA9, gZ9, gC9, sA9, sZ9, sC9]
  refine wl_take (v := .pointer (some ⟨W1.heap.size, 1, none⟩)) (by kernel_rfl) (by go_simp) ?_
  simp only [Act.put, gA9, gZ9, gC9, sA9, sZ9, sC9]
  refine wl_take (v := .int .i64 y1) (by kernel_rfl) (by go_simp) ?_
  simp only [Act.put, gA9, gZ9, gC9, sA9, sZ9, sC9]
  refine wl_take (v := .bool true) (by kernel_rfl) (by (go_simp <;> simpa using g1)) ?_
  simp only [Act.put, gA9, gZ9, gC9, sA9, sZ9, sC9]
  refine wl_take (v := .bool true) (by kernel_rfl) (by go_simp) ?_
  simp only [Act.put, gA9, gZ9, gC9, sA9, sZ9, sC9]
  refine wl_take (v := .bool true) (by kernel_rfl) (by go_simp) ?_
  simp only [Act.put, gA9, gZ9, gC9, sA9, sZ9, sC9]
  refine wl_take (v := .pointer (some ⟨w.heap.size, 2, none⟩)) (by kernel_rfl) (by go_simp) ?_
  simp only [Act.put, gA9, gZ9, gC9, sA9, sZ9, sC9]
  refine wl_take (v := .int .i64 x2) (by kernel_rfl) (by go_simp) ?_
  simp only [Act.put, gA9, gZ9, gC9, sA9, sZ9, sC9]
  refine wl_take (v := .pointer (some ⟨W1.heap.size, 2, none⟩)) (by kernel_rfl) (by go_simp) ?_
  simp only [Act.put, gA9, gZ9, gC9, sA9, sZ9, sC9]
  refine wl_take (v := .int .i64 y2) (by kernel_rfl) (by go_simp) ?_
  simp only [Act.put, gA9, gZ9, gC9, sA9, sZ9, sC9]
  refine wl_take (v := .bool true) (by kernel_rfl) (by (go_simp <;> simpa using g2)) ?_
  simp only [Act.put, gA9, gZ9, gC9, sA9, sZ9, sC9]
  refine wl_take (v := .bool true) (by kernel_rfl) (by go_simp) ?_
  simp only [Act.put, gA9, gZ9, gC9, sA9, sZ9, sC9]
  refine wl_take (v := .bool true) (by kernel_rfl) (by go_simp) ?_
  simp only [Act.put, gA9, gZ9, gC9, sA9, sZ9, sC9]
  refine wl_take (v := .pointer (some ⟨w.heap.size, 3, none⟩)) (by kernel_rfl) (by go_simp) ?_
  simp only [Act.put, gA9, gZ9, gC9, sA9, sZ9, sC9]
  refine wl_take (v := .int .i64 x3) (by kernel_rfl) (by go_simp) ?_
  simp only [Act.put, gA9, gZ9, gC9, sA9, sZ9, sC9]
  refine wl_take (v := .pointer (some ⟨W1.heap.size, 3, none⟩)) (by kernel_rfl) (by go_simp) ?_
  simp only [Act.put, gA9, gZ9, gC9, sA9, sZ9, sC9]
  refine wl_take (v := .int .i64 y3) (by kernel_rfl) (by go_simp) ?_
  simp only [Act.put, gA9, gZ9, gC9, sA9, sZ9, sC9]
  refine wl_take (v := .bool true) (by kernel_rfl) (by (go_simp <;> simpa using g3)) ?_
  simp only [Act.put, gA9, gZ9, gC9, sA9, sZ9, sC9]
  refine wl_take (v := .bool true) (by kernel_rfl) (by go_simp) ?_
  simp only [Act.put, gA9, gZ9, gC9, sA9, sZ9, sC9]
  refine wl_take (v := .bool true) (by kernel_rfl) (by go_simp) ?_
  simp only [Act.put, gA9, gZ9, gC9, sA9, sZ9, sC9]
  refine ⟨?_⟩
  go_wp2
  go_ret
  exact ⟨by rw [g0, g1, g2, g3]; rfl, HB2.out⟩
theorem sid_any (xs ys : List Int) (hx : xs.length = 4) (hy : ys.length = 4) : Calls Try.prog 34 #[.agg (ints xs).toArray, .agg (ints ys).toArray] w fun e w' => e = .returned (.bool (decide (xs = ys))) ∧ Below w.heap.size w w' := by
  match xs, ys, hx, hy with
  | [x0, x1, x2, x3], [y0, y1, y2, y3], _, _ =>
    have e : decide ([x0, x1, x2, x3] = [y0, y1, y2, y3]) = ((x0 == y0) && (x1 == y1) && (x2 == y2) && (x3 == y3)) := by
      rw [Bool.eq_iff_iff]
      simp [and_assoc]
    rw [e]
    exact sid4 x0 x1 x2 x3 y0 y1 y2 y3
end
end Go.Proofs.Ytdegjhkjmgimpaa.Mb
