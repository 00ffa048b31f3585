import Derived.Test.YtdegjhkjmgimpaaV25
namespace Go.Proofs.Ytdegjhkjmgimpaa.Mb
open Go.RowKit
set_option linter.unusedVariables false
set_option maxRecDepth 100000
set_option linter.unusedSimpArgs false
section
variable {A A' : Ag} {w w' W : World} {B : Nat} {T : Int}
theorem ext_take3 {xs ys : List Int} {n k : Nat} (hx : xs.length = 3 * n) (hy : ys.length = 3 * n) (hk : k < n) (h : xs.take (3 * k) = ys.take (3 * k)) (e0 : xs.getD (k * 3) 0 = ys.getD (k * 3) 0) (e1 : xs.getD (k * 3 + 1) 0 = ys.getD (k * 3 + 1) 0) (e2 : xs.getD (k * 3 + 2) 0 = ys.getD (k * 3 + 2) 0) : xs.take (3 * (k + 1)) = ys.take (3 * (k + 1)) := by
  have h1 := ext_take (k := 3 * k) hx hy (by omega) h (by rw [Nat.mul_comm]; exact e0)
  have h2 := ext_take (k := 3 * k + 1) hx hy (by omega) h1 (by rw [Nat.mul_comm 3 k]; exact e1)
  have h3 := ext_take (k := 3 * k + 2) hx hy (by omega) h2 (by rw [Nat.mul_comm 3 k]; exact e2)
  rw [show 3 * (k + 1) = 3 * k + 2 + 1 by omega]
  exact h3
set_option maxHeartbeats 8000000 in
theorem views_any (x0 x1 x2 x3 y0 y1 y2 y3 : Int) {a1 a2 : Option Addr} {n m c1 c2 : Nat} {xs ys : List Int} (h1 : RdM w a1 n xs) (h2 : RdM w a2 m ys) (hn : n ≤ 16) (hm : m ≤ 16) : Calls Try.prog 23 #[.agg #[.int .i64 x0, .int .i64 x1, .int .i64 x2, .int .i64 x3, .slice a1 n c1], .agg #[.int .i64 y0, .int .i64 y1, .int .i64 y2, .int .i64 y3, .slice a2 m c2]] w fun e w' => e = .returned (.bool (decide ([x0, x1, x2, x3] = [y0, y1, y2, y3]) && decide (xs = ys))) ∧ Below w.heap.size w w' := by
  generalize hW1 : w.alloc (.cells #[.int .i64 x0, .int .i64 x1, .int .i64 x2, .int .i64 x3, .slice a1 n c1] 42) = W1
  generalize hW2 : W1.alloc (.cells #[.int .i64 y0, .int .i64 y1, .int .i64 y2, .int .i64 y3, .slice a2 m c2] 42) = W2
  have b1 : Below w.heap.size w W1 := hW1 ▸ balloc (Below.refl _ _)
  have b2 : Below W1.heap.size W1 W2 := hW2 ▸ balloc (Below.refl _ _)
  have k1 : W1.heap[w.heap.size]? = some (.cells #[.int .i64 x0, .int .i64 x1, .int .i64 x2, .int .i64 x3, .slice a1 n c1] 42 (0, 0)) := by rw [← hW1]; exact heap_alloc_new w _
  have k2 : W2.heap[W1.heap.size]? = some (.cells #[.int .i64 y0, .int .i64 y1, .int .i64 y2, .int .i64 y3, .slice a2 m c2] 42 (0, 0)) := by rw [← hW2]; exact heap_alloc_new W1 _
  have k12 : W2.heap[w.heap.size]? = some (.cells #[.int .i64 x0, .int .i64 x1, .int .i64 x2, .int .i64 x3, .slice a1 n c1] 42 (0, 0)) := (b2.block _ (lt_heap k1)).trans k1
  have fa0 : W2.cell? ⟨w.heap.size, 0, none⟩ = some (.int .i64 x0) := blk_cell k12 0
  have fb0 : W2.cell? ⟨W1.heap.size, 0, none⟩ = some (.int .i64 y0) := blk_cell k2 0
  have fa1 : W2.cell? ⟨w.heap.size, 1, none⟩ = some (.int .i64 x1) := blk_cell k12 1
  have fb1 : W2.cell? ⟨W1.heap.size, 1, none⟩ = some (.int .i64 y1) := blk_cell k2 1
  have fa2 : W2.cell? ⟨w.heap.size, 2, none⟩ = some (.int .i64 x2) := blk_cell k12 2
  have fb2 : W2.cell? ⟨W1.heap.size, 2, none⟩ = some (.int .i64 y2) := blk_cell k2 2
  have fa3 : W2.cell? ⟨w.heap.size, 3, none⟩ = some (.int .i64 x3) := blk_cell k12 3
  have fb3 : W2.cell? ⟨W1.heap.size, 3, none⟩ = some (.int .i64 y3) := blk_cell k2 3
  have fa4 : W2.cell? ⟨w.heap.size, 4, none⟩ = some (.slice a1 n c1) := blk_cell k12 4
  have fb4 : W2.cell? ⟨W1.heap.size, 4, none⟩ = some (.slice a2 m c2) := blk_cell k2 4
  have HBw : Hid (Below w.heap.size w W2) := bstep b1 b2
  have H1 : Hid (RdM W2 a1 n xs) := (h1.still b1).still b2
  have H2 : Hid (RdM W2 a2 m ys) := (h2.still b1).still b2
  have Hx : Hid (xs.length = 3 * n) := h1.1
  have Hy : Hid (ys.length = 3 * m) := h2.1
  have F0 : Hid (Calls Try.prog 34 #[.agg #[.int .i64 x0, .int .i64 x1, .int .i64 x2, .int .i64 x3], .agg #[.int .i64 y0, .int .i64 y1, .int .i64 y2, .int .i64 y3]] W2 fun e w' => e = .returned (.bool (decide ([x0, x1, x2, x3] = [y0, y1, y2, y3]))) ∧ Below W2.heap.size W2 w') := sid_any [x0, x1, x2, x3] [y0, y1, y2, y3] rfl rfl
  generalize decide ([x0, x1, x2, x3] = [y0, y1, y2, y3]) = f0 at *
  obtain ⟨r, hr⟩ : ∃ r, decide (xs = ys) = r := ⟨_, rfl⟩
  have Hr : Hid (decide (xs = ys) = r) := hr
  rw [hr]
  clear b1 b2 k1 k2 k12 h1 h2 hr
  cases f0 with
  | false =>
    go_enter Try.func23, Try.ntmps23
    go_wp2_with (first | (refine wl_at 12 rfl ?_) | fail)
    refine wl_step (by kernel_rfl) fun K hK => ?_
    go_simp
    refine (F0.out).mono ?_
    rintro e X0 ⟨rfl, hb0⟩
    refine hK _ _ ?_
    clear hK K
    try (simp only [Act.put, gA9, gZ9, gC9, sA9, sZ9, sC9])
    have HB0 : Hid (Below W2.heap.size W2 X0) := hb0
    clear hb0
    have ca := below_at HB0.out fa4
    have cb := below_at HB0.out fb4
    refine wl_take (v := .bool true) (by kernel_rfl) (by go_simp) ?_
    simp only [Act.put, gA9, gZ9, gC9, sA9, sZ9, sC9]
    refine wl_take (v := .bool true) (by kernel_rfl) (by go_simp) ?_
    simp only [Act.put, gA9, gZ9, gC9, sA9, sZ9, sC9]
    refine wl_skip (by kernel_rfl) ?_
    simp only [Act.put, gA9, gZ9, gC9, sA9, sZ9, sC9]
    refine wl_skip (by kernel_rfl) ?_
    simp only [Act.put, gA9, gZ9, gC9, sA9, sZ9, sC9]
    refine wl_skip (by kernel_rfl) ?_
    simp only [Act.put, gA9, gZ9, gC9, sA9, sZ9, sC9]
    refine wl_skip (by kernel_rfl) ?_
    simp only [Act.put, gA9, gZ9, gC9, sA9, sZ9, sC9]
    refine wl_skip (by kernel_rfl) ?_
    simp only [Act.put, gA9, gZ9, gC9, sA9, sZ9, sC9]
    refine wl_skip (by kernel_rfl) ?_
    simp only [Act.put, gA9, gZ9, gC9, sA9, sZ9, sC9]
    refine wl_skip (by kernel_rfl) ?_
    simp only [Act.put, gA9, gZ9, gC9, sA9, sZ9, sC9]
    refine wl_take (v := .bool true) (by kernel_rfl) (by go_simp) ?_
    simp only [Act.put, gA9, gZ9, gC9, sA9, sZ9, sC9]
    refine ⟨?_⟩
    go_wp2
    go_ret
    exact ⟨rfl, bstep HBw.out HB0.out⟩
  | true =>
    by_cases hnm : n = m
    · subst hnm
      have hnm2 : ((n : Int) != (n : Int)) = false := by simp
      go_enter Try.func23, Try.ntmps23
      go_wp2_with (first | (refine wl_at 12 rfl ?_) | fail)
      refine wl_step (by kernel_rfl) fun K hK => ?_
      go_simp
      refine (F0.out).mono ?_
      rintro e X0 ⟨rfl, hb0⟩
      refine hK _ _ ?_
      clear hK K
      try (simp only [Act.put, gA9, gZ9, gC9, sA9, sZ9, sC9])
      have HB0 : Hid (Below W2.heap.size W2 X0) := hb0
      clear hb0
      have ca := below_at HB0.out fa4
      have cb := below_at HB0.out fb4
      refine wl_take (v := .bool false) (by kernel_rfl) (by go_simp) ?_
      simp only [Act.put, gA9, gZ9, gC9, sA9, sZ9, sC9]
      refine wl_take (v := .bool false) (by kernel_rfl) (by go_simp) ?_
      simp only [Act.put, gA9, gZ9, gC9, sA9, sZ9, sC9]
      refine wl_take (v := .pointer (some ⟨w.heap.size, 4, none⟩)) (by kernel_rfl) (by go_simp) ?_
      simp only [Act.put, gA9, gZ9, gC9, sA9, sZ9, sC9]
      refine wl_take (v := .slice a1 n c1) (by kernel_rfl) (by go_simp) ?_
      simp only [Act.put, gA9, gZ9, gC9, sA9, sZ9, sC9]
      refine wl_take (v := .int .i64 (n : Int)) (by kernel_rfl) (by go_simp) ?_
      simp only [Act.put, gA9, gZ9, gC9, sA9, sZ9, sC9]
      refine wl_take (v := .pointer (some ⟨W1.heap.size, 4, none⟩)) (by kernel_rfl) (by go_simp) ?_
      simp only [Act.put, gA9, gZ9, gC9, sA9, sZ9, sC9]
      refine wl_take (v := .slice a2 n c2) (by kernel_rfl) (by go_simp) ?_
      simp only [Act.put, gA9, gZ9, gC9, sA9, sZ9, sC9]
      refine wl_take (v := .int .i64 (n : Int)) (by kernel_rfl) (by go_simp) ?_
      simp only [Act.put, gA9, gZ9, gC9, sA9, sZ9, sC9]
      refine wl_take (v := .bool false) (by kernel_rfl) (by (go_simp <;> first | omega | simpa using hnm2)) ?_
      simp only [Act.put, gA9, gZ9, gC9, sA9, sZ9, sC9]
      refine wl_take (v := .bool false) (by kernel_rfl) (by go_simp) ?_
      simp only [Act.put, gA9, gZ9, gC9, sA9, sZ9, sC9]
      refine ⟨?_⟩
      go_wp2
      go_loopw [5] (fun i wr => ∃ k : Nat, k ≤ n ∧ i = .int .i64 k ∧ xs.take (3 * k) = ys.take (3 * k) ∧ Below W2.heap.size W2 wr) (fun i _ => n - (intOf i).toNat)
      case atStart => exact ⟨0, Nat.zero_le _, rfl, rfl, HB0.out⟩
      case round =>
        obtain ⟨k, hk, rfl, het, hb⟩ := hrel
        have ka := below_at hb fa4
        have kb := below_at hb fb4
        have HB : Hid (Below W2.heap.size W2 wr) := hb
        by_cases hlt : k < n
        · obtain ⟨g1, e1, r1⟩ := (H1.out.still hb).at hlt
          obtain ⟨g2, e2, r2⟩ := (H2.out.still hb).at hlt
          have i1 : (0 : Int) ≤ (k : Int) := Int.natCast_nonneg _
          have i2 : (k : Int) < (n : Int) := by omega
          have Hn := fun e0 e1 e2 => ext_take3 (k := k) Hx.out Hy.out hlt het e0 e1 e2
          have Hne0 : Hid (xs.getD (k * 3) 0 ≠ ys.getD (k * 3) 0 → r = false) := fun hh => by rw [← Hr.out]; exact decide_eq_false (fun e => hh (by rw [e]))
          have Hne1 : Hid (xs.getD (k * 3 + 1) 0 ≠ ys.getD (k * 3 + 1) 0 → r = false) := fun hh => by rw [← Hr.out]; exact decide_eq_false (fun e => hh (by rw [e]))
          have Hne2 : Hid (xs.getD (k * 3 + 2) 0 ≠ ys.getD (k * 3 + 2) 0 → r = false) := fun hh => by rw [← Hr.out]; exact decide_eq_false (fun e => hh (by rw [e]))
          generalize xs.getD (k * 3) 0 = u0' at *
          generalize xs.getD (k * 3 + 1) 0 = u1' at *
          generalize xs.getD (k * 3 + 2) 0 = u2' at *
          generalize ys.getD (k * 3) 0 = v0' at *
          generalize ys.getD (k * 3 + 1) 0 = v1' at *
          generalize ys.getD (k * 3 + 2) 0 = v2' at *
          have HN : Hid (u0' = v0' → u1' = v1' → u2' = v2' → xs.take (3 * (k + 1)) = ys.take (3 * (k + 1))) := Hn
          subst e1 e2
          generalize hV0 : wr.alloc (.cells #[.int .i64 0, .int .i64 0, .int .i64 0] 79) = V0
          have bV0 : Below wr.heap.size wr V0 := hV0 ▸ balloc (Below.refl _ _)
          have kV0 : Rw V0 wr.heap.size 79 [0, 0, 0] := by unfold Rw; rw [← hV0]; exact heap_alloc_new wr _
          have kV1 := kV0.whole (ys := [u0', u1', u2']) rfl
          have bV1 : Below wr.heap.size wr (V0.setCells wr.heap.size 0 (ints [u0', u1', u2'])) := bsets (Nat.le_refl _) _ _ bV0
          generalize hV1 : V0.setCells wr.heap.size 0 (ints [u0', u1', u2']) = V1 at *
          generalize hU0 : V1.alloc (.cells #[.int .i64 0, .int .i64 0, .int .i64 0] 79) = U0
          have bU0 : Below V1.heap.size V1 U0 := hU0 ▸ balloc (Below.refl _ _)
          have kU0 : Rw U0 V1.heap.size 79 [0, 0, 0] := by unfold Rw; rw [← hU0]; exact heap_alloc_new V1 _
          have kU1 := kU0.whole (ys := [v0', v1', v2']) rfl
          have bU1 : Below V1.heap.size V1 (U0.setCells V1.heap.size 0 (ints [v0', v1', v2'])) := bsets (Nat.le_refl _) _ _ bU0
          generalize hU1 : U0.setCells V1.heap.size 0 (ints [v0', v1', v2']) = U1 at *
          have kU1a := kV1.still bU1
          have p0 : U1.cell? ⟨wr.heap.size, 0, none⟩ = some (.int .i64 u0') := kU1a.cell (i := 0) (by simp)
          have p1 : U1.cell? ⟨wr.heap.size, 1, none⟩ = some (.int .i64 u1') := kU1a.cell (i := 1) (by simp)
          have p2 : U1.cell? ⟨wr.heap.size, 2, none⟩ = some (.int .i64 u2') := kU1a.cell (i := 2) (by simp)
          have q0 : U1.cell? ⟨V1.heap.size, 0, none⟩ = some (.int .i64 v0') := kU1.cell (i := 0) (by simp)
          have q1 : U1.cell? ⟨V1.heap.size, 1, none⟩ = some (.int .i64 v1') := kU1.cell (i := 1) (by simp)
          have q2 : U1.cell? ⟨V1.heap.size, 2, none⟩ = some (.int .i64 v2') := kU1.cell (i := 2) (by simp)
          have kb2 := below_at bV1 kb
          have R1 : Hid (wr.rangeAt g1 (k * 3) (ints [u0', u1', u2'])) := r1
          have R2 : Hid (V1.rangeAt g2 (k * 3) (ints [v0', v1', v2'])) := rng_below r2 bV1
          have KZ1 : Hid (Rw V0 wr.heap.size 79 [0, 0, 0]) := kV0
          have KZ2 : Hid (Rw U0 V1.heap.size 79 [0, 0, 0]) := kU0
          have HBU : Hid (Below W2.heap.size W2 U1) := bstep (bstep HB.out bV1) bU1
          clear Hn bV0 bV1 bU0 bU1 kV0 kV1 kU0 kU1 kU1a r1 r2 hb het
          rcases Bool.eq_false_or_eq_true (u0' != v0') with g0 | g0
          · skip
            go_wp2_with (first
              | (refine wl_at 44 rfl ?_)
              | (refine store_mid 79 (.tmp 7) (.tmp 39) (KZ2.out.there 0 [v0', v1', v2'].length (by simp)) info_mem rfl rfl rfl rfl ?_; rw [hU1])
              | (refine load_mid 79 (.tmp 38) R2.out _ Try.underlying79 rfl (by rw [ints_len]; exact info_mem) rfl rfl rfl ?_)
              | (refine store_mid 79 (.tmp 6) (.tmp 34) (KZ1.out.there 0 [u0', u1', u2'].length (by simp)) info_mem rfl rfl rfl rfl ?_; rw [hV1])
              | (refine load_mid 79 (.tmp 33) R1.out _ Try.underlying79 rfl (by rw [ints_len]; exact info_mem) rfl rfl rfl ?_)
              | fail)
            refine wl_take (v := .bool true) (by kernel_rfl) (by (go_simp <;> simpa using g0)) ?_
            simp only [Act.put, gA9, gZ9, gC9, sA9, sZ9, sC9]
            refine wl_take (v := .bool true) (by kernel_rfl) (by go_simp) ?_
            simp only [Act.put, gA9, gZ9, gC9, sA9, sZ9, sC9]
            refine wl_skip (by kernel_rfl) ?_
            simp only [Act.put, gA9, gZ9, gC9, sA9, sZ9, sC9]
            refine wl_skip (by kernel_rfl) ?_
            simp only [Act.put, gA9, gZ9, gC9, sA9, sZ9, sC9]
            refine wl_skip (by kernel_rfl) ?_
            simp only [Act.put, gA9, gZ9, gC9, sA9, sZ9, sC9]
            refine wl_skip (by kernel_rfl) ?_
            simp only [Act.put, gA9, gZ9, gC9, sA9, sZ9, sC9]
            refine wl_skip (by kernel_rfl) ?_
            simp only [Act.put, gA9, gZ9, gC9, sA9, sZ9, sC9]
            refine wl_take (v := .bool true) (by kernel_rfl) (by go_simp) ?_
            simp only [Act.put, gA9, gZ9, gC9, sA9, sZ9, sC9]
            refine wl_take (v := .bool true) (by kernel_rfl) (by go_simp) ?_
            simp only [Act.put, gA9, gZ9, gC9, sA9, sZ9, sC9]
            refine wl_skip (by kernel_rfl) ?_
            simp only [Act.put, gA9, gZ9, gC9, sA9, sZ9, sC9]
            refine wl_skip (by kernel_rfl) ?_
            simp only [Act.put, gA9, gZ9, gC9, sA9, sZ9, sC9]
            refine wl_skip (by kernel_rfl) ?_
            simp only [Act.put, gA9, gZ9, gC9, sA9, sZ9, sC9]
            refine wl_skip (by kernel_rfl) ?_
            simp only [Act.put, gA9, gZ9, gC9, sA9, sZ9, sC9]
            refine wl_skip (by kernel_rfl) ?_
            simp only [Act.put, gA9, gZ9, gC9, sA9, sZ9, sC9]
            refine wl_take (v := .bool true) (by kernel_rfl) (by go_simp) ?_
            simp only [Act.put, gA9, gZ9, gC9, sA9, sZ9, sC9]
            refine ⟨?_⟩
            go_wp2
            go_ret
            exact ⟨by rw [Hne0.out (by simpa using g0)]; rfl, bstep HBw.out HBU.out⟩
          rcases Bool.eq_false_or_eq_true (u1' != v1') with g1 | g1
          · skip
            go_wp2_with (first
              | (refine wl_at 44 rfl ?_)
              | (refine store_mid 79 (.tmp 7) (.tmp 39) (KZ2.out.there 0 [v0', v1', v2'].length (by simp)) info_mem rfl rfl rfl rfl ?_; rw [hU1])
              | (refine load_mid 79 (.tmp 38) R2.out _ Try.underlying79 rfl (by rw [ints_len]; exact info_mem) rfl rfl rfl ?_)
              | (refine store_mid 79 (.tmp 6) (.tmp 34) (KZ1.out.there 0 [u0', u1', u2'].length (by simp)) info_mem rfl rfl rfl rfl ?_; rw [hV1])
              | (refine load_mid 79 (.tmp 33) R1.out _ Try.underlying79 rfl (by rw [ints_len]; exact info_mem) rfl rfl rfl ?_)
              | fail)
            refine wl_take (v := .bool false) (by kernel_rfl) (by (go_simp <;> simpa using g0)) ?_
            simp only [Act.put, gA9, gZ9, gC9, sA9, sZ9, sC9]
            refine wl_take (v := .bool false) (by kernel_rfl) (by go_simp) ?_
            simp only [Act.put, gA9, gZ9, gC9, sA9, sZ9, sC9]
            refine wl_take (v := .pointer (some ⟨wr.heap.size, 1, none⟩)) (by kernel_rfl) (by go_simp) ?_
            simp only [Act.put, gA9, gZ9, gC9, sA9, sZ9, sC9]
            refine wl_take (v := .int .i64 u1') (by kernel_rfl) (by go_simp) ?_
            simp only [Act.put, gA9, gZ9, gC9, sA9, sZ9, sC9]
            refine wl_take (v := .pointer (some ⟨V1.heap.size, 1, none⟩)) (by kernel_rfl) (by go_simp) ?_
            simp only [Act.put, gA9, gZ9, gC9, sA9, sZ9, sC9]
            refine wl_take (v := .int .i64 v1') (by kernel_rfl) (by go_simp) ?_
            simp only [Act.put, gA9, gZ9, gC9, sA9, sZ9, sC9]
            refine wl_take (v := .bool true) (by kernel_rfl) (by (go_simp <;> simpa using g1)) ?_
            simp only [Act.put, gA9, gZ9, gC9, sA9, sZ9, sC9]
            refine wl_take (v := .bool true) (by kernel_rfl) (by go_simp) ?_
            simp only [Act.put, gA9, gZ9, gC9, sA9, sZ9, sC9]
            refine wl_take (v := .bool true) (by kernel_rfl) (by go_simp) ?_
            simp only [Act.put, gA9, gZ9, gC9, sA9, sZ9, sC9]
            refine wl_skip (by kernel_rfl) ?_
            simp only [Act.put, gA9, gZ9, gC9, sA9, sZ9, sC9]
            refine wl_skip (by kernel_rfl) ?_
            simp only [Act.put, gA9, gZ9, gC9, sA9, sZ9, sC9]
            refine wl_skip (by kernel_rfl) ?_
            simp only [Act.put, gA9, gZ9, gC9, sA9, sZ9, sC9]
            refine wl_skip (by kernel_rfl) ?_
            simp only [Act.put, gA9, gZ9, gC9, sA9, sZ9, sC9]
            refine wl_skip (by kernel_rfl) ?_
            simp only [Act.put, gA9, gZ9, gC9, sA9, sZ9, sC9]
            refine wl_take (v := .bool true) (by kernel_rfl) (by go_simp) ?_
            simp only [Act.put, gA9, gZ9, gC9, sA9, sZ9, sC9]
            refine ⟨?_⟩
            go_wp2
            go_ret
            exact ⟨by rw [Hne1.out (by simpa using g1)]; rfl, bstep HBw.out HBU.out⟩
          rcases Bool.eq_false_or_eq_true (u2' != v2') with g2 | g2
          · skip
            go_wp2_with (first
              | (refine wl_at 44 rfl ?_)
              | (refine store_mid 79 (.tmp 7) (.tmp 39) (KZ2.out.there 0 [v0', v1', v2'].length (by simp)) info_mem rfl rfl rfl rfl ?_; rw [hU1])
              | (refine load_mid 79 (.tmp 38) R2.out _ Try.underlying79 rfl (by rw [ints_len]; exact info_mem) rfl rfl rfl ?_)
              | (refine store_mid 79 (.tmp 6) (.tmp 34) (KZ1.out.there 0 [u0', u1', u2'].length (by simp)) info_mem rfl rfl rfl rfl ?_; rw [hV1])
              | (refine load_mid 79 (.tmp 33) R1.out _ Try.underlying79 rfl (by rw [ints_len]; exact info_mem) rfl rfl rfl ?_)
              | fail)
            refine wl_take (v := .bool false) (by kernel_rfl) (by (go_simp <;> simpa using g0)) ?_
            simp only [Act.put, gA9, gZ9, gC9, sA9, sZ9, sC9]
            refine wl_take (v := .bool false) (by kernel_rfl) (by go_simp) ?_
            simp only [Act.put, gA9, gZ9, gC9, sA9, sZ9, sC9]
            refine wl_take (v := .pointer (some ⟨wr.heap.size, 1, none⟩)) (by kernel_rfl) (by go_simp) ?_
            simp only [Act.put, gA9, gZ9, gC9, sA9, sZ9, sC9]
            refine wl_take (v := .int .i64 u1') (by kernel_rfl) (by go_simp) ?_
            simp only [Act.put, gA9, gZ9, gC9, sA9, sZ9, sC9]
            refine wl_take (v := .pointer (some ⟨V1.heap.size, 1, none⟩)) (by kernel_rfl) (by go_simp) ?_
            simp only [Act.put, gA9, gZ9, gC9, sA9, sZ9, sC9]
            refine wl_take (v := .int .i64 v1') (by kernel_rfl) (by go_simp) ?_
            simp only [Act.put, gA9, gZ9, gC9, sA9, sZ9, sC9]
            refine wl_take (v := .bool false) (by kernel_rfl) (by (go_simp <;> simpa using g1)) ?_
            simp only [Act.put, gA9, gZ9, gC9, sA9, sZ9, sC9]
            refine wl_take (v := .bool false) (by kernel_rfl) (by go_simp) ?_
            simp only [Act.put, gA9, gZ9, gC9, sA9, sZ9, sC9]
            refine wl_take (v := .bool false) (by kernel_rfl) (by go_simp) ?_
            simp only [Act.put, gA9, gZ9, gC9, sA9, sZ9, sC9]
            refine wl_take (v := .pointer (some ⟨wr.heap.size, 2, none⟩)) (by kernel_rfl) (by go_simp) ?_
            simp only [Act.put, gA9, gZ9, gC9, sA9, sZ9, sC9]
            refine wl_take (v := .int .i64 u2') (by kernel_rfl) (by go_simp) ?_
            simp only [Act.put, gA9, gZ9, gC9, sA9, sZ9, sC9]
            refine wl_take (v := .pointer (some ⟨V1.heap.size, 2, none⟩)) (by kernel_rfl) (by go_simp) ?_
            simp only [Act.put, gA9, gZ9, gC9, sA9, sZ9, sC9]
            refine wl_take (v := .int .i64 v2') (by kernel_rfl) (by go_simp) ?_
            simp only [Act.put, gA9, gZ9, gC9, sA9, sZ9, sC9]
            refine wl_take (v := .bool true) (by kernel_rfl) (by (go_simp <;> simpa using g2)) ?_
            simp only [Act.put, gA9, gZ9, gC9, sA9, sZ9, sC9]
            refine wl_take (v := .bool true) (by kernel_rfl) (by go_simp) ?_
            simp only [Act.put, gA9, gZ9, gC9, sA9, sZ9, sC9]
            refine ⟨?_⟩
            go_wp2
            go_ret
            exact ⟨by rw [Hne2.out (by simpa using g2)]; rfl, bstep HBw.out HBU.out⟩
          go_wp2_with (first
            | (refine wl_at 44 rfl ?_)
            | (refine store_mid 79 (.tmp 7) (.tmp 39) (KZ2.out.there 0 [v0', v1', v2'].length (by simp)) info_mem rfl rfl rfl rfl ?_; rw [hU1])
            | (refine load_mid 79 (.tmp 38) R2.out _ Try.underlying79 rfl (by rw [ints_len]; exact info_mem) rfl rfl rfl ?_)
            | (refine store_mid 79 (.tmp 6) (.tmp 34) (KZ1.out.there 0 [u0', u1', u2'].length (by simp)) info_mem rfl rfl rfl rfl ?_; rw [hV1])
            | (refine load_mid 79 (.tmp 33) R1.out _ Try.underlying79 rfl (by rw [ints_len]; exact info_mem) rfl rfl rfl ?_)
            | fail)
          refine wl_take (v := .bool false) (by kernel_rfl) (by (go_simp <;> simpa using g0)) ?_
          simp only [Act.put, gA9, gZ9, gC9, sA9, sZ9, sC9]
          refine wl_take (v := .bool false) (by kernel_rfl) (by go_simp) ?_
          simp only [Act.put, gA9, gZ9, gC9, sA9, sZ9, sC9]
          refine wl_take (v := .pointer (some ⟨wr.heap.size, 1, none⟩)) (by kernel_rfl) (by go_simp) ?_
          simp only [Act.put, gA9, gZ9, gC9, sA9, sZ9, sC9]
          refine wl_take (v := .int .i64 u1') (by kernel_rfl) (by go_simp) ?_
          simp only [Act.put, gA9, gZ9, gC9, sA9, sZ9, sC9]
          refine wl_take (v := .pointer (some ⟨V1.heap.size, 1, none⟩)) (by kernel_rfl) (by go_simp) ?_
          simp only [Act.put, gA9, gZ9, gC9, sA9, sZ9, sC9]
          refine wl_take (v := .int .i64 v1') (by kernel_rfl) (by go_simp) ?_
          simp only [Act.put, gA9, gZ9, gC9, sA9, sZ9, sC9]
          refine wl_take (v := .bool false) (by kernel_rfl) (by (go_simp <;> simpa using g1)) ?_
          simp only [Act.put, gA9, gZ9, gC9, sA9, sZ9, sC9]
          refine wl_take (v := .bool false) (by kernel_rfl) (by go_simp) ?_
          simp only [Act.put, gA9, gZ9, gC9, sA9, sZ9, sC9]
          refine wl_take (v := .bool false) (by kernel_rfl) (by go_simp) ?_
          simp only [Act.put, gA9, gZ9, gC9, sA9, sZ9, sC9]
          refine wl_take (v := .pointer (some ⟨wr.heap.size, 2, none⟩)) (by kernel_rfl) (by go_simp) ?_
          simp only [Act.put, gA9, gZ9, gC9, sA9, sZ9, sC9]
          refine wl_take (v := .int .i64 u2') (by kernel_rfl) (by go_simp) ?_
          simp only [Act.put, gA9, gZ9, gC9, sA9, sZ9, sC9]
          refine wl_take (v := .pointer (some ⟨V1.heap.size, 2, none⟩)) (by kernel_rfl) (by go_simp) ?_
          simp only [Act.put, gA9, gZ9, gC9, sA9, sZ9, sC9]
          refine wl_take (v := .int .i64 v2') (by kernel_rfl) (by go_simp) ?_
          simp only [Act.put, gA9, gZ9, gC9, sA9, sZ9, sC9]
          refine wl_take (v := .bool false) (by kernel_rfl) (by (go_simp <;> simpa using g2)) ?_
          simp only [Act.put, gA9, gZ9, gC9, sA9, sZ9, sC9]
          refine wl_take (v := .bool false) (by kernel_rfl) (by go_simp) ?_
          simp only [Act.put, gA9, gZ9, gC9, sA9, sZ9, sC9]
          refine ⟨?_⟩
          go_wp2
          go_roundw
          case rel => exact ⟨k + 1, by omega, by go_num, HN.out (by simpa using g0) (by simpa using g1) (by simpa using g2), HBU.out⟩
          case measure => simp [intOf]; omega
        · obtain rfl : k = n := by omega
          have Hr1 : Hid (r = true) := by
            rw [List.take_of_length_le (by rw [Hx.out]; exact Nat.le_refl _), List.take_of_length_le (by rw [Hy.out]; exact Nat.le_refl _)] at het
            show r = true
            rw [← Hr.out]
            exact decide_eq_true het
          clear het
          go_wp2
          go_ret
          exact ⟨by rw [Hr1.out]; rfl, bstep HBw.out hb⟩
    · have hnm2 : ((n : Int) != (m : Int)) = true := by simp; omega
      have hrf : r = false := by rw [← Hr.out]; exact decide_eq_false (fun e => hnm (by have h3 := Hx.out; have h4 := Hy.out; rw [e] at h3; omega))
      subst hrf
      go_enter Try.func23, Try.ntmps23
      go_wp2_with (first | (refine wl_at 12 rfl ?_) | fail)
      refine wl_step (by kernel_rfl) fun K hK => ?_
      go_simp
      refine (F0.out).mono ?_
      rintro e X0 ⟨rfl, hb0⟩
      refine hK _ _ ?_
      clear hK K
      try (simp only [Act.put, gA9, gZ9, gC9, sA9, sZ9, sC9])
      have HB0 : Hid (Below W2.heap.size W2 X0) := hb0
      clear hb0
      have ca := below_at HB0.out fa4
      have cb := below_at HB0.out fb4
      refine wl_take (v := .bool false) (by kernel_rfl) (by go_simp) ?_
      simp only [Act.put, gA9, gZ9, gC9, sA9, sZ9, sC9]
      refine wl_take (v := .bool false) (by kernel_rfl) (by go_simp) ?_
      simp only [Act.put, gA9, gZ9, gC9, sA9, sZ9, sC9]
      refine wl_take (v := .pointer (some ⟨w.heap.size, 4, none⟩)) (by kernel_rfl) (by go_simp) ?_
      simp only [Act.put, gA9, gZ9, gC9, sA9, sZ9, sC9]
      refine wl_take (v := .slice a1 n c1) (by kernel_rfl) (by go_simp) ?_
      simp only [Act.put, gA9, gZ9, gC9, sA9, sZ9, sC9]
      refine wl_take (v := .int .i64 (n : Int)) (by kernel_rfl) (by go_simp) ?_
      simp only [Act.put, gA9, gZ9, gC9, sA9, sZ9, sC9]
      refine wl_take (v := .pointer (some ⟨W1.heap.size, 4, none⟩)) (by kernel_rfl) (by go_simp) ?_
      simp only [Act.put, gA9, gZ9, gC9, sA9, sZ9, sC9]
      refine wl_take (v := .slice a2 m c2) (by kernel_rfl) (by go_simp) ?_
      simp only [Act.put, gA9, gZ9, gC9, sA9, sZ9, sC9]
      refine wl_take (v := .int .i64 (m : Int)) (by kernel_rfl) (by go_simp) ?_
      simp only [Act.put, gA9, gZ9, gC9, sA9, sZ9, sC9]
      refine wl_take (v := .bool true) (by kernel_rfl) (by (go_simp <;> first | omega | simpa using hnm2)) ?_
      simp only [Act.put, gA9, gZ9, gC9, sA9, sZ9, sC9]
      refine wl_take (v := .bool true) (by kernel_rfl) (by go_simp) ?_
      simp only [Act.put, gA9, gZ9, gC9, sA9, sZ9, sC9]
      refine ⟨?_⟩
      go_wp2
      go_ret
      exact ⟨rfl, bstep HBw.out HB0.out⟩
end
end Go.Proofs.Ytdegjhkjmgimpaa.Mb
