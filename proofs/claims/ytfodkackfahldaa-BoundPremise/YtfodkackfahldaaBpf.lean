import Derived.Test.YtfodkackfahldaaBpe
namespace Go.Proofs.Ytfodkackfahldaa.Lo
open Go.RowKit
set_option linter.unusedVariables false
set_option linter.unusedSimpArgs false

def k5 (kd : Int) : Prop := kd = 2 ∨ kd = 5 ∨ kd = 6 ∨ kd = 7 ∨ kd = 18
instance (kd : Int) : Decidable (k5 kd) := by unfold k5; infer_instance
def diB (f : Nat → Int) (kd a : Int) : Bool := if k5 kd then inR a 0 (f 0 - 1) && decide (f (273 + a.toNat) = 1) else inR kd 12 17
set_option maxRecDepth 100000 in
set_option maxHeartbeats 1000000 in
theorem dist_out (b : Nat) (f : Nat → Int) (kd a q n : Int) (v4 v5 v6 v7 v8 v9 v10 v11 v12 : Value) (w : World) (h : Nb w b f) (hn : 1 ≤ f 0 ∧ f 0 ≤ 16) (hk : ¬ k5 kd) : Calls Try.prog 24 #[.pointer (some ⟨b, 0, none⟩), .agg #[.int .i64 kd, .int .i64 a, .int .i64 q, .int .i64 n, v4, v5, v6, v7, v8, v9, v10, v11, v12]] w fun e w' => e = .returned (.bool (inR kd 12 17)) ∧ Below w.heap.size w w' := by
  have HB : Hid (Below w.heap.size w (w.alloc (.cells #[.int .i64 kd, .int .i64 a, .int .i64 q, .int .i64 n, v4, v5, v6, v7, v8, v9, v10, v11, v12] 36))) := bsp _ _ _
  have hkk := heap_new w #[.int .i64 kd, .int .i64 a, .int .i64 q, .int .i64 n, v4, v5, v6, v7, v8, v9, v10, v11, v12] 36
  generalize hW : w.alloc (.cells #[.int .i64 kd, .int .i64 a, .int .i64 q, .int .i64 n, v4, v5, v6, v7, v8, v9, v10, v11, v12] 36) = W at *
  have c0 : W.cell? ⟨w.heap.size, 0, none⟩ = some (.int .i64 kd) := blk_cell hkk 0
  clear hkk h hn
  unfold k5 at hk
  have d2 : (kd == 2) = false := by rw [beq_eq_false_iff_ne]; omega
  have d5 : (kd == 5) = false := by rw [beq_eq_false_iff_ne]; omega
  have d6 : (kd == 6) = false := by rw [beq_eq_false_iff_ne]; omega
  have d7 : (kd == 7) = false := by rw [beq_eq_false_iff_ne]; omega
  have d18 : (kd == 18) = false := by rw [beq_eq_false_iff_ne]; omega
  clear hk
  by_cases hz : kd = 12 ∨ kd = 13 ∨ kd = 14 ∨ kd = 15 ∨ kd = 16 ∨ kd = 17
  · rcases hz with rfl | rfl | rfl | rfl | rfl | rfl
    all_goals
      clear d2 d5 d6 d7 d18
      go_enter Try.func24, Try.ntmps24
      go_wp2_with fail
      go_ret
      exact ⟨rfl, HB.out⟩
  · have d12 : (kd == 12) = false := by rw [beq_eq_false_iff_ne]; omega
    have d13 : (kd == 13) = false := by rw [beq_eq_false_iff_ne]; omega
    have d14 : (kd == 14) = false := by rw [beq_eq_false_iff_ne]; omega
    have d15 : (kd == 15) = false := by rw [beq_eq_false_iff_ne]; omega
    have d16 : (kd == 16) = false := by rw [beq_eq_false_iff_ne]; omega
    have d17 : (kd == 17) = false := by rw [beq_eq_false_iff_ne]; omega
    have hi : inR kd 12 17 = false := by simp [inR]; omega
    rw [hi]
    clear hz hi
    go_enter Try.func24, Try.ntmps24
    go_wp2_with fail
    go_ret
    exact ⟨rfl, HB.out⟩
set_option maxRecDepth 100000 in
set_option maxHeartbeats 2000000 in
theorem dist_in (b : Nat) (f : Nat → Int) (kd a q n : Int) (v4 v5 v6 v7 v8 v9 v10 v11 v12 : Value) (w : World) (h : Nb w b f) (hn : 1 ≤ f 0 ∧ f 0 ≤ 16) (hk : k5 kd) : Calls Try.prog 24 #[.pointer (some ⟨b, 0, none⟩), .agg #[.int .i64 kd, .int .i64 a, .int .i64 q, .int .i64 n, v4, v5, v6, v7, v8, v9, v10, v11, v12]] w fun e w' => e = .returned (.bool (inR a 0 (f 0 - 1) && decide (f (273 + a.toNat) = 1))) ∧ Below w.heap.size w w' := by
  have HB : Hid (Below w.heap.size w (w.alloc (.cells #[.int .i64 kd, .int .i64 a, .int .i64 q, .int .i64 n, v4, v5, v6, v7, v8, v9, v10, v11, v12] 36))) := bsp _ _ _
  have hkk := heap_new w #[.int .i64 kd, .int .i64 a, .int .i64 q, .int .i64 n, v4, v5, v6, v7, v8, v9, v10, v11, v12] 36
  generalize hW : w.alloc (.cells #[.int .i64 kd, .int .i64 a, .int .i64 q, .int .i64 n, v4, v5, v6, v7, v8, v9, v10, v11, v12] 36) = W at *
  have c0 : W.cell? ⟨w.heap.size, 0, none⟩ = some (.int .i64 kd) := blk_cell hkk 0
  have c1 : W.cell? ⟨w.heap.size, 1, none⟩ = some (.int .i64 a) := blk_cell hkk 1
  have hNW : Nb W b f := h.on HB.out
  generalize hbn : inR a 0 (f 0 - 1) = bn
  have HQ : Hid (∀ k, Calls Try.prog 43 #[.pointer (some ⟨b, 0, none⟩), .int .i64 a] (W.drewN k) fun e w' => e = .returned (.bool bn) ∧ w' = W.drewN k) := (show ∀ k, _ from fun k => by
    rw [← hbn]
    exact (isNode_any b f a _ (hNW.on (below_drewN (Below.refl _ _) _)) hn).mono fun _ _ h => ⟨h.1, h.2.symm⟩)
  clear hkk h
  cases bn
  · clear hNW hbn hn
    rcases hk with rfl | rfl | rfl | rfl | rfl
    all_goals
      go_enter Try.func24, Try.ntmps24
      go_wp2_with fail
      go_quiet ((go_at_call 43; exact Calls.quiet_of_same (HQ.out _)))
      go_wp2_with fail
      go_ret
      exact ⟨rfl, below_drewN HB.out _⟩
  · have ha : 0 ≤ a ∧ a ≤ f 0 - 1 := by simpa [inR] using hbn
    obtain ⟨m, rfl⟩ : ∃ m : Nat, a = (m : Int) := ⟨a.toNat, by omega⟩
    have a1 : (0 : Int) ≤ (m : Int) := Int.natCast_nonneg _
    have a2 : (m : Int) < 16 := by omega
    have cx := hNW.cell (i := 273 + m) (by omega)
    rw [show ((m : Int).toNat) = m from rfl]
    generalize f (273 + m) = x at *
    clear hNW hbn hn ha
    by_cases x1 : x = 1
    · subst x1
      rcases hk with rfl | rfl | rfl | rfl | rfl
      all_goals
        go_enter Try.func24, Try.ntmps24
        go_wp2_with fail
        go_quiet ((go_at_call 43; exact Calls.quiet_of_same (HQ.out _)))
        go_wp2_with fail
        go_ret
        exact ⟨rfl, below_drewN HB.out _⟩
    · have x2 : (x == 1) = false := by simpa using x1
      rw [show decide (x = 1) = false from by simpa using x1]
      clear x1
      rcases hk with rfl | rfl | rfl | rfl | rfl
      all_goals
        go_enter Try.func24, Try.ntmps24
        go_wp2_with fail
        go_quiet ((go_at_call 43; exact Calls.quiet_of_same (HQ.out _)))
        go_wp2_with fail
        go_ret
        exact ⟨rfl, below_drewN HB.out _⟩
theorem disturbs_any (b : Nat) (f : Nat → Int) (kd a q n : Int) (v4 v5 v6 v7 v8 v9 v10 v11 v12 : Value) (w : World) (h : Nb w b f) (hn : 1 ≤ f 0 ∧ f 0 ≤ 16) : Calls Try.prog 24 #[.pointer (some ⟨b, 0, none⟩), .agg #[.int .i64 kd, .int .i64 a, .int .i64 q, .int .i64 n, v4, v5, v6, v7, v8, v9, v10, v11, v12]] w fun e w' => e = .returned (.bool (diB f kd a)) ∧ Below w.heap.size w w' := by
  unfold diB
  by_cases hk : k5 kd
  · rw [if_pos hk]
    exact dist_in b f kd a q n v4 v5 v6 v7 v8 v9 v10 v11 v12 w h hn hk
  · rw [if_neg hk]
    exact dist_out b f kd a q n v4 v5 v6 v7 v8 v9 v10 v11 v12 w h hn hk
end Go.Proofs.Ytfodkackfahldaa.Lo
