import Derived.Test.YtmphabgpabbbjaaDoorUa
import Derived.Test.YtmphabgpabbbjaaDoorAa
namespace Go.Proofs.YtmphabgpabbbjaaDoor.Fg
open Go.RowKit Mb
set_option linter.unusedVariables false
set_option maxRecDepth 100000
set_option linter.unusedSimpArgs false
section
variable {w w' W : World} {B : Nat}
def inR (lo hi x : Int) : Bool := decide (lo ≤ x) && decide (x ≤ hi)
theorem inR_t {a b x : Int} (h1 : a ≤ x) (h2 : x ≤ b) : inR a b x = true := by simp [inR, h1, h2]
theorem inR_f {a b x : Int} (h : ¬ (a ≤ x ∧ x ≤ b)) : inR a b x = false := by
  simp [inR]; omega
theorem within_any (v lo hi : Int) : Calls Tryd.prog 25 #[.int .i64 v, .int .i64 lo, .int .i64 hi] w fun e w' => e = .returned (.bool (inR lo hi v)) ∧ w = w' := by
  go_enter Tryd.func25, Tryd.ntmps25
  go_wp2
  all_goals (go_ret; exact ⟨by simp [inR]; first | assumption | omega, rfl⟩)
def cntI (x : Int) : Int := if 0 ≤ x ∧ x ≤ 4000 then max 1 ((x + 247) / 248) else 0
theorem cntI_nat (n : Nat) : cntI (n : Int) = ((cnt n : Nat) : Int) := by
  unfold cntI cnt
  by_cases h : n ≤ 4000
  · rw [if_pos (by omega), if_pos h]; omega
  · rw [if_neg (by omega), if_neg h]; rfl
theorem ret_int {k : IntKind} {a b : Int} (h : a = b) : Ending.returned (.int k a) = .returned (.int k b) := by rw [h]
set_option maxHeartbeats 400000 in
theorem fcount_any (x : Int) : Calls Tryd.prog 17 #[.int .i64 x] w fun e w' => e = .returned (.int .i64 (cntI x)) ∧ w = w' := by
  have Hw : Hid (Calls Tryd.prog 25 #[.int .i64 x, .int .i64 0, .int .i64 4000] w fun e w' => e = .returned (.bool (inR 0 4000 x)) ∧ w = w') := within_any x _ _
  by_cases h : 0 ≤ x ∧ x ≤ 4000
  · rw [inR_t h.1 h.2] at Hw
    have Hc : Hid (cntI x = max 1 ((x + 247) / 248)) := (show _ = _ from by unfold cntI; rw [if_pos h])
    obtain ⟨h1, h2⟩ := h
    go_enter Tryd.func17, Tryd.ntmps17
    go_wp2_with (first | (go_at_call 25; refine Hw.out.mono ?_; rintro e w2 ⟨rfl, rfl⟩) | fail)
    all_goals (go_ret; exact ⟨ret_int (by rw [Hc.out]; omega), rfl⟩)
  · rw [inR_f h] at Hw
    have Hc : Hid (cntI x = 0) := (show _ = _ from by unfold cntI; rw [if_neg h])
    clear h
    go_enter Tryd.func17, Tryd.ntmps17
    go_wp2_with (first | (go_at_call 25; refine Hw.out.mono ?_; rintro e w2 ⟨rfl, rfl⟩) | fail)
    go_ret
    exact ⟨ret_int Hc.out.symm, rfl⟩
set_option maxHeartbeats 400000 in
theorem qcount_any (x : Int) : Calls Tryd.prog 30 #[.int .i64 x] w fun e w' => e = .returned (.int .i64 (cntI x)) ∧ w = w' := by
  by_cases h0 : x < 0
  · have Hc : Hid (cntI x = 0) := (show _ = _ from by unfold cntI; rw [if_neg (by omega)])
    go_enter Tryd.func30, Tryd.ntmps30
    go_wp2
    go_ret
    exact ⟨ret_int Hc.out.symm, rfl⟩
  · by_cases h1 : 4000 < x
    · have Hc : Hid (cntI x = 0) := (show _ = _ from by unfold cntI; rw [if_neg (by omega)])
      go_enter Tryd.func30, Tryd.ntmps30
      go_wp2
      go_ret
      exact ⟨ret_int Hc.out.symm, rfl⟩
    · have Hc : Hid (cntI x = max 1 ((x + 247) / 248)) := (show _ = _ from by unfold cntI; rw [if_pos (by omega)])
      have g0 : 0 ≤ x := by omega
      have g1 : x ≤ 4000 := by omega
      clear h0 h1
      go_enter Tryd.func30, Tryd.ntmps30
      go_wp2
      go_loop [3] (fun v => ∃ n : Int, 1 ≤ n ∧ n ≤ 17 ∧ (n = 1 ∨ (n - 1) * 248 < x) ∧ v = .int .i64 n) (fun v => (17 - intOf v).toNat)
      case atStart => exact ⟨1, by omega, by omega, .inl rfl, rfl⟩
      case round =>
        obtain ⟨n, hn1, hn2, hn3, rfl⟩ := hrel
        by_cases hlt : n * 248 < x
        · go_wp2
          go_round
          case rel => exact ⟨n + 1, by omega, by omega, by omega, rfl⟩
          case measure => simp [intOf]; omega
        · go_wp2
          go_ret
          exact ⟨ret_int (by rw [Hc.out]; omega), rfl⟩
end
end Go.Proofs.YtmphabgpabbbjaaDoor.Fg
