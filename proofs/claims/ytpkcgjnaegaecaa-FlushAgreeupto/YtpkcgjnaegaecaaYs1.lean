import Derived.Test.YtpkcgjnaegaecaaYsb
namespace Go.Proofs.Ytpkcgjnaegaecaa.Fm
open Go.RowKit Go.Maps Mb
set_option linter.unusedVariables false
set_option maxRecDepth 100000
set_option linter.unusedSimpArgs false
section
variable {w w' W : World} {B : Nat}
set_option maxHeartbeats 1000000 in
theorem at_any (v : Int) (n : Nat) (h1 : 1 ≤ n) (hn : n ≤ 1000000) : Calls Try.prog 18 #[.int .i64 v, .int .i64 (n : Int)] w fun e w' => ∃ r : Nat, r < n ∧ e = .returned (.int .i64 (r : Int)) ∧ w = w' := by
  have n1 : ¬ (n : Int) < 1 := by omega
  have n0 : (n : Int) ≠ 0 := by omega
  have nb : ((n : Int) == 0) = false := by simpa using n0
  have a1 : v.tmod (n : Int) < (n : Int) := Int.tmod_lt_of_pos v (by omega)
  have a2 : -(n : Int) < v.tmod (n : Int) := Int.lt_tmod_of_pos v (by omega)
  have HA : Hid (v.tmod (n : Int) < (n : Int) ∧ -(n : Int) < v.tmod (n : Int)) := ⟨a1, a2⟩
  have hw : wrap64 (v.tmod (n : Int)) = v.tmod (n : Int) := (by unfold wrap64; omega)
  clear a1 a2
  go_enter Try.func18, Try.ntmps18
  go_upto_region 4 with fail
  generalize v.tmod (n : Int) = y at *
  obtain ⟨a1, a2⟩ := HA.out
  have hw2 : wrap64 y = y := hw
  clear hw
  by_cases hy : y < 0
  · have hy2 : y + (n : Int) = (((y + n).toNat : Nat) : Int) := by omega
    have hz : wrap64 (y + (n : Int)) = y + (n : Int) := (by unfold wrap64; omega)
    have hr : (y + n).toNat < n := by omega
    generalize (y + (n : Int)).toNat = r at *
    go_wp2
    go_ret
    exact ⟨r, hr, by first | rfl | (simp only [hw2, hz, hy2]; rfl) | (rw [← hy2]; first | rfl | (rw [hz]; rfl)), rfl⟩
  · obtain ⟨r, rfl⟩ : ∃ r : Nat, y = (r : Int) := ⟨y.toNat, by omega⟩
    go_wp2
    go_ret
    exact ⟨r, by omega, by first | rfl | (rw [hw2]; rfl), rfl⟩
end
end Go.Proofs.Ytpkcgjnaegaecaa.Fm
