import Derived.Test.YtapenemfnngniaaPl
import Derived.Test.YtapenemfnngniaaPi
namespace Go.Proofs.Ytapenemfnngniaa.Qm
open Go.RowKit Mb
set_option linter.unusedVariables false
set_option maxRecDepth 100000
set_option linter.unusedSimpArgs false
section
variable {w w' W : World} {B : Nat}
theorem and_le (a b : Nat) : a &&& b ≤ a := Nat.and_le_left
set_option maxHeartbeats 2000000 in
theorem ones64_any (s : Nat) (hs : s < 65536) : Calls Try.prog 77 #[.int .u64 (s : Int)] w fun e w' => e = .returned (.int .i64 ((size s 16 : Nat) : Int)) ∧ w = w' := by
  have HP : Hid (pop s = size s 16) := pop_eq hs
  obtain ⟨x1, hx1⟩ : ∃ x1, x1 = (s / 2) &&& 6148914691236517205 := ⟨_, rfl⟩
  obtain ⟨x2, hx2⟩ : ∃ x2, x2 = s &&& 6148914691236517205 := ⟨_, rfl⟩
  have l1 : x1 ≤ s / 2 := hx1 ▸ and_le _ _
  have l2 : x2 ≤ s := hx2 ▸ and_le _ _
  have h1 : bits .and .u64 ((s : Int) / 2) 6148914691236517205 = (x1 : Int) := by
    have := u64_and_nat (s / 2) 6148914691236517205 (by omega) (by omega)
    rw [hx1, ← this]; simp
  have h2 : bits .and .u64 (s : Int) 6148914691236517205 = (x2 : Int) := by
    have := u64_and_nat s 6148914691236517205 (by omega) (by omega)
    rw [hx2, ← this]; simp
  obtain ⟨x3, hx3⟩ : ∃ x3, x3 = ((x1 + x2) / 4) &&& 3689348814741910323 := ⟨_, rfl⟩
  obtain ⟨x4, hx4⟩ : ∃ x4, x4 = (x1 + x2) &&& 3689348814741910323 := ⟨_, rfl⟩
  have l3 : x3 ≤ (x1 + x2) / 4 := hx3 ▸ and_le _ _
  have l4 : x4 ≤ x1 + x2 := hx4 ▸ and_le _ _
  have h3 : bits .and .u64 (((x1 : Int) + (x2 : Int)) / 4) 3689348814741910323 = (x3 : Int) := by
    have := u64_and_nat ((x1 + x2) / 4) 3689348814741910323 (by omega) (by omega)
    rw [hx3, ← this]; simp
  have h4 : bits .and .u64 ((x1 : Int) + (x2 : Int)) 3689348814741910323 = (x4 : Int) := by
    have := u64_and_nat (x1 + x2) 3689348814741910323 (by omega) (by omega)
    rw [hx4, ← this]; simp
  obtain ⟨x5, hx5⟩ : ∃ x5, x5 = ((x3 + x4) / 16 + (x3 + x4)) &&& 1085102592571150095 := ⟨_, rfl⟩
  have l5 : x5 ≤ (x3 + x4) / 16 + (x3 + x4) := hx5 ▸ and_le _ _
  have h5 : bits .and .u64 (((x3 : Int) + (x4 : Int)) / 16 + ((x3 : Int) + (x4 : Int))) 1085102592571150095 = (x5 : Int) := by
    have := u64_and_nat ((x3 + x4) / 16 + (x3 + x4)) 1085102592571150095 (by omega) (by omega)
    rw [hx5, ← this]; simp
  obtain ⟨x7, hx7⟩ : ∃ x7, x7 = (x5 + x5 / 256 + (x5 + x5 / 256) / 65536 + (x5 + x5 / 256 + (x5 + x5 / 256) / 65536) / 4294967296) &&& 127 := ⟨_, rfl⟩
  have H7 : Hid (x7 = size s 16) := (show _ = _ from by
    rw [← HP.out, hx7, hx5, hx4, hx3, hx2, hx1]; rfl)
  have h7 : bits .and .i64 ((x5 : Int) + (x5 : Int) / 256 + ((x5 : Int) + (x5 : Int) / 256) / 65536 + ((x5 : Int) + (x5 : Int) / 256 + ((x5 : Int) + (x5 : Int) / 256) / 65536) / 4294967296) 127 = (x7 : Int) := by
    have := i64_and_nat (x5 + x5 / 256 + (x5 + x5 / 256) / 65536 + (x5 + x5 / 256 + (x5 + x5 / 256) / 65536) / 4294967296) 127 (by omega) (by omega)
    rw [hx7, ← this]; simp
  clear hx1 hx2 hx3 hx4 hx5 hx7 HP
  go_enter Try.func77, Try.ntmps77
  go_wp2
  go_ret
  exact ⟨by simp [h7, H7.out], rfl⟩
set_option maxHeartbeats 1000000 in
theorem ones_any (s : Nat) (hs : s < 65536) : Calls Try.prog 61 #[.int .u64 (s : Int)] w fun e w' => e = .returned (.int .i64 ((size s 16 : Nat) : Int)) ∧ w = w' := by
  have H : Hid (∀ w, Calls Try.prog 77 #[.int .u64 (s : Int)] w fun e w' => e = .returned (.int .i64 ((size s 16 : Nat) : Int)) ∧ w = w') := fun w => ones64_any s hs
  go_enter Try.func61, Try.ntmps61
  go_wp2_with (first
    | (go_at_call 77; refine (H.out _).mono ?_; rintro e w' ⟨rfl, rfl⟩)
    | fail)
  go_ret
  exact ⟨rfl, rfl⟩
set_option maxHeartbeats 1000000 in
theorem size_any (s : Nat) (hs : s < 65536) : Calls Try.prog 43 #[.int .u64 (s : Int)] w fun e w' => e = .returned (.int .i64 ((size s 16 : Nat) : Int)) ∧ w = w' := by
  have H : Hid (∀ w, Calls Try.prog 61 #[.int .u64 (s : Int)] w fun e w' => e = .returned (.int .i64 ((size s 16 : Nat) : Int)) ∧ w = w') := fun w => ones_any s hs
  go_enter Try.func43, Try.ntmps43
  go_wp2_with (first
    | (go_at_call 61; refine (H.out _).mono ?_; rintro e w' ⟨rfl, rfl⟩)
    | fail)
  go_ret
  exact ⟨rfl, rfl⟩
theorem size_ext {s n : Nat} (hs : s < 2 ^ n) : ∀ k, size s (n + k) = size s n
  | 0 => rfl
  | k + 1 => by
      rw [← Nat.add_assoc]
      simp only [size]
      rw [size_ext hs k, Nat.testBit_lt_two_pow (Nat.lt_of_lt_of_le hs (Nat.pow_le_pow_right (by decide) (by omega)))]
      simp
theorem size_16 {s n : Nat} (hn : n ≤ 16) (hs : s < 2 ^ n) : size s 16 = size s n := by
  have := size_ext hs (16 - n)
  rwa [show n + (16 - n) = 16 by omega] at this
end
end Go.Proofs.Ytapenemfnngniaa.Qm
