import Derived.WalkKit
import Derived.Laws.Bits64
import Derived.Test.YtjgjpepmfiklfaaGreatDoorMath
namespace Go.Proofs.YtjgjpepmfiklfaaGreatDoor.Wb
open Go.RowKit
set_option linter.unusedVariables false

theorem i64_or_nat (a b : Nat) (ha : a < 9223372036854775808) (hb : b < 9223372036854775808) : bits .or .i64 (a : Int) (b : Int) = ((a ||| b : Nat) : Int) := by
  have hx : a ||| b < 2 ^ 63 := Nat.or_lt_two_pow (by omega) (by omega)
  have h1 : (BitVec.ofInt 64 (a : Int)).toNat = a := by
    rw [BitVec.ofInt_natCast, BitVec.toNat_ofNat]; exact Nat.mod_eq_of_lt (by omega)
  have h2 : (BitVec.ofInt 64 (b : Int)).toNat = b := by
    rw [BitVec.ofInt_natCast, BitVec.toNat_ofNat]; exact Nat.mod_eq_of_lt (by omega)
  show IntKind.i64.wrap ((BitVec.ofInt 64 (a : Int) ||| BitVec.ofInt 64 (b : Int)).toNat : Int) = _
  rw [BitVec.toNat_or, h1, h2]
  simp only [IntKind.wrap, IntKind.bits, IntKind.signed]
  simp
  omega

theorem w64 (n : Int) (h : -9223372036854775808 ≤ n ∧ n ≤ 9223372036854775807) : wrap64 n = n := by unfold wrap64; omega

theorem two7 (k : Nat) : (2 : Nat) ^ (7 * k) = 128 ^ k := by rw [Nat.pow_mul]
theorem two7i (k : Nat) : (2 : Int) ^ (7 * k) = 128 ^ k := by
  have := two7 k
  exact_mod_cast this

theorem or_group (u c : Int) (k : Nat) (hk : k < 9) (hu : 0 ≤ u ∧ u < 128 ^ k) (hc : 0 ≤ c ∧ c ≤ 255) :
    bits .or .i64 u (wrap64 (c % 128 * 2 ^ (7 * k))) = u + c % 128 * 128 ^ k := by
  have hg := Wm.grow_lt u c k hu.1 hu.2
  have h9 := Wm.pow_le9 (k + 1) (by omega)
  have hp := Wm.pow_pos k
  have h3 : 0 ≤ c % 128 * 128 ^ k := Int.mul_nonneg (by omega) (Int.le_of_lt hp)
  rw [two7i, w64 _ (by omega)]
  obtain ⟨a, rfl⟩ := Int.eq_ofNat_of_zero_le hu.1
  obtain ⟨d, hd⟩ := Int.eq_ofNat_of_zero_le (show 0 ≤ c % 128 by omega)
  have hq : (128 : Int) ^ k = ((128 ^ k : Nat) : Int) := by push_cast; rfl
  have hmul : c % 128 * 128 ^ k = ((d * 128 ^ k : Nat) : Int) := by rw [hd, hq]; push_cast; rfl
  have ha : a < 128 ^ k := by have := hu.2; rw [hq] at this; omega
  rw [hmul] at hg h3 ⊢
  rw [i64_or_nat _ _ (by omega) (by omega)]
  rw [← two7] at ha
  have ho := Nat.shiftLeft_add_eq_or_of_lt ha d
  rw [Nat.shiftLeft_eq, two7] at ho
  rw [Nat.or_comm, ← ho]
  push_cast
  omega

end Go.Proofs.YtjgjpepmfiklfaaGreatDoor.Wb
