import Derived.Test.YtapenemfnngniaaPd
import Derived.Lib.BitFns
namespace Go.Proofs.Ytapenemfnngniaa.Qm
open Go.RowKit Mb
set_option linter.unusedVariables false
set_option maxRecDepth 100000
set_option linter.unusedSimpArgs false
section
variable {w w' W : World} {B : Nat}
theorem len8_get (y : Int) (h : y.toNat < Lib.len8tab.size) : ((Lib.len8tab[y.toNat]'h).toNat : Int) = Lib.len8 y := by
  have e : Lib.len8tab[y.toNat]? = some (Lib.len8tab[y.toNat]'h) := by simp [h]
  unfold Lib.len8
  rw [e]
  rfl
set_option maxHeartbeats 4000000 in
theorem len64_any (x : Int) (h0 : 0 ≤ x) (h1 : x < 65536) : Calls Try.prog 73 #[.int .u64 x] w fun e w' => e = .returned (.int .i64 (Lib.bitLen x.toNat)) ∧ w = w' := by
  have hsz := Lib.len8tab_size
  by_cases hs : x < 256
  · have l := Lib.bitLen_le8' x (by omega) (by omega)
    go_enter Try.func73, Try.ntmps73
    go_wp2
    all_goals first
      | (go_ret; refine ⟨congrArg Ending.returned (congrArg (Value.int IntKind.i64) ?_), rfl⟩; rw [len8_get x _, Lib.len8_of x (by omega) (by omega)]; unfold wrap64; omega)
      | (exfalso; omega)
  · have e : (x / 256).toNat = x.toNat / 256 := by omega
    have he : Hid ((x / 256).toNat = x.toNat / 256) := e
    have l := Lib.bitLen_le8' (x / 256) (by omega) (by omega)
    have s := Lib.bitLen_shift8 x.toNat (by omega) (by omega)
    rw [e] at l
    clear e
    go_enter Try.func73, Try.ntmps73
    go_wp2
    all_goals first
      | (go_ret; refine ⟨congrArg Ending.returned (congrArg (Value.int IntKind.i64) ?_), rfl⟩; rw [len8_get (x / 256) _, Lib.len8_of (x / 256) (by omega) (by omega), he.out]; unfold wrap64; omega)
      | (exfalso; omega)
set_option maxHeartbeats 1000000 in
theorem len_any (x : Int) (h0 : 0 ≤ x) (h1 : x < 65536) : Calls Try.prog 53 #[.int .u64 x] w fun e w' => e = .returned (.int .i64 (Lib.bitLen x.toNat)) ∧ w = w' := by
  go_enter Try.func53, Try.ntmps53
  go_wp2_with (first
    | (go_at_call 73; refine (len64_any x h0 h1).mono ?_; rintro e w' ⟨rfl, rfl⟩)
    | fail)
  go_ret
  exact ⟨rfl, rfl⟩
set_option maxHeartbeats 1000000 in
theorem end_any (s : Nat) (hs : s < 65536) : Calls Try.prog 51 #[.int .u64 (s : Int)] w fun e w' => e = .returned (.int .i64 (Lib.bitLen s)) ∧ w = w' := by
  have HL : Hid (∀ w, Calls Try.prog 53 #[.int .u64 (s : Int)] w fun e w' => e = .returned (.int .i64 (Lib.bitLen s)) ∧ w = w') := fun w => len_any (s : Int) (by omega) (by omega)
  go_enter Try.func51, Try.ntmps51
  go_wp2_with (first
    | (go_at_call 53; refine (HL.out _).mono ?_; rintro e w' ⟨rfl, rfl⟩)
    | fail)
  go_ret
  exact ⟨rfl, rfl⟩
theorem lt_len {s : Nat} (hs : s < 65536) : s < 2 ^ Lib.bitLen s := by
  have key : ∀ (k s : Nat), s < 2 ^ k → k ≤ 63 → s < 2 ^ Lib.bitLen s := by
    intro k
    induction k with
    | zero => intro s hs _; have : s = 0 := by omega
              subst this; exact Nat.two_pow_pos _
    | succ k ih =>
      intro s hs hk
      by_cases h0 : s = 0
      · subst h0; exact Nat.two_pow_pos _
      · have h64 : s < 2 ^ 64 := Nat.lt_trans hs (Nat.pow_lt_pow_right (by decide) (by omega))
        have h2 := ih (s / 2) (by rw [Nat.pow_succ] at hs; omega) (by omega)
        rw [Lib.bitLen_half s h0 h64, Nat.add_comm, Nat.pow_succ]
        omega
  exact key 16 s hs (by omega)
theorem len_le {s k : Nat} (hk : k ≤ 16) (h : s < 2 ^ k) : Lib.bitLen s ≤ k := Lib.bitLen_le s k (by omega) h
theorem len_with {s p : Nat} (h : s < 2 ^ p) (hp : p < 16) : Lib.bitLen (s ||| 2 ^ p) = p + 1 := by
  have hlt : s ||| 2 ^ p < 2 ^ (p + 1) := Nat.or_lt_two_pow (Nat.lt_trans h (Nat.pow_lt_pow_right (by decide) (by omega))) (Nat.pow_lt_pow_right (by decide) (by omega))
  have h1 := len_le (k := p + 1) (by omega) hlt
  have h16 : s ||| 2 ^ p < 65536 := Nat.lt_of_lt_of_le hlt (two_pow_le (p + 1) (by omega))
  have h2 := lt_len h16
  have h3 : 2 ^ p ≤ s ||| 2 ^ p := Nat.right_le_or
  have h4 : 2 ^ p < 2 ^ Lib.bitLen (s ||| 2 ^ p) := by omega
  have h5 := (Nat.pow_lt_pow_iff_right (by decide : 1 < 2)).1 h4
  omega
end
end Go.Proofs.Ytapenemfnngniaa.Qm
