import Derived.Test.YtfbollifegngjaaVl
namespace Go.Proofs.Ytfbollifegngjaa.Dt
open Go.RowKit
set_option linter.unusedVariables false
set_option maxRecDepth 100000
set_option linter.unusedSimpArgs false
section
variable {D D' : De} {w w' W V : World} {B m : Nat}
theorem num_any (x : Int) : Calls Try.prog 21 #[.int .i64 x] w fun e w' => e = .returned (.int .i64 x) ∧ w = w' := by
  go_enter Try.func21, Try.ntmps21
  go_wp2
  go_ret
  exact ⟨rfl, rfl⟩
def minI (a b : Int) : Int := if a < b then a else b
def posI (v n : Int) : Int := if n < 1 then 0 else if v.tmod n < 0 then v.tmod n + n else v.tmod n
theorem posI_lt (v : Int) {n : Int} (h : 1 ≤ n) : 0 ≤ posI v n ∧ posI v n < n := by
  unfold posI
  rw [if_neg (by omega)]
  have h1 := Int.tmod_lt_of_pos v (show 0 < n by omega)
  have h2 := Int.lt_tmod_of_pos v (show 0 < n by omega)
  split <;> omega
theorem pos_any (v n : Int) (hn : n ≤ 9223372036854775807) : Calls Try.prog 10 #[.int .i64 v, .int .i64 n] w fun e w' => e = .returned (.int .i64 (posI v n)) ∧ w = w' := by
  unfold posI
  by_cases h : n < 1
  · rw [if_pos h]
    go_enter Try.func10, Try.ntmps10
    go_wp2
    go_ret
    exact ⟨rfl, rfl⟩
  · rw [if_neg h]
    have h1 := Int.tmod_lt_of_pos v (show 0 < n by omega)
    have h2 := Int.lt_tmod_of_pos v (show 0 < n by omega)
    by_cases h0 : v.tmod n < 0
    · rw [if_pos h0]
      have hw : IntKind.i64.wrap (v.tmod n + n) = v.tmod n + n := wrap_id (by omega) (by omega)
      have hw2 : wrap64 (v.tmod n + n) = v.tmod n + n := by rw [wrap64, ← IntKind.wrap_i64]; exact hw
      go_enter Try.func10, Try.ntmps10
      go_wp2
      go_ret
      exact ⟨by first | rfl | (rw [hw2]; rfl) | (simp [hw2]), rfl⟩
    · rw [if_neg h0]
      go_enter Try.func10, Try.ntmps10
      go_wp2
      go_ret
      exact ⟨rfl, rfl⟩
def anoI (v n s : Int) : Int := if n < 2 then -1 else if s ≤ posI v (n - 1) then posI v (n - 1) + 1 else posI v (n - 1)
theorem anoI_is (v : Int) {n s : Nat} (hn : 2 ≤ n) (hs : s < n) : 0 ≤ anoI v n s ∧ anoI v n s < n ∧ anoI v n s ≠ s := by
  unfold anoI
  rw [if_neg (by omega)]
  have hb := posI_lt v (show 1 ≤ (n : Int) - 1 by omega)
  split <;> omega
def atI (xs : List Int) (i : Int) : Int := if i < 0 ∨ (xs.length : Int) ≤ i then -1 else xs.getD i.toNat 0
theorem at_any {ao : Option Addr} {n c : Nat} {xs : List Int} (hr : RdI w ao n xs) (i : Int) : Calls Try.prog 9 #[.slice ao n c, .int .i64 i] w fun e w' => e = .returned (.int .i64 (atI xs i)) ∧ w = w' := by
  unfold atI
  rw [hr.1]
  by_cases h : i < 0
  · rw [if_pos (.inl h)]
    clear hr
    go_enter Try.func9, Try.ntmps9
    go_wp2
    go_ret
    exact ⟨rfl, rfl⟩
  · by_cases h2 : (n : Int) ≤ i
    · rw [if_pos (.inr h2)]
      clear hr
      go_enter Try.func9, Try.ntmps9
      go_wp2
      go_ret
      exact ⟨rfl, rfl⟩
    · rw [if_neg (by omega)]
      obtain ⟨k, rfl⟩ : ∃ k : Nat, i = k := ⟨i.toNat, by omega⟩
      rw [Int.toNat_natCast]
      obtain ⟨b, o, rfl, hc⟩ := hr.at (i := k) (by omega)
      generalize xs.getD k 0 = x at *
      have i1 : (0 : Int) ≤ (k : Int) := Int.natCast_nonneg _
      have i2 : (k : Int) < (n : Int) := by omega
      clear hr
      go_enter Try.func9, Try.ntmps9
      go_wp2
      go_ret
      exact ⟨rfl, rfl⟩
def heaI (n s : Nat) (v : Int) : List Int := (List.replicate n (0 : Int)).set s v
theorem heaI_len (n s : Nat) (v : Int) : (heaI n s v).length = n := by simp [heaI]
theorem heaI_at {n s : Nat} (hs : s < n) (v : Int) : (heaI n s v).getD s 0 = v := by simp [heaI, List.getD, hs]
def refOk : Bool := true
set_option maxHeartbeats 1000000 in
theorem rnew_no (n s inc base step lim : Int) (hno : newOk n s inc base step lim = false) : Calls Try.prog 19 #[.int .i64 n, .int .i64 s, .int .i64 inc, .int .i64 base, .int .i64 step, .int .i64 lim] w fun e w' => e = .returned (.tuple #[.pointer none, .int .i64 1]) ∧ w = w' := by
  have hno2 : ¬ ((1 ≤ n ∧ n ≤ 16) ∧ (0 ≤ s ∧ s ≤ n - 1) ∧ (1 ≤ inc ∧ inc ≤ 4611686018427387904) ∧ (1 ≤ lim ∧ lim ≤ 64) ∧ (1 ≤ base ∧ base ≤ lim) ∧ (1 ≤ step ∧ step ≤ 64)) := by
    intro h
    obtain ⟨a1, a2, a3, a4, a5, a6⟩ := h
    unfold newOk at hno
    rw [decide_eq_true a1, decide_eq_true a2, decide_eq_true a3, decide_eq_true a4, decide_eq_true a5, decide_eq_true a6] at hno
    cases hno
  clear hno
  by_cases hf : (1 ≤ n ∧ n ≤ 16) ∧ (0 ≤ s ∧ s < n) ∧ (1 ≤ inc ∧ inc ≤ 4611686018427387904)
  · have hs : ¬ ((1 ≤ lim ∧ lim ≤ 64) ∧ (1 ≤ base ∧ base ≤ lim) ∧ (1 ≤ step ∧ step ≤ 64)) := fun h => hno2 ⟨hf.1, ⟨hf.2.1.1, by omega⟩, hf.2.2, h.1, h.2.1, h.2.2⟩
    obtain ⟨⟨a1, a2⟩, ⟨a3, a4⟩, ⟨a5, a6⟩⟩ := hf
    clear hno2
    have Hs : Hid (¬ ((1 ≤ lim ∧ lim ≤ 64) ∧ (1 ≤ base ∧ base ≤ lim) ∧ (1 ≤ step ∧ step ≤ 64))) := hs
    clear hs
    go_enter Try.func19, Try.ntmps19
    go_wp2
    all_goals first
      | (go_ret2; exact ⟨rfl, rfl⟩)
      | (exfalso; have := Hs.out; omega)
  · have Hs : Hid (¬ ((1 ≤ n ∧ n ≤ 16) ∧ (0 ≤ s ∧ s < n) ∧ (1 ≤ inc ∧ inc ≤ 4611686018427387904))) := hf
    clear hno2 hf
    go_enter Try.func19, Try.ntmps19
    go_wp2
    all_goals first
      | (exfalso; have := Hs.out; omega)
      | (go_ret2; exact ⟨rfl, rfl⟩)
end
end Go.Proofs.Ytfbollifegngjaa.Dt
