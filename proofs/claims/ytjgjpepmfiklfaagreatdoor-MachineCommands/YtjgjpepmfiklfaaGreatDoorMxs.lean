import Derived.Test.YtjgjpepmfiklfaaGreatDoorMxq
namespace Go.Proofs.YtjgjpepmfiklfaaGreatDoor.Mx
open Go.RowKit Mb Mh Lo
open Go.Lib (decFrom decNat digitVal decDigits atoi itoa)
set_option linter.unusedVariables false
set_option maxRecDepth 100000
set_option linter.unusedSimpArgs false
theorem decFrom_snoc (b : UInt8) : ∀ (l : List UInt8) (acc : Nat), decFrom acc (l ++ [b]) = (decFrom acc l).bind fun n => (digitVal b).map fun d => n * 10 + d
  | [], acc => by
    simp only [List.nil_append, decFrom, Option.bind_some]
    cases digitVal b <;> rfl
  | a :: t, acc => by
    simp only [List.cons_append, decFrom]
    cases digitVal a with
    | none => rfl
    | some d => exact decFrom_snoc b t _
theorem decFrom_le : ∀ (l : List UInt8) (acc n : Nat), decFrom acc l = some n → acc ≤ n
  | [], acc, n, h => by simp only [decFrom, Option.some.injEq] at h; omega
  | a :: t, acc, n, h => by
    simp only [decFrom] at h
    cases hd : digitVal a with
    | none => simp [hd] at h
    | some d =>
      simp only [hd] at h
      have := decFrom_le t _ n h
      omega
theorem digit_ofNat {d : Nat} (h : d < 10) : (UInt8.ofNat (48 + d)).toNat = 48 + d := by
  rw [UInt8.toNat_ofNat']
  omega
theorem digitVal_ofNat {d : Nat} (h : d < 10) : digitVal (UInt8.ofNat (48 + d)) = some d := by
  unfold digitVal
  rw [digit_ofNat h, if_pos (by omega)]
  congr 1
  omega
theorem ofNat_digit {b : UInt8} {d : Nat} (h : digitVal b = some d) : UInt8.ofNat (48 + d) = b ∧ d < 10 := by
  unfold digitVal at h
  split at h
  · rename_i h1
    simp only [Option.some.injEq] at h
    have e : 48 + d = b.toNat := by omega
    refine ⟨?_, by omega⟩
    rw [e]
    simp
  · cases h
theorem dd_from (u : Nat) : decFrom 0 (decDigits u) = some u := by
  induction u using Nat.strongRecOn with
  | _ u ih =>
    by_cases h : u < 10
    · rw [Lib.decDigits_one h]
      simp only [decFrom, digitVal_ofNat h]
      simp
    · rw [decDigits, dif_neg h, decFrom_snoc, ih (u / 10) (by omega), Option.bind_some, digitVal_ofNat (by omega)]
      simp only [Option.map_some, Option.some.injEq]
      omega
theorem dd_pos (u : Nat) (hu : 1 ≤ u) : ∃ b t, decDigits u = b :: t ∧ 49 ≤ b.toNat ∧ b.toNat ≤ 57 := by
  induction u using Nat.strongRecOn with
  | _ u ih =>
    by_cases h : u < 10
    · refine ⟨UInt8.ofNat (48 + u), [], Lib.decDigits_one h, ?_⟩
      rw [digit_ofNat h]
      omega
    · obtain ⟨b, t, e, h1⟩ := ih (u / 10) (by omega) (by omega)
      refine ⟨b, t ++ [UInt8.ofNat (48 + u % 10)], ?_, h1⟩
      rw [decDigits, dif_neg h, e]
      rfl
theorem canon (k : Nat) : ∀ (l : List UInt8) (m : Nat), l.length = k → decFrom 0 l = some m → (∃ b t, l = b :: t ∧ 49 ≤ b.toNat) → decDigits m = l ∧ 1 ≤ m := by
  induction k with
  | zero =>
    rintro l m hl _ ⟨b, t, rfl, _⟩
    simp at hl
  | succ k ih =>
    rintro l m hl hm ⟨b, t, rfl, hb⟩
    rcases List.eq_nil_or_concat t with rfl | ⟨t', c, rfl⟩
    · simp only [decFrom] at hm
      cases hd : digitVal b with
      | none => simp [hd] at hm
      | some d =>
        simp only [hd, Option.some.injEq] at hm
        obtain ⟨e1, e2⟩ := ofNat_digit hd
        have e3 : m = d := by omega
        subst e3
        have e4 := digit_ofNat e2
        rw [e1] at e4
        exact ⟨by rw [Lib.decDigits_one e2, e1], by omega⟩
    · have e0 : b :: (t' ++ [c]) = (b :: t') ++ [c] := rfl
      rw [List.concat_eq_append] at hl hm ⊢
      rw [e0, decFrom_snoc] at hm
      cases hn : decFrom 0 (b :: t') with
      | none => simp [hn] at hm
      | some n =>
        rw [hn, Option.bind_some] at hm
        cases hd : digitVal c with
        | none => simp [hd] at hm
        | some d =>
          simp only [hd, Option.map_some, Option.some.injEq] at hm
          obtain ⟨i1, i2⟩ := ih (b :: t') n (by simp at hl ⊢; omega) hn ⟨b, t', rfl, hb⟩
          obtain ⟨e1, e2⟩ := ofNat_digit hd
          refine ⟨?_, by omega⟩
          rw [decDigits, dif_neg (by omega), e0]
          have q1 : m / 10 = n := by omega
          have q2 : m % 10 = d := by omega
          rw [q1, q2, i1, e1]
def posR : List UInt8 → Option Nat
  | [] => none
  | b :: t => if 49 ≤ b.toNat ∧ b.toNat ≤ 57 then decFrom 0 (b :: t) else none
def numR (l : List UInt8) : Option Int :=
  if l.length = 0 ∨ 8 < l.length then none
  else if l = [48] then some 0
  else if l.head? = some 45 then (posR l.tail).map fun (m : Nat) => -(m : Int)
  else (posR l).map fun (m : Nat) => (m : Int)
theorem posR_some {l : List UInt8} {m : Nat} (h : posR l = some m) : decFrom 0 l = some m ∧ l ≠ [] ∧ ∃ b t, l = b :: t ∧ 49 ≤ b.toNat ∧ b.toNat ≤ 57 := by
  cases l with
  | nil => cases h
  | cons b t =>
    simp only [posR] at h
    split at h
    · rename_i h1
      exact ⟨h, by simp, b, t, rfl, h1⟩
    · cases h
theorem posR_dd {u : Nat} (hu : 1 ≤ u) : posR (decDigits u) = some u := by
  obtain ⟨b, t, e, h1⟩ := dd_pos u hu
  have := dd_from u
  rw [e] at this ⊢
  simp only [posR]
  rw [if_pos h1, this]
theorem decNat_of {l : List UInt8} {m : Nat} (h : decFrom 0 l = some m) (hn : l ≠ []) : decNat l = some m := by
  unfold decNat
  rw [if_neg (by simpa using hn), h]
theorem numR_eq (s : ByteArray) : numR s.data.toList = numF s := by
  have hsz : s.data.toList.length = s.size := Array.length_toList
  unfold numF
  rw [← hsz]
  generalize s.data.toList = l
  apply Option.ext
  intro n
  constructor
  · intro h
    have h : numR l = some n := h
    unfold numR at h
    split at h
    · cases h
    · rename_i hlen
      rw [if_pos (by omega)]
      split at h
      · rename_i e
        subst e
        cases h
        have ha : atoi [48] = some ((0 : Nat) : Int) := rfl
        rw [ha, Option.bind_some, Lib.itoa_nonneg, Lib.decDigits_one (by omega)]
        rfl
      · split at h
        · rename_i hd
          cases l with
          | nil => simp at hd
          | cons b r =>
            simp only [List.head?_cons, Option.some.injEq] at hd
            subst hd
            simp only [List.tail_cons] at h
            cases hp : posR r with
            | none => rw [hp] at h; cases h
            | some m =>
              rw [hp] at h
              simp only [Option.map_some, Option.some.injEq] at h
              obtain ⟨p1, p2, b, t, e, p3, p4⟩ := posR_some hp
              obtain ⟨q1, q2⟩ := canon _ r m rfl p1 ⟨b, t, e, p3⟩
              have ha : atoi (45 :: r) = some (-(m : Int)) := by
                simp [atoi, decNat_of p1 p2]
              rw [ha, Option.bind_some, Lib.itoa_neg m q2, q1, h]
              simp
        · rename_i hd
          cases hp : posR l with
          | none => rw [hp] at h; cases h
          | some m =>
            rw [hp] at h
            simp only [Option.map_some, Option.some.injEq] at h
            obtain ⟨p1, p2, b, t, e, p3, p4⟩ := posR_some hp
            obtain ⟨q1, q2⟩ := canon _ l m rfl p1 ⟨b, t, e, p3⟩
            have ha : atoi l = some (m : Int) := by
              subst e
              have n1 : (b == 45) = false := by
                rw [beq_eq_false_iff_ne]; rintro rfl; revert p3; decide
              have n2 : (b == 43) = false := by
                rw [beq_eq_false_iff_ne]; rintro rfl; revert p3; decide
              simp [atoi, n1, n2, decNat_of p1 p2]
            rw [ha, Option.bind_some, Lib.itoa_nonneg m, q1, h]
            simp
  · intro h
    show numR l = some n
    split at h
    · rename_i hlen
      obtain ⟨n', ha, h⟩ := Option.bind_eq_some_iff.1 h
      split at h
      · rename_i hi
        simp only [Option.some.injEq] at h
        subst h
        unfold numR
        have hne : l ≠ [] := by rintro rfl; cases ha
        have hl0 : ¬ (l.length = 0 ∨ 8 < l.length) := by
          have : l.length ≠ 0 := fun e => hne (List.length_eq_zero_iff.1 e)
          omega
        rw [if_neg hl0]
        by_cases hneg : n' < 0
        · obtain ⟨u, rfl, hu⟩ : ∃ u : Nat, n' = -(u : Int) ∧ 1 ≤ u := ⟨n'.natAbs, by omega, by omega⟩
          rw [Lib.itoa_neg u hu] at hi
          subst hi
          rw [if_neg (by intro e; cases e), if_pos (by rfl), List.tail_cons, posR_dd hu]
          rfl
        · obtain ⟨u, rfl⟩ : ∃ u : Nat, n' = (u : Int) := ⟨n'.toNat, by omega⟩
          rw [Lib.itoa_nonneg u] at hi
          rcases Nat.eq_zero_or_pos u with rfl | hu
          · have : l = [48] := by rw [← hi, Lib.decDigits_one (by omega)]; rfl
            rw [if_pos this]
            rfl
          · obtain ⟨b, t, e, h1, h2⟩ := dd_pos u hu
            have e2 : l = b :: t := by rw [← hi, e]
            rw [if_neg (by rw [e2]; intro e9; cases e9; revert h1; decide), if_neg (by rw [e2]; simp only [List.head?_cons, Option.some.injEq]; rintro rfl; revert h1; decide), ← hi, posR_dd hu]
            rfl
      · cases h
    · cases h
end Go.Proofs.YtjgjpepmfiklfaaGreatDoor.Mx
