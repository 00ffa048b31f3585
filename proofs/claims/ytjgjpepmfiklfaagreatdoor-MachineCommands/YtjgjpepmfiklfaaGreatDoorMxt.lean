import Derived.Test.YtjgjpepmfiklfaaGreatDoorMxs
namespace Go.Proofs.YtjgjpepmfiklfaaGreatDoor.Mx
open Go.RowKit Mb Mh Lo
open Go.Lib (decFrom decNat digitVal decDigits atoi itoa)
set_option linter.unusedVariables false
set_option maxRecDepth 100000
set_option linter.unusedSimpArgs false
theorem decFrom_lt : ∀ (l : List UInt8) (acc n : Nat), decFrom acc l = some n → n < (acc + 1) * 10 ^ l.length
  | [], acc, n, h => by simp only [decFrom, Option.some.injEq] at h; simp; omega
  | a :: t, acc, n, h => by
    simp only [decFrom] at h
    cases hd : digitVal a with
    | none => simp [hd] at h
    | some d =>
      simp only [hd] at h
      have h1 := decFrom_lt t _ n h
      have h2 := (ofNat_digit hd).2
      rw [List.length_cons, Nat.pow_succ]
      have h3 : (acc * 10 + d + 1) * 10 ^ t.length ≤ ((acc + 1) * 10) * 10 ^ t.length := Nat.mul_le_mul_right _ (by omega)
      have h4 : (acc + 1) * (10 ^ t.length * 10) = ((acc + 1) * 10) * 10 ^ t.length := by rw [Nat.mul_comm (10 ^ t.length) 10, Nat.mul_assoc]
      omega
theorem decFrom_none {l : List UInt8} {k : Nat} {b : UInt8} (hb : l[k]? = some b) (hd : digitVal b = none) (acc : Nat) : decFrom acc l = none := by
  cases h : decFrom acc l with
  | none => rfl
  | some n =>
    obtain ⟨d, hd'⟩ := Lib.digit_of_decFrom l acc n h k b hb
    rw [hd] at hd'
    cases hd'
theorem digit_none {b : UInt8} (h : digitVal b = none) : b.toNat < 48 ∨ 57 < b.toNat := by
  unfold digitVal at h
  split at h
  · cases h
  · omega
theorem digit_some {b : UInt8} {d : Nat} (h : digitVal b = some d) : 48 ≤ b.toNat ∧ b.toNat ≤ 57 ∧ b.toNat = 48 + d := by
  unfold digitVal at h
  split at h
  · simp only [Option.some.injEq] at h; omega
  · cases h
section
variable {w w' W : World} {B : Nat}
set_option maxHeartbeats 2000000 in
theorem qn_long (s : ByteArray) (h : s.size = 0 ∨ 8 < s.size) : Calls Tryz.prog 30 #[.string s] w fun e w' => e = .returned (.tuple #[.int .i64 0, .bool false]) ∧ w = w' := by
  rcases h with h | h
  · have h' : (s.size : Int) = 0 := by omega
    clear h
    go_enter Tryz.func30, Tryz.ntmps30
    go_wp2_with (fail)
    exact bodyPost_ret (results_tmp2 Tryz.results30 _ _ _) rfl ⟨rfl, rfl⟩
  · have h' : ((s.size : Int) == 0) = false := by rw [beq_eq_false_iff_ne]; omega
    have h2 : (8 : Int) < (s.size : Int) := by omega
    clear h
    go_enter Tryz.func30, Tryz.ntmps30
    go_wp2_with (fail)
    exact bodyPost_ret (results_tmp2 Tryz.results30 _ _ _) rfl ⟨rfl, rfl⟩
set_option maxHeartbeats 2000000 in
theorem qn_zero : Calls Tryz.prog 30 #[.string ⟨#[48]⟩] w fun e w' => e = .returned (.tuple #[.int .i64 0, .bool true]) ∧ w = w' := by
  have e : (ByteArray.mk #[48]).size = 1 := rfl
  go_enter Tryz.func30, Tryz.ntmps30
  go_wp2_with (fail)
  exact bodyPost_ret (results_tmp2 Tryz.results30 _ _ _) rfl ⟨rfl, rfl⟩
set_option maxHeartbeats 4000000 in
theorem qn_pos (s : ByteArray) (r : List UInt8) (hr : s.data.toList.drop 0 = r) (h8 : s.size ≤ 8) (h1 : 0 < s.size) (h3 : (s.toList == [48]) = false) (h4 : ((s[0].toNat : Int) == 45) = false) (hi : 0 < s.size) (h5 : 49 ≤ s[0].toNat ∧ s[0].toNat ≤ 57) : Calls Tryz.prog 30 #[.string s] w fun e w' => e = .returned (match decFrom 0 r with | none => .tuple #[.int .i64 0, .bool false] | some m => .tuple #[.int .i64 (m : Int), .bool true]) ∧ w = w' := by
  obtain ⟨D, hD⟩ : ∃ x, decFrom 0 r = x := ⟨_, rfl⟩
  have HD : Hid (decFrom 0 r = D) := hD
  rw [hD]
  clear hD
  have a7 : ¬ s = ByteArray.empty := by rintro rfl; exact absurd h1 (by decide)
  have a1 : ((s.size : Int) == 0) = false := by rw [beq_eq_false_iff_ne]; omega
  have a2 : ¬ (8 : Int) < (s.size : Int) := by omega
  have a3 : ¬ ((s.size : Int) ≤ 0) := by omega
  have a4 : ¬ ((s[0].toNat : Int) < 49) := by omega
  have a5 : ¬ ((57 : Int) < (s[0].toNat : Int)) := by omega
  have hrl : r.length = s.size - 0 := by rw [← hr, List.length_drop]; rfl
  have HG : Hid (∀ k, 0 ≤ k → ∀ (h : k < s.size), r[k - 0]? = some s[k]) := fun k hk h => by
    rw [← hr, List.getElem?_drop]
    have e : 0 + (k - 0) = k := by omega
    rw [e]
    exact List.getElem?_eq_getElem (by exact h)
  clear h5 hr
  go_enter Tryz.func30, Tryz.ntmps30
  go_wp2_with (fail)
  go_loopw [5, 6] (fun nv kv wr => ∃ (k m : Nat), 0 ≤ k ∧ k ≤ s.size ∧ kv = .int .i64 k ∧ nv = .int .i64 m ∧ decFrom 0 (r.take (k - 0)) = some m ∧ wr = w) (fun _ kv _ => s.size - (intOf kv).toNat)
  case atStart => exact ⟨0, 0, Nat.le_refl _, by omega, rfl, rfl, by simp [decFrom], rfl⟩
  case round =>
    obtain ⟨k, m, hk1, hk2, rfl, rfl, hm, rfl⟩ := hrel
    have hmb := decFrom_lt _ _ _ hm
    have hmb2 : m < 100000000 := by
      have e1 : (r.take (k - 0)).length ≤ 8 := by rw [List.length_take]; omega
      have e2 : 10 ^ (r.take (k - 0)).length ≤ 10 ^ 8 := Nat.pow_le_pow_right (by omega) e1
      have e3 : (10 : Nat) ^ 8 = 100000000 := by decide
      omega
    have HM : Hid (decFrom 0 (r.take (k - 0)) = some m) := hm
    clear hm hmb
    by_cases hlt : k < s.size
    · have hg := HG.out k hk1 hlt
      cases hd : digitVal s[k] with
      | none =>
        have hz := decFrom_none hg hd 0
        have hb := digit_none hd
        have hDn : D = none := HD.out.symm.trans hz
        subst hDn
        clear hg hd hz
        have hlt' : (k : Int) < (s.size : Int) := by omega
        rcases hb with hb | hb
        · have hb' : (s[k].toNat : Int) < 48 := by omega
          go_wp2_with (fail)
          exact bodyPost_ret (results_tmp2 Tryz.results30 _ _ _) rfl ⟨rfl, rfl⟩
        · have hb' : ¬ ((s[k].toNat : Int) < 48) := by omega
          have hb2 : (57 : Int) < (s[k].toNat : Int) := by omega
          go_wp2_with (fail)
          exact bodyPost_ret (results_tmp2 Tryz.results30 _ _ _) rfl ⟨rfl, rfl⟩
      | some d =>
        obtain ⟨d1, d2, d3⟩ := digit_some hd
        have hs := Lib.decFrom_take r (k - 0) 0 m s[k] d HM.out hg hd
        have HS : Hid (decFrom 0 (r.take (k - 0 + 1)) = some (m * 10 + d)) := hs
        have hlt' : (k : Int) < (s.size : Int) := by omega
        have b1 : ¬ ((s[k].toNat : Int) < 48) := by omega
        have b2 : ¬ ((57 : Int) < (s[k].toNat : Int)) := by omega
        have b3 : IntKind.u8.wrap ((s[k].toNat : Int) - 48) = (d : Int) := by rw [d3]; simp [IntKind.wrap, IntKind.signed, IntKind.bits]; omega
        clear hs hg hd
        go_wp2_with (fail)
        go_roundw
        case rel => exact ⟨k + 1, m * 10 + d, by omega, by omega, by go_num, by go_num, by rw [show k + 1 - 0 = k - 0 + 1 by omega]; exact HS.out, trivial⟩
        case measure => simp [intOf]; omega
    · have hk : k = s.size := by omega
      have hlt' : ¬ ((k : Int) < (s.size : Int)) := by omega
      have hz : decFrom 0 r = some m := by
        have := HM.out
        rw [List.take_of_length_le (by omega)] at this
        exact this
      have hDs : D = some m := HD.out.symm.trans hz
      subst hDs
      clear hz
      go_wp2_with (fail)
      exact bodyPost_ret (results_tmp2 Tryz.results30 _ _ _) rfl ⟨rfl, rfl⟩
set_option maxHeartbeats 4000000 in
theorem qn_neg (s : ByteArray) (r : List UInt8) (hr : s.data.toList.drop 1 = r) (h8 : s.size ≤ 8) (h1 : 0 < s.size) (h3 : (s.toList == [48]) = false) (h4 : ((s[0].toNat : Int) == 45) = true) (hi : 1 < s.size) (h5 : 49 ≤ s[1].toNat ∧ s[1].toNat ≤ 57) : Calls Tryz.prog 30 #[.string s] w fun e w' => e = .returned (match decFrom 0 r with | none => .tuple #[.int .i64 0, .bool false] | some m => .tuple #[.int .i64 (-(m : Int)), .bool true]) ∧ w = w' := by
  obtain ⟨D, hD⟩ : ∃ x, decFrom 0 r = x := ⟨_, rfl⟩
  have HD : Hid (decFrom 0 r = D) := hD
  rw [hD]
  clear hD
  have a7 : ¬ s = ByteArray.empty := by rintro rfl; exact absurd h1 (by decide)
  have a1 : ((s.size : Int) == 0) = false := by rw [beq_eq_false_iff_ne]; omega
  have a2 : ¬ (8 : Int) < (s.size : Int) := by omega
  have a3 : ¬ ((s.size : Int) ≤ 1) := by omega
  have a4 : ¬ ((s[1].toNat : Int) < 49) := by omega
  have a5 : ¬ ((57 : Int) < (s[1].toNat : Int)) := by omega
  have hrl : r.length = s.size - 1 := by rw [← hr, List.length_drop]; rfl
  have HG : Hid (∀ k, 1 ≤ k → ∀ (h : k < s.size), r[k - 1]? = some s[k]) := fun k hk h => by
    rw [← hr, List.getElem?_drop]
    have e : 1 + (k - 1) = k := by omega
    rw [e]
    exact List.getElem?_eq_getElem (by exact h)
  clear h5 hr
  go_enter Tryz.func30, Tryz.ntmps30
  go_wp2_with (fail)
  go_loopw [5, 6] (fun nv kv wr => ∃ (k m : Nat), 1 ≤ k ∧ k ≤ s.size ∧ kv = .int .i64 k ∧ nv = .int .i64 m ∧ decFrom 0 (r.take (k - 1)) = some m ∧ wr = w) (fun _ kv _ => s.size - (intOf kv).toNat)
  case atStart => exact ⟨1, 0, Nat.le_refl _, by omega, rfl, rfl, by simp [decFrom], rfl⟩
  case round =>
    obtain ⟨k, m, hk1, hk2, rfl, rfl, hm, rfl⟩ := hrel
    have hmb := decFrom_lt _ _ _ hm
    have hmb2 : m < 100000000 := by
      have e1 : (r.take (k - 1)).length ≤ 8 := by rw [List.length_take]; omega
      have e2 : 10 ^ (r.take (k - 1)).length ≤ 10 ^ 8 := Nat.pow_le_pow_right (by omega) e1
      have e3 : (10 : Nat) ^ 8 = 100000000 := by decide
      omega
    have HM : Hid (decFrom 0 (r.take (k - 1)) = some m) := hm
    clear hm hmb
    by_cases hlt : k < s.size
    · have hg := HG.out k hk1 hlt
      cases hd : digitVal s[k] with
      | none =>
        have hz := decFrom_none hg hd 0
        have hb := digit_none hd
        have hDn : D = none := HD.out.symm.trans hz
        subst hDn
        clear hg hd hz
        have hlt' : (k : Int) < (s.size : Int) := by omega
        rcases hb with hb | hb
        · have hb' : (s[k].toNat : Int) < 48 := by omega
          go_wp2_with (fail)
          exact bodyPost_ret (results_tmp2 Tryz.results30 _ _ _) rfl ⟨rfl, rfl⟩
        · have hb' : ¬ ((s[k].toNat : Int) < 48) := by omega
          have hb2 : (57 : Int) < (s[k].toNat : Int) := by omega
          go_wp2_with (fail)
          exact bodyPost_ret (results_tmp2 Tryz.results30 _ _ _) rfl ⟨rfl, rfl⟩
      | some d =>
        obtain ⟨d1, d2, d3⟩ := digit_some hd
        have hs := Lib.decFrom_take r (k - 1) 0 m s[k] d HM.out hg hd
        have HS : Hid (decFrom 0 (r.take (k - 1 + 1)) = some (m * 10 + d)) := hs
        have hlt' : (k : Int) < (s.size : Int) := by omega
        have b1 : ¬ ((s[k].toNat : Int) < 48) := by omega
        have b2 : ¬ ((57 : Int) < (s[k].toNat : Int)) := by omega
        have b3 : IntKind.u8.wrap ((s[k].toNat : Int) - 48) = (d : Int) := by rw [d3]; simp [IntKind.wrap, IntKind.signed, IntKind.bits]; omega
        clear hs hg hd
        go_wp2_with (fail)
        go_roundw
        case rel => exact ⟨k + 1, m * 10 + d, by omega, by omega, by go_num, by go_num, by rw [show k + 1 - 1 = k - 1 + 1 by omega]; exact HS.out, trivial⟩
        case measure => simp [intOf]; omega
    · have hk : k = s.size := by omega
      have hlt' : ¬ ((k : Int) < (s.size : Int)) := by omega
      have hz : decFrom 0 r = some m := by
        have := HM.out
        rw [List.take_of_length_le (by omega)] at this
        exact this
      have hDs : D = some m := HD.out.symm.trans hz
      subst hDs
      clear hz
      go_wp2_with (fail)
      exact bodyPost_ret (results_tmp2 Tryz.results30 _ _ _) rfl ⟨rfl, rfl⟩
set_option maxHeartbeats 2000000 in
theorem qn_pos_no (s : ByteArray) (h8 : s.size ≤ 8) (h1 : 0 < s.size) (h3 : (s.toList == [48]) = false) (h4 : ((s[0].toNat : Int) == 45) = false) (hi : 0 < s.size) (h5 : ¬ (49 ≤ s[0].toNat ∧ s[0].toNat ≤ 57)) : Calls Tryz.prog 30 #[.string s] w fun e w' => e = .returned (.tuple #[.int .i64 0, .bool false]) ∧ w = w' := by
  have a7 : ¬ s = ByteArray.empty := by rintro rfl; exact absurd h1 (by decide)
  have a1 : ((s.size : Int) == 0) = false := by rw [beq_eq_false_iff_ne]; omega
  have a2 : ¬ (8 : Int) < (s.size : Int) := by omega
  have a3 : ¬ ((s.size : Int) ≤ 0) := by omega
  by_cases h6 : s[0].toNat < 49
  · have a4 : (s[0].toNat : Int) < 49 := by omega
    clear h5 h6
    go_enter Tryz.func30, Tryz.ntmps30
    go_wp2_with (fail)
    exact bodyPost_ret (results_tmp2 Tryz.results30 _ _ _) rfl ⟨rfl, rfl⟩
  · have a4 : ¬ ((s[0].toNat : Int) < 49) := by omega
    have a5 : (57 : Int) < (s[0].toNat : Int) := by omega
    clear h5 h6
    go_enter Tryz.func30, Tryz.ntmps30
    go_wp2_with (fail)
    exact bodyPost_ret (results_tmp2 Tryz.results30 _ _ _) rfl ⟨rfl, rfl⟩
set_option maxHeartbeats 2000000 in
theorem qn_neg_no (s : ByteArray) (h8 : s.size ≤ 8) (h1 : 0 < s.size) (h3 : (s.toList == [48]) = false) (h4 : ((s[0].toNat : Int) == 45) = true) (hi : 1 < s.size) (h5 : ¬ (49 ≤ s[1].toNat ∧ s[1].toNat ≤ 57)) : Calls Tryz.prog 30 #[.string s] w fun e w' => e = .returned (.tuple #[.int .i64 0, .bool false]) ∧ w = w' := by
  have a7 : ¬ s = ByteArray.empty := by rintro rfl; exact absurd h1 (by decide)
  have a1 : ((s.size : Int) == 0) = false := by rw [beq_eq_false_iff_ne]; omega
  have a2 : ¬ (8 : Int) < (s.size : Int) := by omega
  have a3 : ¬ ((s.size : Int) ≤ 1) := by omega
  by_cases h6 : s[1].toNat < 49
  · have a4 : (s[1].toNat : Int) < 49 := by omega
    clear h5 h6
    go_enter Tryz.func30, Tryz.ntmps30
    go_wp2_with (fail)
    exact bodyPost_ret (results_tmp2 Tryz.results30 _ _ _) rfl ⟨rfl, rfl⟩
  · have a4 : ¬ ((s[1].toNat : Int) < 49) := by omega
    have a5 : (57 : Int) < (s[1].toNat : Int) := by omega
    clear h5 h6
    go_enter Tryz.func30, Tryz.ntmps30
    go_wp2_with (fail)
    exact bodyPost_ret (results_tmp2 Tryz.results30 _ _ _) rfl ⟨rfl, rfl⟩
set_option maxHeartbeats 2000000 in
theorem qn_dash (s : ByteArray) (h1 : 0 < s.size) (h3 : (s.toList == [48]) = false) (h4 : ((s[0].toNat : Int) == 45) = true) (hi : s.size = 1) : Calls Tryz.prog 30 #[.string s] w fun e w' => e = .returned (.tuple #[.int .i64 0, .bool false]) ∧ w = w' := by
  have a7 : ¬ s = ByteArray.empty := by rintro rfl; exact absurd h1 (by decide)
  have a1 : ((s.size : Int) == 0) = false := by rw [beq_eq_false_iff_ne]; omega
  have a2 : ¬ (8 : Int) < (s.size : Int) := by omega
  have a3 : (s.size : Int) ≤ 1 := by omega
  clear hi
  go_enter Tryz.func30, Tryz.ntmps30
  go_wp2_with (fail)
  exact bodyPost_ret (results_tmp2 Tryz.results30 _ _ _) rfl ⟨rfl, rfl⟩
def numV : Option Int → Value
  | none => .tuple #[.int .i64 0, .bool false]
  | some n => .tuple #[.int .i64 n, .bool true]
theorem qnumber_any (s : ByteArray) : Calls Tryz.prog 30 #[.string s] w fun e w' => e = .returned (numV (numF s)) ∧ w = w' := by
  rw [← numR_eq]
  have hsz : s.data.toList.length = s.size := Array.length_toList
  have htl : s.toList = s.data.toList := ByteArray.toList_eq s
  unfold numR
  rw [hsz]
  by_cases hl : s.size = 0 ∨ 8 < s.size
  · rw [if_pos hl]
    exact qn_long s hl
  · rw [if_neg hl]
    by_cases hz : s.data.toList = [48]
    · rw [if_pos hz]
      have e : s = ⟨#[48]⟩ := by
        apply ByteArray.ext
        apply Array.ext'
        rw [hz]
      subst e
      exact qn_zero
    · rw [if_neg hz]
      have h1 : 0 < s.size := by omega
      have h3 : (s.toList == [48]) = false := by rw [htl]; simpa using hz
      have h0 : s.data.toList[0]? = some s[0] := List.getElem?_eq_getElem (by rw [hsz]; exact h1)
      have hh : s.data.toList.head? = some s[0] := by rw [List.head?_eq_getElem?]; exact h0
      rw [hh]
      by_cases hd : s[0] = 45
      · rw [if_pos (by rw [hd])]
        have h4 : ((s[0].toNat : Int) == 45) = true := by rw [hd]; rfl
        by_cases hs1 : s.size = 1
        · have e : s.data.toList.tail = [] := List.length_eq_zero_iff.1 (by rw [List.length_tail, hsz]; omega)
          rw [e]
          exact qn_dash s h1 h3 h4 hs1
        · have hi : 1 < s.size := by omega
          have hg : s.data.toList[1]? = some s[1] := List.getElem?_eq_getElem (by rw [hsz]; exact hi)
          have ht : ∃ t, s.data.toList.tail = s[1] :: t := by
            cases hc : s.data.toList with
            | nil => rw [hc] at hg; cases hg
            | cons a l =>
              cases l with
              | nil => rw [hc] at hg; cases hg
              | cons b l =>
                rw [hc] at hg
                simp only [List.getElem?_cons_succ, List.getElem?_cons_zero, Option.some.injEq] at hg
                exact ⟨l, by rw [List.tail_cons, hg]⟩
          obtain ⟨t, ht⟩ := ht
          by_cases h5 : 49 ≤ s[1].toNat ∧ s[1].toNat ≤ 57
          · have := qn_neg (w := w) s s.data.toList.tail (by simp) (by omega) h1 h3 h4 hi h5
            refine this.mono fun e w' ⟨he, hw⟩ => ⟨?_, hw⟩
            rw [he, ht]
            simp only [posR]
            rw [if_pos h5]
            cases Lib.decFrom 0 (s[1] :: t) <;> rfl
          · rw [ht]
            simp only [posR]
            rw [if_neg h5]
            exact qn_neg_no s (by omega) h1 h3 h4 hi h5
      · rw [if_neg (by simpa using hd)]
        have h4 : ((s[0].toNat : Int) == 45) = false := by
          rw [beq_eq_false_iff_ne]
          intro e
          apply hd
          have : s[0].toNat = 45 := by omega
          exact UInt8.toNat_inj.1 this
        have ht : ∃ t, s.data.toList = s[0] :: t := by
          cases hc : s.data.toList with
          | nil => rw [hc] at h0; cases h0
          | cons a l =>
            rw [hc] at h0
            simp only [List.getElem?_cons_zero, Option.some.injEq] at h0
            exact ⟨l, by rw [h0]⟩
        obtain ⟨t, ht⟩ := ht
        by_cases h5 : 49 ≤ s[0].toNat ∧ s[0].toNat ≤ 57
        · have := qn_pos (w := w) s s.data.toList (by simp) (by omega) h1 h3 h4 h1 h5
          refine this.mono fun e w' ⟨he, hw⟩ => ⟨?_, hw⟩
          rw [he, ht]
          simp only [posR]
          rw [if_pos h5]
          cases Lib.decFrom 0 (s[0] :: t) <;> rfl
        · rw [ht]
          simp only [posR]
          rw [if_neg h5]
          exact qn_pos_no s (by omega) h1 h3 h4 h1 h5
end
end Go.Proofs.YtjgjpepmfiklfaaGreatDoor.Mx
