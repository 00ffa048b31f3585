import Derived.Test.YtapenemfnngniaaPq
namespace Go.Proofs.Ytapenemfnngniaa.Qm
open Go.RowKit Mb
set_option linter.unusedVariables false
set_option maxRecDepth 100000
set_option linter.unusedSimpArgs false
section
variable {w w' : World} {B : Nat}
set_option maxHeartbeats 2000000 in
theorem rcheck_any {ao : Option Addr} {n c : Nat} {xs : List Int} (hr : RdI w ao n c xs) : Calls Try.prog 26 #[.slice ao n c] w fun e w' => e = .returned (.int .i64 (chkE xs)) ∧ w = w' := by
  have HR : Hid (RdI w ao n c xs) := hr
  have Hl : Hid (xs.length = n) := hr.len
  clear hr
  have hno : n < 1 ∨ 16 < n → chkE xs = 110 := fun h => by
    unfold chkE okI
    have hl := Hl.out
    rcases h with h | h
    · obtain rfl : xs = [] := List.eq_nil_of_length_eq_zero (by omega)
      rfl
    · rw [decide_eq_false (show ¬ xs.length ≤ 16 by omega)]
      rfl
  by_cases h1 : n < 1
  · rw [hno (.inl h1)]
    obtain rfl : n = 0 := by omega
    clear hno
    go_enter Try.func26, Try.ntmps26
    go_wp2
    go_ret
    exact ⟨rfl, rfl⟩
  · by_cases h2 : 16 < n
    · rw [hno (.inr h2)]
      clear hno
      go_enter Try.func26, Try.ntmps26
      go_wp2
      go_ret
      exact ⟨rfl, rfl⟩
    · clear hno
      obtain ⟨v, hv⟩ : ∃ v, v = nv xs := ⟨_, rfl⟩
      have HV : Hid (v = nv xs) := hv
      clear hv
      go_enter Try.func26, Try.ntmps26
      go_wp2
      go_loop [3, 4] (fun x i => ∃ (k t : Nat), k ≤ n ∧ i = .int .i64 (k : Int) ∧ x = .int .i64 (t : Int) ∧ t ≤ 9 * k ∧ Hid (t = sm v k ∧ (xs.take k).all in9 = true)) (fun _ i => n - (intOf i).toNat)
      case atStart => exact ⟨0, 0, Nat.zero_le _, rfl, rfl, by decide, rfl, by simp⟩
      case round =>
        obtain ⟨k, t, hk, rfl, rfl, ht, HT⟩ := hrel
        by_cases hlt : k < n
        · obtain ⟨g, o, hg, hc⟩ := HR.out.at hlt
          have hmem : Hid (in9 (xs.getD k 0) = false → chkE xs = 110) := fun h => by
            have hkx : k < xs.length := by have := Hl.out; omega
            unfold chkE okI
            cases ha : xs.all in9 with
            | false => simp
            | true =>
              have := List.all_eq_true.1 ha (xs.getD k 0) (by simp [List.getD, hkx])
              rw [h] at this; cases this
          have hnext : Hid (in9 (xs.getD k 0) = true → (xs.take (k + 1)).all in9 = true) := fun h => by
            have hkx : k < xs.length := by have := Hl.out; omega
            rw [List.take_add_one, List.all_append, HT.out.2]
            have e2 : xs[k]? = some (xs.getD k 0) := by simp [List.getD, hkx]
            rw [e2]
            simpa using h
          have hvk : v.getD k 0 = (xs.getD k 0).toNat := by rw [HV.out]; exact nv_at xs k
          have hsm : sm v (k + 1) = t + v.getD k 0 := by rw [HT.out.1]; rfl
          have i1 : (0 : Int) ≤ (k : Int) := Int.natCast_nonneg _
          have i2 : (k : Int) < (n : Int) := by omega
          rw [hg]
          generalize xs.getD k 0 = x at *
          clear hg
          by_cases hx0 : x < 0
          · have HF : Hid (chkE xs = 110) := hmem.out (decide_eq_false (by omega))
            clear hvk hsm
            go_wp2
            go_ret
            exact ⟨ret_int HF.out.symm, rfl⟩
          · by_cases hx9 : 9 < x
            · have HF : Hid (chkE xs = 110) := hmem.out (decide_eq_false (by omega))
              clear hvk hsm
              go_wp2
              go_ret
              exact ⟨ret_int HF.out.symm, rfl⟩
            · obtain ⟨y, rfl⟩ := Int.eq_ofNat_of_zero_le (show 0 ≤ x by omega)
              rw [Int.toNat_natCast] at hvk
              have HT2 : Hid (t + y = sm v (k + 1) ∧ (xs.take (k + 1)).all in9 = true) := ⟨by rw [hsm, hvk], hnext.out (decide_eq_true (by omega))⟩
              clear hvk hsm
              go_wp2
              go_round
              case rel => exact ⟨k + 1, t + y, by omega, by go_num, by go_num, by omega, HT2⟩
              case measure => simp [intOf]; omega
        · obtain rfl : k = n := by omega
          have hlv : v.length = k := by rw [HV.out, nv_len, Hl.out]
          have hok : okI xs = decide (0 < t) := by
            unfold okI
            have hall := HT.out.2
            rw [List.take_of_length_le (by have := Hl.out; omega)] at hall
            rw [hall, decide_eq_true (show xs.length ≤ 16 by have := Hl.out; omega), ← HV.out]
            unfold T
            rw [hlv, ← HT.out.1]
            simp
          by_cases ht0 : t = 0
          · subst ht0
            have HF : Hid (chkE xs = 110) := (show _ = _ from by unfold chkE; rw [hok]; rfl)
            clear hok hlv
            go_wp2
            go_ret
            exact ⟨ret_int HF.out.symm, rfl⟩
          · have HF : Hid (chkE xs = 0) := (show _ = _ from by unfold chkE; rw [hok, decide_eq_true (by omega)]; rfl)
            have ht0b : ((t : Int) == 0) = false := by rw [beq_eq_false_iff_ne]; omega
            clear hok hlv
            go_wp2
            go_ret
            exact ⟨ret_int HF.out.symm, rfl⟩
def bitsE (o : Option Nat) : Int := match o with | some s => (s : Int) | none => -1
set_option maxHeartbeats 2000000 in
theorem rbits_any {ao : Option Addr} {m c : Nat} {xs : List Int} (hr : RdI w ao m c xs) (hm : m ≤ 17592186044416) (n : Nat) (hn : n ≤ 16) : Calls Try.prog 46 #[.slice ao m c, .int .i64 (n : Int)] w fun e w' => e = .returned (.int .i64 (bitsE (setP n 0 xs))) ∧ w = w' := by
  have HR : Hid (RdI w ao m c xs) := hr
  have Hl : Hid (xs.length = m) := hr.len
  clear hr
  go_enter Try.func46, Try.ntmps46
  go_wp2
  go_loop [5, 6, 7] (fun b l i => ∃ (k s q : Nat), k ≤ m ∧ i = .int .i64 (k : Int) ∧ b = .int .i64 (s : Int) ∧ l = .int .i64 ((q : Int) - 1) ∧ s < 2 ^ q ∧ q ≤ 16 ∧ Hid (Lib.bitLen s = q ∧ setP n s (xs.drop k) = setP n 0 xs)) (fun _ _ i => m - (intOf i).toNat)
  case atStart => exact ⟨0, 0, 0, Nat.zero_le _, rfl, rfl, rfl, by decide, by omega, rfl, rfl⟩
  case round =>
    obtain ⟨k, s, q, hk, rfl, rfl, rfl, hs, hq, HT⟩ := hrel
    have h2q := two_pow_le q hq
    have hs16 : s < 65536 := by omega
    by_cases hlt : k < m
    · obtain ⟨g, o, hg, hc⟩ := HR.out.at hlt
      have hd : xs.drop k = xs.getD k 0 :: xs.drop (k + 1) := by
        have hkx : k < xs.length := by have := Hl.out; omega
        rw [List.drop_eq_getElem_cons hkx]
        simp [List.getD, hkx]
      have HT2 : setP n s (xs.getD k 0 :: xs.drop (k + 1)) = setP n 0 xs := by rw [← hd]; exact HT.out.2
      simp only [setP] at HT2
      have hok : okP n s (xs.getD k 0) = decide ((q : Int) ≤ xs.getD k 0 ∧ xs.getD k 0 ≤ (n : Int) - 1) := by unfold okP; rw [HT.out.1]
      rw [hok] at HT2
      have i1 : (0 : Int) ≤ (k : Int) := Int.natCast_nonneg _
      have i2 : (k : Int) < (m : Int) := by omega
      rw [hg]
      generalize xs.getD k 0 = x at *
      clear hg hd hok
      by_cases h1 : x ≤ (q : Int) - 1
      · have HF : Hid (bitsE (setP n 0 xs) = -1) := (show _ = _ from by rw [← HT2, decide_eq_false (by omega)]; rfl)
        clear HT2
        go_wp2
        go_ret
        exact ⟨ret_int HF.out.symm, rfl⟩
      · by_cases h2 : (n : Int) ≤ x
        · have HF : Hid (bitsE (setP n 0 xs) = -1) := (show _ = _ from by rw [← HT2, decide_eq_false (by omega)]; rfl)
          clear HT2
          go_wp2
          go_ret
          exact ⟨ret_int HF.out.symm, rfl⟩
        · obtain ⟨p, rfl⟩ := Int.eq_ofNat_of_zero_le (show 0 ≤ x by omega)
          rw [decide_eq_true (by omega), if_pos rfl, Int.toNat_natCast] at HT2
          have hsp : s < 2 ^ p := Nat.lt_of_lt_of_le hs (Nat.pow_le_pow_right (by decide) (by omega))
          have h2p := two_pow_le p (by omega)
          have hor := or_add hsp
          have hlen := len_with hsp (show p < 16 by omega)
          have hlt2 : s ||| 2 ^ p < 2 ^ (p + 1) := by rw [hor, Nat.pow_succ]; omega
          have hpw := pow_val p (by omega)
          rw [hor] at HT2 hlen hlt2
          have HT3 : Hid (Lib.bitLen (s + 2 ^ p) = p + 1 ∧ setP n (s + 2 ^ p) (xs.drop (k + 1)) = setP n 0 xs) := ⟨hlen, HT2⟩
          have HL : Hid (s + 2 ^ p < 2 ^ (p + 1)) := hlt2
          clear HT2 hlen hor hsp hlt2
          generalize hz : 2 ^ p = z at *
          clear hz
          go_wp2
          go_round
          case rel => exact ⟨k + 1, s + z, p + 1, by omega, by go_num, by go_num, by congr 1; omega, HL.out, by omega, HT3⟩
          case measure => simp [intOf]; omega
    · obtain rfl : k = m := by omega
      have HF : Hid (bitsE (setP n 0 xs) = (s : Int)) := (show _ = _ from by
        have := HT.out.2
        rw [List.drop_of_length_le (by have := Hl.out; omega)] at this
        rw [← this]
        rfl)
      go_wp2
      go_ret
      exact ⟨ret_int HF.out.symm, rfl⟩
set_option maxHeartbeats 2000000 in
theorem rquorate_any {ao bo : Option Addr} {n c m d : Nat} {xs ys : List Int} (hr : RdI w ao n c xs) (hr2 : RdI w bo m d ys) (hm : m ≤ 17592186044416) : Calls Try.prog 24 #[.slice ao n c, .slice bo m d] w fun e w' => e = .returned (.tuple #[.bool (quoB xs ys), .int .i64 (quoE xs ys)]) ∧ w = w' := by
  have HC0 := rcheck_any hr
  unfold chkE at HC0
  unfold quoB quoE
  cases hok : okI xs with
  | false =>
    rw [hok] at HC0
    have HC : Hid (Calls Try.prog 26 #[.slice ao n c] w fun e w' => e = .returned (.int .i64 110) ∧ w = w') := HC0
    clear HC0 hr hr2
    go_enter Try.func24, Try.ntmps24
    go_wp2_with (first
      | (go_at_call 26; refine HC.out.mono ?_; rintro e w' ⟨rfl, rfl⟩)
      | fail)
    (try simp only [Exit.inBlock, Exit.then])
    refine bodyPost_ret (results_tmp2 rfl _ _ _) rfl ?_
    exact ⟨rfl, rfl⟩
  | true =>
    rw [hok] at HC0
    have HC : Hid (Calls Try.prog 26 #[.slice ao n c] w fun e w' => e = .returned (.int .i64 0) ∧ w = w') := HC0
    have ho := okI_ok hok
    have hl : xs.length = n := hr.len
    have h16 : n ≤ 16 := by have := ho.1; rw [nv_len] at this; omega
    have h2 := two_pow_le n h16
    have HB0 := rbits_any hr2 hm n h16
    rw [hl]
    have hlt := fun t => setP_lt n h16 ys 0 t (Nat.two_pow_pos _)
    cases hset : setP n 0 ys with
    | none =>
      rw [hset] at HB0
      have HB : Hid (Calls Try.prog 46 #[.slice bo m d, .int .i64 (n : Int)] w fun e w' => e = .returned (.int .i64 (-1)) ∧ w = w') := HB0
      clear HB0 HC0 hr hr2 ho hlt
      go_enter Try.func24, Try.ntmps24
      go_wp2_with (first
        | (go_at_call 26; refine HC.out.mono ?_; rintro e w' ⟨rfl, rfl⟩)
        | (go_at_call 46; refine HB.out.mono ?_; rintro e w' ⟨rfl, rfl⟩)
        | fail)
      (try simp only [Exit.inBlock, Exit.then])
      refine bodyPost_ret (results_tmp2 rfl _ _ _) rfl ?_
      exact ⟨rfl, rfl⟩
    | some s =>
      rw [hset] at HB0
      have hs := hlt s hset
      have HB : Hid (Calls Try.prog 46 #[.slice bo m d, .int .i64 (n : Int)] w fun e w' => e = .returned (.int .i64 (s : Int)) ∧ w = w') := HB0
      have HW : Hid (Calls Try.prog 42 #[.slice ao n c, .int .i64 (s : Int)] w fun e w' => e = .returned (.bool (wins (nv xs) s)) ∧ w = w') := rwins_any hr hok s (by omega)
      clear HB0 HC0 hr hr2 ho hlt
      go_enter Try.func24, Try.ntmps24
      go_wp2_with (first
        | (go_at_call 26; refine HC.out.mono ?_; rintro e w' ⟨rfl, rfl⟩)
        | (go_at_call 46; refine HB.out.mono ?_; rintro e w' ⟨rfl, rfl⟩)
        | (go_at_call 42; refine HW.out.mono ?_; rintro e w' ⟨rfl, rfl⟩)
        | fail)
      (try simp only [Exit.inBlock, Exit.then])
      refine bodyPost_ret (results_tmp2 rfl _ _ _) rfl ?_
      exact ⟨rfl, rfl⟩
end
end Go.Proofs.Ytapenemfnngniaa.Qm
