import Derived.Test.YtapenemfnngniaaPn
import Derived.Test.YtapenemfnngniaaPr
namespace Go.Proofs.Ytapenemfnngniaa.Qm
open Go.RowKit Mb
set_option linter.unusedVariables false
set_option maxRecDepth 100000
set_option linter.unusedSimpArgs false
section
variable {w w' : World} {B : Nat}
theorem half_div (s j : Nat) : ((s / 2 ^ j : Nat) : Int) / 2 = ((s / 2 ^ (j + 1) : Nat) : Int) := by
  rw [Nat.pow_succ, ← Nat.div_div_eq_div_mul]
  omega
set_option maxHeartbeats 2000000 in
theorem rsize_any (s : Nat) (hs : s < 65536) : Calls Try.prog 44 #[.int .i64 (s : Int)] w fun e w' => e = .returned (.int .i64 ((size s 16 : Nat) : Int)) ∧ w = w' := by
  go_enter Try.func44, Try.ntmps44
  go_wp2
  go_loop [0, 3] (fun x y => ∃ (j q t : Nat), j ≤ 16 ∧ x = .int .i64 (q : Int) ∧ y = .int .i64 (t : Int) ∧ t ≤ 16 ∧ q < 65536 ∧ Hid (q = s / 2 ^ j) ∧ Hid (t = size s j)) (fun x _ => (intOf x).toNat)
  case atStart => exact ⟨0, s, 0, by omega, rfl, rfl, by omega, hs, (show s = s / 2 ^ 0 from by simp), rfl⟩
  case round =>
    obtain ⟨j, q, t, hj, rfl, rfl, ht, hq, HQ, HT⟩ := hrel
    by_cases h0 : 0 < q
    · have hj16 : j < 16 := by
        by_cases hh : j < 16
        · exact hh
        · obtain rfl : j = 16 := by omega
          have := HQ.out
          rw [Nat.div_eq_of_lt hs] at this
          omega
      have hb := bit_div s j
      rw [← HQ.out] at hb
      have hand := i64_and_nat q 1 (by omega) (by omega)
      rw [hb] at hand
      have HT2 : size s (j + 1) = t + (if s.testBit j then 1 else 0) := by rw [HT.out]; rfl
      have hs2 := size_le s (j + 1)
      have HQ2 : Hid (q / 2 = s / 2 ^ (j + 1)) := (show _ = _ from by rw [HQ.out, Nat.pow_succ, Nat.div_div_eq_div_mul])
      generalize (if s.testBit j then 1 else 0) = u at *
      have HT3 : Hid (t + u = size s (j + 1)) := HT2.symm
      have hl : t + u ≤ 16 := by rw [HT3.out]; omega
      have hand2 : bits .and .i64 (q : Int) 1 = (u : Int) := hand
      clear HT2 hs2 hb hand
      go_wp2
      go_round
      case rel => exact ⟨j + 1, q / 2, t + u, by omega, by go_num, by go_num, hl, by omega, HQ2, HT3⟩
      case measure => simp [intOf]; omega
    · obtain rfl : q = 0 := by omega
      have HF : Hid (t = size s 16) := (show _ = _ from by
        have h1 : s < 2 ^ j := by
          have := HQ.out
          rcases Nat.lt_or_ge s (2 ^ j) with h | h
          · exact h
          · have := Nat.div_pos h (Nat.two_pow_pos j)
            omega
        rw [HT.out, size_16 hj h1])
      go_wp2
      go_ret
      exact ⟨ret_int (by rw [HF.out]), rfl⟩
def rl (v : List Nat) (M n : Nat) : Nat → Nat
  | 0 => n
  | k + 1 => if wins v (M - 1 - k) = false ∧ size k n < rl v M n k then size k n else rl v M n k
theorem rl_len (v : List Nat) (M n : Nat) : ∀ k, rl v M n k ≤ n
  | 0 => Nat.le_refl _
  | k + 1 => by
      have := rl_len v M n k
      simp only [rl]
      split <;> omega
theorem rl_le (v : List Nat) (M n g : Nat) (hw : wins v (M - 1 - g) = false) : ∀ k, g < k → rl v M n k ≤ size g n
  | 0, h => by omega
  | k + 1, h => by
      simp only [rl]
      by_cases e : g = k
      · subst e
        split
        · exact Nat.le_refl _
        · rename_i hh
          have : ¬ size g n < rl v M n g := fun h2 => hh ⟨hw, h2⟩
          omega
      · have := rl_le v M n g hw k (by omega)
        split <;> omega
theorem rl_at (v : List Nat) (M n : Nat) : ∀ k, rl v M n k = n ∨ ∃ g, g < k ∧ wins v (M - 1 - g) = false ∧ rl v M n k = size g n
  | 0 => .inl rfl
  | k + 1 => by
      simp only [rl]
      split
      · rename_i h
        exact .inr ⟨k, by omega, h.1, rfl⟩
      · rcases rl_at v M n k with h | ⟨g, a, b, c⟩
        · exact .inl h
        · exact .inr ⟨g, by omega, b, c⟩
theorem rl_least (v : List Nat) : rl v (2 ^ v.length) v.length (2 ^ v.length) = least v (2 ^ v.length) := by
  have hp := Nat.two_pow_pos v.length
  apply Nat.le_antisymm
  · rcases least_at v (2 ^ v.length) with h1 | ⟨s, h1, h2, h3⟩
    · rw [h1]; exact rl_len _ _ _ _
    · have hc := size_compl s v.length h1 v.length (Nat.le_refl _)
      have := rl_le v (2 ^ v.length) v.length (2 ^ v.length - 1 - s) (by rw [show 2 ^ v.length - 1 - (2 ^ v.length - 1 - s) = s by omega]; exact h2) (2 ^ v.length) (by omega)
      omega
  · rcases rl_at v (2 ^ v.length) v.length (2 ^ v.length) with h1 | ⟨g, h1, h2, h3⟩
    · rw [h1]; exact least_le_len _ _
    · have hc := size_compl g v.length h1 v.length (Nat.le_refl _)
      have := least_le v (2 ^ v.length - 1 - g) (2 ^ v.length) (by omega) h2
      omega
theorem sub_cast {M A : Nat} (h : A < M) : ((M : Int) - 1 - (A : Int)) = ((M - 1 - A : Nat) : Int) := by omega
set_option maxHeartbeats 1000000 in
theorem win_no {ao : Option Addr} {n c : Nat} {xs : List Int} (hr : RdI w ao n c xs) (hok : okI xs = false) : Calls Try.prog 19 #[.slice ao n c] w fun e w' => e = .returned (.tuple #[.int .i64 0, .int .i64 110]) ∧ Below w.heap.size w w' := by
  have HC0 := counted_any hr
  rw [hok] at HC0
  have HC : Hid (Calls Try.prog 33 #[.slice ao n c] w fun e w' => ∃ r, e = .returned (.tuple #[.agg (ints r).toArray, .bool false]) ∧ r.length = 19 ∧ Below w.heap.size w w') := HC0.mono fun e w' ⟨r, e1, e2, e3, e4⟩ => ⟨r, e1, e2, e4⟩
  clear HC0 hr
  go_enter Try.func19, Try.ntmps19
  go_wp2_with (first
    | (go_at_call 33; refine HC.out.mono ?_; rintro e w1 ⟨r, rfl, hrl, hb1⟩; obtain ⟨A1, V, hA1, HA1, hV, HV, HBV⟩ := newbal w1 r hrl)
    | (refine store_mid 72 (.tmp 4) (.tmp 11) (xs := r) HA1.out (info_bl hrl) rfl rfl rfl rfl ?_; rw [hV]; have HBW : Hid (Below w.heap.size w V) := bstep hb1 HBV.out; generalize w1.heap.size = gb at *; clear hV HA1 hA1 hb1 HV HBV)
    | fail)
  (try simp only [Exit.inBlock, Exit.then])
  refine bodyPost_ret (results_tmp2 rfl _ _ _) rfl ?_
  exact ⟨rfl, HBW.out⟩
set_option maxHeartbeats 1000000 in
theorem tol_no {ao : Option Addr} {n c : Nat} {xs : List Int} (hr : RdI w ao n c xs) (hok : okI xs = false) : Calls Try.prog 21 #[.slice ao n c] w fun e w' => e = .returned (.tuple #[.int .i64 0, .int .i64 110]) ∧ Below w.heap.size w w' := by
  have HC0 := counted_any hr
  rw [hok] at HC0
  have HC : Hid (Calls Try.prog 33 #[.slice ao n c] w fun e w' => ∃ r, e = .returned (.tuple #[.agg (ints r).toArray, .bool false]) ∧ r.length = 19 ∧ Below w.heap.size w w') := HC0.mono fun e w' ⟨r, e1, e2, e3, e4⟩ => ⟨r, e1, e2, e4⟩
  clear HC0 hr
  go_enter Try.func21, Try.ntmps21
  go_wp2_with (first
    | (go_at_call 33; refine HC.out.mono ?_; rintro e w1 ⟨r, rfl, hrl, hb1⟩; obtain ⟨A1, V, hA1, HA1, hV, HV, HBV⟩ := newbal w1 r hrl)
    | (refine store_mid 72 (.tmp 4) (.tmp 11) (xs := r) HA1.out (info_bl hrl) rfl rfl rfl rfl ?_; rw [hV]; have HBW : Hid (Below w.heap.size w V) := bstep hb1 HBV.out; generalize w1.heap.size = gb at *; clear hV HA1 hA1 hb1 HV HBV)
    | fail)
  (try simp only [Exit.inBlock, Exit.then])
  refine bodyPost_ret (results_tmp2 rfl _ _ _) rfl ?_
  exact ⟨rfl, HBW.out⟩
set_option maxHeartbeats 1000000 in
theorem rwin_no {ao : Option Addr} {n c : Nat} {xs : List Int} (hr : RdI w ao n c xs) (hok : okI xs = false) : Calls Try.prog 20 #[.slice ao n c] w fun e w' => e = .returned (.tuple #[.int .i64 0, .int .i64 110]) ∧ w = w' := by
  have HC0 := rcheck_any hr
  unfold chkE at HC0
  rw [hok] at HC0
  have HC : Hid (Calls Try.prog 26 #[.slice ao n c] w fun e w' => e = .returned (.int .i64 110) ∧ w = w') := HC0
  clear HC0 hr
  go_enter Try.func20, Try.ntmps20
  go_wp2_with (first
    | (go_at_call 26; refine HC.out.mono ?_; rintro e w' ⟨rfl, rfl⟩)
    | fail)
  (try simp only [Exit.inBlock, Exit.then])
  refine bodyPost_ret (results_tmp2 rfl _ _ _) rfl ?_
  exact ⟨rfl, rfl⟩
set_option maxHeartbeats 1000000 in
theorem rtol_no {ao : Option Addr} {n c : Nat} {xs : List Int} (hr : RdI w ao n c xs) (hok : okI xs = false) : Calls Try.prog 22 #[.slice ao n c] w fun e w' => e = .returned (.tuple #[.int .i64 0, .int .i64 110]) ∧ w = w' := by
  have HC0 := rcheck_any hr
  unfold chkE at HC0
  rw [hok] at HC0
  have HC : Hid (Calls Try.prog 26 #[.slice ao n c] w fun e w' => e = .returned (.int .i64 110) ∧ w = w') := HC0
  clear HC0 hr
  go_enter Try.func22, Try.ntmps22
  go_wp2_with (first
    | (go_at_call 26; refine HC.out.mono ?_; rintro e w' ⟨rfl, rfl⟩)
    | fail)
  (try simp only [Exit.inBlock, Exit.then])
  refine bodyPost_ret (results_tmp2 rfl _ _ _) rfl ?_
  exact ⟨rfl, rfl⟩
set_option maxHeartbeats 2000000 in
theorem rwin_yes {ao : Option Addr} {n c : Nat} {xs : List Int} (hr : RdI w ao n c xs) (hok : okI xs = true) : Calls Try.prog 20 #[.slice ao n c] w fun e w' => e = .returned (.tuple #[.int .i64 (cnt (wins (nv xs)) (2 ^ n) : Int), .int .i64 0]) ∧ w = w' := by
  have HC0 := rcheck_any hr
  unfold chkE at HC0
  rw [hok] at HC0
  have HC : Hid (Calls Try.prog 26 #[.slice ao n c] w fun e w' => e = .returned (.int .i64 0) ∧ w = w') := HC0
  have ho := okI_ok hok
  have hl : (nv xs).length = n := by rw [nv_len, hr.len]
  have h16 : n ≤ 16 := by rw [← hl]; exact ho.1
  have h2 := two_pow_le n h16
  have hM1 := Nat.two_pow_pos n
  have hpw := pow_val n h16
  have HQ : Hid (∀ s : Nat, s < 65536 → Calls Try.prog 42 #[.slice ao n c, .int .i64 (s : Int)] w fun e w' => e = .returned (.bool (wins (nv xs) s)) ∧ w = w') := fun s hs => rwins_any hr hok s hs
  generalize nv xs = v at *
  obtain ⟨M, hM⟩ : ∃ M, M = 2 ^ n := ⟨_, rfl⟩
  rw [← hM] at h2 hM1 hpw ⊢
  clear HC0 hr hok ho hM
  go_enter Try.func20, Try.ntmps20
  go_wp2_with (first
    | (go_at_call 26; refine HC.out.mono ?_; rintro e w' ⟨rfl, rfl⟩)
    | fail)
  go_loop [5, 6] (fun x i => ∃ (k t : Nat), k ≤ M ∧ i = .int .i64 (k : Int) ∧ x = .int .i64 (t : Int) ∧ t ≤ 65536 ∧ Hid (t = cnt (wins v) k)) (fun _ i => M - (intOf i).toNat)
  case atStart => exact ⟨0, 0, Nat.zero_le _, rfl, rfl, by decide, rfl⟩
  case round =>
    obtain ⟨k, t, hk, rfl, rfl, ht, HT⟩ := hrel
    by_cases hlt : k < M
    · have hn1 := cnt_le (wins v) (k + 1)
      have HQ1 := HQ.out k (by omega)
      cases hw : wins v k with
      | true =>
        rw [hw] at HQ1
        have HQ2 : Hid (Calls Try.prog 42 #[.slice ao n c, .int .i64 (k : Int)] w fun e w' => e = .returned (.bool true) ∧ w = w') := HQ1
        have HS2 : Hid (t + 1 = cnt (wins v) (k + 1)) := (show _ = _ from by rw [HT.out]; simp [cnt, hw])
        have hle : t + 1 ≤ 65536 := by rw [HS2.out]; omega
        clear HQ1 hw hn1
        go_wp2_with (first
          | (go_at_call 42; refine HQ2.out.mono ?_; rintro e w2 ⟨rfl, rfl⟩)
          | fail)
        go_round
        case rel => exact ⟨k + 1, t + 1, by omega, by go_num, by go_num, hle, HS2⟩
        case measure => simp [intOf]; omega
      | false =>
        rw [hw] at HQ1
        have HQ2 : Hid (Calls Try.prog 42 #[.slice ao n c, .int .i64 (k : Int)] w fun e w' => e = .returned (.bool false) ∧ w = w') := HQ1
        have HS2 : Hid (t = cnt (wins v) (k + 1)) := (show _ = _ from by rw [HT.out]; simp [cnt, hw])
        clear HQ1 hw hn1
        go_wp2_with (first
          | (go_at_call 42; refine HQ2.out.mono ?_; rintro e w2 ⟨rfl, rfl⟩)
          | fail)
        go_round
        case rel => exact ⟨k + 1, t, by omega, by go_num, rfl, ht, HS2⟩
        case measure => simp [intOf]; omega
    · obtain rfl : k = M := by omega
      have HF : Hid ((t : Int) = (cnt (wins v) k : Int)) := (show _ = _ from by rw [HT.out])
      go_wp2
      (try simp only [Exit.inBlock, Exit.then])
      refine bodyPost_ret (results_tmp2 rfl _ _ _) rfl ?_
      refine ⟨?_, rfl⟩
      rw [← HF.out]
      rfl
set_option maxHeartbeats 2000000 in
theorem rtol_yes {ao : Option Addr} {n c : Nat} {xs : List Int} (hr : RdI w ao n c xs) (hok : okI xs = true) : Calls Try.prog 22 #[.slice ao n c] w fun e w' => e = .returned (.tuple #[.int .i64 ((least (nv xs) (2 ^ n) : Int) - 1), .int .i64 0]) ∧ w = w' := by
  have HC0 := rcheck_any hr
  unfold chkE at HC0
  rw [hok] at HC0
  have HC : Hid (Calls Try.prog 26 #[.slice ao n c] w fun e w' => e = .returned (.int .i64 0) ∧ w = w') := HC0
  have ho := okI_ok hok
  have hl : (nv xs).length = n := by rw [nv_len, hr.len]
  have h16 : n ≤ 16 := by rw [← hl]; exact ho.1
  have h2 := two_pow_le n h16
  have hM1 := Nat.two_pow_pos n
  have hpw := pow_val n h16
  obtain ⟨tb, htb⟩ : ∃ tb : Int → Bool, ∀ s : Nat, tb (s : Int) = wins (nv xs) s := ⟨fun x => wins (nv xs) x.toNat, fun s => rfl⟩
  have HQ : Hid (∀ z : Int, 0 ≤ z ∧ z < 65536 → Calls Try.prog 42 #[.slice ao n c, .int .i64 z] w fun e w' => e = .returned (.bool (tb z)) ∧ w = w') := fun z hz => by
    obtain ⟨s, rfl⟩ := Int.eq_ofNat_of_zero_le hz.1
    rw [htb]
    exact rwins_any hr hok s (by omega)
  have HZA : Hid (∀ s : Nat, s < 2 ^ n → ∀ W, Calls Try.prog 44 #[.int .i64 (s : Int)] W fun e w' => e = .returned (.int .i64 ((size s n : Nat) : Int)) ∧ W = w') := fun s hs W => by
    rw [← size_16 h16 hs]
    exact rsize_any s (by omega)
  have HE : Hid (rl (nv xs) (2 ^ n) n (2 ^ n) = least (nv xs) (2 ^ n)) := by
    have := rl_least (nv xs)
    rw [hl] at this
    exact this
  have htw : ∀ k : Nat, k < 2 ^ n → tb (((2 ^ n : Nat) : Int) - 1 - (k : Int)) = wins (nv xs) (2 ^ n - 1 - k) := fun k hk => by rw [sub_cast hk, htb]
  generalize nv xs = v at *
  obtain ⟨M, hM⟩ : ∃ M, M = 2 ^ n := ⟨_, rfl⟩
  rw [← hM] at h2 hM1 hpw HZA HE htw ⊢
  have HTW : Hid (∀ k : Nat, k < M → tb ((M : Int) - 1 - (k : Int)) = wins v (M - 1 - k)) := htw
  clear HC0 hr hok ho hM htb htw
  go_enter Try.func22, Try.ntmps22
  go_wp2_with (first
    | (go_at_call 26; refine HC.out.mono ?_; rintro e w' ⟨rfl, rfl⟩)
    | fail)
  clear hpw
  go_loop [6, 7] (fun x i => ∃ (k t : Nat), k ≤ M ∧ i = .int .i64 (k : Int) ∧ x = .int .i64 (t : Int) ∧ t ≤ n ∧ Hid (t = rl v M n k)) (fun _ i => M - (intOf i).toNat)
  case atStart => exact ⟨0, n, Nat.zero_le _, rfl, rfl, Nat.le_refl _, rfl⟩
  case round =>
    obtain ⟨k, t, hk, rfl, rfl, ht, HT⟩ := hrel
    by_cases hlt : k < M
    · have HZ1 := HZA.out k hlt
      have hrl : rl v M n (k + 1) = if wins v (M - 1 - k) = false ∧ size k n < t then size k n else t := by rw [HT.out]; rfl
      have htw := HTW.out k hlt
      have hzl := size_le k n
      generalize size k n = z at *
      have HZ : Hid (∀ W, Calls Try.prog 44 #[.int .i64 (k : Int)] W fun e w' => e = .returned (.int .i64 ((z : Nat) : Int)) ∧ W = w') := HZ1
      rw [← htw] at hrl
      clear HZ1 htw
      cases htt : tb ((M : Int) - 1 - (k : Int)) with
      | true =>
        have HS2 : Hid (t = rl v M n (k + 1)) := (show _ = _ from by rw [hrl, htt]; simp)
        clear hrl
        go_wp2_with (first
          | (go_at_call 42; refine (HQ.out _ (by omega)).mono ?_; rintro e w2 ⟨rfl, rfl⟩)
          | fail)
        go_round
        case rel => exact ⟨k + 1, t, by omega, by go_num, rfl, ht, HS2⟩
        case measure => simp [intOf]; omega
      | false =>
        by_cases hzt : z < t
        · have HS2 : Hid (z = rl v M n (k + 1)) := (show _ = _ from by rw [hrl, htt]; simp [hzt])
          clear hrl
          go_wp2_with (first
            | (go_at_call 42; refine (HQ.out _ (by omega)).mono ?_; rintro e w2 ⟨rfl, rfl⟩)
            | (go_at_call 44; refine (HZ.out _).mono ?_; rintro e w2 ⟨rfl, rfl⟩)
            | fail)
          go_round
          case rel => exact ⟨k + 1, z, by omega, by go_num, rfl, hzl, HS2⟩
          case measure => simp [intOf]; omega
        · have HS2 : Hid (t = rl v M n (k + 1)) := (show _ = _ from by rw [hrl, htt]; simp [hzt])
          clear hrl
          go_wp2_with (first
            | (go_at_call 42; refine (HQ.out _ (by omega)).mono ?_; rintro e w2 ⟨rfl, rfl⟩)
            | (go_at_call 44; refine (HZ.out _).mono ?_; rintro e w2 ⟨rfl, rfl⟩)
            | fail)
          go_round
          case rel => exact ⟨k + 1, t, by omega, by go_num, rfl, ht, HS2⟩
          case measure => simp [intOf]; omega
    · obtain rfl : k = M := by omega
      have HF : Hid ((t : Int) - 1 = (least v k : Int) - 1) := (show _ = _ from by rw [HT.out, HE.out])
      go_wp2
      (try simp only [Exit.inBlock, Exit.then])
      refine bodyPost_ret (results_tmp2 rfl _ _ _) rfl ?_
      refine ⟨?_, rfl⟩
      rw [← HF.out]
      rfl
def winN (xs : List Int) : Int := if okI xs then (cnt (wins (nv xs)) (2 ^ xs.length) : Int) else 0
def tolN (xs : List Int) : Int := if okI xs then (least (nv xs) (2 ^ xs.length) : Int) - 1 else 0
theorem winT {ao : Option Addr} {n c : Nat} {xs : List Int} (hr : RdI w ao n c xs) : Calls Try.prog 19 #[.slice ao n c] w fun e w' => e = .returned (.tuple #[.int .i64 (winN xs), .int .i64 (chkE xs)]) ∧ Below w.heap.size w w' := by
  unfold winN chkE
  cases hok : okI xs with
  | false => exact (win_no hr hok).mono fun e w' h => ⟨by rw [h.1]; simp, h.2⟩
  | true => exact (winning_any hr hok).mono fun e w' h => ⟨by rw [h.1, hr.len]; simp, h.2⟩
theorem tolT {ao : Option Addr} {n c : Nat} {xs : List Int} (hr : RdI w ao n c xs) : Calls Try.prog 21 #[.slice ao n c] w fun e w' => e = .returned (.tuple #[.int .i64 (tolN xs), .int .i64 (chkE xs)]) ∧ Below w.heap.size w w' := by
  unfold tolN chkE
  cases hok : okI xs with
  | false => exact (tol_no hr hok).mono fun e w' h => ⟨by rw [h.1]; simp, h.2⟩
  | true => exact (tol_any hr hok).mono fun e w' h => ⟨by rw [h.1, hr.len]; simp, h.2⟩
theorem rwinT {ao : Option Addr} {n c : Nat} {xs : List Int} (hr : RdI w ao n c xs) : Calls Try.prog 20 #[.slice ao n c] w fun e w' => e = .returned (.tuple #[.int .i64 (winN xs), .int .i64 (chkE xs)]) ∧ w = w' := by
  unfold winN chkE
  cases hok : okI xs with
  | false => exact (rwin_no hr hok).mono fun e w' h => ⟨by rw [h.1]; simp, h.2⟩
  | true => exact (rwin_yes hr hok).mono fun e w' h => ⟨by rw [h.1, hr.len]; simp, h.2⟩
theorem rtolT {ao : Option Addr} {n c : Nat} {xs : List Int} (hr : RdI w ao n c xs) : Calls Try.prog 22 #[.slice ao n c] w fun e w' => e = .returned (.tuple #[.int .i64 (tolN xs), .int .i64 (chkE xs)]) ∧ w = w' := by
  unfold tolN chkE
  cases hok : okI xs with
  | false => exact (rtol_no hr hok).mono fun e w' h => ⟨by rw [h.1]; simp, h.2⟩
  | true => exact (rtol_yes hr hok).mono fun e w' h => ⟨by rw [h.1, hr.len]; simp, h.2⟩
end
end Go.Proofs.Ytapenemfnngniaa.Qm
