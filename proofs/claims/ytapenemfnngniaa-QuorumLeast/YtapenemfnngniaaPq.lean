import Derived.Test.YtapenemfnngniaaPp
namespace Go.Proofs.Ytapenemfnngniaa.Qm
open Go.RowKit Mb
set_option linter.unusedVariables false
set_option maxRecDepth 100000
set_option linter.unusedSimpArgs false
section
variable {w w' : World} {B : Nat}
def chkE (xs : List Int) : Int := if okI xs then 0 else 110
set_option maxHeartbeats 1000000 in
theorem check_any {ao : Option Addr} {n c : Nat} {xs : List Int} (hr : RdI w ao n c xs) : Calls Try.prog 25 #[.slice ao n c] w fun e w' => e = .returned (.int .i64 (chkE xs)) ∧ Below w.heap.size w w' := by
  have HC0 := counted_any hr
  unfold chkE
  clear hr
  cases hok : okI xs with
  | true =>
    rw [hok] at HC0
    have HC : Hid (Calls Try.prog 33 #[.slice ao n c] w fun e w' => ∃ r, e = .returned (.tuple #[.agg (ints r).toArray, .bool true]) ∧ r.length = 19 ∧ (true = true → r = bl (nv xs)) ∧ Below w.heap.size w w') := HC0
    clear HC0
    go_enter Try.func25, Try.ntmps25
    go_wp2_with (first
      | (go_at_call 33; refine HC.out.mono ?_; rintro e w1 ⟨r, rfl, hrl, -, hb1⟩; obtain ⟨A1, V, hA1, HA1, hV, HV, HBV⟩ := newbal w1 r hrl)
      | (refine store_mid 72 (.tmp 3) (.tmp 8) (xs := r) HA1.out (info_bl hrl) rfl rfl rfl rfl ?_; rw [hV]; have HBW : Hid (Below w.heap.size w V) := bstep hb1 HBV.out; generalize w1.heap.size = gb at *; clear hV HA1 hA1 hb1 HV HBV)
      | fail)
    go_ret
    exact ⟨rfl, HBW.out⟩
  | false =>
    rw [hok] at HC0
    have HC : Hid (Calls Try.prog 33 #[.slice ao n c] w fun e w' => ∃ r, e = .returned (.tuple #[.agg (ints r).toArray, .bool false]) ∧ r.length = 19 ∧ (false = true → r = bl (nv xs)) ∧ Below w.heap.size w w') := HC0
    clear HC0
    go_enter Try.func25, Try.ntmps25
    go_wp2_with (first
      | (go_at_call 33; refine HC.out.mono ?_; rintro e w1 ⟨r, rfl, hrl, -, hb1⟩; obtain ⟨A1, V, hA1, HA1, hV, HV, HBV⟩ := newbal w1 r hrl)
      | (refine store_mid 72 (.tmp 3) (.tmp 8) (xs := r) HA1.out (info_bl hrl) rfl rfl rfl rfl ?_; rw [hV]; have HBW : Hid (Below w.heap.size w V) := bstep hb1 HBV.out; generalize w1.heap.size = gb at *; clear hV HA1 hA1 hb1 HV HBV)
      | fail)
    go_ret
    exact ⟨rfl, HBW.out⟩
theorem quorate_any {ao bo : Option Addr} {n c m d : Nat} {xs ys : List Int} (hr : RdI w ao n c xs) (hr2 : RdI w bo m d ys) (hm : m ≤ 17592186044416) : Calls Try.prog 23 #[.slice ao n c, .slice bo m d] w fun e w' => e = .returned (.tuple #[.bool (quoB xs ys), .int .i64 (quoE xs ys)]) ∧ Below w.heap.size w w' := by
  unfold quoB quoE
  cases hok : okI xs with
  | false => exact (quo_no (ys := ys) hr hok).mono fun e w' h => ⟨by rw [h.1]; simp, h.2⟩
  | true =>
    refine (quo_yes hr hok hr2 hm).mono fun e w' ⟨⟨s, h⟩, h2⟩ => ⟨?_, h2⟩
    rw [hr.len]
    rcases h with ⟨h1, h3⟩ | ⟨h1, h3⟩
    · rw [h1, h3]; simp
    · rw [h1, h3]; simp
set_option maxHeartbeats 1000000 in
theorem in_any (s p : Nat) (hs : s < 65536) (hp : p < 64) : Calls Try.prog 59 #[.int .i64 (s : Int), .int .i64 (p : Int)] w fun e w' => e = .returned (.bool (s.testBit p)) ∧ w = w' := by
  have HV : Hid ((bits .and .i64 ((s : Int) / 2 ^ p) 1 == 1) = s.testBit p) := has_val64 s p hs
  go_enter Try.func59, Try.ntmps59
  go_wp2
  go_ret
  exact ⟨by simp [HV.out], rfl⟩
theorem rd_nv {ao : Option Addr} {n c : Nat} {xs : List Int} (hr : RdI w ao n c xs) (hok : okI xs = true) {k : Nat} (hk : k < n) : ∃ b off, ao = some ⟨b, off, none⟩ ∧ w.cell? ⟨b, off + k, none⟩ = some (.int .i64 ((nv xs).getD k 0 : Nat)) := by
  obtain ⟨b, off, e1, e2⟩ := hr.at hk
  refine ⟨b, off, e1, e2.trans ?_⟩
  rw [nv_at]
  have hx : in9 (xs.getD k 0) = true := by
    unfold okI at hok
    simp only [Bool.and_eq_true] at hok
    exact List.all_eq_true.1 hok.2.1 _ (by simp [List.getD, show k < xs.length by rw [hr.len]; exact hk])
  have := of_decide_eq_true hx
  rw [show ((xs.getD k 0).toNat : Int) = xs.getD k 0 by omega]
set_option maxHeartbeats 1000000 in
theorem rweight_any {ao : Option Addr} {n c : Nat} {xs : List Int} (hr : RdI w ao n c xs) (hok : okI xs = true) (s : Nat) (hs : s < 65536) : Calls Try.prog 58 #[.slice ao n c, .int .i64 (s : Int)] w fun e w' => e = .returned (.int .i64 (W (nv xs) s : Int)) ∧ w = w' := by
  have HC : Hid (∀ k, k < n → ∃ b off, ao = some ⟨b, off, none⟩ ∧ w.cell? ⟨b, off + k, none⟩ = some (.int .i64 ((nv xs).getD k 0 : Nat))) := fun k hk => rd_nv hr hok hk
  have HO : Hid (Ok (nv xs)) := okI_ok hok
  have hl : (nv xs).length = n := by rw [nv_len, hr.len]
  have h16 : n ≤ 16 := by rw [← hl]; exact HO.out.1
  generalize nv xs = v at *
  clear hr hok
  go_enter Try.func58, Try.ntmps58
  go_wp2
  go_loop [5, 6] (fun x i => ∃ (k t : Nat), k ≤ n ∧ i = .int .i64 (k : Int) ∧ x = .int .i64 (t : Int) ∧ t ≤ 144 ∧ Hid (t = wt v s k)) (fun _ i => n - (intOf i).toNat)
  case atStart => exact ⟨0, 0, Nat.zero_le _, rfl, rfl, by decide, rfl⟩
  case round =>
    obtain ⟨k, t, hk, rfl, rfl, ht, HT⟩ := hrel
    by_cases hlt : k < n
    · obtain ⟨g, o, hg, hc⟩ := HC.out k hlt
      have hn := wt_le_sm v s (k + 1)
      have hm := sm_le_nine HO.out.2.1 (k + 1)
      have hn2 : wt v s (k + 1) ≤ 144 := by omega
      have HS : Hid (wt v s (k + 1) = t + if s.testBit k then v.getD k 0 else 0) := (show _ = _ from by rw [HT.out]; rfl)
      have HB := fun w => in_any (w := w) s k hs (by omega)
      have i1 : (0 : Int) ≤ (k : Int) := Int.natCast_nonneg _
      have i2 : (k : Int) < (n : Int) := by omega
      rw [hg]
      clear hg
      cases hb : s.testBit k with
      | true =>
        rw [hb] at HS HB
        simp only [if_true] at HS
        generalize v.getD k 0 = y at *
        have hyl : t + y ≤ 144 := by rw [← HS.out]; exact hn2
        have HS2 : Hid (t + y = wt v s (k + 1)) := HS.out.symm
        have HB2 : Hid (∀ w, Calls Try.prog 59 #[.int .i64 (s : Int), .int .i64 (k : Int)] w fun e w' => e = .returned (.bool true) ∧ w = w') := HB
        clear HS hn hm hn2 hb HB
        go_wp2_with (first
          | (go_at_call 59; refine (HB2.out _).mono ?_; rintro e w' ⟨rfl, rfl⟩)
          | fail)
        go_round
        case rel => exact ⟨k + 1, t + y, by omega, by go_num, by go_num, by omega, HS2⟩
        case measure => simp [intOf]; omega
      | false =>
        rw [hb] at HS HB
        simp only [Bool.false_eq_true, if_false, Nat.add_zero] at HS
        have HS2 : Hid (t = wt v s (k + 1)) := HS.out.symm
        have HB2 : Hid (∀ w, Calls Try.prog 59 #[.int .i64 (s : Int), .int .i64 (k : Int)] w fun e w' => e = .returned (.bool false) ∧ w = w') := HB
        clear HS hn hm hn2 hb hc HB
        go_wp2_with (first
          | (go_at_call 59; refine (HB2.out _).mono ?_; rintro e w' ⟨rfl, rfl⟩)
          | fail)
        go_round
        case rel => exact ⟨k + 1, t, by omega, by go_num, rfl, by omega, HS2⟩
        case measure => simp [intOf]; omega
    · obtain rfl : k = n := by omega
      have HF : Hid ((t : Int) = (W v s : Int)) := (show _ = _ from by rw [HT.out]; unfold W; rw [hl])
      go_wp2
      go_ret
      exact ⟨ret_int HF.out, rfl⟩
theorem fs_first (v : List Nat) (k : Nat) (h0 : sm v k = 0) (h1 : 0 < v.getD k 0) : ∀ n, k < n → fs v n = k
  | 0, h => by omega
  | n + 1, h => by
      simp only [fs]
      by_cases e : k = n
      · subst e
        rw [if_pos h0]
      · rw [if_neg]
        · exact fs_first v k h0 h1 n (by omega)
        · have : sm v (k + 1) ≤ sm v n := by
            have := sm_mono v (k + 1) (n - (k + 1))
            rwa [show k + 1 + (n - (k + 1)) = n by omega] at this
          simp only [sm] at this
          omega
set_option maxHeartbeats 1000000 in
theorem rfirst_any {ao : Option Addr} {n c : Nat} {xs : List Int} (hr : RdI w ao n c xs) (hok : okI xs = true) : Calls Try.prog 60 #[.slice ao n c] w fun e w' => e = .returned (.int .i64 (F (nv xs) : Int)) ∧ w = w' := by
  have HC : Hid (∀ k, k < n → ∃ b off, ao = some ⟨b, off, none⟩ ∧ w.cell? ⟨b, off + k, none⟩ = some (.int .i64 ((nv xs).getD k 0 : Nat))) := fun k hk => rd_nv hr hok hk
  have HO : Hid (Ok (nv xs)) := okI_ok hok
  have hl : (nv xs).length = n := by rw [nv_len, hr.len]
  have h16 : n ≤ 16 := by rw [← hl]; exact HO.out.1
  generalize nv xs = v at *
  clear hr hok
  go_enter Try.func60, Try.ntmps60
  go_wp2
  go_loop [3] (fun i => ∃ (k : Nat), k ≤ n ∧ i = .int .i64 (k : Int) ∧ Hid (sm v k = 0)) (fun i => n - (intOf i).toNat)
  case atStart => exact ⟨0, Nat.zero_le _, rfl, rfl⟩
  case round =>
    obtain ⟨k, hk, rfl, HT⟩ := hrel
    by_cases hlt : k < n
    · obtain ⟨g, o, hg, hc⟩ := HC.out k hlt
      have i1 : (0 : Int) ≤ (k : Int) := Int.natCast_nonneg _
      have i2 : (k : Int) < (n : Int) := by omega
      have hF : 0 < v.getD k 0 → F v = k := fun h => fs_first v k HT.out h v.length (by omega)
      have hN : sm v (k + 1) = v.getD k 0 := by simp [sm, HT.out]
      rw [hg]
      generalize v.getD k 0 = y at *
      clear hg
      by_cases hy : y = 0
      · subst hy
        have HT2 : Hid (sm v (k + 1) = 0) := hN
        clear hF hN
        go_wp2
        go_round
        case rel => exact ⟨k + 1, by omega, by go_num, HT2⟩
        case measure => simp [intOf]; omega
      · have HF : Hid (F v = k) := hF (by omega)
        have hy2 : ((y : Int) == 0) = false := by rw [beq_eq_false_iff_ne]; omega
        clear hF hN
        go_wp2
        go_ret
        exact ⟨ret_int (by rw [HF.out]), rfl⟩
    · obtain rfl : k = n := by omega
      exfalso
      have := HO.out.2.2
      unfold T at this
      rw [hl, HT.out] at this
      omega
set_option maxHeartbeats 2000000 in
theorem rwins_any {ao : Option Addr} {n c : Nat} {xs : List Int} (hr : RdI w ao n c xs) (hok : okI xs = true) (s : Nat) (hs : s < 65536) : Calls Try.prog 42 #[.slice ao n c, .int .i64 (s : Int)] w fun e w' => e = .returned (.bool (wins (nv xs) s)) ∧ w = w' := by
  have ho := okI_ok hok
  have hl : (nv xs).length = n := by rw [nv_len, hr.len]
  have h16 : n ≤ 16 := by rw [← hl]; exact ho.1
  have h2 := two_pow_le n h16
  have h2p := Nat.two_pow_pos n
  have hpw := pow_val n h16
  have eT : W (nv xs) (2 ^ n - 1) = T (nv xs) := by unfold W T; rw [hl]; exact wt_full _ n n (Nat.le_refl _)
  obtain ⟨fw, hfw⟩ : ∃ fw : Int → Int, ∀ s : Nat, fw (s : Int) = (W (nv xs) s : Int) := ⟨fun x => (W (nv xs) x.toNat : Int), fun s => rfl⟩
  have HW : Hid (∀ z : Int, 0 ≤ z ∧ z < 65536 → Calls Try.prog 58 #[.slice ao n c, .int .i64 z] w fun e w' => e = .returned (.int .i64 (fw z)) ∧ w = w') := fun z hz => by
    obtain ⟨s, rfl⟩ := Int.eq_ofNat_of_zero_le hz.1
    rw [hfw]
    exact rweight_any hr hok s (by omega)
  have HF : Hid (Calls Try.prog 60 #[.slice ao n c] w fun e w' => e = .returned (.int .i64 (F (nv xs) : Int)) ∧ w = w') := rfirst_any hr hok
  have hFl := F_lt ho
  have HI : Hid (Calls Try.prog 59 #[.int .i64 (s : Int), .int .i64 (F (nv xs) : Int)] w fun e w' => e = .returned (.bool (s.testBit (F (nv xs)))) ∧ w = w') := in_any s _ hs (by omega)
  have hWl := W_le ho s
  have hTl := T_le ho
  have fS := hfw s
  have fM := hfw (2 ^ n - 1)
  rw [eT] at fM
  unfold wins
  generalize nv xs = v at *
  obtain ⟨M, hM⟩ : ∃ M, M = 2 ^ n := ⟨_, rfl⟩
  rw [← hM] at h2 h2p hpw fM
  have eM : ((M - 1 : Nat) : Int) = (M : Int) - 1 := by omega
  rw [eM] at fM
  clear hfw eT hM hr hok ho eM hl
  generalize W v s = x at *
  generalize T v = t at *
  generalize F v = f at *
  generalize s.testBit f = tb at *
  by_cases h1 : t < 2 * x
  · have h1' : (t : Int) < 2 * (x : Int) := by omega
    have hR : Hid ((decide (t < 2 * x) || (decide (2 * x = t) && tb)) = true) := (show _ = _ from by simp [h1])
    clear h1
    go_enter Try.func42, Try.ntmps42
    go_wp2_with (first
      | (go_at_call 58; refine (HW.out _ (by omega)).mono ?_; rintro e w' ⟨rfl, rfl⟩)
      | (go_at_call 60; refine HF.out.mono ?_; rintro e w' ⟨rfl, rfl⟩)
      | (go_at_call 59; refine HI.out.mono ?_; rintro e w' ⟨rfl, rfl⟩)
      | fail)
    go_ret
    exact ⟨by rw [hR.out]; first | rfl | (simp; omega) | simp_all, rfl⟩
  · by_cases h3 : 2 * x = t
    · subst h3
      have hR : Hid ((decide (2 * x < 2 * x) || (decide (2 * x = 2 * x) && tb)) = tb) := (show _ = _ from by simp)
      clear h1
      go_enter Try.func42, Try.ntmps42
      go_wp2_with (first
        | (go_at_call 58; refine (HW.out _ (by omega)).mono ?_; rintro e w' ⟨rfl, rfl⟩)
        | (go_at_call 60; refine HF.out.mono ?_; rintro e w' ⟨rfl, rfl⟩)
        | (go_at_call 59; refine HI.out.mono ?_; rintro e w' ⟨rfl, rfl⟩)
        | fail)
      go_ret
      exact ⟨by rw [hR.out]; first | rfl | (simp; omega) | simp_all, rfl⟩
    · have h1' : ¬ (t : Int) < 2 * (x : Int) := by omega
      have h3' : (2 * (x : Int) == (t : Int)) = false := by rw [beq_eq_false_iff_ne]; omega
      have hR : Hid ((decide (t < 2 * x) || (decide (2 * x = t) && tb)) = false) := (show _ = _ from by simp [h1, h3])
      clear h1 h3
      go_enter Try.func42, Try.ntmps42
      go_wp2_with (first
        | (go_at_call 58; refine (HW.out _ (by omega)).mono ?_; rintro e w' ⟨rfl, rfl⟩)
        | (go_at_call 60; refine HF.out.mono ?_; rintro e w' ⟨rfl, rfl⟩)
        | (go_at_call 59; refine HI.out.mono ?_; rintro e w' ⟨rfl, rfl⟩)
        | fail)
      go_ret
      exact ⟨by rw [hR.out]; first | rfl | (simp; omega) | simp_all, rfl⟩
end
end Go.Proofs.Ytapenemfnngniaa.Qm
