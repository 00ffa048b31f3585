import Derived.Test.YtapenemfnngniaaPa
import Derived.Test.YtapenemfnngniaaAa
namespace Go.Proofs.Ytapenemfnngniaa.Qm
open Go.RowKit Mb
set_option linter.unusedVariables false
set_option maxRecDepth 100000
set_option linter.unusedSimpArgs false
section
variable {w w' : World} {B : Nat}
theorem ret_int {a b : Int} (h : a = b) : Ending.returned (.int .i64 a) = .returned (.int .i64 b) := by rw [h]
theorem u64_wrap_nat (a : Nat) (ha : a < 18446744073709551616) : IntKind.u64.wrap (a : Int) = (a : Int) := by
  simp only [IntKind.wrap, IntKind.bits, IntKind.signed]
  simp
  omega
theorem u64_or_nat (a b : Nat) (ha : a < 18446744073709551616) (hb : b < 18446744073709551616) : bits .or .u64 (a : Int) (b : Int) = ((a ||| b : Nat) : Int) := by
  have hx : a ||| b < 2 ^ 64 := Nat.or_lt_two_pow (by omega) (by omega)
  have h1 : (BitVec.ofInt 64 (a : Int)).toNat = a := by
    rw [BitVec.ofInt_natCast, BitVec.toNat_ofNat]; exact Nat.mod_eq_of_lt (by omega)
  have h2 : (BitVec.ofInt 64 (b : Int)).toNat = b := by
    rw [BitVec.ofInt_natCast, BitVec.toNat_ofNat]; exact Nat.mod_eq_of_lt (by omega)
  show IntKind.u64.wrap ((BitVec.ofInt 64 (a : Int) ||| BitVec.ofInt 64 (b : Int)).toNat : Int) = _
  rw [BitVec.toNat_or, h1, h2]
  exact u64_wrap_nat _ (by omega)
theorem u64_and_nat (a b : Nat) (ha : a < 18446744073709551616) (hb : b < 18446744073709551616) : bits .and .u64 (a : Int) (b : Int) = ((a &&& b : Nat) : Int) := by
  have hx : a &&& b ≤ a := Nat.and_le_left
  have h1 : (BitVec.ofInt 64 (a : Int)).toNat = a := by
    rw [BitVec.ofInt_natCast, BitVec.toNat_ofNat]; exact Nat.mod_eq_of_lt (by omega)
  have h2 : (BitVec.ofInt 64 (b : Int)).toNat = b := by
    rw [BitVec.ofInt_natCast, BitVec.toNat_ofNat]; exact Nat.mod_eq_of_lt (by omega)
  show IntKind.u64.wrap ((BitVec.ofInt 64 (a : Int) &&& BitVec.ofInt 64 (b : Int)).toNat : Int) = _
  rw [BitVec.toNat_and, h1, h2]
  exact u64_wrap_nat _ (by omega)
theorem i64_and_int (a : Int) (b : Nat) (hb : b < 9223372036854775808) : bits .and .i64 a (b : Int) = (((BitVec.ofInt 64 a).toNat &&& b : Nat) : Int) := by
  have hx : (BitVec.ofInt 64 a).toNat &&& b ≤ b := Nat.and_le_right
  have h2 : (BitVec.ofInt 64 (b : Int)).toNat = b := by
    rw [BitVec.ofInt_natCast, BitVec.toNat_ofNat]; exact Nat.mod_eq_of_lt (by omega)
  show IntKind.i64.wrap ((BitVec.ofInt 64 a &&& BitVec.ofInt 64 (b : Int)).toNat : Int) = _
  rw [BitVec.toNat_and, h2]
  generalize (BitVec.ofInt 64 a).toNat &&& b = z at *
  simp only [IntKind.wrap, IntKind.bits, IntKind.signed]
  simp
  omega
theorem i64_and_nat (a b : Nat) (ha : a < 9223372036854775808) (hb : b < 9223372036854775808) : bits .and .i64 (a : Int) (b : Int) = ((a &&& b : Nat) : Int) := by
  have h1 : (BitVec.ofInt 64 (a : Int)).toNat = a := by
    rw [BitVec.ofInt_natCast, BitVec.toNat_ofNat]; exact Nat.mod_eq_of_lt (by omega)
  rw [i64_and_int _ _ hb, h1]
theorem i64_or_nat (a b : Nat) (ha : a < 9223372036854775808) (hb : b < 9223372036854775808) : bits .or .i64 (a : Int) (b : Int) = ((a ||| b : Nat) : Int) := by
  have hx : a ||| b < 2 ^ 63 := Nat.or_lt_two_pow (by omega) (by omega)
  have h1 : (BitVec.ofInt 64 (a : Int)).toNat = a := by
    rw [BitVec.ofInt_natCast, BitVec.toNat_ofNat]; exact Nat.mod_eq_of_lt (by omega)
  have h2 : (BitVec.ofInt 64 (b : Int)).toNat = b := by
    rw [BitVec.ofInt_natCast, BitVec.toNat_ofNat]; exact Nat.mod_eq_of_lt (by omega)
  show IntKind.i64.wrap ((BitVec.ofInt 64 (a : Int) ||| BitVec.ofInt 64 (b : Int)).toNat : Int) = _
  rw [BitVec.toNat_or, h1, h2]
  simp only [IntKind.wrap, IntKind.bits, IntKind.signed]
  simp
  omega
theorem bit_div (s p : Nat) : (s / 2 ^ p) &&& 1 = if s.testBit p then 1 else 0 := by
  rw [Nat.and_one_is_mod, Nat.testBit_eq_decide_div_mod_eq]
  have := Nat.mod_two_eq_zero_or_one (s / 2 ^ p)
  rcases this with h | h <;> simp [h]
theorem has_val (s p : Nat) (hs : s < 65536) : (bits .and .u64 ((s : Int) / 2 ^ p) 1 == 1) = s.testBit p := by
  have e : ((s : Int) / 2 ^ p) = ((s / 2 ^ p : Nat) : Int) := by simp
  have hl : s / 2 ^ p ≤ s := Nat.div_le_self _ _
  rw [e, show (1 : Int) = ((1 : Nat) : Int) from rfl, u64_and_nat _ _ (by omega) (by omega), bit_div]
  cases s.testBit p <;> simp
theorem has_val64 (s p : Nat) (hs : s < 65536) : (bits .and .i64 ((s : Int) / 2 ^ p) 1 == 1) = s.testBit p := by
  have e : ((s : Int) / 2 ^ p) = ((s / 2 ^ p : Nat) : Int) := by simp
  have hl : s / 2 ^ p ≤ s := Nat.div_le_self _ _
  rw [e, show (1 : Int) = ((1 : Nat) : Int) from rfl, i64_and_nat _ _ (by omega) (by omega), bit_div]
  cases s.testBit p <;> simp
theorem two_pow_le (p : Nat) (hp : p ≤ 16) : 2 ^ p ≤ 65536 := Nat.pow_le_pow_right (by decide) hp
theorem with_lt {s p : Nat} (hs : s < 65536) (hp : p < 16) : s ||| 2 ^ p < 65536 := by
  have h : 2 ^ p < 2 ^ 16 := Nat.pow_lt_pow_right (by decide) hp
  exact Nat.or_lt_two_pow (n := 16) hs h
theorem shl_val (p : Nat) (hp : p ≤ 16) : IntKind.u64.wrap (2 ^ p) = ((2 ^ p : Nat) : Int) := by
  have := two_pow_le p hp
  rw [← u64_wrap_nat (2 ^ p) (by omega)]
  simp
theorem with_val (s p : Nat) (hs : s < 65536) (hp : p < 16) : bits .or .u64 (s : Int) (IntKind.u64.wrap (2 ^ p)) = ((s ||| 2 ^ p : Nat) : Int) := by
  have := two_pow_le p (by omega)
  rw [shl_val p (by omega), u64_or_nat _ _ (by omega) (by omega)]
set_option maxHeartbeats 1000000 in
theorem within_any (v lo hi : Int) : Calls Try.prog 48 #[.int .i64 v, .int .i64 lo, .int .i64 hi] w fun e w' => e = .returned (.bool (decide (lo ≤ v ∧ v ≤ hi))) ∧ w = w' := by
  by_cases h1 : lo ≤ v
  · by_cases h2 : v ≤ hi
    · go_enter Try.func48, Try.ntmps48
      go_wp2
      go_ret
      exact ⟨by simp [h1, h2], rfl⟩
    · go_enter Try.func48, Try.ntmps48
      go_wp2
      go_ret
      exact ⟨by simp [h1, h2], rfl⟩
  · go_enter Try.func48, Try.ntmps48
    go_wp2
    go_ret
    exact ⟨by simp [show ¬ lo ≤ v by omega], rfl⟩
set_option maxHeartbeats 1000000 in
theorem has_any (s p : Nat) (hs : s < 65536) (hp : p < 16) : Calls Try.prog 49 #[.int .u64 (s : Int), .int .i64 (p : Int)] w fun e w' => e = .returned (.bool (s.testBit p)) ∧ w = w' := by
  have HV : Hid ((bits .and .u64 ((s : Int) / 2 ^ p) 1 == 1) = s.testBit p) := has_val s p hs
  go_enter Try.func49, Try.ntmps49
  go_wp2
  go_ret
  exact ⟨by simp [HV.out], rfl⟩
set_option maxHeartbeats 1000000 in
theorem with_any (s p : Nat) (hs : s < 65536) (hp : p < 16) : Calls Try.prog 62 #[.int .u64 (s : Int), .int .i64 (p : Int)] w fun e w' => e = .returned (.int .u64 ((s ||| 2 ^ p : Nat) : Int)) ∧ w = w' := by
  have HV : Hid (bits .or .u64 (s : Int) (IntKind.u64.wrap (2 ^ p)) = ((s ||| 2 ^ p : Nat) : Int)) := with_val s p hs hp
  go_enter Try.func62, Try.ntmps62
  go_wp2
  go_ret
  exact ⟨by simp [HV.out], rfl⟩
structure Bal (w : World) (b : Nat) (v : List Nat) : Prop where
  c0 : w.cell? ⟨b, 0, none⟩ = some (.int .i64 (v.length : Int))
  cv : ∀ i, i < 16 → w.cell? ⟨b, 1 + i, none⟩ = some (.int .i64 (v.getD i 0 : Int))
  c17 : w.cell? ⟨b, 17, none⟩ = some (.int .i64 (T v : Int))
  c18 : w.cell? ⟨b, 18, none⟩ = some (.int .i64 (F v : Int))
theorem Bal.still {b : Nat} {v : List Nat} (h : Bal w b v) (hb : Below w.heap.size w w') : Bal w' b v :=
  ⟨below_at hb h.c0, fun i hi => below_at hb (h.cv i hi), below_at hb h.c17, below_at hb h.c18⟩
set_option maxHeartbeats 1000000 in
theorem sets_any {b : Nat} {v : List Nat} (h : Bal w b v) (ho : v.length ≤ 16) : Calls Try.prog 34 #[.pointer (some ⟨b, 0, none⟩)] w fun e w' => e = .returned (.int .u64 ((2 ^ v.length : Nat) : Int)) ∧ w = w' := by
  have c0 := h.c0
  have HV : Hid (IntKind.u64.wrap (2 ^ v.length) = ((2 ^ v.length : Nat) : Int)) := shl_val _ ho
  clear h
  go_enter Try.func34, Try.ntmps34
  go_wp2
  go_ret
  exact ⟨by simp [HV.out], rfl⟩
set_option maxHeartbeats 1000000 in
theorem weight_any {b : Nat} {v : List Nat} (h : Bal w b v) (ho : Ok v) (s : Nat) (hs : s < 65536) : Calls Try.prog 75 #[.pointer (some ⟨b, 0, none⟩), .int .u64 (s : Int)] w fun e w' => e = .returned (.int .i64 (W v s : Int)) ∧ w = w' := by
  have c0 := h.c0
  have HC : Hid (∀ i, i < 16 → w.cell? ⟨b, 1 + i, none⟩ = some (.int .i64 (v.getD i 0 : Int))) := h.cv
  have HO : Hid (Ok v) := ho
  have h16 := ho.1
  clear h ho
  go_enter Try.func75, Try.ntmps75
  go_wp2
  go_loop [5, 11] (fun x i => ∃ (k t : Nat), k ≤ v.length ∧ i = .int .i64 (k : Int) ∧ x = .int .i64 (t : Int) ∧ t ≤ 144 ∧ Hid (t = wt v s k)) (fun _ i => v.length - (intOf i).toNat)
  case atStart => exact ⟨0, 0, Nat.zero_le _, rfl, rfl, by decide, rfl⟩
  case round =>
    obtain ⟨k, t, hk, rfl, rfl, ht, HT⟩ := hrel
    by_cases hlt : k < v.length
    · have hc := HC.out k (by omega)
      have hn := wt_le_sm v s (k + 1)
      have hm := sm_le_nine HO.out.2.1 (k + 1)
      have hn2 : wt v s (k + 1) ≤ 144 := by omega
      have HS : Hid (wt v s (k + 1) = t + if s.testBit k then v.getD k 0 else 0) := (show _ = _ from by rw [HT.out]; rfl)
      have HB := fun w => has_any (w := w) s k hs (by omega)
      cases hb : s.testBit k with
      | true =>
        rw [hb] at HS HB
        simp only [if_true] at HS
        obtain ⟨y, hy⟩ : ∃ y, y = v.getD k 0 := ⟨_, rfl⟩
        rw [← hy] at hc HS
        have hyl : t + y ≤ 144 := by rw [← HS.out]; exact hn2
        have HS2 : Hid (t + y = wt v s (k + 1)) := HS.out.symm
        have HB2 : Hid (∀ w, Calls Try.prog 49 #[.int .u64 (s : Int), .int .i64 (k : Int)] w fun e w' => e = .returned (.bool true) ∧ w = w') := HB
        clear HS hy hn hm hn2 hb HB
        go_wp2_with (first
          | (go_at_call 49; refine (HB2.out _).mono ?_; rintro e w' ⟨rfl, rfl⟩)
          | fail)
        go_round
        case rel => exact ⟨k + 1, t + y, by omega, by go_num, by go_num, by omega, HS2⟩
        case measure => simp [intOf]; omega
      | false =>
        rw [hb] at HS HB
        simp only [Bool.false_eq_true, if_false, Nat.add_zero] at HS
        have HS2 : Hid (t = wt v s (k + 1)) := HS.out.symm
        have HB2 : Hid (∀ w, Calls Try.prog 49 #[.int .u64 (s : Int), .int .i64 (k : Int)] w fun e w' => e = .returned (.bool false) ∧ w = w') := HB
        clear HS hn hm hn2 hb hc HB
        go_wp2_with (first
          | (go_at_call 49; refine (HB2.out _).mono ?_; rintro e w' ⟨rfl, rfl⟩)
          | fail)
        go_round
        case rel => exact ⟨k + 1, t, by omega, by go_num, rfl, by omega, HS2⟩
        case measure => simp [intOf]; omega
    · obtain rfl : k = v.length := by omega
      have HF : Hid ((t : Int) = (W v s : Int)) := (show _ = _ from by rw [HT.out]; rfl)
      go_wp2
      go_ret
      exact ⟨ret_int HF.out, rfl⟩
theorem W_le {v : List Nat} (ho : Ok v) (s : Nat) : W v s ≤ 144 := by
  have h1 := wt_le_sm v s v.length
  have h2 := sm_le_nine ho.2.1 v.length
  have := ho.1
  unfold W
  omega
theorem T_le {v : List Nat} (ho : Ok v) : T v ≤ 144 := by
  have h2 := sm_le_nine ho.2.1 v.length
  have := ho.1
  unfold T
  omega
theorem F_lt {v : List Nat} (ho : Ok v) : F v < v.length := (fs_spec v v.length ho.2.2).1
def shr (v : List Nat) (s : Nat) : Int := if T v < 2 * W v s then 2 else if 2 * W v s = T v then 1 else 0
set_option maxHeartbeats 1000000 in
theorem share_any {b : Nat} {v : List Nat} (h : Bal w b v) (ho : Ok v) (s : Nat) (hs : s < 65536) : Calls Try.prog 57 #[.pointer (some ⟨b, 0, none⟩), .int .u64 (s : Int)] w fun e w' => e = .returned (.int .i64 (shr v s)) ∧ w = w' := by
  have c17 := h.c17
  have hW := W_le ho s
  have hT := T_le ho
  have HW : Hid (Calls Try.prog 75 #[.pointer (some ⟨b, 0, none⟩), .int .u64 (s : Int)] w fun e w' => e = .returned (.int .i64 (W v s : Int)) ∧ w = w') := weight_any h ho s hs
  unfold shr
  generalize W v s = x at *
  generalize T v = t at *
  clear h ho
  by_cases h1 : t < 2 * x
  · have e : (if t < 2 * x then (2 : Int) else if 2 * x = t then 1 else 0) = 2 := by simp [h1]
    rw [e]
    have h1' : (t : Int) < 2 * (x : Int) := by omega
    clear e h1
    go_enter Try.func57, Try.ntmps57
    go_wp2_with (first
      | (go_at_call 75; refine HW.out.mono ?_; rintro e w' ⟨rfl, rfl⟩)
      | fail)
    go_ret
    exact ⟨rfl, rfl⟩
  · by_cases h2 : 2 * x = t
    · have e : (if t < 2 * x then (2 : Int) else if 2 * x = t then 1 else 0) = 1 := by simp [h1, h2]
      rw [e]
      subst h2
      clear e h1
      go_enter Try.func57, Try.ntmps57
      go_wp2_with (first
        | (go_at_call 75; refine HW.out.mono ?_; rintro e w' ⟨rfl, rfl⟩)
        | fail)
      go_ret
      exact ⟨rfl, rfl⟩
    · have e : (if t < 2 * x then (2 : Int) else if 2 * x = t then 1 else 0) = 0 := by simp [h1, h2]
      rw [e]
      have h1' : ¬ (t : Int) < 2 * (x : Int) := by omega
      have h2' : (2 * (x : Int) == (t : Int)) = false := by rw [beq_eq_false_iff_ne]; omega
      clear e h1 h2
      go_enter Try.func57, Try.ntmps57
      go_wp2_with (first
        | (go_at_call 75; refine HW.out.mono ?_; rintro e w' ⟨rfl, rfl⟩)
        | fail)
      go_ret
      exact ⟨rfl, rfl⟩
set_option maxHeartbeats 1000000 in
theorem quo_any {b : Nat} {v : List Nat} (h : Bal w b v) (ho : Ok v) (s : Nat) (hs : s < 65536) : Calls Try.prog 41 #[.pointer (some ⟨b, 0, none⟩), .int .u64 (s : Int)] w fun e w' => e = .returned (.bool (wins v s)) ∧ w = w' := by
  have c18 := h.c18
  have hF := F_lt ho
  have h16 := ho.1
  have HS : Calls Try.prog 57 #[.pointer (some ⟨b, 0, none⟩), .int .u64 (s : Int)] w fun e w' => e = .returned (.int .i64 (shr v s)) ∧ w = w' := share_any h ho s hs
  have HB : Hid (∀ w, Calls Try.prog 49 #[.int .u64 (s : Int), .int .i64 (F v : Int)] w fun e w' => e = .returned (.bool (s.testBit (F v))) ∧ w = w') := fun w => has_any s (F v) hs (by omega)
  have hw : wins v s = if shr v s = 2 then true else if shr v s = 1 then s.testBit (F v) else false := by
    unfold wins shr
    by_cases h1 : T v < 2 * W v s
    · simp [h1]
    · by_cases h2 : 2 * W v s = T v
      · simp [h1, h2]
      · simp [h1, h2]
  have hs3 : shr v s = 2 ∨ shr v s = 1 ∨ shr v s = 0 := by
    unfold shr
    split
    · simp
    · split <;> simp
  rw [hw]
  clear hw h
  generalize F v = f at *
  rcases hs3 with h1 | h1 | h1
  · rw [h1] at HS ⊢
    have HS2 : Hid (Calls Try.prog 57 #[.pointer (some ⟨b, 0, none⟩), .int .u64 (s : Int)] w fun e w' => e = .returned (.int .i64 2) ∧ w = w') := HS
    clear HS h1
    go_enter Try.func41, Try.ntmps41
    go_wp2_with (first
      | (go_at_call 57; refine HS2.out.mono ?_; rintro e w' ⟨rfl, rfl⟩)
      | fail)
    go_ret
    exact ⟨by simp, rfl⟩
  · rw [h1] at HS ⊢
    have HS2 : Hid (Calls Try.prog 57 #[.pointer (some ⟨b, 0, none⟩), .int .u64 (s : Int)] w fun e w' => e = .returned (.int .i64 1) ∧ w = w') := HS
    clear HS h1
    go_enter Try.func41, Try.ntmps41
    go_wp2_with (first
      | (go_at_call 57; refine HS2.out.mono ?_; rintro e w' ⟨rfl, rfl⟩)
      | (go_at_call 49; refine (HB.out _).mono ?_; rintro e w' ⟨rfl, rfl⟩)
      | fail)
    go_ret
    exact ⟨by simp, rfl⟩
  · rw [h1] at HS ⊢
    have HS2 : Hid (Calls Try.prog 57 #[.pointer (some ⟨b, 0, none⟩), .int .u64 (s : Int)] w fun e w' => e = .returned (.int .i64 0) ∧ w = w') := HS
    clear HS h1
    go_enter Try.func41, Try.ntmps41
    go_wp2_with (first
      | (go_at_call 57; refine HS2.out.mono ?_; rintro e w' ⟨rfl, rfl⟩)
      | fail)
    go_ret
    exact ⟨by simp, rfl⟩
end
end Go.Proofs.Ytapenemfnngniaa.Qm
