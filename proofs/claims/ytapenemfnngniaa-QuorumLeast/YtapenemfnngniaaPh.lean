import Derived.Test.YtapenemfnngniaaPg
namespace Go.Proofs.Ytapenemfnngniaa.Qm
open Go.RowKit Mb
set_option linter.unusedVariables false
set_option maxRecDepth 100000
set_option linter.unusedSimpArgs false
section
variable {w w' W : World} {B : Nat}
def okP (n s : Nat) (p : Int) : Bool := decide ((Lib.bitLen s : Int) ≤ p ∧ p ≤ (n : Int) - 1)
def setP (n : Nat) : Nat → List Int → Option Nat
  | s, [] => some s
  | s, p :: r => if okP n s p then setP n (s ||| 2 ^ p.toNat) r else none
theorem setP_app (n : Nat) : ∀ (xs : List Int) (s : Nat) (ys : List Int), setP n s (xs ++ ys) = (setP n s xs).bind fun t => setP n t ys
  | [], s, ys => rfl
  | p :: r, s, ys => by
      simp only [List.cons_append, setP]
      split
      · exact setP_app n r _ ys
      · rfl
theorem setP_lt (n : Nat) (hn : n ≤ 16) : ∀ (xs : List Int) (s t : Nat), s < 2 ^ n → setP n s xs = some t → t < 2 ^ n
  | [], s, t, hs, h => by simp only [setP, Option.some.injEq] at h; omega
  | p :: r, s, t, hs, h => by
      simp only [setP] at h
      split at h
      · rename_i hp
        have hp := of_decide_eq_true hp
        refine setP_lt n hn r _ t ?_ h
        exact Nat.or_lt_two_pow hs (Nat.pow_lt_pow_right (by decide) (by omega))
      · cases h
def listN (s : Nat) : Nat → List Nat
  | 0 => []
  | k + 1 => if s.testBit k then listN s k ++ [k] else listN s k
theorem or_add {s p : Nat} (h : s < 2 ^ p) : s ||| 2 ^ p = s + 2 ^ p := by
  have := Nat.two_pow_add_eq_or_of_lt h 1
  rw [Nat.mul_one] at this
  rw [Nat.or_comm, Nat.add_comm]
  exact this.symm
theorem listN_len (s : Nat) : ∀ k, (listN s k).length ≤ k
  | 0 => Nat.le_refl _
  | k + 1 => by
      have := listN_len s k
      simp only [listN]
      split <;> simp <;> omega
theorem setP_list (n s : Nat) (hn : n ≤ 16) : ∀ k, k ≤ n → setP n 0 (zi (listN s k)) = some (s % 2 ^ k)
  | 0, _ => by simp [listN, zi, setP, Nat.mod_one]
  | k + 1, hk => by
      have ih := setP_list n s hn k (by omega)
      have hm : s % 2 ^ (k + 1) = s % 2 ^ k + 2 ^ k * (s.testBit k).toNat := by
        rw [Nat.pow_succ, Nat.mod_mul, Nat.testBit_eq_decide_div_mod_eq]
        have := Nat.mod_two_eq_zero_or_one (s / 2 ^ k)
        rcases this with h | h <;> simp [h]
      have hl : s % 2 ^ k < 2 ^ k := Nat.mod_lt _ (Nat.two_pow_pos k)
      simp only [listN]
      split
      · rename_i hb
        rw [zi_snoc, setP_app, ih]
        simp only [Option.bind_some, setP]
        have h1 := len_le (k := k) (by omega) hl
        have : okP n (s % 2 ^ k) (k : Int) = true := by
          unfold okP
          rw [decide_eq_true_eq]
          omega
        rw [this, if_pos rfl, hm, hb, Int.toNat_natCast, or_add hl]
        simp
      · rename_i hb
        rw [ih, hm]
        simp [hb]
theorem setP_of {n s : Nat} (hn : n ≤ 16) (hs : s < 2 ^ n) : setP n 0 (zi (listN s n)) = some s := by
  rw [setP_list n s hn n (Nat.le_refl _), Nat.mod_eq_of_lt hs]
set_option maxHeartbeats 2000000 in
theorem setOf_any {ao : Option Addr} {m c : Nat} {xs : List Int} (hr : RdI w ao m c xs) (hm : m ≤ 17592186044416) (n : Nat) (hn : n ≤ 16) : Calls Try.prog 45 #[.slice ao m c, .int .i64 (n : Int)] w fun e w' => (∃ s, setP n 0 xs = some s ∧ e = .returned (.tuple #[.int .u64 (s : Int), .bool true]) ∨ setP n 0 xs = none ∧ e = .returned (.tuple #[.int .u64 0, .bool false])) ∧ w = w' := by
  have HR : Hid (RdI w ao m c xs) := hr
  have Hl : Hid (xs.length = m) := hr.len
  clear hr
  go_enter Try.func45, Try.ntmps45
  go_wp2
  go_loop [6, 11] (fun x i => ∃ (k s : Nat), k ≤ m ∧ i = .int .i64 (k : Int) ∧ x = .int .u64 (s : Int) ∧ s < 65536 ∧ Hid (setP n s (xs.drop k) = setP n 0 xs)) (fun _ i => m - (intOf i).toNat)
  case atStart => exact ⟨0, 0, Nat.zero_le _, rfl, rfl, by decide, rfl⟩
  case round =>
    obtain ⟨k, s, hk, rfl, rfl, hs, HT⟩ := hrel
    by_cases hlt : k < m
    · obtain ⟨g, o, hg, hc⟩ := HR.out.at hlt
      have hd : xs.drop k = xs.getD k 0 :: xs.drop (k + 1) := by
        have hkx : k < xs.length := by have := Hl.out; omega
        rw [List.drop_eq_getElem_cons hkx]
        simp [List.getD, hkx]
      have HT2 : setP n s (xs.getD k 0 :: xs.drop (k + 1)) = setP n 0 xs := by rw [← hd]; exact HT.out
      have HE : Hid (∀ w, Calls Try.prog 51 #[.int .u64 (s : Int)] w fun e w' => e = .returned (.int .i64 (Lib.bitLen s)) ∧ w = w') := fun w => end_any s hs
      have HW : ∀ w, Calls Try.prog 48 #[.int .i64 (xs.getD k 0), .int .i64 (Lib.bitLen s : Int), .int .i64 ((n : Int) - 1)] w fun e w' => e = .returned (.bool (okP n s (xs.getD k 0))) ∧ w = w' := fun w => within_any _ _ _
      have i1 : (0 : Int) ≤ (k : Int) := Int.natCast_nonneg _
      have i2 : (k : Int) < (m : Int) := by omega
      rw [hg]
      simp only [setP] at HT2
      have hok : okP n s (xs.getD k 0) = true → (Lib.bitLen s : Int) ≤ xs.getD k 0 ∧ xs.getD k 0 ≤ (n : Int) - 1 := fun h => of_decide_eq_true h
      generalize xs.getD k 0 = x at *
      have hbl : Lib.bitLen s ≤ 16 := len_le (k := 16) (by omega) hs
      generalize Lib.bitLen s = bl at *
      clear hg hd HT
      cases hx : okP n s x with
      | true =>
        rw [hx] at HW HT2
        have hx2 := hok hx
        have HW2 : Hid (∀ w, Calls Try.prog 48 #[.int .i64 x, .int .i64 (bl : Int), .int .i64 ((n : Int) - 1)] w fun e w' => e = .returned (.bool true) ∧ w = w') := HW
        rw [if_pos rfl] at HT2
        obtain ⟨p, rfl⟩ := Int.eq_ofNat_of_zero_le (show 0 ≤ x by omega)
        have hp : p < 16 := by omega
        have HWI : Hid (∀ w, Calls Try.prog 62 #[.int .u64 (s : Int), .int .i64 (p : Int)] w fun e w' => e = .returned (.int .u64 ((s ||| 2 ^ p : Nat) : Int)) ∧ w = w') := fun w => with_any s p hs hp
        have hs2 := with_lt hs hp
        rw [Int.toNat_natCast] at HT2
        have HT3 : Hid (setP n (s ||| 2 ^ p) (xs.drop (k + 1)) = setP n 0 xs) := HT2
        generalize s ||| 2 ^ p = s2 at *
        clear HW HT2 hok hx hx2
        go_wp2_with (first
          | (go_at_call 51; refine (HE.out _).mono ?_; rintro e w' ⟨rfl, rfl⟩)
          | (go_at_call 48; refine (HW2.out _).mono ?_; rintro e w' ⟨rfl, rfl⟩)
          | (go_at_call 62; refine (HWI.out _).mono ?_; rintro e w' ⟨rfl, rfl⟩)
          | fail)
        go_round
        case rel => exact ⟨k + 1, s2, by omega, by go_num, rfl, hs2, HT3⟩
        case measure => simp [intOf]; omega
      | false =>
        rw [hx] at HW HT2
        have HW2 : Hid (∀ w, Calls Try.prog 48 #[.int .i64 x, .int .i64 (bl : Int), .int .i64 ((n : Int) - 1)] w fun e w' => e = .returned (.bool false) ∧ w = w') := HW
        have HT3 : Hid (setP n 0 xs = none) := (show _ = _ from by rw [← HT2]; simp)
        clear HW HT2 hok hx
        go_wp2_with (first
          | (go_at_call 51; refine (HE.out _).mono ?_; rintro e w' ⟨rfl, rfl⟩)
          | (go_at_call 48; refine (HW2.out _).mono ?_; rintro e w' ⟨rfl, rfl⟩)
          | fail)
        (try simp only [Exit.inBlock, Exit.then])
        refine bodyPost_ret (results_tmp2 rfl _ _ _) rfl ?_
        exact ⟨⟨0, .inr ⟨HT3.out, rfl⟩⟩, rfl⟩
    · obtain rfl : k = m := by omega
      have HF : Hid (setP n 0 xs = some s) := (show _ = _ from by
        have := HT.out
        rw [List.drop_of_length_le (by have := Hl.out; omega)] at this
        rw [← this]
        rfl)
      go_wp2
      (try simp only [Exit.inBlock, Exit.then])
      refine bodyPost_ret (results_tmp2 rfl _ _ _) rfl ?_
      exact ⟨⟨s, .inl ⟨HF.out, rfl⟩⟩, rfl⟩
def quoE (xs ys : List Int) : Int := if okI xs then (match setP xs.length 0 ys with | some _ => 0 | none => 1) else 110
def quoB (xs ys : List Int) : Bool := if okI xs then (match setP xs.length 0 ys with | some s => wins (nv xs) s | none => false) else false
set_option maxHeartbeats 2000000 in
theorem quo_no {ao bo : Option Addr} {n c m d : Nat} {xs ys : List Int} (hr : RdI w ao n c xs) (hok : okI xs = false) : Calls Try.prog 23 #[.slice ao n c, .slice bo m d] w fun e w' => e = .returned (.tuple #[.bool false, .int .i64 110]) ∧ Below w.heap.size w w' := by
  have HC := counted_any hr
  rw [hok] at HC
  have HC2 : Hid (Calls Try.prog 33 #[.slice ao n c] w fun e w' => ∃ r, e = .returned (.tuple #[.agg (ints r).toArray, .bool false]) ∧ r.length = 19 ∧ Below w.heap.size w w') := HC.mono fun e w' ⟨r, e1, e2, e3, e4⟩ => ⟨r, e1, e2, e4⟩
  clear HC
  go_enter Try.func23, Try.ntmps23
  go_wp2_with (first
    | (go_at_call 33; refine HC2.out.mono ?_; rintro e w1 ⟨r, rfl, hrl, hb1⟩; obtain ⟨A1, V, hA1, HA1, hV, HV, HBV⟩ := newbal w1 (r) (hrl))
    | (refine store_mid 72 (.tmp 6) (.tmp 12) (xs := r) HA1.out (info_bl (hrl)) rfl rfl rfl rfl ?_; rw [hV]; have HBW : Hid (Below w.heap.size w V) := bstep hb1 HBV.out; generalize w1.heap.size = gb at *; clear hV HA1 hA1 hb1 HV HBV)
    | fail)
  (try simp only [Exit.inBlock, Exit.then])
  refine bodyPost_ret (results_tmp2 rfl _ _ _) rfl ?_
  exact ⟨rfl, HBW.out⟩
set_option maxHeartbeats 2000000 in
theorem quo_yes {ao bo : Option Addr} {n c m d : Nat} {xs ys : List Int} (hr : RdI w ao n c xs) (hok : okI xs = true) (hr2 : RdI w bo m d ys) (hm : m ≤ 17592186044416) : Calls Try.prog 23 #[.slice ao n c, .slice bo m d] w fun e w' => (∃ s, setP n 0 ys = some s ∧ e = .returned (.tuple #[.bool (wins (nv xs) s), .int .i64 0]) ∨ setP n 0 ys = none ∧ e = .returned (.tuple #[.bool false, .int .i64 1])) ∧ Below w.heap.size w w' := by
  have ho := okI_ok hok
  have hl : (nv xs).length = n := by rw [nv_len, hr.len]
  have HC := counted_any hr
  rw [hok] at HC
  have HC2 : Hid (Calls Try.prog 33 #[.slice ao n c] w fun e w' => e = .returned (.tuple #[.agg (ints (bl (nv xs))).toArray, .bool true]) ∧ Below w.heap.size w w') := HC.mono fun e w' ⟨r, e1, e2, e3, e4⟩ => ⟨by rw [← e3 rfl]; exact e1, e4⟩
  have HOk : Hid (Ok (nv xs)) := ho
  have h16 : n ≤ 16 := by rw [← hl]; exact ho.1
  generalize nv xs = v at *
  clear HC ho hok hr
  have HR2 : Hid (RdI w bo m d ys) := hr2
  clear hr2
  subst hl
  have h2 := two_pow_le v.length h16
  have HLT : Hid (∀ t, setP v.length 0 ys = some t → t < 65536) := fun t ht => by
    have := setP_lt v.length h16 ys 0 t (Nat.two_pow_pos _) ht
    omega
  obtain ⟨o, ho⟩ : ∃ o, setP v.length 0 ys = o := ⟨_, rfl⟩
  have HSet : ∀ V, Below w.heap.size w V → Calls Try.prog 45 #[.slice bo m d, .int .i64 (v.length : Int)] V fun e w' => (∃ s, o = some s ∧ e = .returned (.tuple #[.int .u64 (s : Int), .bool true]) ∨ o = none ∧ e = .returned (.tuple #[.int .u64 0, .bool false])) ∧ V = w' := fun V hV => ho ▸ setOf_any (HR2.out.still hV) hm v.length h16
  rw [ho] at HLT ⊢
  clear ho
  cases o with
  | none =>
    have HS : Hid (∀ V, Below w.heap.size w V → Calls Try.prog 45 #[.slice bo m d, .int .i64 (v.length : Int)] V fun e w' => e = .returned (.tuple #[.int .u64 0, .bool false]) ∧ V = w') := fun V hV => (HSet V hV).mono fun e w' ⟨⟨s, h⟩, h2⟩ => ⟨h.elim (fun h => by cases h.1) (fun h => h.2), h2⟩
    clear HSet HLT
    go_enter Try.func23, Try.ntmps23
    go_wp2_with (first
      | (go_at_call 33; refine HC2.out.mono ?_; rintro e w1 ⟨rfl, hb1⟩; obtain ⟨A1, V, hA1, HA1, hV, HV, HBV⟩ := newbal w1 (bl v) (bl_len v))
      | (refine store_mid 72 (.tmp 6) (.tmp 12) (xs := bl v) HA1.out (info_bl (bl_len v)) rfl rfl rfl rfl ?_; rw [hV]; have HB : Hid (Bal V w1.heap.size v) := Rw.bal HV.out (by omega); have c0 := HB.out.c0; have HBW : Hid (Below w.heap.size w V) := bstep hb1 HBV.out; generalize w1.heap.size = gb at *; clear hV HA1 hA1 hb1 HV HBV)
      | (go_at_call 45; refine (HS.out _ HBW.out).mono ?_; rintro e w2 ⟨rfl, rfl⟩)
      | fail)
    (try simp only [Exit.inBlock, Exit.then])
    refine bodyPost_ret (results_tmp2 rfl _ _ _) rfl ?_
    exact ⟨⟨0, .inr ⟨by simp, rfl⟩⟩, HBW.out⟩
  | some s =>
    have hs := HLT.out s rfl
    have HS : Hid (∀ V, Below w.heap.size w V → Calls Try.prog 45 #[.slice bo m d, .int .i64 (v.length : Int)] V fun e w' => e = .returned (.tuple #[.int .u64 (s : Int), .bool true]) ∧ V = w') := fun V hV => (HSet V hV).mono fun e w' ⟨⟨s, h⟩, h2⟩ => ⟨h.elim (fun h => by rw [h.2]; simp only [Option.some.injEq] at h; rw [h.1]) (fun h => by cases h.1), h2⟩
    have HQ : Hid (∀ W b, Bal W b v → Calls Try.prog 41 #[.pointer (some ⟨b, 0, none⟩), .int .u64 (s : Int)] W fun e w' => e = .returned (.bool (wins v s)) ∧ W = w') := fun W b hB => quo_any hB HOk.out s hs
    clear HSet HLT
    go_enter Try.func23, Try.ntmps23
    go_wp2_with (first
      | (go_at_call 33; refine HC2.out.mono ?_; rintro e w1 ⟨rfl, hb1⟩; obtain ⟨A1, V, hA1, HA1, hV, HV, HBV⟩ := newbal w1 (bl v) (bl_len v))
      | (refine store_mid 72 (.tmp 6) (.tmp 12) (xs := bl v) HA1.out (info_bl (bl_len v)) rfl rfl rfl rfl ?_; rw [hV]; have HB : Hid (Bal V w1.heap.size v) := Rw.bal HV.out (by omega); have c0 := HB.out.c0; have HBW : Hid (Below w.heap.size w V) := bstep hb1 HBV.out; generalize w1.heap.size = gb at *; clear hV HA1 hA1 hb1 HV HBV)
      | (go_at_call 45; refine (HS.out _ HBW.out).mono ?_; rintro e w2 ⟨rfl, rfl⟩)
      | (go_at_call 41; refine (HQ.out _ _ HB.out).mono ?_; rintro e w2 ⟨rfl, rfl⟩)
      | fail)
    (try simp only [Exit.inBlock, Exit.then])
    refine bodyPost_ret (results_tmp2 rfl _ _ _) rfl ?_
    exact ⟨⟨s, .inl ⟨by simp, rfl⟩⟩, HBW.out⟩
end
end Go.Proofs.Ytapenemfnngniaa.Qm
