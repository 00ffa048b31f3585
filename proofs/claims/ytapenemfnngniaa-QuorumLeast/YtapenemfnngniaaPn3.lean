import Derived.Test.YtapenemfnngniaaPm3
import Derived.Test.YtapenemfnngniaaPr
namespace Go.Proofs.Ytapenemfnngniaa.Qm
open Go.RowKit Mb
set_option linter.unusedVariables false
set_option maxRecDepth 100000
set_option linter.unusedSimpArgs false
theorem wo_add {s p : Nat} (hs : s < 65536) (hp : p < 16) (hb : s.testBit p = true) : wo s p + 2 ^ p = s := by
  have h2 : 2 ^ p < 65536 := by have := Nat.pow_lt_pow_right (a := 2) (by decide) hp; omega
  have hw : wo s p < 65536 := Nat.lt_of_le_of_lt Nat.and_le_left hs
  have h1 := BitVec.add_eq_or_of_and_eq_zero (BitVec.ofNat 64 (wo s p)) (BitVec.ofNat 64 (2 ^ p)) (by
    apply BitVec.eq_of_toNat_eq
    rw [BitVec.toNat_and, BitVec.toNat_ofNat, BitVec.toNat_ofNat, Nat.mod_eq_of_lt (by omega), Nat.mod_eq_of_lt (by omega)]
    apply Nat.eq_of_testBit_eq
    intro i
    rw [Nat.testBit_and, wo_bit s p i hp, Nat.testBit_two_pow]
    by_cases e : p = i <;> simp [e])
  have h3 := congrArg BitVec.toNat h1
  rw [BitVec.toNat_add, BitVec.toNat_or, BitVec.toNat_ofNat, BitVec.toNat_ofNat, Nat.mod_eq_of_lt (show wo s p < 2 ^ 64 by omega), Nat.mod_eq_of_lt (show 2 ^ p < 2 ^ 64 by omega), Nat.mod_eq_of_lt (by omega)] at h3
  rw [h3]
  apply Nat.eq_of_testBit_eq
  intro i
  rw [Nat.testBit_or, wo_bit s p i hp, Nat.testBit_two_pow]
  by_cases e : p = i
  · subst e; simp [hb]
  · cases hi : s.testBit i with
    | false => simp [e]
    | true =>
      have : i < 64 := by
        apply Classical.byContradiction
        intro h
        rw [Nat.testBit_lt_two_pow (Nat.lt_of_lt_of_le hs (by have := Nat.pow_le_pow_right (n := 2) (by decide) (show 16 ≤ i by omega); omega))] at hi
        cases hi
      simp [this, e]
section
variable {w w' W : World} {B : Nat}
set_option maxHeartbeats 2000000 in
theorem rmin_any {ao : Option Addr} {n c : Nat} {xs : List Int} (hr : RdI w ao n c xs) (hok : okI xs = true) (s : Nat) (hs : s < 65536) : Calls Try.prog 55 #[.slice ao n c, .int .i64 (s : Int)] w fun e w' => e = .returned (.bool (mn (nv xs) s)) ∧ w = w' := by
  have HQ : Hid (∀ t : Nat, t < 65536 → Calls Try.prog 42 #[.slice ao n c, .int .i64 (t : Int)] w fun e w' => e = .returned (.bool (wins (nv xs) t)) ∧ w = w') := fun t ht => rwins_any hr hok t ht
  have HO : Ok (nv xs) := okI_ok hok
  have hl : (nv xs).length = n := by rw [nv_len, hr.len]
  have h16 : n ≤ 16 := by rw [← hl]; exact HO.1
  generalize nv xs = v at *
  have HH : Hid (∀ p : Nat, p < 16 → Calls Try.prog 59 #[.int .i64 (s : Int), .int .i64 (p : Int)] w fun e w' => e = .returned (.bool (s.testBit p)) ∧ w = w') := fun p hp => in_any s p hs (by omega)
  have Hl : Hid (v.length = n) := hl
  clear hr hok HO hl
  cases hw : wins v s with
  | false =>
    have HM : Hid (mn v s = false) := by show _ = _; unfold mn; rw [hw]; rfl
    have HQs := HQ.out s hs
    rw [hw] at HQs
    go_enter Try.func55, Try.ntmps55
    go_wp2_with (fail)
    refine HQs.mono ?_
    rintro e w2 ⟨rfl, rfl⟩
    go_wp2
    go_ret
    exact ⟨(by rw [HM.out]; rfl), rfl⟩
  | true =>
    have HM : Hid (mn v s = (List.range v.length).all (fun p => !(s.testBit p && wins v (wo s p)))) := by show _ = _; unfold mn; rw [hw]; rfl
    have HQs := HQ.out s hs
    rw [hw] at HQs
    go_enter Try.func55, Try.ntmps55
    go_wp2_with (fail)
    refine HQs.mono ?_
    rintro e w2 ⟨rfl, rfl⟩
    go_wp2_with (fail)
    go_loopw [5] (fun i wr => ∃ k : Nat, k ≤ n ∧ i = .int .i64 (k : Int) ∧ Hid (∀ q, q < k → (s.testBit q && wins v (wo s q)) = false) ∧ w = wr) (fun i _ => n - (intOf i).toNat)
    case atStart => exact ⟨0, Nat.zero_le _, rfl, fun q hq => absurd hq (by omega), rfl⟩
    case round =>
      obtain ⟨k, hk, rfl, HI, rfl⟩ := hrel
      by_cases hlt : k < n
      · have i2 : (k : Int) < (n : Int) := by omega
        have i1 : (0 : Int) ≤ (k : Int) := Int.natCast_nonneg _
        have HHk := HH.out k (by omega)
        cases hb : s.testBit k with
        | false =>
          rw [hb] at HHk
          have HN : Hid (∀ q, q < k + 1 → (s.testBit q && wins v (wo s q)) = false) := fun q hq => by
            by_cases e : q = k
            · subst e; rw [hb]; rfl
            · exact HI.out q (by omega)
          go_wp2_with (fail)
          refine HHk.mono ?_
          rintro e w2 ⟨rfl, rfl⟩
          go_wp2_with (fail)
          exact ⟨⟨k + 1, by omega, by go_num, HN.out, (by trivial)⟩, by simp [intOf]; omega⟩
        | true =>
          rw [hb] at HHk
          have ha := wo_add hs (show k < 16 by omega) hb
          have hlw : wo s k < 65536 := Nat.lt_of_le_of_lt Nat.and_le_left hs
          have HQk := HQ.out (wo s k) hlw
          have h2p := two_pow_le k (by omega)
          have hpw := pow_val k (by omega)
          cases hw2 : wins v (wo s k) with
          | false =>
            rw [hw2] at HQk
            have HN : Hid (∀ q, q < k + 1 → (s.testBit q && wins v (wo s q)) = false) := fun q hq => by
              by_cases e : q = k
              · subst e; rw [hb, hw2]; rfl
              · exact HI.out q (by omega)
            clear hw2
            generalize hy : wo s k = y at *
            clear hy
            generalize hz : 2 ^ k = z at *
            clear hz
            have hsz : (s : Int) - (z : Int) = (y : Int) := by omega
            go_wp2_with (fail)
            refine HHk.mono ?_
            rintro e w2 ⟨rfl, rfl⟩
            go_wp2_with (fail)
            (try rw [hsz])
            refine HQk.mono ?_
            rintro e w2 ⟨rfl, rfl⟩
            go_wp2_with (fail)
            exact ⟨⟨k + 1, by omega, by go_num, HN.out, (by trivial)⟩, by simp [intOf]; omega⟩
          | true =>
            rw [hw2] at HQk
            have HF : Hid (mn v s = false) := by
              show _ = _
              rw [HM.out]
              exact List.all_eq_false.2 ⟨k, List.mem_range.2 (by rw [Hl.out]; exact hlt), by rw [hb, hw2]; simp⟩
            clear hw2
            generalize hy : wo s k = y at *
            clear hy
            generalize hz : 2 ^ k = z at *
            clear hz
            have hsz : (s : Int) - (z : Int) = (y : Int) := by omega
            go_wp2_with (fail)
            refine HHk.mono ?_
            rintro e w2 ⟨rfl, rfl⟩
            go_wp2_with (fail)
            (try rw [hsz])
            refine HQk.mono ?_
            rintro e w2 ⟨rfl, rfl⟩
            go_wp2
            go_ret
            exact ⟨(by rw [HF.out]; rfl), (by trivial)⟩
      · have i2 : ¬ (k : Int) < (n : Int) := by omega
        have HT : Hid (mn v s = true) := by
          show _ = _
          rw [HM.out]
          exact List.all_eq_true.2 fun q hq => by rw [HI.out q (by have := List.mem_range.1 hq; have := Hl.out; omega)]; rfl
        go_wp2
        go_ret
        exact ⟨(by rw [HT.out]; rfl), (by trivial)⟩
set_option maxHeartbeats 2000000 in
theorem rnodes_any (s n : Nat) (hn : n ≤ 16) (hs : s < 2 ^ n) : Calls Try.prog 56 #[.int .i64 (s : Int)] w fun e w' => ∃ v, e = .returned v ∧ w'.ownsRow w.heap.size 3 1 v (listN s n).length (ints (zi (listN s n))) ∧ Below w.heap.size w w' := by
  have h2 := two_pow_le n hn
  have hs16 : s < 65536 := by omega
  have HHs : Hid (∀ (V : World) (p : Nat), p < 16 → Calls Try.prog 59 #[.int .i64 (s : Int), .int .i64 (p : Int)] V fun e w' => e = .returned (.bool (s.testBit p)) ∧ V = w') := fun V p hp => in_any s p hs16 (by omega)
  have HFin : Hid (listN s 16 = listN s n) := listN_of hs hn
  clear hs h2 hn
  go_enter Try.func56, Try.ntmps56
  go_wp2_with (fail)
  go_loopw [3, 4] (fun a i wr => ∃ k : Nat, k ≤ 16 ∧ i = .int .i64 (k : Int) ∧ Hid (wr.ownsRow w.heap.size 3 1 a (listN s k).length (ints (zi (listN s k))) ∧ Below w.heap.size w wr)) (fun _ i _ => 16 - (intOf i).toNat)
  case atStart => exact ⟨0, Nat.zero_le _, rfl, ⟨rfl, .inl ⟨rfl, rfl⟩⟩, Below.refl _ _⟩
  case round =>
    obtain ⟨k, hk, rfl, HI⟩ := hrel
    by_cases hlt : k < 16
    · have i2 : (k : Int) < 16 := by omega
      have hle := listN_len s k
      have HHk := HHs.out wr k (by omega)
      cases hbt : s.testBit k with
      | true =>
        rw [hbt] at HHk
        have HL : Hid (listN s (k + 1) = listN s k ++ [k]) := (show _ = _ from by simp [listN, hbt])
        generalize listN s k = L at *
        go_wp2_with (fail)
        refine HHk.mono ?_
        rintro e w2 ⟨rfl, rfl⟩
        go_wp2_with (first
          | (at_builtin; refine app_i (w0 := w) rfl _ _ rfl _ L.length (zi L) rfl (HI.out.1.alloc _) (balloc HI.out.2) _ 1 1 [(k : Int)] rfl (Rw.rd (blk_one _) rfl (Nat.le_refl _)) (by omega) ?_; intro a2 w2 HO2 HB2)
          | fail)
        refine ⟨⟨k + 1, by omega, by go_num, ?_⟩, by simp [intOf]; omega⟩
        have h1 := HO2.out
        have h2 := HB2.out
        rw [HL.out]
        refine ⟨?_, h2⟩
        rw [zi_snoc, List.length_append]
        exact h1
      | false =>
        rw [hbt] at HHk
        have HL : Hid (listN s (k + 1) = listN s k) := (show _ = _ from by simp [listN, hbt])
        generalize listN s k = L at *
        go_wp2_with (fail)
        refine HHk.mono ?_
        rintro e w2 ⟨rfl, rfl⟩
        go_wp2_with (fail)
        refine ⟨⟨k + 1, by omega, by go_num, ?_⟩, by simp [intOf]; omega⟩
        rw [HL.out]
        exact HI
    · have i2 : ¬ (k : Int) < 16 := by omega
      obtain rfl : k = 16 := by omega
      go_wp2
      go_ret
      exact ⟨_, rfl, by rw [← HFin.out]; exact HI.out.1, HI.out.2⟩
end
end Go.Proofs.Ytapenemfnngniaa.Qm
