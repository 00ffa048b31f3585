import Derived.Test.YtapenemfnngniaaPi
import Derived.Test.YtapenemfnngniaaPm
import Derived.Test.YtapenemfnngniaaPp
namespace Go.Proofs.Ytapenemfnngniaa.Qm
open Go.RowKit Mb
set_option linter.unusedVariables false
set_option maxRecDepth 100000
set_option linter.unusedSimpArgs false
def wo (s p : Nat) : Nat := s &&& (2 ^ 64 - (2 ^ p + 1))
theorem wo_bit (s p i : Nat) (hp : p < 16) : (wo s p).testBit i = (s.testBit i && (decide (i < 64) && !decide (p = i))) := by
  unfold wo
  have h : 2 ^ p < 2 ^ 64 := Nat.pow_lt_pow_right (by decide) (by omega)
  rw [Nat.testBit_and, Nat.testBit_two_pow_sub_succ h, Nat.testBit_two_pow]
theorem wo_lt {s p n : Nat} (hp : p < 16) (hs : s < 2 ^ n) : wo s p < 2 ^ n := Nat.lt_of_le_of_lt Nat.and_le_left hs
theorem sub_bit {a b : Nat} (h : a ||| b = b) {i : Nat} (ha : a.testBit i = true) : b.testBit i = true := by
  rw [← h, Nat.testBit_or, ha]; rfl
theorem bit_sub {a b : Nat} (h : ∀ i, a.testBit i = true → b.testBit i = true) : a ||| b = b := by
  apply Nat.eq_of_testBit_eq
  intro i
  rw [Nat.testBit_or]
  cases ha : a.testBit i with
  | false => rfl
  | true => rw [h i ha]; rfl
def mn (v : List Nat) (s : Nat) : Bool := wins v s && (List.range v.length).all (fun p => !(s.testBit p && wins v (wo s p)))
theorem mn_wins {v : List Nat} {s : Nat} (h : mn v s = true) : wins v s = true := by
  unfold mn at h
  exact (Bool.and_eq_true_iff.1 h).1
theorem mn_no {v : List Nat} {s p : Nat} (h : mn v s = true) (hp : p < v.length) (hb : s.testBit p = true) : wins v (wo s p) = false := by
  unfold mn at h
  have := List.all_eq_true.1 (Bool.and_eq_true_iff.1 h).2 p (List.mem_range.2 hp)
  rw [hb] at this
  simpa using this
theorem wins_sub {v : List Nat} {a b : Nat} (h : wins v a = true) (hs : a ||| b = b) : wins v b = true := by
  have := wins_or b h
  rw [hs] at this
  exact this
theorem ne_bit {s t : Nat} (hs : s ||| t = t) (hn : s ≠ t) : ∃ p, t.testBit p = true ∧ s.testBit p = false := by
  apply Classical.byContradiction
  intro hc
  apply hn
  apply Nat.eq_of_testBit_eq
  intro i
  cases hsi : s.testBit i with
  | true => rw [sub_bit hs hsi]
  | false =>
    cases hti : t.testBit i with
    | false => rfl
    | true => exact absurd ⟨i, hti, hsi⟩ hc
theorem bit_lt {t n p : Nat} (ht : t < 2 ^ n) (hb : t.testBit p = true) : p < n := by
  apply Classical.byContradiction
  intro hc
  have h1 : 2 ^ n ≤ 2 ^ p := Nat.pow_le_pow_right (by decide) (by omega)
  have h2 := Nat.ge_two_pow_of_testBit hb
  omega
theorem mn_anti {v : List Nat} {s t : Nat} (h16 : v.length ≤ 16) (h1 : mn v s = true) (h2 : mn v t = true) (ht : t < 2 ^ v.length) (hs : s ||| t = t) : s = t := by
  apply Classical.byContradiction
  intro hn
  obtain ⟨p, hp, hsp⟩ := ne_bit hs hn
  have hpn := bit_lt ht hp
  have hw := mn_no h2 hpn hp
  have : wins v (wo t p) = true := wins_sub (mn_wins h1) (bit_sub fun i hi => by
    rw [wo_bit t p i (by omega), sub_bit hs hi]
    have h64 : i < 64 := by have := bit_lt ht (sub_bit hs hi); omega
    have hne : p ≠ i := by intro e; subst e; rw [hi] at hsp; cases hsp
    simp [h64, hne])
  rw [hw] at this
  cases this
theorem wo_less {s p : Nat} (hp : p < 16) (hb : s.testBit p = true) : wo s p < s := by
  rcases Nat.lt_or_ge (wo s p) s with h | h
  · exact h
  · have e : wo s p = s := Nat.le_antisymm Nat.and_le_left h
    have := wo_bit s p p hp
    rw [e, hb] at this
    simp at this
theorem wo_sub {s p : Nat} (hp : p < 16) : wo s p ||| s = s := bit_sub fun i hi => by
  rw [wo_bit s p i hp] at hi
  exact (Bool.and_eq_true_iff.1 hi).1
theorem mn_below {v : List Nat} (h16 : v.length ≤ 16) : ∀ (k a : Nat), a ≤ k → a < 2 ^ v.length → wins v a = true → ∃ s, mn v s = true ∧ s ||| a = a ∧ s < 2 ^ v.length
  | k, a, hk, ha, hw => by
      cases hm : mn v a with
      | true => exact ⟨a, hm, Nat.or_self a, ha⟩
      | false =>
        obtain ⟨p, hp, hb, hwp⟩ : ∃ p, p < v.length ∧ a.testBit p = true ∧ wins v (wo a p) = true := by
          unfold mn at hm
          rw [hw, Bool.true_and] at hm
          obtain ⟨p, hp, hb⟩ := List.all_eq_false.1 hm
          simp only [Bool.not_eq_true, Bool.not_eq_false', Bool.and_eq_true] at hb
          exact ⟨p, List.mem_range.1 hp, hb.1, hb.2⟩
        have hl := wo_less (by omega) hb
        match k, hk with
        | 0, hk => omega
        | k + 1, hk =>
          obtain ⟨s, h1, h2, h3⟩ := mn_below h16 k (wo a p) (by omega) (wo_lt (by omega) ha) hwp
          refine ⟨s, h1, bit_sub fun i hi => ?_, h3⟩
          exact sub_bit (wo_sub (by omega)) (sub_bit h2 hi)
section
variable {w w' W : World} {B : Nat}
theorem andnot_val (s p : Nat) (hs : s < 65536) (hp : p < 16) : bits .andNot .u64 (s : Int) (IntKind.u64.wrap (2 ^ p)) = ((wo s p : Nat) : Int) := by
  rw [shl_val p (by omega)]
  have h2 := two_pow_le p (by omega)
  have e1 : (BitVec.ofInt 64 (s : Int)).toNat = s := by
    rw [BitVec.ofInt_natCast, BitVec.toNat_ofNat]; exact Nat.mod_eq_of_lt (by omega)
  have e2 : (BitVec.ofInt 64 ((2 ^ p : Nat) : Int)).toNat = 2 ^ p := by
    rw [BitVec.ofInt_natCast, BitVec.toNat_ofNat]; exact Nat.mod_eq_of_lt (by omega)
  have hle : wo s p ≤ s := Nat.and_le_left
  show IntKind.u64.wrap ((BitVec.ofInt 64 (s : Int) &&& ~~~ BitVec.ofInt 64 ((2 ^ p : Nat) : Int)).toNat : Int) = _
  rw [BitVec.toNat_and, BitVec.toNat_not, e1, e2]
  have e3 : s &&& (2 ^ 64 - 1 - 2 ^ p) = wo s p := by unfold wo; congr 1; omega
  rw [e3]
  exact u64_wrap_nat _ (by omega)
set_option maxHeartbeats 1000000 in
theorem without_any (s p : Nat) (hs : s < 65536) (hp : p < 16) : Calls Try.prog 50 #[.int .u64 (s : Int), .int .i64 (p : Int)] w fun e w' => e = .returned (.int .u64 ((wo s p : Nat) : Int)) ∧ w = w' := by
  have hv := andnot_val s p hs hp
  go_enter Try.func50, Try.ntmps50
  go_wp2
  go_ret
  exact ⟨by first | rfl | (simp [hv]) | (rw [hv]), rfl⟩
set_option maxHeartbeats 2000000 in
theorem minimal_any {b : Nat} {v : List Nat} (h : Bal w b v) (ho : Ok v) (s : Nat) (hs : s < 65536) : Calls Try.prog 35 #[.pointer (some ⟨b, 0, none⟩), .int .u64 (s : Int)] w fun e w' => e = .returned (.bool (mn v s)) ∧ w = w' := by
  have HQ : Hid (∀ t : Nat, t < 65536 → Calls Try.prog 41 #[.pointer (some ⟨b, 0, none⟩), .int .u64 (t : Int)] w fun e w' => e = .returned (.bool (wins v t)) ∧ w = w') := fun t ht => quo_any h ho t ht
  have h16 := ho.1
  have c0 : w.cell? ⟨b, 0, none⟩ = some (.int .i64 (v.length : Int)) := h.c0
  have HH : Hid (∀ p : Nat, p < 16 → Calls Try.prog 49 #[.int .u64 (s : Int), .int .i64 (p : Int)] w fun e w' => e = .returned (.bool (s.testBit p)) ∧ w = w') := fun p hp => has_any s p hs hp
  have HO : Hid (∀ p : Nat, p < 16 → Calls Try.prog 50 #[.int .u64 (s : Int), .int .i64 (p : Int)] w fun e w' => e = .returned (.int .u64 ((wo s p : Nat) : Int)) ∧ w = w') := fun p hp => without_any s p hs hp
  have Hwo : Hid (∀ p, wo s p < 65536) := fun p => Nat.lt_of_le_of_lt Nat.and_le_left hs
  clear h ho
  cases hw : wins v s with
  | false =>
    have HM : Hid (mn v s = false) := by show _ = _; unfold mn; rw [hw]; rfl
    have HQs := HQ.out s hs
    rw [hw] at HQs
    go_enter Try.func35, Try.ntmps35
    go_wp2_with (fail)
    refine HQs.mono ?_
    rintro e w2 ⟨rfl, rfl⟩
    go_wp2
    go_ret
    exact ⟨(by rw [HM.out]; rfl), rfl⟩
  | true =>
    have HM : Hid (mn v s = (List.range v.length).all (fun p => !(s.testBit p && wins v (wo s p)))) := by show _ = _; unfold mn; rw [hw]; rfl
    have HQs := HQ.out s hs
    rw [hw] at HQs
    go_enter Try.func35, Try.ntmps35
    go_wp2_with (fail)
    refine HQs.mono ?_
    rintro e w2 ⟨rfl, rfl⟩
    go_wp2_with (fail)
    go_loopw [5, 14] (fun p i wr => ∃ k : Nat, k ≤ v.length ∧ i = .int .i64 (k : Int) ∧ Hid (∀ q, q < k → (s.testBit q && wins v (wo s q)) = false) ∧ w = wr) (fun _ i _ => v.length - (intOf i).toNat)
    case atStart => exact ⟨0, Nat.zero_le _, rfl, fun q hq => absurd hq (by omega), rfl⟩
    case round =>
      obtain ⟨k, hk, rfl, HI, rfl⟩ := hrel
      by_cases hlt : k < v.length
      · have i2 : (k : Int) < (v.length : Int) := by omega
        have HHk := HH.out k (by omega)
        have HOk := HO.out k (by omega)
        have HQk := HQ.out (wo s k) (Hwo.out k)
        cases hb : s.testBit k with
        | false =>
          rw [hb] at HHk
          go_wp2_with (fail)
          refine HHk.mono ?_
          rintro e w2 ⟨rfl, rfl⟩
          have HN : Hid (∀ q, q < k + 1 → (s.testBit q && wins v (wo s q)) = false) := fun q hq => by
            by_cases e : q = k
            · subst e; rw [hb]; rfl
            · exact HI.out q (by omega)
          go_wp2_with (fail)
          exact ⟨⟨k + 1, by omega, by go_num, HN.out, (by trivial)⟩, by simp [intOf]; omega⟩
        | true =>
          rw [hb] at HHk
          cases hw2 : wins v (wo s k) with
          | false =>
            rw [hw2] at HQk
            go_wp2_with (fail)
            refine HHk.mono ?_
            rintro e w2 ⟨rfl, rfl⟩
            go_wp2_with (fail)
            refine HOk.mono ?_
            rintro e w2 ⟨rfl, rfl⟩
            go_wp2_with (fail)
            refine HQk.mono ?_
            rintro e w2 ⟨rfl, rfl⟩
            have HN : Hid (∀ q, q < k + 1 → (s.testBit q && wins v (wo s q)) = false) := fun q hq => by
              by_cases e : q = k
              · subst e; rw [hb, hw2]; rfl
              · exact HI.out q (by omega)
            go_wp2_with (fail)
            exact ⟨⟨k + 1, by omega, by go_num, HN.out, (by trivial)⟩, by simp [intOf]; omega⟩
          | true =>
            rw [hw2] at HQk
            have HF : Hid (mn v s = false) := by
              show _ = _
              rw [HM.out]
              exact List.all_eq_false.2 ⟨k, List.mem_range.2 hlt, by rw [hb, hw2]; simp⟩
            go_wp2_with (fail)
            refine HHk.mono ?_
            rintro e w2 ⟨rfl, rfl⟩
            go_wp2_with (fail)
            refine HOk.mono ?_
            rintro e w2 ⟨rfl, rfl⟩
            go_wp2_with (fail)
            refine HQk.mono ?_
            rintro e w2 ⟨rfl, rfl⟩
            go_wp2
            go_ret
            exact ⟨(by rw [HF.out]; rfl), (by trivial)⟩
      · have i2 : ¬ (k : Int) < (v.length : Int) := by omega
        have HT : Hid (mn v s = true) := by
          show _ = _
          rw [HM.out]
          exact List.all_eq_true.2 fun q hq => by rw [HI.out q (by have := List.mem_range.1 hq; omega)]; rfl
        go_wp2
        go_ret
        exact ⟨(by rw [HT.out]; rfl), (by trivial)⟩
end
end Go.Proofs.Ytapenemfnngniaa.Qm
