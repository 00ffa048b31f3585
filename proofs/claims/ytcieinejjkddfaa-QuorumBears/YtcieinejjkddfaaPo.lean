import Derived.Test.YtcieinejjkddfaaPn
import Derived.Test.YtcieinejjkddfaaPj
namespace Go.Proofs.Ytcieinejjkddfaa.Qm
open Go.RowKit Mb
set_option linter.unusedVariables false
set_option maxRecDepth 100000
set_option linter.unusedSimpArgs false
section
variable {w w' W : World} {B : Nat}
theorem size_none {c : Nat} : ∀ {n : Nat}, size c n = 0 → c < 2 ^ n → c = 0 := by
  intro n h hc
  apply Nat.eq_of_testBit_eq
  intro i
  rw [Nat.zero_testBit]
  by_cases hi : i < n
  · have key : ∀ k, size c k = 0 → i < k → c.testBit i = false := by
      intro k
      induction k with
      | zero => intro _ h; omega
      | succ k ih =>
        intro h0 hk
        simp only [size] at h0
        by_cases e : i = k
        · subst e
          cases hb : c.testBit i with
          | false => rfl
          | true => rw [hb] at h0; simp at h0
        · exact ih (by omega) (by omega)
    exact key n h hi
  · exact Nat.testBit_lt_two_pow (Nat.lt_of_lt_of_le hc (Nat.pow_le_pow_right (by decide) (by omega)))
theorem least_pos {v : List Nat} (h : 0 < T v) : ∀ k, k ≤ 2 ^ v.length → 0 < v.length → 0 < least v k := by
  intro k hk hn
  rcases least_at v k with h1 | ⟨s, h1, h2, h3⟩
  · omega
  · have hs : s < 2 ^ v.length := by omega
    have hc := size_compl s v.length hs v.length (Nat.le_refl _)
    by_cases h0 : size (2 ^ v.length - 1 - s) v.length = 0
    · have := size_none h0 (by omega)
      have e : s = 2 ^ v.length - 1 := by omega
      rw [e, wins_full h] at h2
      cases h2
    · omega
def brk (v : List Nat) (L M m : Nat) : Nat → Bool
  | 0 => false
  | k + 1 => brk v L M m k || (decide (size k m = L) && !wins v (M - 1 - k))
theorem brk_of (v : List Nat) (L M m g : Nat) (h1 : size g m = L) (h2 : wins v (M - 1 - g) = false) : ∀ k, g < k → brk v L M m k = true
  | 0, h => by omega
  | k + 1, h => by
      simp only [brk]
      by_cases e : g = k
      · subst e
        simp [h1, h2]
      · rw [brk_of v L M m g h1 h2 k (by omega)]
        rfl
theorem brk_all {v : List Nat} (h : 0 < T v) : brk v (least v (2 ^ v.length)) (2 ^ v.length) v.length (2 ^ v.length) = true := by
  have hp := Nat.two_pow_pos v.length
  rcases least_at v (2 ^ v.length) with h1 | ⟨s, h1, h2, h3⟩
  · refine brk_of _ _ _ _ (2 ^ v.length - 1) ?_ ?_ _ (by omega)
    · rw [h1, size_full v.length v.length (Nat.le_refl _)]
    · rw [Nat.sub_self]
      exact wins_zero h
  · have hc := size_compl s v.length h1 v.length (Nat.le_refl _)
    refine brk_of _ _ _ _ (2 ^ v.length - 1 - s) ?_ ?_ _ (by omega)
    · rw [h3]; omega
    · rw [show 2 ^ v.length - 1 - (2 ^ v.length - 1 - s) = s by omega]
      exact h2
theorem bears_in {v : List Nat} {k : Nat} (hk : k < 2 ^ v.length) (hs : size k v.length < least v (2 ^ v.length)) : wins v (2 ^ v.length - 1 - k) = true := by
  cases hw : wins v (2 ^ v.length - 1 - k) with
  | true => rfl
  | false =>
    have h1 := least_le v (2 ^ v.length - 1 - k) (2 ^ v.length) (by omega) hw
    have hc := size_compl k v.length hk v.length (Nat.le_refl _)
    omega
theorem half_div (s j : Nat) : ((s / 2 ^ j : Nat) : Int) / 2 = ((s / 2 ^ (j + 1) : Nat) : Int) := by
  rw [Nat.pow_succ, ← Nat.div_div_eq_div_mul]
  omega
set_option maxHeartbeats 2000000 in
theorem bits_any (s : Nat) (hs : s < 65536) : Calls Try.prog 17 #[.int .i64 (s : Int)] w fun e w' => e = .returned (.int .i64 ((size s 16 : Nat) : Int)) ∧ w = w' := by
  go_enter Try.func17, Try.ntmps17
  go_wp2
  go_loop [0, 3] (fun x y => ∃ (j q t : Nat), j ≤ 16 ∧ x = .int .i64 (q : Int) ∧ y = .int .i64 (t : Int) ∧ t ≤ 16 ∧ q < 65536 ∧ Hid (q = s / 2 ^ j) ∧ Hid (t = size s j)) (fun x _ => (intOf x).toNat)
  case atStart => exact ⟨0, s, 0, by omega, rfl, rfl, by omega, hs, (show s = s / 2 ^ 0 from by simp), rfl⟩
  case round =>
    obtain ⟨j, q, t, hj, rfl, rfl, ht, hq, HQ, HT⟩ := hrel
    by_cases h0 : 0 < q
    · have hj16 : j < 16 := by
        by_cases hh : j < 16
        · exact hh
        · obtain rfl : j = 16 := by omega
          have := HQ.out
          rw [Nat.div_eq_of_lt hs] at this
          omega
      have hb := bit_div s j
      rw [← HQ.out] at hb
      have hand := i64_and_nat q 1 (by omega) (by omega)
      rw [hb] at hand
      have HT2 : size s (j + 1) = t + (if s.testBit j then 1 else 0) := by rw [HT.out]; rfl
      have hs2 := size_le s (j + 1)
      have HQ2 : Hid (q / 2 = s / 2 ^ (j + 1)) := (show _ = _ from by rw [HQ.out, Nat.pow_succ, Nat.div_div_eq_div_mul])
      generalize (if s.testBit j then 1 else 0) = u at *
      have HT3 : Hid (t + u = size s (j + 1)) := HT2.symm
      have hl : t + u ≤ 16 := by rw [HT3.out]; omega
      have hand2 : bits .and .i64 (q : Int) 1 = (u : Int) := hand
      clear HT2 hs2 hb hand
      go_wp2
      go_round
      case rel => exact ⟨j + 1, q / 2, t + u, by omega, by go_num, by go_num, hl, by omega, HQ2, HT3⟩
      case measure => simp [intOf]; omega
    · obtain rfl : q = 0 := by omega
      have HF : Hid (t = size s 16) := (show _ = _ from by
        have h1 : s < 2 ^ j := by
          have := HQ.out
          rcases Nat.lt_or_ge s (2 ^ j) with h | h
          · exact h
          · have := Nat.div_pos h (Nat.two_pow_pos j)
            omega
        rw [HT.out, size_16 hj h1])
      go_wp2
      go_ret
      exact ⟨ret_int (by rw [HF.out]), rfl⟩
set_option maxHeartbeats 4000000 in
theorem bears_any {ao : Option Addr} {n c : Nat} {xs : List Int} (x y : Int) (hr : RdI w ao n c xs) : Calls Try.prog 6 #[.agg #[.slice ao n c, .int .i64 x, .int .i64 y]] w fun e w' => e = .returned (.bool true) ∧ Below w.heap.size w w' := by
  generalize hW : w.alloc (.cells #[.slice ao n c, .int .i64 x, .int .i64 y] 38) = W
  have hbW : Below w.heap.size w W := by rw [← hW]; exact balloc (Below.refl _ w)
  have hblk : W.heap[w.heap.size]? = some (.cells #[.slice ao n c, .int .i64 x, .int .i64 y] 38 (0, 0)) := by rw [← hW]; exact heap_alloc_new w _
  have HF : Hid (Calls Try.prog 12 #[.slice ao n c] W fun e w' => ∃ a m d v, e = .returned (.slice a m d) ∧ RdI w' a m d (zi v) ∧ Ok v ∧ v.length = m ∧ Below W.heap.size W w') := fit_any (hr.still hbW)
  have c0 : W.cell? ⟨w.heap.size, 0, none⟩ = some (.slice ao n c) := blk_cell hblk 0
  have HBW : Hid (Below w.heap.size w W) := hbW
  clear hr hblk hbW
  go_enter Try.func6, Try.ntmps6
  go_wp2_with (fail)
  refine HF.out.mono ?_
  rintro e w1 ⟨a, m, d, v, rfl, hr1, ho, hl, hb1⟩
  have HB0 : Hid (Below w.heap.size w w1) := bstep HBW.out hb1
  clear hb1 HF c0
  by_cases h9 : 9 < m
  · have hcap := hr1.cap
    have hlen := hr1.len
    have HF2 : Hid (Calls Try.prog 12 #[.slice a 9 d] w1 fun e w' => ∃ a m d v, e = .returned (.slice a m d) ∧ RdI w' a m d (zi v) ∧ Ok v ∧ v.length = m ∧ Below w1.heap.size w1 w') := fit_any (hr1.take (m := 9) (by omega))
    have h16a : m ≤ 16 := by rw [← hl]; exact ho.1
    clear hr1 ho hl hlen
    go_wp2_with (fail)
    refine HF2.out.mono ?_
    rintro e w1' ⟨a', m', d', v', rfl, hr1, ho, hl, hb1⟩
    replace HB0 : Hid (Below w.heap.size w w1') := bstep HB0.out hb1
    clear hb1 HF2 h9 hcap h16a
    have h16 : m' ≤ 16 := by rw [← hl]; exact ho.1
    have hm0 : 0 < m' := by
      rcases Nat.eq_zero_or_pos m' with h | h
      · exfalso
        have := ho.2.2
        obtain rfl : v' = [] := List.eq_nil_of_length_eq_zero (by omega)
        exact absurd this (by decide)
      · exact h
    have h2 := two_pow_le m' h16
    have hpw := pow_val m' h16
    obtain ⟨M, hM⟩ : ∃ M, M = 2 ^ m' := ⟨_, rfl⟩
    have hM1 : 0 < M := by rw [hM]; exact Nat.two_pow_pos m'
    rw [← hM] at h2 hpw
    obtain ⟨L, hL⟩ : ∃ L, L = least v' M := ⟨_, rfl⟩
    have hL1 : 0 < L := by rw [hL]; exact least_pos ho.2.2 M (by rw [hl, hM]; exact Nat.le_refl _) (by omega)
    have hL2 : L ≤ m' := by rw [hL, ← hl]; exact least_le_len v' M
    have HC : Hid (Calls Try.prog 14 #[.slice a' m' d'] w1' fun e w' => ∃ g, e = .returned (.slice (some ⟨g, 0, none⟩) m' m') ∧ RdI w' (some ⟨g, 0, none⟩) m' m' (zi v') ∧ Below w1'.heap.size w1' w') := (copied_any hr1 (by omega)).mono fun e w' ⟨e1, e2, e3⟩ => ⟨_, e1, Rw.rd e2 (by rw [zi_len]; exact hl) (Nat.le_refl _), e3⟩
    have HTol : Hid (∀ W g, RdI W (some ⟨g, 0, none⟩) m' m' (zi v') → Calls Try.prog 16 #[.slice (some ⟨g, 0, none⟩) m' m'] W fun e w' => e = .returned (.tuple #[.int .i64 ((L : Int) - 1), .int .i64 0]) ∧ Below W.heap.size W w') := fun W g hg => by
      have := tol_any hg (okI_zi ho)
      rw [nv_zi, ← hM, ← hL] at this
      exact this
    obtain ⟨tb, htb⟩ : ∃ tb : Int → Bool, ∀ s : Nat, tb (s : Int) = wins v' s := ⟨fun x => wins v' x.toNat, fun s => rfl⟩
    have HW : Hid (∀ W', Below w1'.heap.size w1' W' → ∀ z : Int, 0 ≤ z ∧ z < (M : Int) → Calls Try.prog 15 #[.slice a' m' d', .int .i64 z] W' fun e w' => e = .returned (.bool (tb z)) ∧ Below W'.heap.size W' w') := fun W' hb z hz => by
      obtain ⟨s, rfl⟩ := Int.eq_ofNat_of_zero_le hz.1
      rw [htb]
      exact wins_any (hr1.still hb) ho hl s (by rw [← hM]; omega)
    have HBI : Hid (∀ k, k < M → size k m' < L → tb ((M : Int) - 1 - (k : Int)) = true) := fun k hk hs => by
      rw [sub_cast hk, htb]
      have := bears_in (v := v') (k := k) (by rw [hl, ← hM]; exact hk) (by rw [hl, ← hM, ← hL]; exact hs)
      rw [hl, ← hM] at this
      exact this
    have HTBk : Hid (∀ k, k < M → tb ((M : Int) - 1 - (k : Int)) = wins v' (M - 1 - k)) := fun k hk => by rw [sub_cast hk, htb]
    have HFin : Hid (brk v' L M m' M = true) := by
      have := brk_all ho.2.2
      rw [hl, ← hM, ← hL] at this
      exact this
    have HZA : Hid (∀ s : Nat, s < M → ∀ W, Calls Try.prog 17 #[.int .i64 (s : Int)] W fun e w' => e = .returned (.int .i64 ((size s m' : Nat) : Int)) ∧ W = w') := fun s hs W => by
      rw [← size_16 h16 (by rw [← hM]; exact hs)]
      exact bits_any s (by omega)
    clear hr1 ho hl hM hL htb
    go_wp2_with (first
      | (go_at_call 14; refine HC.out.mono ?_; rintro e wc ⟨g, rfl, hrc, hbc⟩)
      | (go_at_call 16; refine (HTol.out _ _ hrc).mono ?_; rintro e w2 ⟨rfl, hbt⟩; have HBt : Hid (Below w1'.heap.size w1' w2) := bstep hbc hbt; clear hrc hbt hbc)
      | fail)
    clear hpw
    go_loopw [7, 8] (fun x i wr => ∃ (k : Nat) (br : Bool), k ≤ M ∧ i = .int .i64 (k : Int) ∧ x = .bool br ∧ Hid (br = brk v' L M m' k) ∧ Hid (Below w2.heap.size w2 wr)) (fun _ i _ => M - (intOf i).toNat)
    case atStart => exact ⟨0, false, Nat.zero_le _, rfl, rfl, rfl, Below.refl _ _⟩
    case round =>
      obtain ⟨k, br, hk, rfl, rfl, HT, HB⟩ := hrel
      by_cases hlt : k < M
      · have HZ1 := HZA.out k hlt
        have hbi := HBI.out k hlt
        have hzl := size_le k m'
        have hbk : brk v' L M m' (k + 1) = (br || (decide (size k m' = L) && !wins v' (M - 1 - k))) := by rw [HT.out]; rfl
        have htw := HTBk.out k hlt
        generalize size k m' = z at *
        have HZ : Hid (∀ W, Calls Try.prog 17 #[.int .i64 (k : Int)] W fun e w' => e = .returned (.int .i64 ((z : Nat) : Int)) ∧ W = w') := HZ1
        clear HZ1
        by_cases hzL : z < L
        · have htt := hbi hzL
          have heq : ((z : Int) == (L : Int) - 1 + 1) = false := by rw [beq_eq_false_iff_ne]; omega
          have HS2 : Hid (br = brk v' L M m' (k + 1)) := (show _ = _ from by rw [hbk, decide_eq_false (show ¬ z = L by omega)]; simp)
          clear hbi hbk htw
          cases br with
          | true =>
            go_wp2_with (first
              | (go_at_call 15; refine (HW.out _ (bstep HBt.out HB.out) _ (by omega)).mono ?_; rintro e wn ⟨rfl, hbn⟩; replace HB : Hid (Below w2.heap.size w2 wn) := bstep HB.out hbn; clear hbn)
              | (go_at_call 17; refine (HZ.out _).mono ?_; rintro e wn ⟨rfl, rfl⟩)
              | fail)
            exact ⟨⟨k + 1, true, by omega, by go_num, rfl, HS2, HB⟩, by simp [intOf]; omega⟩
          | false =>
            go_wp2_with (first
              | (go_at_call 15; refine (HW.out _ (bstep HBt.out HB.out) _ (by omega)).mono ?_; rintro e wn ⟨rfl, hbn⟩; replace HB : Hid (Below w2.heap.size w2 wn) := bstep HB.out hbn; clear hbn)
              | (go_at_call 17; refine (HZ.out _).mono ?_; rintro e wn ⟨rfl, rfl⟩)
              | fail)
            exact ⟨⟨k + 1, false, by omega, by go_num, rfl, HS2, HB⟩, by simp [intOf]; omega⟩
        · by_cases hzE : z = L
          · subst hzE
            clear hbi
            have hbk2 : brk v' z M m' (k + 1) = (br || !wins v' (M - 1 - k)) := by rw [hbk]; simp
            clear hbk
            cases br with
            | true =>
              have HS2 : Hid (true = brk v' z M m' (k + 1)) := (show _ = _ from by rw [hbk2]; rfl)
              clear hbk2 htw
              go_wp2_with (first
                | (go_at_call 15; refine (HW.out _ (bstep HBt.out HB.out) _ (by omega)).mono ?_; rintro e wn ⟨rfl, hbn⟩; replace HB : Hid (Below w2.heap.size w2 wn) := bstep HB.out hbn; clear hbn)
                | (go_at_call 17; refine (HZ.out _).mono ?_; rintro e wn ⟨rfl, rfl⟩)
                | fail)
              exact ⟨⟨k + 1, true, by omega, by go_num, rfl, HS2, HB⟩, by simp [intOf]; omega⟩
            | false =>
              rw [← htw] at hbk2
              clear htw
              cases htt : tb ((M : Int) - 1 - (k : Int)) with
              | true =>
                have HS2 : Hid (false = brk v' z M m' (k + 1)) := (show _ = _ from by rw [hbk2, htt]; rfl)
                clear hbk2
                go_wp2_with (first
                  | (go_at_call 15; refine (HW.out _ (bstep HBt.out HB.out) _ (by omega)).mono ?_; rintro e wn ⟨rfl, hbn⟩; replace HB : Hid (Below w2.heap.size w2 wn) := bstep HB.out hbn; clear hbn)
                  | (go_at_call 17; refine (HZ.out _).mono ?_; rintro e wn ⟨rfl, rfl⟩)
                  | fail)
                exact ⟨⟨k + 1, false, by omega, by go_num, rfl, HS2, HB⟩, by simp [intOf]; omega⟩
              | false =>
                have HS2 : Hid (true = brk v' z M m' (k + 1)) := (show _ = _ from by rw [hbk2, htt]; rfl)
                clear hbk2
                go_wp2_with (first
                  | (go_at_call 15; refine (HW.out _ (bstep HBt.out HB.out) _ (by omega)).mono ?_; rintro e wn ⟨rfl, hbn⟩; replace HB : Hid (Below w2.heap.size w2 wn) := bstep HB.out hbn; clear hbn)
                  | (go_at_call 17; refine (HZ.out _).mono ?_; rintro e wn ⟨rfl, rfl⟩)
                  | fail)
                exact ⟨⟨k + 1, true, by omega, by go_num, rfl, HS2, HB⟩, by simp [intOf]; omega⟩
          · have HS2 : Hid (br = brk v' L M m' (k + 1)) := (show _ = _ from by rw [hbk, decide_eq_false hzE]; simp)
            clear hbi hbk htw
            cases br with
            | true =>
              go_wp2_with (first
                | (go_at_call 15; refine (HW.out _ (bstep HBt.out HB.out) _ (by omega)).mono ?_; rintro e wn ⟨rfl, hbn⟩; replace HB : Hid (Below w2.heap.size w2 wn) := bstep HB.out hbn; clear hbn)
                | (go_at_call 17; refine (HZ.out _).mono ?_; rintro e wn ⟨rfl, rfl⟩)
                | fail)
              exact ⟨⟨k + 1, true, by omega, by go_num, rfl, HS2, HB⟩, by simp [intOf]; omega⟩
            | false =>
              go_wp2_with (first
                | (go_at_call 15; refine (HW.out _ (bstep HBt.out HB.out) _ (by omega)).mono ?_; rintro e wn ⟨rfl, hbn⟩; replace HB : Hid (Below w2.heap.size w2 wn) := bstep HB.out hbn; clear hbn)
                | (go_at_call 17; refine (HZ.out _).mono ?_; rintro e wn ⟨rfl, rfl⟩)
                | fail)
              exact ⟨⟨k + 1, false, by omega, by go_num, rfl, HS2, HB⟩, by simp [intOf]; omega⟩
      · obtain rfl : k = M := by omega
        have HF : Hid (br = true) := (show br = true from by rw [HT.out, HFin.out])
        go_wp2
        go_ret
        exact ⟨by rw [HF.out]; rfl, bstep HB0.out (bstep HBt.out HB.out)⟩
  ·
    have h16 : m ≤ 16 := by rw [← hl]; exact ho.1
    have hm0 : 0 < m := by
      rcases Nat.eq_zero_or_pos m with h | h
      · exfalso
        have := ho.2.2
        obtain rfl : v = [] := List.eq_nil_of_length_eq_zero (by omega)
        exact absurd this (by decide)
      · exact h
    have h2 := two_pow_le m h16
    have hpw := pow_val m h16
    obtain ⟨M, hM⟩ : ∃ M, M = 2 ^ m := ⟨_, rfl⟩
    have hM1 : 0 < M := by rw [hM]; exact Nat.two_pow_pos m
    rw [← hM] at h2 hpw
    obtain ⟨L, hL⟩ : ∃ L, L = least v M := ⟨_, rfl⟩
    have hL1 : 0 < L := by rw [hL]; exact least_pos ho.2.2 M (by rw [hl, hM]; exact Nat.le_refl _) (by omega)
    have hL2 : L ≤ m := by rw [hL, ← hl]; exact least_le_len v M
    have HC : Hid (Calls Try.prog 14 #[.slice a m d] w1 fun e w' => ∃ g, e = .returned (.slice (some ⟨g, 0, none⟩) m m) ∧ RdI w' (some ⟨g, 0, none⟩) m m (zi v) ∧ Below w1.heap.size w1 w') := (copied_any hr1 (by omega)).mono fun e w' ⟨e1, e2, e3⟩ => ⟨_, e1, Rw.rd e2 (by rw [zi_len]; exact hl) (Nat.le_refl _), e3⟩
    have HTol : Hid (∀ W g, RdI W (some ⟨g, 0, none⟩) m m (zi v) → Calls Try.prog 16 #[.slice (some ⟨g, 0, none⟩) m m] W fun e w' => e = .returned (.tuple #[.int .i64 ((L : Int) - 1), .int .i64 0]) ∧ Below W.heap.size W w') := fun W g hg => by
      have := tol_any hg (okI_zi ho)
      rw [nv_zi, ← hM, ← hL] at this
      exact this
    obtain ⟨tb, htb⟩ : ∃ tb : Int → Bool, ∀ s : Nat, tb (s : Int) = wins v s := ⟨fun x => wins v x.toNat, fun s => rfl⟩
    have HW : Hid (∀ W', Below w1.heap.size w1 W' → ∀ z : Int, 0 ≤ z ∧ z < (M : Int) → Calls Try.prog 15 #[.slice a m d, .int .i64 z] W' fun e w' => e = .returned (.bool (tb z)) ∧ Below W'.heap.size W' w') := fun W' hb z hz => by
      obtain ⟨s, rfl⟩ := Int.eq_ofNat_of_zero_le hz.1
      rw [htb]
      exact wins_any (hr1.still hb) ho hl s (by rw [← hM]; omega)
    have HBI : Hid (∀ k, k < M → size k m < L → tb ((M : Int) - 1 - (k : Int)) = true) := fun k hk hs => by
      rw [sub_cast hk, htb]
      have := bears_in (v := v) (k := k) (by rw [hl, ← hM]; exact hk) (by rw [hl, ← hM, ← hL]; exact hs)
      rw [hl, ← hM] at this
      exact this
    have HTBk : Hid (∀ k, k < M → tb ((M : Int) - 1 - (k : Int)) = wins v (M - 1 - k)) := fun k hk => by rw [sub_cast hk, htb]
    have HFin : Hid (brk v L M m M = true) := by
      have := brk_all ho.2.2
      rw [hl, ← hM, ← hL] at this
      exact this
    have HZA : Hid (∀ s : Nat, s < M → ∀ W, Calls Try.prog 17 #[.int .i64 (s : Int)] W fun e w' => e = .returned (.int .i64 ((size s m : Nat) : Int)) ∧ W = w') := fun s hs W => by
      rw [← size_16 h16 (by rw [← hM]; exact hs)]
      exact bits_any s (by omega)
    clear hr1 ho hl hM hL htb
    go_wp2_with (first
      | (go_at_call 14; refine HC.out.mono ?_; rintro e wc ⟨g, rfl, hrc, hbc⟩)
      | (go_at_call 16; refine (HTol.out _ _ hrc).mono ?_; rintro e w2 ⟨rfl, hbt⟩; have HBt : Hid (Below w1.heap.size w1 w2) := bstep hbc hbt; clear hrc hbt hbc)
      | fail)
    clear hpw
    go_loopw [7, 8] (fun x i wr => ∃ (k : Nat) (br : Bool), k ≤ M ∧ i = .int .i64 (k : Int) ∧ x = .bool br ∧ Hid (br = brk v L M m k) ∧ Hid (Below w2.heap.size w2 wr)) (fun _ i _ => M - (intOf i).toNat)
    case atStart => exact ⟨0, false, Nat.zero_le _, rfl, rfl, rfl, Below.refl _ _⟩
    case round =>
      obtain ⟨k, br, hk, rfl, rfl, HT, HB⟩ := hrel
      by_cases hlt : k < M
      · have HZ1 := HZA.out k hlt
        have hbi := HBI.out k hlt
        have hzl := size_le k m
        have hbk : brk v L M m (k + 1) = (br || (decide (size k m = L) && !wins v (M - 1 - k))) := by rw [HT.out]; rfl
        have htw := HTBk.out k hlt
        generalize size k m = z at *
        have HZ : Hid (∀ W, Calls Try.prog 17 #[.int .i64 (k : Int)] W fun e w' => e = .returned (.int .i64 ((z : Nat) : Int)) ∧ W = w') := HZ1
        clear HZ1
        by_cases hzL : z < L
        · have htt := hbi hzL
          have heq : ((z : Int) == (L : Int) - 1 + 1) = false := by rw [beq_eq_false_iff_ne]; omega
          have HS2 : Hid (br = brk v L M m (k + 1)) := (show _ = _ from by rw [hbk, decide_eq_false (show ¬ z = L by omega)]; simp)
          clear hbi hbk htw
          cases br with
          | true =>
            go_wp2_with (first
              | (go_at_call 15; refine (HW.out _ (bstep HBt.out HB.out) _ (by omega)).mono ?_; rintro e wn ⟨rfl, hbn⟩; replace HB : Hid (Below w2.heap.size w2 wn) := bstep HB.out hbn; clear hbn)
              | (go_at_call 17; refine (HZ.out _).mono ?_; rintro e wn ⟨rfl, rfl⟩)
              | fail)
            exact ⟨⟨k + 1, true, by omega, by go_num, rfl, HS2, HB⟩, by simp [intOf]; omega⟩
          | false =>
            go_wp2_with (first
              | (go_at_call 15; refine (HW.out _ (bstep HBt.out HB.out) _ (by omega)).mono ?_; rintro e wn ⟨rfl, hbn⟩; replace HB : Hid (Below w2.heap.size w2 wn) := bstep HB.out hbn; clear hbn)
              | (go_at_call 17; refine (HZ.out _).mono ?_; rintro e wn ⟨rfl, rfl⟩)
              | fail)
            exact ⟨⟨k + 1, false, by omega, by go_num, rfl, HS2, HB⟩, by simp [intOf]; omega⟩
        · by_cases hzE : z = L
          · subst hzE
            clear hbi
            have hbk2 : brk v z M m (k + 1) = (br || !wins v (M - 1 - k)) := by rw [hbk]; simp
            clear hbk
            cases br with
            | true =>
              have HS2 : Hid (true = brk v z M m (k + 1)) := (show _ = _ from by rw [hbk2]; rfl)
              clear hbk2 htw
              go_wp2_with (first
                | (go_at_call 15; refine (HW.out _ (bstep HBt.out HB.out) _ (by omega)).mono ?_; rintro e wn ⟨rfl, hbn⟩; replace HB : Hid (Below w2.heap.size w2 wn) := bstep HB.out hbn; clear hbn)
                | (go_at_call 17; refine (HZ.out _).mono ?_; rintro e wn ⟨rfl, rfl⟩)
                | fail)
              exact ⟨⟨k + 1, true, by omega, by go_num, rfl, HS2, HB⟩, by simp [intOf]; omega⟩
            | false =>
              rw [← htw] at hbk2
              clear htw
              cases htt : tb ((M : Int) - 1 - (k : Int)) with
              | true =>
                have HS2 : Hid (false = brk v z M m (k + 1)) := (show _ = _ from by rw [hbk2, htt]; rfl)
                clear hbk2
                go_wp2_with (first
                  | (go_at_call 15; refine (HW.out _ (bstep HBt.out HB.out) _ (by omega)).mono ?_; rintro e wn ⟨rfl, hbn⟩; replace HB : Hid (Below w2.heap.size w2 wn) := bstep HB.out hbn; clear hbn)
                  | (go_at_call 17; refine (HZ.out _).mono ?_; rintro e wn ⟨rfl, rfl⟩)
                  | fail)
                exact ⟨⟨k + 1, false, by omega, by go_num, rfl, HS2, HB⟩, by simp [intOf]; omega⟩
              | false =>
                have HS2 : Hid (true = brk v z M m (k + 1)) := (show _ = _ from by rw [hbk2, htt]; rfl)
                clear hbk2
                go_wp2_with (first
                  | (go_at_call 15; refine (HW.out _ (bstep HBt.out HB.out) _ (by omega)).mono ?_; rintro e wn ⟨rfl, hbn⟩; replace HB : Hid (Below w2.heap.size w2 wn) := bstep HB.out hbn; clear hbn)
                  | (go_at_call 17; refine (HZ.out _).mono ?_; rintro e wn ⟨rfl, rfl⟩)
                  | fail)
                exact ⟨⟨k + 1, true, by omega, by go_num, rfl, HS2, HB⟩, by simp [intOf]; omega⟩
          · have HS2 : Hid (br = brk v L M m (k + 1)) := (show _ = _ from by rw [hbk, decide_eq_false hzE]; simp)
            clear hbi hbk htw
            cases br with
            | true =>
              go_wp2_with (first
                | (go_at_call 15; refine (HW.out _ (bstep HBt.out HB.out) _ (by omega)).mono ?_; rintro e wn ⟨rfl, hbn⟩; replace HB : Hid (Below w2.heap.size w2 wn) := bstep HB.out hbn; clear hbn)
                | (go_at_call 17; refine (HZ.out _).mono ?_; rintro e wn ⟨rfl, rfl⟩)
                | fail)
              exact ⟨⟨k + 1, true, by omega, by go_num, rfl, HS2, HB⟩, by simp [intOf]; omega⟩
            | false =>
              go_wp2_with (first
                | (go_at_call 15; refine (HW.out _ (bstep HBt.out HB.out) _ (by omega)).mono ?_; rintro e wn ⟨rfl, hbn⟩; replace HB : Hid (Below w2.heap.size w2 wn) := bstep HB.out hbn; clear hbn)
                | (go_at_call 17; refine (HZ.out _).mono ?_; rintro e wn ⟨rfl, rfl⟩)
                | fail)
              exact ⟨⟨k + 1, false, by omega, by go_num, rfl, HS2, HB⟩, by simp [intOf]; omega⟩
      · obtain rfl : k = M := by omega
        have HF : Hid (br = true) := (show br = true from by rw [HT.out, HFin.out])
        go_wp2
        go_ret
        exact ⟨by rw [HF.out]; rfl, bstep HB0.out (bstep HBt.out HB.out)⟩
end
end Go.Proofs.Ytcieinejjkddfaa.Qm
