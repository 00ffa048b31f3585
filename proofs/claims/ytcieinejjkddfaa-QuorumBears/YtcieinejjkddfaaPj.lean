import Derived.Test.YtcieinejjkddfaaPi
namespace Go.Proofs.Ytcieinejjkddfaa.Qm
open Go.RowKit Mb
set_option linter.unusedVariables false
set_option maxRecDepth 100000
set_option linter.unusedSimpArgs false
section
variable {w w' W : World} {B : Nat}
theorem sub_cast {M A : Nat} (h : A < M) : ((M : Int) - 1 - (A : Int)) = ((M - 1 - A : Nat) : Int) := by omega
theorem wins_at {a : Option Addr} {m c : Nat} {v : List Nat} (hr : RdI w a m c (zi v)) (ho : Ok v) (hl : v.length = m) {s : Nat} {x : Int} {r : Bool} (hx : x = (s : Int)) (hs : s < 2 ^ m) (hw : wins v s = r) : Calls Try.prog 15 #[.slice a m c, .int .i64 x] w fun e w' => e = .returned (.bool r) ∧ Below w.heap.size w w' := by
  subst hx hw
  exact wins_any hr ho hl s hs
set_option maxHeartbeats 4000000 in
theorem meet_any {ao : Option Addr} {n c : Nat} {xs : List Int} (x y : Int) (hr : RdI w ao n c xs) : Calls Try.prog 5 #[.agg #[.slice ao n c, .int .i64 x, .int .i64 y]] w fun e w' => e = .returned (.bool true) ∧ Below w.heap.size w w' := by
  generalize hW : w.alloc (.cells #[.slice ao n c, .int .i64 x, .int .i64 y] 38) = W
  have hbW : Below w.heap.size w W := by rw [← hW]; exact balloc (Below.refl _ w)
  have hblk : W.heap[w.heap.size]? = some (.cells #[.slice ao n c, .int .i64 x, .int .i64 y] 38 (0, 0)) := by rw [← hW]; exact heap_alloc_new w _
  have HF : Hid (Calls Try.prog 12 #[.slice ao n c] W fun e w' => ∃ a m d v, e = .returned (.slice a m d) ∧ RdI w' a m d (zi v) ∧ Ok v ∧ v.length = m ∧ Below W.heap.size W w') := fit_any (hr.still hbW)
  have c0 : W.cell? ⟨w.heap.size, 0, none⟩ = some (.slice ao n c) := blk_cell hblk 0
  have c1 : W.cell? ⟨w.heap.size, 1, none⟩ = some (.int .i64 x) := blk_cell hblk 1
  have c2 : W.cell? ⟨w.heap.size, 2, none⟩ = some (.int .i64 y) := blk_cell hblk 2
  have HBW : Hid (Below w.heap.size w W) := hbW
  clear hr hblk hbW
  go_enter Try.func5, Try.ntmps5
  go_wp2_with (fail)
  refine HF.out.mono ?_
  rintro e w1 ⟨a, m, d, v, rfl, hr1, ho, hl, hb1⟩
  replace c1 := below_at hb1 c1
  replace c2 := below_at hb1 c2
  have HB0 : Hid (Below w.heap.size w w1) := bstep HBW.out hb1
  have h16 : m ≤ 16 := by rw [← hl]; exact ho.1
  have h2 := two_pow_le m h16
  have hpw := pow_val m h16
  obtain ⟨M, hM⟩ : ∃ M, M = 2 ^ m := ⟨_, rfl⟩
  have hM1 : 0 < M := by rw [hM]; exact Nat.two_pow_pos m
  have HA := i64_and_int x (M - 1) (by omega)
  have HBn := i64_and_int y (M - 1) (by omega)
  have hA1 : (BitVec.ofInt 64 x).toNat &&& (M - 1) ≤ M - 1 := Nat.and_le_right
  have hB1 : (BitVec.ofInt 64 y).toNat &&& (M - 1) ≤ M - 1 := Nat.and_le_right
  generalize (BitVec.ofInt 64 x).toNat &&& (M - 1) = A at *
  generalize (BitVec.ofInt 64 y).toNat &&& (M - 1) = Bb at *
  have eM : ((M - 1 : Nat) : Int) = (M : Int) - 1 := by omega
  rw [eM] at HA HBn
  rw [← hM] at h2 hpw
  have hor := i64_or_nat A Bb (by omega) (by omega)
  have hand := i64_and_nat A Bb (by omega) (by omega)
  have horl : A ||| Bb < 2 ^ m := Nat.or_lt_two_pow (by omega) (by omega)
  have wF : wins v (M - 1) = true := by have := wins_full ho.2.2; rw [hl, ← hM] at this; exact this
  have wZ : wins v 0 = false := wins_zero ho.2.2
  have wC : wins v (M - 1 - A) = !wins v A := by have := wins_compl ho.2.2 (s := A) (by rw [hl]; omega); rw [hl, ← hM] at this; exact this
  obtain ⟨tb, htb⟩ : ∃ tb : Int → Bool, ∀ s : Nat, tb (s : Int) = wins v s := ⟨fun x => wins v x.toNat, fun s => rfl⟩
  have HW : Hid (∀ W', Below w1.heap.size w1 W' → ∀ z : Int, 0 ≤ z ∧ z < (M : Int) → Calls Try.prog 15 #[.slice a m d, .int .i64 z] W' fun e w' => e = .returned (.bool (tb z)) ∧ Below W'.heap.size W' w') := fun W' hb z hz => by
    obtain ⟨s, rfl⟩ := Int.eq_ofNat_of_zero_le hz.1
    rw [htb]
    exact wins_any (hr1.still hb) ho hl s (by rw [← hM]; omega)
  have tF : tb ((M : Int) - 1) = true := by rw [← eM, htb]; exact wF
  have tZ : tb 0 = false := (htb 0).trans wZ
  have tA : tb (A : Int) = wins v A := htb A
  have tC : tb ((M : Int) - 1 - (A : Int)) = !wins v A := by rw [sub_cast (by omega), htb]; exact wC
  have tB : tb (Bb : Int) = wins v Bb := htb Bb
  have tO : tb ((A ||| Bb : Nat) : Int) = wins v (A ||| Bb) := htb _
  rw [← hM] at horl
  have HB : Hid (Below w1.heap.size w1 w1) := Below.refl _ _
  have wO := fun h : wins v A = true => wins_or Bb h
  have wM := fun (h : wins v A = true) (h2 : wins v Bb = true) => wins_meet h h2
  clear hr1 ho hb1 wF wZ wC hM hl HF htb
  generalize A ||| Bb = C at *
  generalize A &&& Bb = D at *
  have fin : ∀ W', Below w1.heap.size w1 W' → Below w.heap.size w W' := fun W' h => bstep HB0.out h
  have FIN : Hid (∀ W', Below w1.heap.size w1 W' → Below w.heap.size w W') := fin
  clear fin
  cases ha : wins v A with
  | true =>
    rw [ha] at tA tC
    rw [wO ha] at tO
    simp only [Bool.not_true] at tC
    cases hb : wins v Bb with
    | true =>
      rw [hb] at tB
      have hD := wM ha hb
      have hDb : ((D : Int) == 0) = false := by rw [beq_eq_false_iff_ne]; omega
      clear wO wM ha hb
      go_wp2_with (first
      | (go_at_call 15; refine (HW.out _ HB.out _ (by omega)).mono ?_; rintro e wn ⟨rfl, hbn⟩; replace HB : Hid (Below w1.heap.size w1 wn) := bstep HB.out hbn; clear hbn)
        | fail)
      go_ret
      exact ⟨rfl, FIN.out _ HB.out⟩
    | false =>
      rw [hb] at tB
      clear wO wM ha hb
      go_wp2_with (first
      | (go_at_call 15; refine (HW.out _ HB.out _ (by omega)).mono ?_; rintro e wn ⟨rfl, hbn⟩; replace HB : Hid (Below w1.heap.size w1 wn) := bstep HB.out hbn; clear hbn)
        | fail)
      go_ret
      exact ⟨rfl, FIN.out _ HB.out⟩
  | false =>
    rw [ha] at tA tC
    simp only [Bool.not_false] at tC
    clear wO wM ha
    go_wp2_with (first
    | (go_at_call 15; refine (HW.out _ HB.out _ (by omega)).mono ?_; rintro e wn ⟨rfl, hbn⟩; replace HB : Hid (Below w1.heap.size w1 wn) := bstep HB.out hbn; clear hbn)
      | fail)
    go_ret
    exact ⟨rfl, FIN.out _ HB.out⟩
end
end Go.Proofs.Ytcieinejjkddfaa.Qm
