import Derived.Test.YtghihdenbdnnjaaLkB
import Derived.Test.YtghihdenbdnnjaaLkD
namespace Go.Proofs.Ytghihdenbdnnjaa.Ln
open Go.RowKit Mb
set_option linter.unusedVariables false
set_option maxRecDepth 100000
set_option linter.unusedSimpArgs false
def turnsP (P : Px) : Nat → Px
  | 0 => P
  | k + 1 => (turnsP P k).turn
section
variable {P : Px} {s t T : Nat}
theorem turn_same (P : Px) : P.turn.p = P.p ∧ P.turn.win = P.win ∧ P.turn.space = P.space := by
  have a := half_same P 0
  have b := half_same (P.half 0) 1
  have a0 : ((P.half 0).half 1).a 0 = [] := by rw [b.2.2.2, upd_ne _ _ (by omega), a.2.2.2, upd_same]
  have a1 : ((P.half 0).half 1).a 1 = [] := by rw [b.2.2.2, upd_same]
  obtain ⟨_, _, _, _, _, _, c1, c2, c3, c4⟩ := back_op ((P.half 0).half 1) (t := 0) (by omega) a0
  obtain ⟨_, _, _, _, _, _, _, d2, d3, d4⟩ := back_op (((P.half 0).half 1).back 0) (t := 1) (by omega) (c1.trans a1)
  exact ⟨d2.trans (c2.trans (b.2.2.1.trans a.2.2.1)), d3.trans (c3.trans (b.1.trans a.1)), d4.trans (c4.trans (b.2.1.trans a.2.1))⟩
theorem turn_op (h : P.Inv) (hw : 1 ≤ P.win) (hs : s < 2) : (P.E s).op + min P.win ((P.E s).sent - (P.E s).op) ≤ (P.turn.E s).op ∧ (P.turn.E s).sent = (P.E s).sent := by
  have a := half_same P 0
  have b := half_same (P.half 0) 1
  have a0 : ((P.half 0).half 1).a 0 = [] := by rw [b.2.2.2, upd_ne _ _ (by omega), a.2.2.2, upd_same]
  have a1 : ((P.half 0).half 1).a 1 = [] := by rw [b.2.2.2, upd_same]
  obtain ⟨c1, c2, c3, c4, c5, c6, c7, _⟩ := back_op ((P.half 0).half 1) (t := 0) (by omega) a0
  obtain ⟨d1, d2, d3, d4, d5, d6, _⟩ := back_op (((P.half 0).half 1).back 0) (t := 1) (by omega) (c7.trans a1)
  obtain ⟨e1, e2, e3, e4, e5⟩ := half_ip h (s := 0) (by omega) hw
  obtain ⟨f1, f2, f3, f4, f5⟩ := half_ip (h.half (s := 0) (by omega)) (s := 1) (by omega) (by rw [a.1]; exact hw)
  rw [a.1] at f1 f2
  simp only [Nat.sub_self, Nat.sub_zero, Nat.reduceSub] at *
  rw [e3] at f4 f5
  rw [e4, e5] at f1 f2
  have ht : P.turn = (((P.half 0).half 1).back 0).back 1 := rfl
  rw [ht]
  rcases s2 hs with rfl | rfl
  · refine ⟨?_, ?_⟩
    · rw [d1, c4, c3, c2, f3, f4]
      by_cases k : 0 < min P.win ((P.E 0).sent - (P.E 0).op)
      · rw [if_pos (e2 k)]
        omega
      · split <;> omega
    · rw [d6, c5, f5]
  · refine ⟨?_, ?_⟩
    · rw [d2, c1, f3, e4]
      by_cases k : 0 < min P.win ((P.E 1).sent - (P.E 1).op)
      · rw [if_pos (f2 k)]
        omega
      · split <;> omega
    · rw [d5, c6, f3, e5]
theorem turns_inv (h : P.Inv) : ∀ k, (turnsP P k).Inv
  | 0 => h
  | k + 1 => (turns_inv h k).turn
theorem turns_same (P : Px) : ∀ k, (turnsP P k).p = P.p ∧ (turnsP P k).win = P.win ∧ (turnsP P k).space = P.space
  | 0 => ⟨rfl, rfl, rfl⟩
  | k + 1 => by
      obtain ⟨h1, h2, h3⟩ := turns_same P k
      obtain ⟨g1, g2, g3⟩ := turn_same (turnsP P k)
      exact ⟨g1.trans h1, g2.trans h2, g3.trans h3⟩
theorem turn_sz (h : P.Sz T) (hT : 1 ≤ T) (hw : P.win ≤ 5) : P.turn.Sz (T + 2) := back_sz (bP_sz h hT hw (s := 1) (by omega)) 1
theorem turns_sz (h : P.Sz T) (hT : 1 ≤ T) (hw : P.win ≤ 5) : ∀ k, (turnsP P k).Sz (T + 2 * k)
  | 0 => h
  | k + 1 => by
      have := turn_sz (turns_sz h hT hw k) (by omega) (by rw [(turns_same P k).2.1]; exact hw)
      rw [show T + 2 * (k + 1) = T + 2 * k + 2 from by omega]
      exact this
theorem turns_op (h : P.Inv) (hw : 1 ≤ P.win) (hs : s < 2) : ∀ k, (P.E s).op + min (k * P.win) ((P.E s).sent - (P.E s).op) ≤ ((turnsP P k).E s).op ∧ ((turnsP P k).E s).sent = (P.E s).sent
  | 0 => ⟨by rw [Nat.zero_mul]; show _ ≤ (P.E s).op; omega, rfl⟩
  | k + 1 => by
      obtain ⟨h1, h2⟩ := turns_op h hw hs k
      obtain ⟨g1, g2⟩ := turn_op (turns_inv h k) (by rw [(turns_same P k).2.1]; exact hw) hs
      rw [(turns_same P k).2.1, h2] at g1
      refine ⟨?_, g2.trans h2⟩
      show _ ≤ ((turnsP P k).turn.E s).op
      rw [Nat.succ_mul]
      generalize k * P.win = m at *
      omega
theorem done_same (h : P.Inv) (hs : s < 2) (he : (P.E s).sent ≤ (P.E s).op) : P.o (1 - s) = P.p s ∧ (P.E s).sent = (P.E s).op := by
  have hH := h s hs
  have h1 := hH.op
  have h2 := hH.le
  have h3 := hH.sent
  have h4 := hH.pre
  rw [List.take_of_length_le (by omega)] at h4
  exact ⟨h4, by omega⟩
theorem turns_done (h : P.Inv) (hw : 1 ≤ P.win) (hs : s < 2) {k : Nat} (hk : (P.E s).sent - (P.E s).op ≤ k * P.win) : (turnsP P k).o (1 - s) = (turnsP P k).p s ∧ ((turnsP P k).E s).sent = ((turnsP P k).E s).op := by
  obtain ⟨h1, h2⟩ := turns_op h hw hs k
  exact done_same (turns_inv h k) hs (by rw [h2]; omega)
end
end Go.Proofs.Ytghihdenbdnnjaa.Ln
