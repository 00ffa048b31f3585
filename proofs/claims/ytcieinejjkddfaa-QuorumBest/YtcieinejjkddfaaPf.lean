import Derived.Test.YtcieinejjkddfaaPd
namespace Go.Proofs.Ytcieinejjkddfaa.Qm
open Go.RowKit Mb
set_option linter.unusedVariables false
set_option maxRecDepth 100000
set_option linter.unusedSimpArgs false
section
variable {w w' W : World} {B : Nat}
theorem pow_val (m : Nat) (h : m ≤ 16) : wrap64 (2 ^ m) = ((2 ^ m : Nat) : Int) := by
  have := two_pow_le m h
  have e : ((2 : Int) ^ m) = ((2 ^ m : Nat) : Int) := by simp
  rw [e]
  generalize 2 ^ m = z at *
  unfold wrap64
  omega
theorem win_zi {a : Option Addr} {m c : Nat} {v : List Nat} (hr : RdI w a m c (zi v)) (ho : Ok v) (hl : v.length = m) : Calls Try.prog 13 #[.slice a m c] w fun e w' => ∃ q : Nat, e = .returned (.tuple #[.int .i64 (q : Int), .int .i64 0]) ∧ 2 * q = 2 ^ m ∧ Below w.heap.size w w' := by
  refine (winning_any hr (okI_zi ho)).mono fun e w' h => ?_
  rw [nv_zi] at h
  refine ⟨_, h.1, ?_, h.2⟩
  have := half ho.2.2
  rw [hl] at this
  exact this
set_option maxHeartbeats 1000000 in
theorem half_any {ao : Option Addr} {n c : Nat} {xs : List Int} (hr : RdI w ao n c xs) : Calls Try.prog 4 #[.slice ao n c] w fun e w' => e = .returned (.bool true) ∧ Below w.heap.size w w' := by
  have HF : Hid (Calls Try.prog 12 #[.slice ao n c] w fun e w' => ∃ a m d v, e = .returned (.slice a m d) ∧ RdI w' a m d (zi v) ∧ Ok v ∧ v.length = m ∧ Below w.heap.size w w') := fit_any hr
  clear hr
  go_enter Try.func4, Try.ntmps4
  go_wp2_with (first
    | (go_at_call 12; refine HF.out.mono ?_; rintro e w1 ⟨a, m, d, v, rfl, hr1, ho, hl, hb1⟩; have HB1 : Hid (Below w.heap.size w w1) := hb1; have HO : Hid (Ok v ∧ v.length = m) := ⟨ho, hl⟩; have h16 : m ≤ 16 := Nat.le_trans (Nat.le_of_eq hl.symm) ho.1; have HR1 : Hid (RdI w1 a m d (zi v)) := hr1; clear hr1 hb1 ho hl)
    | (go_at_call 14; refine (copied_any HR1.out (by omega)).mono ?_; rintro e w2 ⟨rfl, hr2, hb2⟩; have HR2 : Hid (RdI w2 (some ⟨w1.heap.size, 0, none⟩) m m (zi v)) := Rw.rd hr2 (by rw [zi_len]; exact HO.out.2) (Nat.le_refl _); have HB2 : Hid (Below w.heap.size w w2) := bstep HB1.out hb2; clear hr2 hb2)
    | (go_at_call 13; refine (win_zi HR2.out HO.out.1 HO.out.2).mono ?_; rintro e w3 ⟨q, rfl, hq, hb3⟩; have HB3 : Hid (Below w.heap.size w w3) := bstep HB2.out hb3; have h2 := two_pow_le m h16; have hql : q ≤ 65536 := (by omega); have HQ : Hid (2 * q = 2 ^ m) := hq; clear hq hb3)
    | fail)
  go_ret
  refine ⟨?_, HB3.out⟩
  have hq := HQ.out
  have e : (2 * (q : Int) == wrap64 (2 ^ m)) = true := by
    rw [pow_val m h16]
    rw [beq_iff_eq]
    omega
  simp [e]
end
end Go.Proofs.Ytcieinejjkddfaa.Qm
