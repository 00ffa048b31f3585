import Derived.Test.YtapenemfnngniaaPd
namespace Go.Proofs.Ytapenemfnngniaa.Qm
open Go.RowKit Mb
set_option linter.unusedVariables false
set_option maxRecDepth 100000
set_option linter.unusedSimpArgs false
section
variable {w w' W : World} {B : Nat}
theorem pow_val (m : Nat) (h : m ≤ 16) : wrap64 (2 ^ m) = ((2 ^ m : Nat) : Int) := by
  have := two_pow_le m h
  have e : ((2 : Int) ^ m) = ((2 ^ m : Nat) : Int) := by simp
  rw [e]
  generalize 2 ^ m = z at *
  unfold wrap64
  omega
theorem win_zi {a : Option Addr} {m c : Nat} {v : List Nat} (hr : RdI w a m c (zi v)) (ho : Ok v) (hl : v.length = m) : Calls Try.prog 19 #[.slice a m c] w fun e w' => ∃ q : Nat, e = .returned (.tuple #[.int .i64 (q : Int), .int .i64 0]) ∧ 2 * q = 2 ^ m ∧ Below w.heap.size w w' := by
  refine (winning_any hr (okI_zi ho)).mono fun e w' h => ?_
  rw [nv_zi] at h
  refine ⟨_, h.1, ?_, h.2⟩
  have := half ho.2.2
  rw [hl] at this
  exact this
end
end Go.Proofs.Ytapenemfnngniaa.Qm
