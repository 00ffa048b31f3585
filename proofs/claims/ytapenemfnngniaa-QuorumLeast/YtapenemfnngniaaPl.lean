import Derived.Test.YtapenemfnngniaaPb
namespace Go.Proofs.Ytapenemfnngniaa.Qm
set_option linter.unusedVariables false
set_option linter.unusedSimpArgs false
def pa (s : Nat) : Nat := ((s / 2) &&& 6148914691236517205) + (s &&& 6148914691236517205)
def pb (s : Nat) : Nat := ((s / 4) &&& 3689348814741910323) + (s &&& 3689348814741910323)
def pc (s : Nat) : Nat := (s / 16 + s) &&& 1085102592571150095
def pd (s : Nat) : Nat := s + s / 256
def pe (s : Nat) : Nat := s + s / 65536
def pf (s : Nat) : Nat := s + s / 4294967296
def pop (s : Nat) : Nat := pf (pe (pd (pc (pb (pa s))))) &&& 127
def sz16 (s : Nat) : Nat := s % 2 + s / 2 % 2 + s / 4 % 2 + s / 8 % 2 + s / 16 % 2 + s / 32 % 2 + s / 64 % 2 + s / 128 % 2 + s / 256 % 2 + s / 512 % 2 + s / 1024 % 2 + s / 2048 % 2 + s / 4096 % 2 + s / 8192 % 2 + s / 16384 % 2 + s / 32768 % 2
def chk : Nat → Nat → Bool
  | 0, b => Nat.beq (pop b) (sz16 b)
  | d + 1, b => (chk d b).and (chk d (b + 2 ^ d))
theorem chk_all : chk 16 0 = true := by decide +kernel
theorem chk_at : ∀ (d b s : Nat), chk d b = true → b ≤ s → s < b + 2 ^ d → pop s = sz16 s
  | 0, b, s, h, h1, h2 => by
      have : s = b := by simp at h2; omega
      subst this
      exact Nat.eq_of_beq_eq_true h
  | d + 1, b, s, h, h1, h2 => by
      have h' : (chk d b && chk d (b + 2 ^ d)) = true := h
      rw [Bool.and_eq_true] at h'
      rw [Nat.pow_succ] at h2
      by_cases hs : s < b + 2 ^ d
      · exact chk_at d b s h'.1 h1 hs
      · exact chk_at d (b + 2 ^ d) s h'.2 (by omega) (by omega)
theorem bit_if (s k : Nat) : (if s.testBit k then 1 else 0) = s / 2 ^ k % 2 := by
  rw [Nat.testBit_eq_decide_div_mod_eq]
  have := Nat.mod_two_eq_zero_or_one (s / 2 ^ k)
  rcases this with h | h <;> simp [h]
theorem sz16_eq (s : Nat) : sz16 s = size s 16 := by
  simp only [size, bit_if]
  simp [sz16]
theorem pop_eq {s : Nat} (h : s < 65536) : pop s = size s 16 := by
  rw [← sz16_eq]
  exact chk_at 16 0 s chk_all (Nat.zero_le _) (by simpa using h)
end Go.Proofs.Ytapenemfnngniaa.Qm
