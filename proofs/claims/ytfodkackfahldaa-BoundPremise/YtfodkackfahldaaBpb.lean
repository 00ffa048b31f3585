import Derived.Test.YtfodkackfahldaaBpa
namespace Go.Proofs.Ytfodkackfahldaa.Lo
open Go.RowKit
set_option linter.unusedVariables false
set_option linter.unusedSimpArgs false

theorem bwithin_same (v lo hi : Int) (w : World) : Calls Try.prog 33 #[.int .i64 v, .int .i64 lo, .int .i64 hi] w fun e w' => e = .returned (.bool (inR v lo hi)) ∧ w' = w := (bwithin_any v lo hi w).mono fun _ _ h => ⟨h.1, h.2.symm⟩
def rtB (f : Nat → Int) (p q : Nat) : Bool := if f (273 + p) = 1 then inR (f (17 + p * 16 + q)) 1 (f 289) else decide (f (17 + p * 16 + q) < 0)
set_option maxRecDepth 100000 in
theorem isRight_any (b : Nat) (f : Nat → Int) (p q : Nat) (w : World) (h : Nb w b f) (hp : p < 16) (hq : q < 16) : Calls Try.prog 56 #[.pointer (some ⟨b, 0, none⟩), .int .i64 p, .int .i64 q] w fun e w' => e = .returned (.bool (rtB f p q)) ∧ Below w.heap.size w w' := by
  have c0 := h.cell (i := 273 + p) (by omega)
  have c1 := h.cell (i := 17 + p * 16 + q) (by omega)
  have c2 := h.cell (i := 289) (by omega)
  have p1 : (0 : Int) ≤ (p : Int) := Int.natCast_nonneg _
  have p2 : (p : Int) < 16 := by omega
  have q1 : (0 : Int) ≤ (q : Int) := Int.natCast_nonneg _
  have q2 : (q : Int) < 16 := by omega
  obtain ⟨x, hx⟩ : ∃ x, f (273 + p) = x := ⟨_, rfl⟩
  obtain ⟨y, hy⟩ : ∃ x, f (17 + p * 16 + q) = x := ⟨_, rfl⟩
  obtain ⟨z, hz⟩ : ∃ x, f 289 = x := ⟨_, rfl⟩
  rw [hx] at c0
  rw [hy] at c1
  rw [hz] at c2
  unfold rtB
  rw [hx, hy, hz]
  clear h hx hy hz
  by_cases x1 : x = 1
  · subst x1
    go_enter Try.func56, Try.ntmps56
    go_wp2
    go_quiet ((go_at_call 33; exact Calls.quiet_of_same (bwithin_same _ _ _ _)))
    go_wp2
    go_ret
    exact ⟨rfl, below_drewN (Below.refl _ _) _⟩
  · have x2 : (x == 1) = false := by simpa using x1
    rw [if_neg x1]
    clear x1
    go_enter Try.func56, Try.ntmps56
    go_wp2_with fail
    all_goals go_ret
    all_goals exact ⟨by simp, Below.refl _ _⟩
end Go.Proofs.Ytfodkackfahldaa.Lo
