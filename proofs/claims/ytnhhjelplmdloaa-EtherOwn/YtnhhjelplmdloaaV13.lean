import Derived.Test.YtnhhjelplmdloaaV12
import Derived.Laws.Tables
import Derived.Great.Ranges
namespace Go.Proofs.Ytnhhjelplmdloaa.Et
open Go.RowKit Go.Maps
set_option linter.unusedVariables false
set_option linter.unusedSimpArgs false
set_option maxRecDepth 100000
section
variable {R R' : Rn} {w w' : World} {B : Nat}
def live (R : Rn) : List Nat := liveN R R.all.length
theorem ints_at {a : Option Addr} {n c : Nat} {LN : List Nat} {w1 : World} {B1 : Nat} (h : w1.ownsRow B1 3 1 (.slice a n c) n (intsOf LN)) {j : Nat} (hj : j < LN.length) : ∃ g, a = some ⟨g, 0, none⟩ ∧ w1.cell? ⟨g, j, none⟩ = some (.int .i64 (LN.getD j 0 : Nat)) := by
  have hl : LN.length = n := by have := h.1; simp [intsOf] at this; exact this
  rcases h.2 with ⟨h1, h2⟩ | ⟨g, cap, cur, hv, hB, hg, hnc, hcm, hcs, htk⟩
  · omega
  · simp at hv
    refine ⟨g, hv.1, ?_⟩
    rw [blk_cell hg j]
    have e1 : (cur.toList.take (n * 1))[j]? = (intsOf LN)[j]? := by rw [htk]
    rw [List.getElem?_take_of_lt (by omega)] at e1
    rw [← Array.getElem?_toList, e1]
    simp [intsOf, List.getD, List.getElem?_eq_getElem hj]
end
end Go.Proofs.Ytnhhjelplmdloaa.Et
namespace Go.Proofs.Ytnhhjelplmdloaa.Et
open Go.RowKit Go.Maps
set_option linter.unusedVariables false
set_option linter.unusedSimpArgs false
set_option maxRecDepth 100000
section
variable {R R' : Rn} {w w' : World} {B : Nat}
end
end Go.Proofs.Ytnhhjelplmdloaa.Et
namespace Go.Proofs.Ytnhhjelplmdloaa.Et
open Go.RowKit Go.Maps
set_option linter.unusedVariables false
set_option linter.unusedSimpArgs false
set_option maxRecDepth 100000
section
variable {R R' : Rn} {w w' : World} {B : Nat}
end
end Go.Proofs.Ytnhhjelplmdloaa.Et
namespace Go.Proofs.Ytnhhjelplmdloaa.Et
open Go.RowKit Go.Maps
set_option linter.unusedVariables false
set_option linter.unusedSimpArgs false
set_option maxRecDepth 100000
section
variable {R R' : Rn} {w w' : World} {B : Nat}
end
end Go.Proofs.Ytnhhjelplmdloaa.Et
