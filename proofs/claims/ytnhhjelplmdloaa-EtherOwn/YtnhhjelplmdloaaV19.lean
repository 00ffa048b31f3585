import Derived.Test.YtnhhjelplmdloaaV18
namespace Go.Proofs.Ytnhhjelplmdloaa.Et
open Go.RowKit Go.Maps
set_option linter.unusedVariables false
set_option linter.unusedSimpArgs false
set_option maxRecDepth 100000
section
variable {R R' : Rn} {w w' wr : World} {B B0 : Nat}
end
end Go.Proofs.Ytnhhjelplmdloaa.Et
namespace Go.Proofs.Ytnhhjelplmdloaa.Et
open Go.RowKit Go.Maps
set_option linter.unusedVariables false
set_option linter.unusedSimpArgs false
set_option maxRecDepth 100000
section
variable {R R' : Rn} {w w' W : World} {B : Nat}
theorem set_far {W : World} {k i g j : Nat} {u v : Value} (h : W.cell? ⟨k, i, none⟩ = some u) (hne : k ≠ g) : (W.setCell ⟨g, j, none⟩ v).cell? ⟨k, i, none⟩ = some u := by
  have kp := kset (P := fun q => q = g) W g j v rfl
  have hb := kp.block k (World.block_lt_of_cell? W _ h) hne
  exact (World.cell?_of_block (w := W) hb).trans h
end
end Go.Proofs.Ytnhhjelplmdloaa.Et
