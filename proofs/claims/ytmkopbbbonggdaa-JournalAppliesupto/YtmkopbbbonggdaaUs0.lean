import Derived.Test.YtmkopbbbonggdaaUe
namespace Go.Proofs.Ytmkopbbbonggdaa.Fg
open Go.RowKit Mb
set_option linter.unusedVariables false
set_option maxRecDepth 100000
set_option linter.unusedSimpArgs false
section
variable {w w' W : World} {B : Nat}
theorem own_full {base g c n m : Nat} {bs : List Int} (h : Own w base (.slice (some ⟨g, 0, none⟩) n c) bs) (hm : m ≤ n) : ∃ C : Array Value, w.heap[g]? = some (.cells C 5 (0, 0)) ∧ m ≤ C.size := by
  rcases h.2 with ⟨h1, _⟩ | ⟨g', cap, cur, hv, _, hh, hr1, hr2, hr3, hr4⟩
  · cases h1
  · simp at hv
    obtain ⟨rfl, h2, h3⟩ := hv
    exact ⟨cur, hh, by omega⟩
end
end Go.Proofs.Ytmkopbbbonggdaa.Fg
