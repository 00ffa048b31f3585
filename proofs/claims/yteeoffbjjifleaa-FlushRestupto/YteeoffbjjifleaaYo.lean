import Derived.Test.YteeoffbjjifleaaYj
namespace Go.Proofs.Yteeoffbjjifleaa.Fm
open Go.RowKit Go.Maps Mb
set_option linter.unusedVariables false
set_option maxRecDepth 100000
set_option linter.unusedSimpArgs false
section
variable {w w' W : World} {B : Nat}
def CutS (cs : List Co) (v E : Int) : Prop := (inR 1 16 cs.length = false ∧ E = 1 ∧ v = 0) ∨ (inR 1 16 cs.length = true ∧ togE cs ≠ 0 ∧ E = togE cs ∧ v = 0) ∨ (inR 1 16 cs.length = true ∧ togE cs = 0 ∧ E = 0 ∧ ∃ n, Ends cs n ∧ v = baseOf cs + (n : Nat))
theorem CutS.eq {cs : List Co} {v E v' E' : Int} (h : CutS cs v E) (k : CutS cs v' E') : v = v' ∧ E = E' := by
  rcases h with ⟨h1, h2, h3⟩ | ⟨h1, h2, h3, h4⟩ | ⟨h1, h2, h3, n, h4, h5⟩
  · rcases k with ⟨k1, k2, k3⟩ | ⟨k1, k2, k3, k4⟩ | ⟨k1, k2, k3, m, k4, k5⟩
    · exact ⟨by rw [h3, k3], by rw [h2, k2]⟩
    · rw [h1] at k1; cases k1
    · rw [h1] at k1; cases k1
  · rcases k with ⟨k1, k2, k3⟩ | ⟨k1, k2, k3, k4⟩ | ⟨k1, k2, k3, m, k4, k5⟩
    · rw [h1] at k1; cases k1
    · exact ⟨by rw [h4, k4], by rw [h3, k3]⟩
    · exact absurd k2 h2
  · rcases k with ⟨k1, k2, k3⟩ | ⟨k1, k2, k3, k4⟩ | ⟨k1, k2, k3, m, k4, k5⟩
    · rw [h1] at k1; cases k1
    · exact absurd h2 k2
    · rw [h5, k5, h4.eq k4, h3, k3]; exact ⟨rfl, rfl⟩
def CutO (cs : List Co) (w : World) (e : Ending) (w' : World) : Prop := ∃ v E : Int, e = .returned (.tuple #[.int .i64 v, .int .i64 E]) ∧ CutS cs v E ∧ Below w.heap.size w w'
end
end Go.Proofs.Yteeoffbjjifleaa.Fm
