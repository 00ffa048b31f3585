import Derived.Test.YtbjpbcanmpimnabPk3
import Derived.Test.YtbjpbcanmpimnabPkO1
import Derived.Test.YtbjpbcanmpimnabPkO2
import Derived.Test.YtbjpbcanmpimnabPkO3
import Derived.Test.YtbjpbcanmpimnabPkO4
import Derived.Test.YtbjpbcanmpimnabPkO5
import Derived.Test.YtbjpbcanmpimnabPkO6
import Derived.Test.YtbjpbcanmpimnabPkO7
namespace Go.Proofs.Ytbjpbcanmpimnab.Lo
open Go.RowKit Bk
set_option linter.unusedVariables false
set_option linter.unusedSimpArgs false

theorem partFits_any (P : Pk) (xs ss vs hs : List Int) (sl : List (Int × Int)) (ds : List Dt) (w : World) (hp : Pw w P xs ss vs hs sl ds) (hk : inR P.k 1 7 = true) :
    Calls Try.prog 51 #[.agg P.cs] w fun x w' => x = .returned (.bool (partB P xs ss vs hs sl ds)) ∧ Below w.heap.size w w' := by
  have h := inR_ge hk
  have hc : P.k = 1 ∨ P.k = 2 ∨ P.k = 3 ∨ P.k = 4 ∨ P.k = 5 ∨ P.k = 6 ∨ P.k = 7 := by omega
  unfold partB
  rcases hc with h | h | h | h | h | h | h
  · have := part_1 P xs ss vs hs sl ds w hp h
    rw [if_pos h]
    exact this
  · have := part_2 P xs ss vs hs sl ds w hp h
    rw [if_neg (by omega), if_pos h]
    exact this
  · have := part_3 P xs ss vs hs sl ds w hp h
    rw [if_neg (by omega), if_neg (by omega), if_pos h]
    exact this
  · have := part_4 P xs ss vs hs sl ds w hp h
    rw [if_neg (by omega), if_neg (by omega), if_neg (by omega), if_pos h]
    exact this
  · have := part_5 P xs ss vs hs sl ds w hp h
    rw [if_neg (by omega), if_neg (by omega), if_neg (by omega), if_neg (by omega), if_pos h]
    exact this
  · have := part_6 P xs ss vs hs sl ds w hp h
    rw [if_neg (by omega), if_neg (by omega), if_neg (by omega), if_neg (by omega), if_neg (by omega), if_pos h]
    exact this
  · have := part_7 P xs ss vs hs sl ds w hp h
    rw [if_neg (by omega), if_neg (by omega), if_neg (by omega), if_neg (by omega), if_neg (by omega), if_neg (by omega), if_pos h]
    exact this

theorem othersZero_any (P : Pk) (w : World) (hk : inR P.k 1 7 = true) :
    Calls Try.prog 52 #[.agg P.cs] w fun x w' => x = .returned (.bool (othersB P)) ∧ Below w.heap.size w w' := by
  have h := inR_ge hk
  have hc : P.k = 1 ∨ P.k = 2 ∨ P.k = 3 ∨ P.k = 4 ∨ P.k = 5 ∨ P.k = 6 ∨ P.k = 7 := by omega
  rcases hc with h | h | h | h | h | h | h
  · exact oth_1 P w h
  · exact oth_2 P w h
  · exact oth_3 P w h
  · exact oth_4 P w h
  · exact oth_5 P w h
  · exact oth_6 P w h
  · exact oth_7 P w h

end Go.Proofs.Ytbjpbcanmpimnab.Lo
