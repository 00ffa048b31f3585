import Derived.Test.YtbjpbcanmpimnabPkR1
import Derived.Test.YtbjpbcanmpimnabPkR2
import Derived.Test.YtbjpbcanmpimnabPkR3
import Derived.Test.YtbjpbcanmpimnabPkR4
import Derived.Test.YtbjpbcanmpimnabPkR5
import Derived.Test.YtbjpbcanmpimnabPkR6
import Derived.Test.YtbjpbcanmpimnabPkR7
import Derived.Test.YtbjpbcanmpimnabPkR8
namespace Go.Proofs.Ytbjpbcanmpimnab.Lo
open Go.RowKit Bk
set_option linter.unusedVariables false
set_option linter.unusedSimpArgs false

theorem rothers_any (P : Pk) (w : World) : Calls Try.prog 90 #[.agg P.cs] w fun x w' => x = .returned (.bool (othersB P)) ∧ Below w.heap.size w w' := by
  by_cases h1 : P.k = 1
  · exact roth_1 P w h1
  by_cases h2 : P.k = 2
  · exact roth_2 P w h2
  by_cases h3 : P.k = 3
  · exact roth_3 P w h3
  by_cases h4 : P.k = 4
  · exact roth_4 P w h4
  by_cases h5 : P.k = 5
  · exact roth_5 P w h5
  by_cases h6 : P.k = 6
  · exact roth_6 P w h6
  by_cases h7 : P.k = 7
  · exact roth_7 P w h7
  exact roth_8 P w h1 h2 h3 h4 h5 h6 h7
theorem rothers_eq (P : Pk) (r : Bool) (w : World) (h : othersB P = r) : Calls Try.prog 90 #[.agg P.cs] w fun x w' => x = .returned (.bool r) ∧ Below w.heap.size w w' := by
  subst h
  exact rothers_any P w

theorem geq {P : Program} {f : FuncId} {args : Array Value} {w : World} {B : World → Prop} {x b : Bool} (h : Calls P f args w fun e w' => e = .returned (.bool x) ∧ B w') (hx : x = b) : Calls P f args w fun e w' => e = .returned (.bool b) ∧ B w' := by
  subst hx
  exact h

def goodB (P : Pk) (xs ss vs hs : List Int) (sl : List (Int × Int)) (ds : List Dt) : Bool := headB P.k P.src P.si P.dst P.di && partB P xs ss vs hs sl ds && othersB P
def head0 (src si dst di : Int) : Bool := inR src 0 15 && inR dst 0 15 && (src != dst) && inR si 1 4611686018427387904 && inR di 0 4611686018427387904
theorem headB_1 (src si dst di : Int) : headB 1 src si dst di = head0 src si dst di := by
  have : inR 1 1 7 = true := by decide
  simp [headB, head0, lst, this]
theorem headB_k (k src si dst di : Int) (h1 : 2 ≤ k) (h2 : k ≤ 7) : headB k src si dst di = (head0 src si dst di && (di != 0)) := by
  have e1 : inR k 1 7 = true := by simp [inR]; omega
  have e2 : lst k = 1 := by simp [lst]; omega
  have e3 : inR di 1 4611686018427387904 = (inR di 0 4611686018427387904 && (di != 0)) := by
    simp only [inR]
    by_cases h : di = 0
    · subst h; decide
    · rw [show (di != 0) = true by simpa using h, Bool.and_true]
      congr 1
      rw [decide_eq_decide]
      omega
  rw [headB, e1, e2, e3, head0]
  simp [Bool.and_assoc]
theorem headB_0 (k src si dst di : Int) (h : k < 1 ∨ 7 < k) : headB k src si dst di = false := by
  have e1 : inR k 1 7 = false := by simp only [inR, Bool.and_eq_false_iff, decide_eq_false_iff_not]; omega
  simp [headB, e1]

end Go.Proofs.Ytbjpbcanmpimnab.Lo
