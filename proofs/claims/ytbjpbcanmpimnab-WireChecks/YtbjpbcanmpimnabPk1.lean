import Derived.Test.YtbjpbcanmpimnabPkH0
import Derived.Test.YtbjpbcanmpimnabPkH1
import Derived.Test.YtbjpbcanmpimnabPkH2
import Derived.Test.YtbjpbcanmpimnabPkH3
import Derived.Test.YtbjpbcanmpimnabPkH4
import Derived.Test.YtbjpbcanmpimnabPkH5
import Derived.Test.YtbjpbcanmpimnabPkH6
namespace Go.Proofs.Ytbjpbcanmpimnab.Lo
open Go.RowKit Bk
set_option linter.unusedVariables false
set_option linter.unusedSimpArgs false

theorem headFits_any (cs : Array Value) (k src si dst di : Int) (hd : Hd cs k src si dst di) (w : World) :
    Calls Try.prog 50 #[.agg cs] w fun x w' => x = .returned (.bool (headB k src si dst di)) ∧ Below w.heap.size w w' := by
  obtain ⟨m, hm⟩ : ∃ m, lst k = m := ⟨_, rfl⟩
  have HM : Hid (lst k = m) := hm
  have e0 : headB k src si dst di = (inR k 1 7 && inR src 0 15 && inR dst 0 15 && (src != dst) && inR si 1 4611686018427387904 && inR di m 4611686018427387904) := by unfold headB; rw [hm]
  rw [e0]
  cases h0 : inR k 1 7 with
  | false => exact head_0 cs k src si dst di m hd HM w h0
  | true =>
    cases h1 : inR src 0 15 with
    | false => exact head_1 cs k src si dst di m hd HM w h0 h1
    | true =>
      cases h2 : inR dst 0 15 with
      | false => exact head_2 cs k src si dst di m hd HM w h0 h1 h2
      | true =>
        cases h3 : (src != dst) with
        | false => exact head_3 cs k src si dst di m hd HM w h0 h1 h2 h3
        | true =>
          cases h4 : inR si 1 4611686018427387904 with
          | false => exact head_4 cs k src si dst di m hd HM w h0 h1 h2 h3 h4
          | true =>
            cases h5 : inR di m 4611686018427387904 with
            | false => exact head_5 cs k src si dst di m hd HM w h0 h1 h2 h3 h4 h5
            | true =>
              exact head_6 cs k src si dst di m hd HM w h0 h1 h2 h3 h4 h5

end Go.Proofs.Ytbjpbcanmpimnab.Lo
