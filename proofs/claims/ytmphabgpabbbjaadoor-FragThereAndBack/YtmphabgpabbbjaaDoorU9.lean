import Derived.Test.YtmphabgpabbbjaaDoorUy
import Derived.Test.YtmphabgpabbbjaaDoorUz
namespace Go.Proofs.YtmphabgpabbbjaaDoor.Fg
open Go.RowKit Mb Ov
set_option linter.unusedVariables false
section
variable {w : World}
theorem back_any {x : Int} {oa a1 a2 ta : Option Addr} {on oc n01 c1 n02 c2 tn tc : Nat} {os : Nat → Opx} {b01 b02 : List Int} {tf : Nat → Bool} (hx : -9223372036854775808 ≤ x ∧ x ≤ 9223372036854775807) (ho : RdOps w oa on os) (hon : on ≤ 4398046511104) (hr1 : Rd w a1 n01 c1 b01) (hn1 : n01 ≤ 140737488351232) (hr2 : Rd w a2 n02 c2 b02) (hn2 : n02 ≤ 140737488351232) (htu : RdBl w ta tn tf) (htn : tn ≤ 140737488351232) (hT : Tab w) : Calls Tryd.prog 5 #[.int .i64 x, .slice oa on oc, .slice a1 n01 c1, .slice a2 n02 c2, .slice ta tn tc] w fun e w' => e = .returned (.bool true) ∧ Below w.heap.size w w' := by
  by_cases h : (max 1 (min x 16)).toNat = 1
  · exact back_one h ho hon hr1 hn1 hr2 hn2 htu htn hT
  · exact back_many h ho hon hr1 hn1 hr2 hn2 htu htn hT
end
end Go.Proofs.YtmphabgpabbbjaaDoor.Fg
