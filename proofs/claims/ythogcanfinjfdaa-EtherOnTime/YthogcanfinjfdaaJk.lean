import Derived.Test.YthogcanfinjfdaaJh0x
import Derived.Test.YthogcanfinjfdaaJh0f
import Derived.Test.YthogcanfinjfdaaJh0t
import Derived.Test.YthogcanfinjfdaaJh1x
import Derived.Test.YthogcanfinjfdaaJh1f
import Derived.Test.YthogcanfinjfdaaJh1t
namespace Go.Proofs.Ythogcanfinjfdaa.Et
open Go.RowKit Go.Maps
set_option linter.unusedVariables false
section
variable {w : World}
theorem ontime_any (nd rm d : Int) (gap : Bool) (oa : Option Addr) (n oc : Nat) (os : Nat → Opx) (ho : RdOps w oa n os) (hn : n ≤ 1759218604390) : Calls Try.prog 3 #[.agg (kc nd rm oa n oc), .int .i64 d, .bool gap] w fun e w' => e = .returned (.bool true) ∧ Below w.heap.size w w' := by
  by_cases h0 : nd < 1 ∨ 16 < nd
  · exact ontime_no nd rm d gap oa n oc h0
  by_cases h1 : nd = 1
  · subst h1
    exact ontime_one rm d gap oa n oc
  obtain ⟨m, rfl⟩ := Int.eq_ofNat_of_zero_le (show 0 ≤ nd by omega)
  by_cases hd : d < 1 ∨ 16 < d
  · by_cases hb : n ≤ 5000
    · exact ontime_0x m rm gap d hd oa n oc os (by omega) (by omega) ho hn hb
    · exact ontime_1x m rm gap d hd oa n oc os (by omega) (by omega) ho hn (by omega)
  obtain ⟨k, rfl⟩ := Int.eq_ofNat_of_zero_le (show 0 ≤ d by omega)
  by_cases hb : n ≤ 5000
  · cases gap
    · exact ontime_0f m rm k (by omega) (by omega) oa n oc os (by omega) (by omega) ho hn hb
    · exact ontime_0t m rm k (by omega) (by omega) oa n oc os (by omega) (by omega) ho hn hb
  · cases gap
    · exact ontime_1f m rm k (by omega) (by omega) oa n oc os (by omega) (by omega) ho hn (by omega)
    · exact ontime_1t m rm k (by omega) (by omega) oa n oc os (by omega) (by omega) ho hn (by omega)
end
end Go.Proofs.Ythogcanfinjfdaa.Et
