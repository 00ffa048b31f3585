import Derived.Test.YtfbollifegngjaaXz1
import Derived.Test.YtfbollifegngjaaXz2
import Derived.Test.YtfbollifegngjaaXz3
namespace Go.Proofs.Ytfbollifegngjaa.Dt
open Go.RowKit
set_option linter.unusedVariables false
section
variable {w : World}
theorem newOk_nat {n s inc base step lim : Int} (hok : newOk n s inc base step lim = true) : ∃ k t : Nat, n = k ∧ s = t := by
  have hk := hok
  unfold newOk at hk
  simp only [Bool.and_eq_true] at hk
  obtain ⟨b1, b2, _⟩ := hk
  have a1 := of_decide_eq_true b1
  have a2 := of_decide_eq_true b2
  exact ⟨n.toNat, s.toNat, by omega, by omega⟩
theorem turns_any (n s inc base step lim : Int) (oa : Option Addr) (on oc : Nat) (n2 s2 inc2 base2 step2 lim2 : Int) (oa2 : Option Addr) (on2 oc2 : Nat) (os os2 : Nat → Opx) (ho : RdOps w oa on os) (ho2 : RdOps w oa2 on2 os2) (h43 : ∀ i, i < on → (os i).hn ≤ 17592186043904) (h432 : ∀ i, i < on2 → (os2 i).hn ≤ 17592186043904) (hon : on ≤ 2513169434916) (hon2 : on2 ≤ 2513169434916) : Calls Try.prog 4 #[.agg (rc n s inc base step lim oa on oc), .agg (rc n2 s2 inc2 base2 step2 lim2 oa2 on2 oc2)] w fun e w' => e = .returned (.bool true) ∧ Below w.heap.size w w' := by
  cases h1 : newOk n s inc base step lim with
  | false => exact turns_no1 n s inc base step lim oa on oc n2 s2 inc2 base2 step2 lim2 oa2 on2 oc2 h1
  | true =>
    cases h2 : newOk n2 s2 inc2 base2 step2 lim2 with
    | false => exact turns_no2 n s inc base step lim oa on oc n2 s2 inc2 base2 step2 lim2 oa2 on2 oc2 h2
    | true =>
      obtain ⟨k, t, rfl, rfl⟩ := newOk_nat h1
      obtain ⟨k2, t2, rfl, rfl⟩ := newOk_nat h2
      exact turns_ok k t inc base step lim oa on oc k2 t2 inc2 base2 step2 lim2 oa2 on2 oc2 os os2 ho ho2 h43 h432 hon hon2 h1 h2
end
end Go.Proofs.Ytfbollifegngjaa.Dt
