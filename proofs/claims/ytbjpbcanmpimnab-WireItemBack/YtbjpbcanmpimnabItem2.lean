import Derived.Test.YtbjpbcanmpimnabItem
namespace Go.Proofs.Ytbjpbcanmpimnab.Lo
open Go.RowKit
set_option linter.unusedVariables false

set_option maxRecDepth 100000 in
set_option maxHeartbeats 4000000 in
theorem goodItem_any (k s q st : Int) (ao : Option Addr) (n c : Nat) (p st2 ss sq : Int) (w : World) (hp : p ≥ -9223372036854775808) : Calls Try.prog 39 #[.agg #[.int .i64 k, .int .i64 s, .int .i64 q, .int .i64 st, .slice ao n c, .int .i64 p, .int .i64 st2, .int .i64 ss, .int .i64 sq]] w fun e w' => e = .returned (.bool (itemOK k s q st n p st2 ss sq)) ∧ Below w.heap.size w w' := by
  have HB : Hid (Below w.heap.size w w) := Below.refl _ _
  go_enter Try.func39, Try.ntmps39
  go_wp2_with (first
    | (go_at_call 72; refine (rwithin_any _ _ _ _).mono ?_; rintro e w' ⟨rfl, rfl⟩)
    | (go_at_call 71; refine (goodData_any _ _ _ _ _ _ _).mono ?_; rintro e w' ⟨rfl, hb⟩; have hpc : ∀ i, w'.cell? ⟨w.heap.size, i, none⟩ = (#[.int .i64 k, .int .i64 s, .int .i64 q, .int .i64 st, .slice ao n c, .int .i64 p, .int .i64 st2, .int .i64 ss, .int .i64 sq] : Array Value)[i]? := spill hb; replace HB : Hid (Below w.heap.size w w') := bstepA HB.out hb; clear hb)
    | (go_at_call 73; refine (goodSlot_any _ _ _).mono ?_; rintro e w' ⟨rfl, hb⟩; replace HB : Hid (Below w.heap.size w w') := by first | exact bstep HB.out hb | exact bstepA HB.out hb | exact bstep (balloc (balloc HB.out)) hb)
    | fail)
  all_goals go_ret
  all_goals refine ⟨?_, by first | exact HB.out | exact balloc HB.out | exact balloc (balloc HB.out)⟩
  all_goals congr 1
  all_goals simp_all [itemOK, dataZ, inR_pm]

end Go.Proofs.Ytbjpbcanmpimnab.Lo
