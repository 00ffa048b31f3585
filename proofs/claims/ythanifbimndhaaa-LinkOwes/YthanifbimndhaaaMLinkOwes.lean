import Derived.Test.YthanifbimndhaaaM39
import Derived.Test.YthanifbimndhaaaRows
import Derived.SizedLaws
import Derived.WalkKit
import Derived.ProofKit
import Derived.OpenShut
import Derived.ShutString
import Derived.ChangeOld
import Derived.Below
namespace Go.Proofs.Ythanifbimndhaaa.Ln
set_option maxHeartbeats 40000000
open Go.RowKit Mb
theorem law_Owes {w : World} {sa : Option Addr} {sn sc : Nat} (h : RdOps w sa sn) (hn : sn ≤ 140737488351232) : Calls Try.prog 8 #[.slice sa sn sc] w fun e w' => e = .returned (.bool true) /\ Below w.heap.size w w' := by
 have HP : Hid (Calls Try.prog 9 #[.slice sa sn sc, .int .i64 11, .int .i64 12] w fun e w' => e = .returned (.bool true) /\ Below w.heap.size w w') := (show Calls _ _ _ _ _ from play_any h hn)
 clear h hn
 go_enter Try.func8, Try.ntmps8
 go_wp2_with (first | (go_at_call 9; refine HP.out.mono ?_; rintro e w2 ⟨rfl, hb⟩) | fail)
 go_ret
 exact ⟨rfl, hb⟩
end Go.Proofs.Ythanifbimndhaaa.Ln
namespace Go.Proofs.Ythanifbimndhaaa.linkOwes
set_option maxHeartbeats 40000000
open Go.ChangeShapes Go.WideShapes Go.ChangeAt Go.RowKit Ln
open Go.ChangeMaps (open_string shut_string)
set_option linter.unusedVariables false

theorem own : ownKnob Try.prog.godebug = none := by kernel_rfl
theorem laidOut : laidOutB Try.prog = true := by kernel_rfl

set_option maxRecDepth 100000 in
theorem lifted (os : Os) (started : os.Started) (H : Type) (enc : TypeId × Value -> H) :
  ReturnsInHanded {} Try.checked os 8 .any (Rows.linkOwesSpec.pre6 enc Try.prog Try.f8 Rows.linkOwesRow.domain false) (Rows.linkOwesSpec.post enc Try.prog Try.f8 false true false false) := by
 refine returnsInHanded_of_change_sized (C := Try.checked) own started (by kernel_rfl) Try.func8
  (ChangeSpec.witness6 (enc := enc) (C := Try.checked) false ⟨#[], #[.slice none 0 0], []⟩ 8 (by kernel_rfl) (by kernel_rfl) (by kernel_rfl) (by kernel_rfl)) ?_
 intro W base args ds gs before hval0 hW hcnd hsz0 _
 have hsz : (DataW.weightsEach Try.prog (Try.f8.params.toList ++ Rows.linkOwesSpec.plain.varTypes Try.prog) (ds ++ gs)).all (· ≤ reachBytes) = true := hsz0
 clear hsz0
 have hval : ∀ (j : Nat) t v, Try.f8.params[j]? = some t -> args[j]? = some v -> Value.okWide Try.prog W .any base t v := hval0
 have hW' := hW
 obtain ⟨p, q, hA0, hV, rfl, hfz, hnd⟩ := hW
 have hA : DataW.TrodAll enc Try.prog W 0 (fun _ => true) true Try.f8.params.toList args.toList ds p := hA0
 rw [Try.params8] at hA hval hsz
 obtain ⟨v0, vs0, d0, ds0, p0, q0, hargs, rfl, rfl, h0, r0⟩ := trodAll_cons hA
 obtain ⟨rfl, rfl, rfl⟩ := trodAll_nil r0
 obtain rfl : args = #[v0] := by cases args; simp_all
 obtain ⟨rfl, rfl⟩ := trodVars_none hV
 have k0 := h0
 have lt0 : ∀ x ∈ p0, x.block < W.heap.size := by obtain ⟨m, hm⟩ := k0; exact DataW.trod_lt m _ _ _ hm
 have hwt : Oe.Wt d0 22 := fun n hn => by simpa using List.all_eq_true.1 hsz n (DataW.weights_mem_each (j := 0) rfl rfl n hn)
 obtain ⟨sa, sn, sc, rfl, ho, hn⟩ := Oe.open_ops (hval 0 22 v0 rfl rfl) h0 hwt
 clear hA0 hval0
 have hc := law_Owes ho hn (sc := sc)
 refine hc.mono fun e W' ⟨he, bel⟩ => ?_
 subst he
 exact ⟨_, rfl, _, _, _, [], _, [], hW', trodAll_mk1 (shut_bool Try.underlying4 _), (trodAll_cons_mk (Below.trod laidOut (by kernel_rfl) (of_decide_eq_true (by kernel_rfl)) k0 bel lt0) trodAll_mk0), rfl, bel.frame _, fun h => by cases h⟩

theorem over : Rows.linkOwesRow.holds Try.pinned (OpenSpec.ofChange Rows.linkOwesSpec) :=
 OpenClaim.holds_of_wide 8 Try.f8 rfl rfl rfl rfl rfl rfl rfl ⟨rfl, rfl, rfl, rfl, rfl⟩ rfl rfl rfl rfl rfl (by kernel_rfl) Try.func8 (by kernel_rfl)
  (of_decide_eq_true (by kernel_rfl)) (by unfold Func.isWrapper; first | (rw [if_pos (by decide +kernel)]; kernel_rfl) | (rw [if_neg (by decide +kernel)]; exact ⟨rfl, rfl⟩))
  (fun os started H enc _ => lifted os started H enc)

theorem proved : Rows.LinkOwesSaid := over
end Go.Proofs.Ythanifbimndhaaa.linkOwes

namespace Go.Proofs.Ythanifbimndhaaa
set_option maxHeartbeats 40000000
theorem linkOwes_holds : Rows.LinkOwesSaid := linkOwes.proved
end Go.Proofs.Ythanifbimndhaaa
