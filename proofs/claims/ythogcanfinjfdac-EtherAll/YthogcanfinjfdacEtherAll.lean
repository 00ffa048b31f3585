import Derived.Test.YthogcanfinjfdacMo
import Derived.Test.YthogcanfinjfdacRows
import Derived.SizedLaws
import Derived.WalkKit
import Derived.ProofKit
import Derived.OpenShut
import Derived.ShutString
import Derived.ChangeOld
import Derived.Below
namespace Go.Proofs.Ythogcanfinjfdac.etherAll
open Go.ChangeShapes Go.WideShapes Go.ChangeAt Go.RowKit Et
open Go.ChangeMaps (open_string shut_string)
set_option linter.unusedVariables false

theorem own : ownKnob Try.prog.godebug = none := by kernel_rfl
theorem laidOut : laidOutB Try.prog = true := by kernel_rfl

set_option maxRecDepth 100000 in
set_option maxHeartbeats 400000 in
theorem core (nd rm : Int) (oa : Option Addr) (n oc : Nat) (os : Nat → Opx) (w : World) (ho : RdOps w oa n os) (hn : n ≤ 2199023255551) : Calls Try.prog 3 #[.agg (kc nd rm oa n oc)] w fun e w' => e = .returned (.bool true) ∧ Below w.heap.size w w' := by
  have HW : Hid (∀ w', Below w.heap.size w w' → Calls Try.prog 4 #[.agg (kc nd rm oa n oc), .int .i64 0, .int .i64 60] w' fun e w2 => e = .returned (.bool true) ∧ Below w'.heap.size w' w2) := fun w' hb => walk_any nd rm 0 60 oa n oc os ⟨ho.1.elim (fun hh => Or.inl hh) (fun ⟨b, off, h1, h2⟩ => Or.inr ⟨b, off, h1, fun i hi j hj => by
    obtain ⟨u, hu⟩ := op_cs (os i) j hj
    have h3 := h2 i hi j hj
    rw [hu] at h3 ⊢
    exact below_at hb h3⟩), fun i hi => by
    obtain ⟨⟨bs, q1⟩, ⟨xs, q2⟩, q3⟩ := ho.2 i hi
    exact ⟨⟨bs, q1.still hb⟩, ⟨xs, q2.still hb⟩, q3⟩⟩ hn
  unfold kc at HW ⊢
  clear ho
  go_enter Try.func3, Try.ntmps3
  go_wp2_with (first | (go_at_call 4; refine (HW.out _ (by repeat (first | exact Below.refl _ _ | apply Below.drew | apply balloc))).mono ?_; rintro e w1 ⟨rfl, hb⟩) | fail)
  go_ret
  exact ⟨rfl, by first | exact hb | exact bstep (balloc (Below.refl _ w)) hb⟩

set_option maxRecDepth 100000 in
theorem lifted (os : Os) (started : os.Started) (H : Type) (enc : TypeId × Value → H) :
    ReturnsInHanded {} Try.checked os 3 .any (Rows.etherAllSpec.pre6 enc Try.prog Try.f3 Rows.etherAllRow.domain false) (Rows.etherAllSpec.post enc Try.prog Try.f3 false true false false) := by
  refine returnsInHanded_of_change_sized (C := Try.checked) own started (by kernel_rfl) Try.func3
    (ChangeSpec.witness6 (enc := enc) (C := Try.checked) false ⟨#[], #[.agg #[.int .i64 0, .int .i64 0, .slice none 0 0]], []⟩ 8 (by kernel_rfl) (by kernel_rfl) (by kernel_rfl) (by kernel_rfl)) ?_
  intro W base args ds gs before hval0 hW hcnd hsz0 _
  have hsz : (DataW.weightsEach Try.prog (Try.f3.params.toList ++ Rows.etherAllSpec.plain.varTypes Try.prog) (ds ++ gs)).all (· ≤ reachBytes) = true := hsz0
  clear hsz0
  have hval : ∀ (j : Nat) t v, Try.f3.params[j]? = some t → args[j]? = some v → Value.okWide Try.prog W .any base t v := hval0
  have hW' := hW
  obtain ⟨p, q, hA0, hV, rfl, hfz, hnd⟩ := hW
  have hA : DataW.TrodAll enc Try.prog W 0 (fun _ => true) true Try.f3.params.toList args.toList ds p := hA0
  rw [Try.params3] at hA hval hsz
  obtain ⟨v0, vs0, d0, ds0, p0, q0, hargs, rfl, rfl, h0, r0⟩ := trodAll_cons hA
  obtain ⟨rfl, rfl, rfl⟩ := trodAll_nil r0
  obtain rfl : args = #[v0] := by cases args; simp_all
  obtain ⟨rfl, rfl⟩ := trodVars_none hV
  have k0 := h0
  have lt0 : ∀ x ∈ p0, x.block < W.heap.size := by obtain ⟨m, hm⟩ := k0; exact DataW.trod_lt m _ _ _ hm
  have hwt : Oe.Wt d0 24 := fun n hn => by simpa using List.all_eq_true.1 hsz n (DataW.weights_mem_each (j := 0) rfl rfl n hn)
  obtain ⟨nd, rm, oa, n, oc, os, rfl, ho, hn⟩ := Oe.open_case (hval 0 24 v0 rfl rfl) h0 hwt
  clear hA0 hval0
  have hc := core nd rm oa n oc os W ho (by omega)
  refine hc.mono fun e W' ⟨he, bel⟩ => ?_
  subst he
  exact ⟨_, rfl, _, _, _, [], _, [], hW', trodAll_mk1 (shut_bool Try.underlying4 _), (trodAll_cons_mk (Below.trod laidOut (by kernel_rfl) (of_decide_eq_true (by kernel_rfl)) k0 bel lt0) trodAll_mk0), rfl, bel.frame _, fun h => by cases h⟩

theorem over : Rows.etherAllRow.holds Try.pinned (OpenSpec.ofChange Rows.etherAllSpec) :=
  OpenClaim.holds_of_wide 3 Try.f3 rfl rfl rfl rfl rfl rfl rfl ⟨rfl, rfl, rfl, rfl, rfl⟩ rfl rfl rfl rfl rfl (by kernel_rfl) Try.func3 (by kernel_rfl)
    (of_decide_eq_true (by kernel_rfl)) (by unfold Func.isWrapper; first | (rw [if_pos (by decide +kernel)]; kernel_rfl) | (rw [if_neg (by decide +kernel)]; exact ⟨rfl, rfl⟩))
    (fun os started H enc _ => lifted os started H enc)

theorem proved : Rows.EtherAllSaid := over
end Go.Proofs.Ythogcanfinjfdac.etherAll

namespace Go.Proofs.Ythogcanfinjfdac
theorem etherAll_holds : Rows.EtherAllSaid := etherAll.proved
end Go.Proofs.Ythogcanfinjfdac
