import Derived.Test.YtbdefhagpgpoiacQ47
import Derived.Test.YtbdefhagpgpoiacRows
import Derived.SizedLaws
import Derived.WalkKit
import Derived.ProofKit
import Derived.OpenShut
import Derived.ShutString
import Derived.ChangeOld
import Derived.Below
namespace Go.Proofs.Ytbdefhagpgpoiac.memberAll
open Go.ChangeShapes Go.WideShapes Go.ChangeAt Go.RowKit Mb
open Go.ChangeMaps (open_string shut_string)
set_option linter.unusedVariables false

set_option maxRecDepth 100000 in
theorem law_any {w : World} (v0 v1 v2 v3 : Int) (oa : Option Addr) (on oc : Nat) (os : Nat → Opx) (hv : -9223372036854775808 ≤ v0 ∧ v0 ≤ 9223372036854775807) (ho : RdOz w oa on os) (hon : on ≤ 925904528653) : Calls Try.prog 3 #[.agg #[.int .i64 v0, .int .i64 v1, .int .i64 v2, .int .i64 v3, .slice oa on oc]] w fun e w' => e = .returned (.bool true) ∧ Below w.heap.size w w' := by
  generalize hW1 : w.alloc (.cells #[.int .i64 v0, .int .i64 v1, .int .i64 v2, .int .i64 v3, .slice oa on oc] 24) = W1
  have b1 : Below w.heap.size w W1 := hW1 ▸ balloc (Below.refl _ _)
  have k1 : W1.heap[w.heap.size]? = some (.cells #[.int .i64 v0, .int .i64 v1, .int .i64 v2, .int .i64 v3, .slice oa on oc] 24 (0, 0)) := by rw [← hW1]; exact heap_alloc_new w _
  have R1 : Hid (W1.rangeAt w.heap.size 0 [.int .i64 v0, .int .i64 v1, .int .i64 v2, .int .i64 v3, .slice oa on oc]) := blk_range k1
  have HW : Hid (Calls Try.prog 4 #[.agg #[.int .i64 v0, .int .i64 v1, .int .i64 v2, .int .i64 v3, .slice oa on oc], .int .i64 0, .int .i64 7] W1 fun e w' => e = .returned (.bool true) ∧ Below W1.heap.size W1 w') := walk_any v0 v1 v2 v3 oa on oc os hv ⟨ho.1.elim .inl (fun ⟨b, off, e, hc⟩ => .inr ⟨b, off, e, fun i hi j hj => by
    have h := hc i hi j hj
    have hjs : j < (os i).cs.size := hj
    rw [Array.getElem?_eq_getElem hjs] at h ⊢
    exact below_at b1 h⟩), fun i hi => { ho.2 i hi with rd := (ho.2 i hi).rd.still b1 }⟩ hon 0 7
  have HB1 : Hid (Below w.heap.size w W1) := b1
  clear b1 k1 ho
  go_enter Try.func3, Try.ntmps3
  go_wp2_with (first
    | (refine load_mid 24 (.tmp 1) R1.out _ Try.underlying24 rfl (by kernel_rfl) rfl rfl rfl ?_)
    | fail)
  refine HW.out.mono ?_
  rintro e w2 ⟨rfl, hb2⟩
  have HB2 : Hid (Below w.heap.size w w2) := bstep HB1.out hb2
  clear hb2 HW
  go_wp2
  go_ret
  exact ⟨rfl, HB2.out⟩

theorem own : ownKnob Try.prog.godebug = none := by kernel_rfl
theorem laidOut : laidOutB Try.prog = true := by kernel_rfl

set_option maxRecDepth 100000 in
theorem lifted (os : Os) (started : os.Started) (H : Type) (enc : TypeId × Value → H) :
    ReturnsInHanded {} Try.checked os 3 .any (Rows.memberAllSpec.pre6 enc Try.prog Try.f3 Rows.memberAllRow.domain false) (Rows.memberAllSpec.post enc Try.prog Try.f3 false true false false) := by
  refine returnsInHanded_of_change_sized (C := Try.checked) own started (by kernel_rfl) Try.func3
    (ChangeSpec.witness6 (enc := enc) (C := Try.checked) false ⟨#[], #[.agg #[.int .i64 0, .int .i64 0, .int .i64 0, .int .i64 0, .slice none 0 0]], []⟩ 8 (by kernel_rfl) (by kernel_rfl) (by kernel_rfl) (by kernel_rfl)) ?_
  intro W base args ds gs before hval0 hW hcnd hsz0 _
  have hsz : (DataW.weightsEach Try.prog (Try.f3.params.toList ++ Rows.memberAllSpec.plain.varTypes Try.prog) (ds ++ gs)).all (· ≤ reachBytes) = true := hsz0
  clear hsz0
  have hval : ∀ (j : Nat) t v, Try.f3.params[j]? = some t → args[j]? = some v → Value.okWide Try.prog W .any base t v := hval0
  have hW' := hW
  obtain ⟨p, q, hA0, hV, rfl, hfz, hnd⟩ := hW
  have hA : DataW.TrodAll enc Try.prog W 0 (fun _ => true) true Try.f3.params.toList args.toList ds p := hA0
  rw [Try.params3] at hA hval hsz
  obtain ⟨v0, vs0, d0, ds0, p0, q0, hargs, rfl, rfl, h0, r0⟩ := trodAll_cons hA
  obtain ⟨rfl, rfl, rfl⟩ := trodAll_nil r0
  obtain rfl : args = #[v0] := by cases args; simp_all
  obtain ⟨rfl, rfl⟩ := trodVars_none hV
  have k0 := h0
  have lt0 : ∀ x ∈ p0, x.block < W.heap.size := by obtain ⟨m, hm⟩ := k0; exact DataW.trod_lt m _ _ _ hm
  have hwt0 : Oe.Wt d0 24 := fun n hn => by simpa using List.all_eq_true.1 hsz n (DataW.weights_mem_each (j := 0) rfl rfl n hn)
  obtain ⟨v0, v1, v2, v3, oa, on, oc, os1, rfl, ho, hon, hv0⟩ := Oe.open_case2 (hval 0 24 v0 rfl rfl) h0 hwt0
  clear hA0 hval0
  have hc := law_any v0 v1 v2 v3 oa on oc os1 hv0 ho hon
  refine hc.mono fun e W' ⟨he, bel⟩ => ?_
  subst he
  exact ⟨_, rfl, _, _, _, [], _, [], hW', trodAll_mk1 (shut_bool Try.underlying4 _), (trodAll_cons_mk (Below.trod laidOut (by kernel_rfl) (of_decide_eq_true (by kernel_rfl)) k0 bel lt0) trodAll_mk0), rfl, bel.frame _, fun h => by cases h⟩

theorem over : Rows.memberAllRow.holds Try.pinned (OpenSpec.ofChange Rows.memberAllSpec) :=
  OpenClaim.holds_of_wide 3 Try.f3 rfl rfl rfl rfl rfl rfl rfl ⟨rfl, rfl, rfl, rfl, rfl⟩ rfl rfl rfl rfl rfl (by kernel_rfl) Try.func3 (by kernel_rfl)
    (of_decide_eq_true (by kernel_rfl)) (by unfold Func.isWrapper; first | (rw [if_pos (by decide +kernel)]; kernel_rfl) | (rw [if_neg (by decide +kernel)]; exact ⟨rfl, rfl⟩))
    (fun os started H enc _ => lifted os started H enc)

theorem proved : Rows.MemberAllSaid := over
end Go.Proofs.Ytbdefhagpgpoiac.memberAll

namespace Go.Proofs.Ytbdefhagpgpoiac
theorem memberAll_holds : Rows.MemberAllSaid := memberAll.proved
end Go.Proofs.Ytbdefhagpgpoiac
