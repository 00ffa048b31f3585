import Derived.Test.YtbjpbcanmpimnaaRefTake
import Derived.Test.YtbjpbcanmpimnaaLoose
import Derived.SizedLaws
import Derived.WalkKit
import Derived.ProofKit
import Derived.OpenShut
import Derived.ShutString
import Derived.ChangeOld
import Derived.Below
namespace Go.Proofs.Ytbjpbcanmpimnaa.wireTakes
open Go.ChangeShapes Go.WideShapes Go.ChangeAt Go.RowKit
open Go.ChangeMaps (open_string shut_string)
set_option linter.unusedVariables false

theorem own : ownKnob Try.prog.godebug = none := by kernel_rfl
theorem laidOut : laidOutB Try.prog = true := by kernel_rfl

def IsRow (k : IntKind) (w : World) (a : Option Addr) (len cap : Nat) (zs : List Int) : Prop :=
  (a = none ∧ len = 0 ∧ cap = 0 ∧ zs = []) ∨
  ∃ x, a = some x ∧ len ≤ cap ∧ cap ≤ maxLen ∧ zs.length = cap ∧ (∀ i, i < zs.length → w.cell? (x.add i) = some (.int k (zs.getD i 0))) ∧ ∀ n ∈ zs, (Lit.int k n).wf = true

theorem toWk {w : World} {ao : Option Addr} {len cap : Nat} {bs : List Int} (h : Lo.Rd w ao len cap bs) : Wk.Rd w ao len bs := ⟨h.1, h.2.2.1, h.2.2.2⟩

theorem num_any (v : Int) (w : World) : Calls Try.prog 8 #[.int .i64 v] w fun e w' => e = .returned (.int .i64 v) ∧ w = w' := by
  go_enter Try.func8, Try.ntmps8
  go_wp2
  go_ret
  exact ⟨rfl, rfl⟩

theorem take_eq (ao : Option Addr) (len cap : Nat) (bs : List Int) (w : World) (hr : Lo.Rd w ao len cap bs) (hlen : len ≤ 140737488355328) (a x y z : Int) (h : Wm.tk bs a = (x, y, z)) :
    Calls Try.prog 9 #[.slice ao len cap, .int .i64 a] w fun e w' => e = .returned (.tuple #[.int .i64 x, .int .i64 y, .int .i64 z]) ∧ w = w' := by
  have := Wk.take_any ao len cap bs w (toWk hr) hlen a
  rw [h] at this
  exact this

theorem rtake_eq (ao : Option Addr) (len cap : Nat) (bs : List Int) (w : World) (hr : Lo.Rd w ao len cap bs) (hlen : len ≤ 140737488355328) (a x y z : Int) (h : Wm.tk bs a = (x, y, z)) :
    Calls Try.prog 11 #[.slice ao len cap, .int .i64 a] w fun e w' => e = .returned (.tuple #[.int .i64 x, .int .i64 y, .int .i64 z]) ∧ w = w' := by
  have := Wk.rtake_any ao len cap bs w (toWk hr) hlen a
  rw [h] at this
  exact this

open Lo in
set_option maxHeartbeats 2000000 in
theorem core (ao : Option Addr) (cap : Nat) (bs : List Int) (a : Int) (w : World) (hr : Rd w ao bs.length cap bs) (hlen : bs.length ≤ 140737488351232) :
    Calls Try.prog 4 #[.slice ao bs.length cap, .int .i64 a] w fun e w' => e = .returned (.bool true) ∧ Below w.heap.size w w' := by
  have Hr : Hid (Rd w ao bs.length cap bs) := hr
  clear hr
  obtain ⟨x, y, z, hT⟩ : ∃ x y z, Wm.tk bs a = (x, y, z) := ⟨_, _, _, rfl⟩
  obtain ⟨x', y', z', hT'⟩ : ∃ x' y' z', Wm.tk (turnTo bs.length bs) a = (x', y', z') := ⟨_, _, _, rfl⟩
  have HT : Hid (Wm.tk bs a = (x, y, z)) := hT
  have HT' : Hid (Wm.tk (turnTo bs.length bs) a = (x', y', z')) := hT'
  clear hT hT'
  go_enter Try.func4, Try.ntmps4
  go_wp2_with fail
  refine (L_shape ao cap bs _ Hr.out (by omega)).mono ?_
  rintro e w1 ⟨g, capl, rfl, hcl, hg, ho1, hb1⟩
  have Ho1 : Hid (Own w1 w.heap.size (.slice (some ⟨g, 0, none⟩) (bs ++ marks 64).length capl) (bs ++ marks 64)) := ho1
  have Hb1 : Hid (Below w.heap.size w w1) := hb1
  have Hr1 : Hid (Rd w1 ao bs.length cap bs) := Hr.out.below hb1
  have Hg1 : Hid (Rd w1 (some ⟨g, 0, none⟩) bs.length capl bs) := ho1.rdPrefix Hr.out.2.2.2
  clear ho1 hb1
  go_wp2_with fail
  refine (take_eq _ _ _ bs _ Hg1.out (by omega) a x y z HT.out).mono ?_
  rintro e w' ⟨rfl, rfl⟩
  go_wp2_with fail
  refine (rtake_eq _ _ _ bs _ Hr1.out (by omega) a x y z HT.out).mono ?_
  rintro e w' ⟨rfl, rfl⟩
  go_wp2_with fail
  refine (num_any _ _).mono ?_
  rintro e w' ⟨rfl, rfl⟩
  go_wp2_with fail
  refine (unspoilt_own g capl w.heap.size ao cap bs _ Hr1.out (by omega) Ho1.out).mono ?_
  rintro e w2 ⟨rfl, hb2⟩
  have Ho2 : Hid (Own w2 w.heap.size (.slice (some ⟨g, 0, none⟩) (bs ++ marks 64).length capl) (bs ++ marks 64)) := owns_below Ho1.out hb2
  have Hb2 : Hid (Below w.heap.size w w2) := Hb1.out.trans (hb2.mono Hb1.out.size)
  clear hb2 Hr1 Hg1 Ho1 Hb1
  go_wp2_with fail
  refine (turn_shape g capl w.heap.size bs (marks 64) _ Ho2.out Hr.out.2.2.2 (by omega)).mono ?_
  rintro e w3 ⟨ao3, cap3, rfl, ho3, hr3, hl3, hg3⟩
  have Hr3 : Hid (Rd w3 ao3 bs.length cap3 (turnTo bs.length bs)) := hr3
  have Ho3 : Hid (Own w3 w.heap.size (.slice (some ⟨g, 0, none⟩) (turnTo bs.length bs ++ marks 64).length capl) (turnTo bs.length bs ++ marks 64)) := by
    have e : (turnTo bs.length bs ++ marks 64).length = (bs ++ marks 64).length := by simp [turnTo_len]
    rw [e]; exact hl3
  have Hg3 : Hid (Rd w3 (some ⟨g, 0, none⟩) bs.length capl (turnTo bs.length bs)) := by
    have h := hl3.rdPrefix (turnTo_range _ bs Hr.out.2.2.2)
    rw [turnTo_len] at h
    exact h
  have Hb3 : Hid (Below w.heap.size w w3) := Hb2.out.grown hg3 Hb2.out.size (fun k hk => by obtain rfl := Option.some.inj hk; exact hg)
  clear ho3 hr3 hl3 hg3
  go_wp2_with fail
  refine (take_eq _ _ _ _ _ Hg3.out (by omega) a x' y' z' HT'.out).mono ?_
  rintro e w' ⟨rfl, rfl⟩
  go_wp2_with fail
  refine (rtake_eq _ _ _ _ _ Hr3.out (by omega) a x' y' z' HT'.out).mono ?_
  rintro e w' ⟨rfl, rfl⟩
  go_wp2_with fail
  refine (num_any _ _).mono ?_
  rintro e w' ⟨rfl, rfl⟩
  go_wp2_with fail
  have hu := unspoilt_own g capl w.heap.size ao3 cap3 (turnTo bs.length bs) w3 (by rw [turnTo_len]; exact Hr3.out) (by rw [turnTo_len]; omega) Ho3.out
  rw [turnTo_len] at hu
  refine hu.mono ?_
  clear hu
  rintro e w4 ⟨rfl, hb4⟩
  have Hb4 : Hid (Below w.heap.size w w4) := Hb3.out.trans (hb4.mono Hb3.out.size)
  clear hb4
  go_wp2_with fail
  go_ret
  exact ⟨rfl, Hb4⟩

theorem rd_of_row {w : World} {a0 : Option Addr} {len0 cap0 : Nat} {z0 : List Int} (w0 : IsRow .u8 w a0 len0 cap0 z0) : Lo.Rd w a0 (z0.take len0).length cap0 (z0.take len0) ∧ (z0.take len0).length = len0 := by
  rcases w0 with ⟨rfl, rfl, rfl, rfl⟩ | ⟨x, rfl, hl, hm, hz, hcell, hwz⟩
  · exact ⟨⟨rfl, fun _ => ⟨rfl, rfl⟩, .inl rfl, by simp⟩, rfl⟩
  · have hlen : (z0.take len0).length = len0 := by rw [List.length_take]; omega
    refine ⟨⟨rfl, by simp, ?_, ?_⟩, hlen⟩
    · by_cases h0 : len0 = 0
      · exact .inl (by omega)
      · obtain ⟨b, off, spot⟩ := x
        have hc := hcell 0 (by omega)
        have hspot : spot = none := by simpa [Addr.add] using World.cell?_spot hc
        subst hspot
        refine .inr ⟨b, off, rfl, fun i hi => ?_⟩
        have := hcell i (by omega)
        rw [Addr.add_lit] at this
        rw [this]
        have h1 : i < len0 := by omega
        simp [List.getD, h1]
    · intro i
      by_cases hi : i < (z0.take len0).length
      · have hmem : (z0.take len0).getD i 0 ∈ z0 := by
          have : (z0.take len0).getD i 0 ∈ z0.take len0 := by simp only [List.getD, List.getElem?_eq_getElem hi]; exact List.getElem_mem hi
          exact List.mem_of_mem_take this
        have := hwz _ hmem
        simpa [Lit.wf, IntKind.min, IntKind.max, IntKind.signed, IntKind.bits] using this
      · simp [List.getD, List.getElem?_eq_none (by omega : (z0.take len0).length ≤ i)]

theorem walk (a0 : Option Addr) (len0 cap0 : Nat) (z0 : List Int) (a1 : Int) (w : World) (w0 : IsRow .u8 w a0 len0 cap0 z0) (rc0 : cap0 ≤ 140737488351232) :
    Calls Try.prog 4 #[.slice a0 len0 cap0, .int .i64 a1] w fun e w' => e = .returned (.bool true) ∧ Below w.heap.size w w' := by
  have h := rd_of_row w0
  have hl : len0 ≤ cap0 := by rcases w0 with ⟨_, h1, _, _⟩ | ⟨x, _, hl, _⟩ <;> omega
  have := core a0 cap0 (z0.take len0) a1 w h.1 (by omega)
  rw [h.2] at this
  exact this

set_option maxRecDepth 100000 in
theorem lifted (os : Os) (started : os.Started) (H : Type) (enc : TypeId × Value → H) :
    ReturnsInHanded {} Try.checked os 4 .any (Rows.wireTakesSpec.pre6 enc Try.prog Try.f4 Rows.wireTakesRow.domain false) (Rows.wireTakesSpec.post enc Try.prog Try.f4 false true false false) := by
  refine returnsInHanded_of_change_sized (C := Try.checked) own started (by kernel_rfl) Try.func4
    (ChangeSpec.witness6 (enc := enc) (C := Try.checked) false ⟨#[], #[.slice none 0 0, .int .i64 0], []⟩ 8 (by kernel_rfl) (by kernel_rfl) (by kernel_rfl) (by kernel_rfl)) ?_
  intro W base args ds gs before hval0 hW hcnd hsz0 _
  have hsz : (DataW.weightsEach Try.prog (Try.f4.params.toList ++ Rows.wireTakesSpec.plain.varTypes Try.prog) (ds ++ gs)).all (· ≤ reachBytes) = true := hsz0
  clear hsz0
  have hval : ∀ (j : Nat) t v, Try.f4.params[j]? = some t → args[j]? = some v → Value.okWide Try.prog W .any base t v := hval0
  have hW' := hW
  obtain ⟨p, q, hA0, hV, rfl, hfz, hnd⟩ := hW
  have hA : DataW.TrodAll enc Try.prog W 0 (fun _ => true) true Try.f4.params.toList args.toList ds p := hA0
  rw [Try.params4] at hA hval hsz
  obtain ⟨v0, vs0, d0, ds0, p0, q0, hargs, rfl, rfl, h0, r0⟩ := trodAll_cons hA
  obtain ⟨v1, vs1, d1, ds1, p1, q1, rfl, rfl, rfl, h1, r1⟩ := trodAll_cons r0
  obtain ⟨rfl, rfl, rfl⟩ := trodAll_nil r1
  obtain rfl : args = #[v0, v1] := by cases args; simp_all
  obtain ⟨rfl, rfl⟩ := trodVars_none hV
  obtain ⟨a0, len0, cap0, rfl⟩ := okWide_slice Try.underlying23 (hval 0 23 v0 rfl rfl)
  have k0 := h0
  have lt0 : ∀ x ∈ p0, x.block < W.heap.size := by obtain ⟨m, hm⟩ := k0; exact DataW.trod_lt m _ _ _ hm
  obtain ⟨z0, w0, rc0⟩ : ∃ zs, IsRow .u8 W a0 len0 cap0 zs ∧ cap0 ≤ 140737488351232 := by
    obtain ⟨fuel, hf⟩ := h0
    rcases open_ints Try.underlying23 Try.underlying5 (by kernel_rfl) hf with ⟨hcs, _⟩ | ⟨x, l, c, zs, hcs, _, hl, hm, hz, hx, hcell, hwz⟩
    · simp [Value.cells] at hcs
      obtain ⟨rfl, rfl, rfl⟩ := hcs
      exact ⟨[], .inl ⟨rfl, rfl, rfl, rfl⟩, Nat.zero_le _⟩
    · simp [Value.cells] at hcs
      obtain ⟨rfl, rfl, rfl⟩ := hcs
      refine ⟨zs, .inr ⟨_, rfl, hl, hm, by simpa using hz, hcell, hwz⟩, ?_⟩
      simp only [Prod.mk.injEq] at hx
      obtain ⟨hx, _⟩ := hx
      have hb : Try.prog.bytesOf 5 = 1 := by kernel_rfl
      have hs := sized_slice hsz (j := 0) (t := 23) (e := 5) (elems := lits .u8 (zs.take len0)) (spare := lits .u8 (zs.drop len0)) rfl (by rw [hx]; rfl) Try.underlying23
      rw [hb] at hs
      simp only [lits, List.length_map, List.length_take, List.length_drop, reachBytes] at hs
      simp only [if_true] at hz
      omega
  obtain ⟨a1, rfl, rfl, rfl, w1⟩ := open_int Try.underlying3 (hval 1 3 v1 rfl rfl) h1
  clear hA0 hval0
  refine (walk a0 len0 cap0 z0 a1 W w0 rc0).mono fun e W' ⟨he, bel⟩ => ?_
  subst he
  exact ⟨_, rfl, _, _, _, [], _, [], hW', trodAll_mk1 (shut_bool Try.underlying4 _), (trodAll_cons_mk (Below.trod laidOut (by kernel_rfl) (of_decide_eq_true (by kernel_rfl)) k0 bel lt0) (trodAll_cons_mk (shut_int Try.underlying3 w1) trodAll_mk0)), rfl, bel.frame _, fun h => by cases h⟩

theorem over : Rows.wireTakesRow.holds Try.pinned (OpenSpec.ofChange Rows.wireTakesSpec) :=
  OpenClaim.holds_of_wide 4 Try.f4 rfl rfl rfl rfl rfl rfl rfl ⟨rfl, rfl, rfl, rfl, rfl⟩ rfl rfl rfl rfl rfl (by kernel_rfl) Try.func4 (by kernel_rfl)
    (of_decide_eq_true (by kernel_rfl)) (by unfold Func.isWrapper; first | (rw [if_pos (by decide +kernel)]; kernel_rfl) | (rw [if_neg (by decide +kernel)]; exact ⟨rfl, rfl⟩))
    (fun os started H enc _ => lifted os started H enc)

theorem proved : Rows.WireTakesSaid := over
end Go.Proofs.Ytbjpbcanmpimnaa.wireTakes

namespace Go.Proofs.Ytbjpbcanmpimnaa
theorem wireTakes_holds : Rows.WireTakesSaid := wireTakes.proved
end Go.Proofs.Ytbjpbcanmpimnaa
