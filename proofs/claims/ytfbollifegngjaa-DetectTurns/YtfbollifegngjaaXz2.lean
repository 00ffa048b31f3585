import Derived.Test.YtfbollifegngjaaXz
namespace Go.Proofs.Ytfbollifegngjaa.Dt
open Go.RowKit
set_option linter.unusedVariables false
set_option maxRecDepth 100000
set_option linter.unusedSimpArgs false
section
variable {D D' C : De} {R R' M : Rf} {w w' W V : World} {B m : Nat}
set_option maxHeartbeats 1000000 in
theorem turns_no2 (n s inc base step lim : Int) (oa : Option Addr) (on oc : Nat) (n2 s2 inc2 base2 step2 lim2 : Int) (oa2 : Option Addr) (on2 oc2 : Nat) (hno : newOk n2 s2 inc2 base2 step2 lim2 = false) : Calls Try.prog 4 #[.agg (rc n s inc base step lim oa on oc), .agg (rc n2 s2 inc2 base2 step2 lim2 oa2 on2 oc2)] w fun e w' => e = .returned (.bool true) ∧ Below w.heap.size w w' := by
  generalize hA : w.alloc (.cells (rc n s inc base step lim oa on oc) 31) = A
  have hbA : Below w.heap.size w A := by rw [← hA]; exact balloc (Below.refl _ w)
  have hkA : A.heap[w.heap.size]? = some (.cells (rc n s inc base step lim oa on oc) 31 (0, 0)) := by rw [← hA]; exact heap_alloc_new w _
  generalize hW : A.alloc (.cells (rc n2 s2 inc2 base2 step2 lim2 oa2 on2 oc2) 31) = W
  have hbW : Below A.heap.size A W := by rw [← hW]; exact balloc (Below.refl _ A)
  have hkW : W.heap[A.heap.size]? = some (.cells (rc n2 s2 inc2 base2 step2 lim2 oa2 on2 oc2) 31 (0, 0)) := by rw [← hW]; exact heap_alloc_new A _
  have hkA2 := (hbW.block _ (lt_heap hkA)).trans hkA
  obtain ⟨c0, c1, c2, c3, c4, c5, c6⟩ := run_cells hkA2
  obtain ⟨d0, d1, d2, d3, d4, d5, d6⟩ := run_cells hkW
  have Hb : Hid (Below w.heap.size w W) := bstep hbA hbW
  have HkW : Hid (W.heap[A.heap.size]? = some (.cells (rc n2 s2 inc2 base2 step2 lim2 oa2 on2 oc2) 31 (0, 0))) := hkW
  have HkA : Hid (W.heap[w.heap.size]? = some (.cells (rc n s inc base step lim oa on oc) 31 (0, 0))) := hkA2
  have hwA := lt_heap hkA2
  have hwW := lt_heap hkW
  obtain ⟨ka, hka⟩ : ∃ k, w.heap.size = k := ⟨_, rfl⟩
  obtain ⟨kb, hkb⟩ : ∃ k, A.heap.size = k := ⟨_, rfl⟩
  rw [hka] at c0 c1 c2 c3 c4 c5 c6 HkA hwA
  rw [hkb] at d0 d1 d2 d3 d4 d5 d6 HkW hwW
  have HM1 := made_any (w := W) n s inc base step lim oa on oc
  have HM2 : Hid (∀ w', Calls Try.prog 15 #[.agg (rc n2 s2 inc2 base2 step2 lim2 oa2 on2 oc2)] w' fun e w2 => e = .returned (.tuple #[.pointer none, .pointer none, .bool true]) ∧ Below w'.heap.size w' w2) := fun w' => made_no n2 s2 inc2 base2 step2 lim2 oa2 on2 oc2 hno
  unfold rc at hA hW HM1 HM2 ⊢
  clear hbA hbW hkA hkW hkA2 hno
  go_enter Try.func4, Try.ntmps4
  go_wp2_with (fail)
  refine HM1.mono ?_
  rintro e w1 ⟨p, q, rfl, hb1⟩
  have B1 : Hid (Below W.heap.size W w1) := hb1
  have HX := (hb1.block _ (lt_heap HkW.out)).trans HkW.out
  obtain ⟨e0, e1, e2, e3, e4, e5, e6⟩ := run_cells HX
  clear hb1 HM1 HX c0 c1 c2 c3 c4 c5 c6 d0 d1 d2 d3 d4 d5 d6
  cases p with
  | none =>
    go_wp2_with (fail)
    refine (HM2.out _).mono ?_
    rintro e w2 ⟨rfl, hb2⟩
    have B2 : Hid (Below w1.heap.size w1 w2) := hb2
    clear hb2
    go_wp2_with (fail)
    go_ret
    exact ⟨rfl, bstep (bstep Hb.out B1.out) B2.out⟩
  | some x =>
    go_wp2_with (fail)
    refine (HM2.out _).mono ?_
    rintro e w2 ⟨rfl, hb2⟩
    have B2 : Hid (Below w1.heap.size w1 w2) := hb2
    clear hb2
    go_wp2_with (fail)
    go_ret
    exact ⟨rfl, bstep (bstep Hb.out B1.out) B2.out⟩
end
end Go.Proofs.Ytfbollifegngjaa.Dt
