import Derived.Test.YtkikeljbhllofaaZl
import Derived.Test.YtkikeljbhllofaaZk
namespace Go.Proofs.Ytkikeljbhllofaa.Fm
open Go.RowKit Go.Maps Mb
set_option linter.unusedVariables false
set_option maxRecDepth 100000
set_option linter.unusedSimpArgs false
section
variable {w w' W : World} {B : Nat}
theorem num_any (x : Int) : Calls Try.prog 28 #[.int .i64 x] w fun e w' => e = .returned (.int .i64 x) ∧ w' = w := by
  go_enter Try.func28, Try.ntmps28
  go_wp2
  go_ret
  exact ⟨rfl, rfl⟩
set_option maxHeartbeats 4000000 in
theorem flushCut_any {ao : Option Addr} {cp : Nat} {fs : List Fl} (hr : RdFs w ao fs) (hi : ∀ k, k < fs.length → (fs.getD k fl0).In w) (hn : fs.length ≤ 1048576) : Calls Try.prog 5 #[.slice ao fs.length cp] w fun e w' => e = .returned (.bool true) ∧ Below w.heap.size w w' := by
  have HR : Hid (RdFs w ao fs) := hr
  have HTw := twins_any (cp := cp) hr hi hn
  have HI : Hid (∀ k, k < fs.length → (fs.getD k fl0).c.sl.length ≤ 1048576 ∧ (fs.getD k fl0).c.hv.length ≤ 1048576) := fun k hk => ⟨(hi k hk).sn, (hi k hk).hn⟩
  have Hn : Hid (fs.length ≤ 1048576) := hn
  clear hr hi
  go_enter Try.func5, Try.ntmps5
  go_wp2_with (first
    | (go_at_call 26; refine HTw.mono ?_; rintro e V ⟨ta, tc, ia, ic, xs, rfl, hT, hbv⟩)
    | fail)
  have HB : Hid (Below w.heap.size w V) := hbv
  have HT : Hid (Tws V w.heap.size ta ia xs fs) := hT
  have HC1 := cut_any (cp := ic) (hT.rd (HR.out.still hbv)) (by rw [hT.len]; have := Hn.out; omega)
  rw [hT.cos] at HC1
  clear hT hbv HTw
  go_wp2_with (first
    | (go_at_call 9; refine HC1.mono ?_; rintro e V2 ⟨v, E, rfl, hS, hb2⟩)
    | fail)
  have HS : Hid (CutS (cos fs) v E) := hS
  have HT2 : Hid (Tws V2 w.heap.size ta ia xs fs) := HT.out.still hb2
  have HB2 : Hid (Below w.heap.size w V2) := bstep HB.out hb2
  have HC2 := qCut_any (cp := cp) (HR.out.still (bstep HB.out hb2)) (by have := Hn.out; omega)
  clear hS hb2 HC1 HT HB
  go_wp2_with (first
    | (go_at_call 27; refine HC2.mono ?_; rintro e V3 ⟨v', E', rfl, hS2, hb3⟩)
    | (refine wl_at 26 rfl ?_)
    | fail)
  obtain ⟨rfl, rfl⟩ := HS.out.eq hS2
  have HT3 : Tws V3 w.heap.size ta ia xs fs := HT2.out.still hb3
  have HB3 : Hid (Below w.heap.size w V3) := bstep HB2.out hb3
  have HU := allUn_any (ct := tc) (ci := ic) (cf := cp) HT3 (HR.out.still HB3.out) Hn.out HI.out
  have HN := num_any (w := V3) E
  clear hS2 hb3 HC2 HT2 HB2 HS HT3
  refine wl_take (v := .bool true) (by kernel_rfl) (by first | (go_simp; done) | (go_simp; omega)) ?_
  simp only [Act.put, List.getElem_toArray, List.getElem_cons_zero, List.getElem_cons_succ, List.setIfInBounds_toArray, List.set_cons_zero, List.set_cons_succ]
  refine wl_take (v := ?_) (by kernel_rfl) (by go_simp; exact rfl) ?_
  simp only [Act.put, List.getElem_toArray, List.getElem_cons_zero, List.getElem_cons_succ, List.setIfInBounds_toArray, List.set_cons_zero, List.set_cons_succ]
  refine wl_take (v := ?_) (by kernel_rfl) (by go_simp; exact rfl) ?_
  simp only [Act.put, List.getElem_toArray, List.getElem_cons_zero, List.getElem_cons_succ, List.setIfInBounds_toArray, List.set_cons_zero, List.set_cons_succ]
  refine wl_step (by kernel_rfl) fun K hK => ?_
  go_simp
  refine (HN).mono ?_
  rintro e V4 ⟨rfl, rfl⟩
  refine hK _ _ ?_
  clear hK K
  try (simp only [Act.put, List.getElem_toArray, List.getElem_cons_zero, List.getElem_cons_succ, List.setIfInBounds_toArray, List.set_cons_zero, List.set_cons_succ])
  refine wl_take (v := ?_) (by kernel_rfl) (by go_simp; exact rfl) ?_
  simp only [Act.put, List.getElem_toArray, List.getElem_cons_zero, List.getElem_cons_succ, List.setIfInBounds_toArray, List.set_cons_zero, List.set_cons_succ]
  refine wl_take (v := .bool true) (by kernel_rfl) (by first | (go_simp; done) | (go_simp; omega)) ?_
  simp only [Act.put, List.getElem_toArray, List.getElem_cons_zero, List.getElem_cons_succ, List.setIfInBounds_toArray, List.set_cons_zero, List.set_cons_succ]
  refine wl_take (v := ?_) (by kernel_rfl) (by go_simp; exact rfl) ?_
  simp only [Act.put, List.getElem_toArray, List.getElem_cons_zero, List.getElem_cons_succ, List.setIfInBounds_toArray, List.set_cons_zero, List.set_cons_succ]
  refine wl_take (v := ?_) (by kernel_rfl) (by go_simp; exact rfl) ?_
  simp only [Act.put, List.getElem_toArray, List.getElem_cons_zero, List.getElem_cons_succ, List.setIfInBounds_toArray, List.set_cons_zero, List.set_cons_succ]
  refine wl_take (v := ?_) (by kernel_rfl) (by go_simp; exact rfl) ?_
  simp only [Act.put, List.getElem_toArray, List.getElem_cons_zero, List.getElem_cons_succ, List.setIfInBounds_toArray, List.set_cons_zero, List.set_cons_succ]
  refine wl_take (v := ?_) (by kernel_rfl) (by go_simp; exact rfl) ?_
  simp only [Act.put, List.getElem_toArray, List.getElem_cons_zero, List.getElem_cons_succ, List.setIfInBounds_toArray, List.set_cons_zero, List.set_cons_succ]
  refine wl_take (v := ?_) (by kernel_rfl) (by go_simp; exact rfl) ?_
  simp only [Act.put, List.getElem_toArray, List.getElem_cons_zero, List.getElem_cons_succ, List.setIfInBounds_toArray, List.set_cons_zero, List.set_cons_succ]
  refine wl_step (by kernel_rfl) fun K hK => ?_
  go_simp
  refine (HU).mono ?_
  rintro e V5 ⟨rfl, hb5⟩
  refine hK _ _ ?_
  clear hK K
  try (simp only [Act.put, List.getElem_toArray, List.getElem_cons_zero, List.getElem_cons_succ, List.setIfInBounds_toArray, List.set_cons_zero, List.set_cons_succ])
  refine wl_take (v := ?_) (by kernel_rfl) (by go_simp; exact rfl) ?_
  simp only [Act.put, List.getElem_toArray, List.getElem_cons_zero, List.getElem_cons_succ, List.setIfInBounds_toArray, List.set_cons_zero, List.set_cons_succ]
  refine wl_take (v := ?_) (by kernel_rfl) (by go_simp; exact rfl) ?_
  simp only [Act.put, List.getElem_toArray, List.getElem_cons_zero, List.getElem_cons_succ, List.setIfInBounds_toArray, List.set_cons_zero, List.set_cons_succ]
  refine ⟨?_⟩
  go_wp2
  go_ret
  exact ⟨rfl, bstep HB3.out hb5⟩
end
end Go.Proofs.Ytkikeljbhllofaa.Fm
