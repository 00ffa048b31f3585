import Derived.Test.YtkikeljbhllofaaZe
import Derived.Test.YtkikeljbhllofaaZg
import Derived.Test.YtkikeljbhllofaaYo
namespace Go.Proofs.Ytkikeljbhllofaa.Fm
open Go.RowKit Go.Maps Mb
set_option linter.unusedVariables false
set_option maxRecDepth 100000
set_option linter.unusedSimpArgs false
section
variable {w w' W : World} {B : Nat}
def lstE (cs : List Co) : Int := if inR 1 16 cs.length then togE cs else 1
set_option maxHeartbeats 4000000 in
theorem qlisted_any {ao : Option Addr} {cp : Nat} {fs : List Fl} (hr : RdFs w ao fs) (hln : fs.length ≤ 1000000000000000000) : Calls Try.prog 54 #[.slice ao fs.length cp] w fun e w' => e = .returned (.int .i64 (lstE (cos fs))) ∧ Below w.heap.size w w' := by
  have HT := qTog_any (cp := cp) hr hln
  have Hl : Hid (lstE (cos fs) = if inR 1 16 (fs.length : Int) then togE (cos fs) else 1) := (show _ = _ from by unfold lstE; rw [cos_len])
  generalize fs.length = L at *
  clear hr
  by_cases h1 : 1 ≤ L
  case neg =>
    have Hr : Hid (lstE (cos fs) = 1) := (show _ = _ from by rw [Hl.out, inR_f1 (by omega)]; rfl)
    go_enter Try.func54, Try.ntmps54
    go_wp2_with (first | (refine wl_at 4 rfl ?_) | fail)
    refine wl_take (v := ?_) (by kernel_rfl) (by go_simp; exact rfl) ?_
    simp only [Act.put, List.getElem_toArray, List.getElem_cons_zero, List.getElem_cons_succ, List.setIfInBounds_toArray, List.set_cons_zero, List.set_cons_succ]
    refine wl_take (v := .bool true) (by kernel_rfl) (by first | (go_simp; done) | (go_simp; omega)) ?_
    simp only [Act.put, List.getElem_toArray, List.getElem_cons_zero, List.getElem_cons_succ, List.setIfInBounds_toArray, List.set_cons_zero, List.set_cons_succ]
    refine wl_take (v := ?_) (by kernel_rfl) (by go_simp; exact rfl) ?_
    simp only [Act.put, List.getElem_toArray, List.getElem_cons_zero, List.getElem_cons_succ, List.setIfInBounds_toArray, List.set_cons_zero, List.set_cons_succ]
    refine wl_skip (by kernel_rfl) ?_
    simp only [Act.put, List.getElem_toArray, List.getElem_cons_zero, List.getElem_cons_succ, List.setIfInBounds_toArray, List.set_cons_zero, List.set_cons_succ]
    refine wl_skip (by kernel_rfl) ?_
    simp only [Act.put, List.getElem_toArray, List.getElem_cons_zero, List.getElem_cons_succ, List.setIfInBounds_toArray, List.set_cons_zero, List.set_cons_succ]
    refine wl_skip (by kernel_rfl) ?_
    simp only [Act.put, List.getElem_toArray, List.getElem_cons_zero, List.getElem_cons_succ, List.setIfInBounds_toArray, List.set_cons_zero, List.set_cons_succ]
    refine wl_take (v := ?_) (by kernel_rfl) (by go_simp; exact rfl) ?_
    simp only [Act.put, List.getElem_toArray, List.getElem_cons_zero, List.getElem_cons_succ, List.setIfInBounds_toArray, List.set_cons_zero, List.set_cons_succ]
    refine ⟨?_⟩
    go_wp2
    go_ret
    exact ⟨congrArg (fun x => Ending.returned (.int .i64 x)) Hr.out.symm, Below.refl _ _⟩
  by_cases h2 : L ≤ 16
  case neg =>
    have Hr : Hid (lstE (cos fs) = 1) := (show _ = _ from by rw [Hl.out, inR_f2 (by omega)]; rfl)
    go_enter Try.func54, Try.ntmps54
    go_wp2_with (first | (refine wl_at 4 rfl ?_) | fail)
    refine wl_take (v := ?_) (by kernel_rfl) (by go_simp; exact rfl) ?_
    simp only [Act.put, List.getElem_toArray, List.getElem_cons_zero, List.getElem_cons_succ, List.setIfInBounds_toArray, List.set_cons_zero, List.set_cons_succ]
    refine wl_take (v := .bool false) (by kernel_rfl) (by first | (go_simp; done) | (go_simp; omega)) ?_
    simp only [Act.put, List.getElem_toArray, List.getElem_cons_zero, List.getElem_cons_succ, List.setIfInBounds_toArray, List.set_cons_zero, List.set_cons_succ]
    refine wl_take (v := ?_) (by kernel_rfl) (by go_simp; exact rfl) ?_
    simp only [Act.put, List.getElem_toArray, List.getElem_cons_zero, List.getElem_cons_succ, List.setIfInBounds_toArray, List.set_cons_zero, List.set_cons_succ]
    refine wl_take (v := ?_) (by kernel_rfl) (by go_simp; exact rfl) ?_
    simp only [Act.put, List.getElem_toArray, List.getElem_cons_zero, List.getElem_cons_succ, List.setIfInBounds_toArray, List.set_cons_zero, List.set_cons_succ]
    refine wl_take (v := ?_) (by kernel_rfl) (by go_simp; exact rfl) ?_
    simp only [Act.put, List.getElem_toArray, List.getElem_cons_zero, List.getElem_cons_succ, List.setIfInBounds_toArray, List.set_cons_zero, List.set_cons_succ]
    refine wl_take (v := .bool true) (by kernel_rfl) (by first | (go_simp; done) | (go_simp; omega)) ?_
    simp only [Act.put, List.getElem_toArray, List.getElem_cons_zero, List.getElem_cons_succ, List.setIfInBounds_toArray, List.set_cons_zero, List.set_cons_succ]
    refine wl_take (v := ?_) (by kernel_rfl) (by go_simp; exact rfl) ?_
    simp only [Act.put, List.getElem_toArray, List.getElem_cons_zero, List.getElem_cons_succ, List.setIfInBounds_toArray, List.set_cons_zero, List.set_cons_succ]
    refine ⟨?_⟩
    go_wp2
    go_ret
    exact ⟨congrArg (fun x => Ending.returned (.int .i64 x)) Hr.out.symm, Below.refl _ _⟩
  have Hr : Hid (lstE (cos fs) = togE (cos fs)) := (show _ = _ from by rw [Hl.out, inR_t (by omega) (by omega)]; rfl)
  go_enter Try.func54, Try.ntmps54
  go_wp2_with (first | (refine wl_at 4 rfl ?_) | fail)
  refine wl_take (v := ?_) (by kernel_rfl) (by go_simp; exact rfl) ?_
  simp only [Act.put, List.getElem_toArray, List.getElem_cons_zero, List.getElem_cons_succ, List.setIfInBounds_toArray, List.set_cons_zero, List.set_cons_succ]
  refine wl_take (v := .bool false) (by kernel_rfl) (by first | (go_simp; done) | (go_simp; omega)) ?_
  simp only [Act.put, List.getElem_toArray, List.getElem_cons_zero, List.getElem_cons_succ, List.setIfInBounds_toArray, List.set_cons_zero, List.set_cons_succ]
  refine wl_take (v := ?_) (by kernel_rfl) (by go_simp; exact rfl) ?_
  simp only [Act.put, List.getElem_toArray, List.getElem_cons_zero, List.getElem_cons_succ, List.setIfInBounds_toArray, List.set_cons_zero, List.set_cons_succ]
  refine wl_take (v := ?_) (by kernel_rfl) (by go_simp; exact rfl) ?_
  simp only [Act.put, List.getElem_toArray, List.getElem_cons_zero, List.getElem_cons_succ, List.setIfInBounds_toArray, List.set_cons_zero, List.set_cons_succ]
  refine wl_take (v := ?_) (by kernel_rfl) (by go_simp; exact rfl) ?_
  simp only [Act.put, List.getElem_toArray, List.getElem_cons_zero, List.getElem_cons_succ, List.setIfInBounds_toArray, List.set_cons_zero, List.set_cons_succ]
  refine wl_take (v := .bool false) (by kernel_rfl) (by first | (go_simp; done) | (go_simp; omega)) ?_
  simp only [Act.put, List.getElem_toArray, List.getElem_cons_zero, List.getElem_cons_succ, List.setIfInBounds_toArray, List.set_cons_zero, List.set_cons_succ]
  refine wl_take (v := ?_) (by kernel_rfl) (by go_simp; exact rfl) ?_
  simp only [Act.put, List.getElem_toArray, List.getElem_cons_zero, List.getElem_cons_succ, List.setIfInBounds_toArray, List.set_cons_zero, List.set_cons_succ]
  refine ⟨?_⟩
  go_wp2_with (first | (go_at_call 11; refine HT.mono ?_; rintro e V ⟨rfl, hb⟩) | fail)
  go_ret
  exact ⟨congrArg (fun x => Ending.returned (.int .i64 x)) Hr.out.symm, hb⟩
theorem lst_cut {cs : List Co} (h : lstE cs ≠ 0) : CutS cs 0 (lstE cs) := by
  unfold lstE at *
  cases hi : inR 1 16 (cs.length : Int) with
  | false => exact .inl ⟨hi, rfl, rfl⟩
  | true =>
    rw [hi] at h
    exact .inr (.inl ⟨hi, h, rfl, rfl⟩)
theorem lst_ok {cs : List Co} (h : lstE cs = 0) : inR 1 16 (cs.length : Int) = true ∧ togE cs = 0 := by
  unfold lstE at h
  cases hi : inR 1 16 (cs.length : Int) with
  | false => rw [hi] at h; cases h
  | true =>
    rw [hi] at h
    exact ⟨rfl, h⟩
set_option maxHeartbeats 4000000 in
theorem qCut_any {ao : Option Addr} {cp : Nat} {fs : List Fl} (hr : RdFs w ao fs) (hln : fs.length ≤ 1000000000000000000) : Calls Try.prog 27 #[.slice ao fs.length cp] w (CutO (cos fs) w) := by
  have HL := qlisted_any (cp := cp) hr hln
  have HE : Hid (∀ V, Below w.heap.size w V → Tog (cos fs) → Calls Try.prog 55 #[.slice ao fs.length cp] V fun e w' => ∃ n : Nat, e = .returned (.int .i64 (baseOf (cos fs) + n)) ∧ Ends (cos fs) n ∧ Below V.heap.size V w') := fun V hV ht => qend_any (hr.still hV) hln ht
  have Hc : Hid (lstE (cos fs) ≠ 0 → CutS (cos fs) 0 (lstE (cos fs))) := lst_cut
  generalize fs.length = L at *
  clear hr
  by_cases h0 : lstE (cos fs) = 0
  · obtain ⟨hi, ht⟩ := lst_ok h0
    have HT : Hid (Tog (cos fs)) := tog_of ht
    have Hi : Hid (inR 1 16 ((cos fs).length : Int) = true ∧ togE (cos fs) = 0) := ⟨hi, ht⟩
    rw [h0] at HL
    clear hi ht h0 Hc
    generalize hbs : baseOf (cos fs) = bs at *
    have Hbs : Hid (baseOf (cos fs) = bs) := hbs
    clear hbs
    go_enter Try.func27, Try.ntmps27
    go_wp2_with (first
      | (go_at_call 54; refine HL.mono ?_; rintro e V ⟨rfl, hb⟩)
      | (go_at_call 55; refine (HE.out V hb HT.out).mono ?_; rintro e V2 ⟨n, rfl, hE, hb2⟩)
      | fail)
    go_ret2
    exact ⟨bs + n, 0, rfl, .inr (.inr ⟨Hi.out.1, Hi.out.2, rfl, n, hE, by rw [Hbs.out]⟩), bstep hb hb2⟩
  · have HS : Hid (CutS (cos fs) 0 (lstE (cos fs))) := Hc.out h0
    clear Hc
    generalize lstE (cos fs) = E at *
    have hne : (E == 0) = false := by simpa using h0
    go_enter Try.func27, Try.ntmps27
    go_wp2_with (first
      | (go_at_call 54; refine HL.mono ?_; rintro e V ⟨rfl, hb⟩)
      | fail)
    go_ret2
    exact ⟨0, E, rfl, HS.out, hb⟩
end
end Go.Proofs.Ytkikeljbhllofaa.Fm
