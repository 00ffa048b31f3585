import Derived.Test.YtpkcgjnaegaecaaZe
import Derived.Test.YtpkcgjnaegaecaaZg
import Derived.Test.YtpkcgjnaegaecaaYo
namespace Go.Proofs.Ytpkcgjnaegaecaa.Fm
open Go.RowKit Go.Maps Mb
set_option linter.unusedVariables false
set_option maxRecDepth 100000
set_option linter.unusedSimpArgs false
section
variable {w w' W : World} {B : Nat}
def lstE (cs : List Co) : Int := if inR 1 16 cs.length then togE cs else 1
set_option maxHeartbeats 4000000 in
theorem qlisted_any {ao : Option Addr} {cp : Nat} {fs : List Fl} (hr : RdFs w ao fs) (hln : fs.length ≤ 1000000000000000000) : Calls Try.prog 47 #[.slice ao fs.length cp] w fun e w' => e = .returned (.int .i64 (lstE (cos fs))) ∧ Below w.heap.size w w' := by
  have HT := qTog_any (cp := cp) hr hln
  have Hl : Hid (lstE (cos fs) = if inR 1 16 (fs.length : Int) then togE (cos fs) else 1) := (show _ = _ from by unfold lstE; rw [cos_len])
  generalize fs.length = L at *
  clear hr
  by_cases h1 : 1 ≤ L
  case neg =>
    have Hr : Hid (lstE (cos fs) = 1) := (show _ = _ from by rw [Hl.out, inR_f1 (by omega)]; rfl)
    go_enter Try.func47, Try.ntmps47
    go_wp2_with (first | (refine wl_at 4 rfl ?_) | fail)
    refine wl_take (v := ?_) (by kernel_rfl) (by go_simp; exact rfl) ?_
    simp only [Act.put, List.getElem_toArray, List.getElem_cons_zero, List.getElem_cons_succ, List.setIfInBounds_toArray, List.set_cons_zero, List.set_cons_succ]
    refine wl_take (v := .bool true) (by kernel_rfl) (by first | (go_simp; done) | (go_simp; omega)) ?_
    simp only [Act.put, List.getElem_toArray, List.getElem_cons_zero, List.getElem_cons_succ, List.setIfInBounds_toArray, List.set_cons_zero, List.set_cons_succ]
    refine wl_take (v := ?_) (by kernel_rfl) (by go_simp; exact rfl) ?_
    simp only [Act.put, List.getElem_toArray, List.getElem_cons_zero, List.getElem_cons_succ, List.setIfInBounds_toArray, List.set_cons_zero, List.set_cons_succ]
    refine wl_skip (by kernel_rfl) ?_
    simp only [Act.put, List.getElem_toArray, List.getElem_cons_zero, List.getElem_cons_succ, List.setIfInBounds_toArray, List.set_cons_zero, List.set_cons_succ]
    refine wl_skip (by kernel_rfl) ?_
    simp only [Act.put, List.getElem_toArray, List.getElem_cons_zero, List.getElem_cons_succ, List.setIfInBounds_toArray, List.set_cons_zero, List.set_cons_succ]
    refine wl_skip (by kernel_rfl) ?_
    simp only [Act.put, List.getElem_toArray, List.getElem_cons_zero, List.getElem_cons_succ, List.setIfInBounds_toArray, List.set_cons_zero, List.set_cons_succ]
    refine wl_take (v := ?_) (by kernel_rfl) (by go_simp; exact rfl) ?_
    simp only [Act.put, List.getElem_toArray, List.getElem_cons_zero, List.getElem_cons_succ, List.setIfInBounds_toArray, List.set_cons_zero, List.set_cons_succ]
    refine ⟨?_⟩
    go_wp2
    go_ret
    exact ⟨congrArg (fun x => Ending.returned (.int .i64 x)) Hr.out.symm, Below.refl _ _⟩
  by_cases h2 : L ≤ 16
  case neg =>
    have Hr : Hid (lstE (cos fs) = 1) := (show _ = _ from by rw [Hl.out, inR_f2 (by omega)]; rfl)
    go_enter Try.func47, Try.ntmps47
    go_wp2_with (first | (refine wl_at 4 rfl ?_) | fail)
    refine wl_take (v := ?_) (by kernel_rfl) (by go_simp; exact rfl) ?_
    simp only [Act.put, List.getElem_toArray, List.getElem_cons_zero, List.getElem_cons_succ, List.setIfInBounds_toArray, List.set_cons_zero, List.set_cons_succ]
    refine wl_take (v := .bool false) (by kernel_rfl) (by first | (go_simp; done) | (go_simp; omega)) ?_
    simp only [Act.put, List.getElem_toArray, List.getElem_cons_zero, List.getElem_cons_succ, List.setIfInBounds_toArray, List.set_cons_zero, List.set_cons_succ]
    refine wl_take (v := ?_) (by kernel_rfl) (by go_simp; exact rfl) ?_
    simp only [Act.put, List.getElem_toArray, List.getElem_cons_zero, List.getElem_cons_succ, List.setIfInBounds_toArray, List.set_cons_zero, List.set_cons_succ]
    refine wl_take (v := ?_) (by kernel_rfl) (by go_simp; exact rfl) ?_
    simp only [Act.put, List.getElem_toArray, List.getElem_cons_zero, List.getElem_cons_succ, List.setIfInBounds_toArray, List.set_cons_zero, List.set_cons_succ]
    refine wl_take (v := ?_) (by kernel_rfl) (by go_simp; exact rfl) ?_
    simp only [Act.put, List.getElem_toArray, List.getElem_cons_zero, List.getElem_cons_succ, List.setIfInBounds_toArray, List.set_cons_zero, List.set_cons_succ]
    refine wl_take (v := .bool true) (by kernel_rfl) (by first | (go_simp; done) | (go_simp; omega)) ?_
    simp only [Act.put, List.getElem_toArray, List.getElem_cons_zero, List.getElem_cons_succ, List.setIfInBounds_toArray, List.set_cons_zero, List.set_cons_succ]
    refine wl_take (v := ?_) (by kernel_rfl) (by go_simp; exact rfl) ?_
    simp only [Act.put, List.getElem_toArray, List.getElem_cons_zero, List.getElem_cons_succ, List.setIfInBounds_toArray, List.set_cons_zero, List.set_cons_succ]
    refine ⟨?_⟩
    go_wp2
    go_ret
    exact ⟨congrArg (fun x => Ending.returned (.int .i64 x)) Hr.out.symm, Below.refl _ _⟩
  have Hr : Hid (lstE (cos fs) = togE (cos fs)) := (show _ = _ from by rw [Hl.out, inR_t (by omega) (by omega)]; rfl)
  go_enter Try.func47, Try.ntmps47
  go_wp2_with (first | (refine wl_at 4 rfl ?_) | fail)
  refine wl_take (v := ?_) (by kernel_rfl) (by go_simp; exact rfl) ?_
  simp only [Act.put, List.getElem_toArray, List.getElem_cons_zero, List.getElem_cons_succ, List.setIfInBounds_toArray, List.set_cons_zero, List.set_cons_succ]
  refine wl_take (v := .bool false) (by kernel_rfl) (by first | (go_simp; done) | (go_simp; omega)) ?_
  simp only [Act.put, List.getElem_toArray, List.getElem_cons_zero, List.getElem_cons_succ, List.setIfInBounds_toArray, List.set_cons_zero, List.set_cons_succ]
  refine wl_take (v := ?_) (by kernel_rfl) (by go_simp; exact rfl) ?_
  simp only [Act.put, List.getElem_toArray, List.getElem_cons_zero, List.getElem_cons_succ, List.setIfInBounds_toArray, List.set_cons_zero, List.set_cons_succ]
  refine wl_take (v := ?_) (by kernel_rfl) (by go_simp; exact rfl) ?_
  simp only [Act.put, List.getElem_toArray, List.getElem_cons_zero, List.getElem_cons_succ, List.setIfInBounds_toArray, List.set_cons_zero, List.set_cons_succ]
  refine wl_take (v := ?_) (by kernel_rfl) (by go_simp; exact rfl) ?_
  simp only [Act.put, List.getElem_toArray, List.getElem_cons_zero, List.getElem_cons_succ, List.setIfInBounds_toArray, List.set_cons_zero, List.set_cons_succ]
  refine wl_take (v := .bool false) (by kernel_rfl) (by first | (go_simp; done) | (go_simp; omega)) ?_
  simp only [Act.put, List.getElem_toArray, List.getElem_cons_zero, List.getElem_cons_succ, List.setIfInBounds_toArray, List.set_cons_zero, List.set_cons_succ]
  refine wl_take (v := ?_) (by kernel_rfl) (by go_simp; exact rfl) ?_
  simp only [Act.put, List.getElem_toArray, List.getElem_cons_zero, List.getElem_cons_succ, List.setIfInBounds_toArray, List.set_cons_zero, List.set_cons_succ]
  refine ⟨?_⟩
  go_wp2_with (first | (go_at_call 8; refine HT.mono ?_; rintro e V ⟨rfl, hb⟩) | fail)
  go_ret
  exact ⟨congrArg (fun x => Ending.returned (.int .i64 x)) Hr.out.symm, hb⟩
theorem lst_cut {cs : List Co} (h : lstE cs ≠ 0) : CutS cs 0 (lstE cs) := by
  unfold lstE at *
  cases hi : inR 1 16 (cs.length : Int) with
  | false => exact .inl ⟨hi, rfl, rfl⟩
  | true =>
    rw [hi] at h
    exact .inr (.inl ⟨hi, h, rfl, rfl⟩)
theorem lst_ok {cs : List Co} (h : lstE cs = 0) : inR 1 16 (cs.length : Int) = true ∧ togE cs = 0 := by
  unfold lstE at h
  cases hi : inR 1 16 (cs.length : Int) with
  | false => rw [hi] at h; cases h
  | true =>
    rw [hi] at h
    exact ⟨rfl, h⟩
end
end Go.Proofs.Ytpkcgjnaegaecaa.Fm
