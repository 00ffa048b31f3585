import Derived.Test.YtdegjhkjmgimpaaV29
import Derived.Test.YtdegjhkjmgimpaaV28
namespace Go.Proofs.Ytdegjhkjmgimpaa.Mb
open Go.RowKit
set_option linter.unusedVariables false
set_option linter.unusedSimpArgs false
section
variable {A A' : Ag} {w w' W : World} {B : Nat} {T : Int}
def P1 (b n s : Nat) (inc fl : Int) : Pp := { (A0 b n s fl).wv ((A0 b n s fl).begP (zs.set s inc)) with rev := 1 }
def A1 (b n s : Nat) (inc fl : Int) : Ag := { A0 b n s fl with own := P1 b n s inc fl, chg := true }
theorem zs_at (q : Nat) : zs.getD q 0 = 0 := by
  unfold zs
  rw [List.getD_eq_getElem?_getD, List.getElem?_replicate]
  split <;> rfl
theorem newA_eq (b n s : Nat) (inc fl : Int) (hf : fl < 4611686018427387904) : newA b n s inc fl = A1 b n s inc fl := by
  have h0 := a0_fine b n s inc fl hf
  unfold newA Ag.begA
  have h1 : ¬ ((A0 b n s fl).own.cid = 4611686018427387904 ∨ (A0 b n s fl).id.getD 0 0 = 4611686018427387904) := by
    intro hh
    rcases hh with hh | hh
    · have : fl = 4611686018427387904 := hh
      omega
    · have : (0 : Int) = 4611686018427387904 := hh
      omega
  have h2 : (A0 b n s fl).revE ((A0 b n s fl).begP (zs.set s inc)) = 0 := by
    unfold Ag.begE at h0
    rw [if_neg h1] at h0
    exact h0
  rw [if_neg h1, if_pos h2]
  unfold Ag.revA
  have h3 : ¬ ((A0 b n s fl).wv ((A0 b n s fl).begP (zs.set s inc))).fl = (A0 b n s fl).own.fl := by
    intro e
    have hL : ((A0 b n s fl).wv ((A0 b n s fl).begP (zs.set s inc))).L := wv_L _ (begP_L _ _ ⟨rfl, rfl, rfl⟩ rfl (by rw [List.length_set]; rfl))
    have := Pp.inj hL ⟨rfl, rfl, rfl⟩ e
    have h4 : ((A0 b n s fl).wv ((A0 b n s fl).begP (zs.set s inc))).cid = (A0 b n s fl).own.cid := congrArg Pp.cid this
    have h5 : ((A0 b n s fl).wv ((A0 b n s fl).begP (zs.set s inc))).cid = ((A0 b n s fl).begP (zs.set s inc)).cid := rfl
    rw [h5] at h4
    rw [begP_cid] at h4
    omega
  rw [if_neg h3, if_neg (by rw [begP_rev]; show ¬ (0 : Int) = _; omega)]
  unfold A1 P1
  rw [begP_rev]
  rfl
theorem A1_set (b n s : Nat) (inc fl : Int) : (A1 b n s inc fl).own.set = zs.set s inc := by
  show ((A0 b n s fl).begP (zs.set s inc)).set = _
  rw [begP_set]
theorem set_at (s q : Nat) (inc : Int) (hs : s < 16) : (zs.set s inc).getD q 0 = if q = s then inc else 0 := by
  by_cases e : q = s
  · subst e
    rw [if_pos rfl]
    simp [List.getD, List.getElem?_set, zs, hs]
  · rw [if_neg e]
    have : (zs.set s inc).getD q 0 = zs.getD q 0 := by simp [List.getD, List.getElem?_set, show ¬ s = q from fun h => e h.symm]
    rw [this, zs_at]
theorem A1_iv (b n s : Nat) (inc fl : Int) (h16 : 1 ≤ n ∧ n ≤ 16 ∧ s < n) (hi : 1 ≤ inc) : (A1 b n s inc fl).Iv inc := by
  have hL : ((A0 b n s fl).begP (zs.set s inc)).L := begP_L _ _ ⟨rfl, rfl, rfl⟩ rfl (by rw [List.length_set]; rfl)
  refine ⟨h16, hi, ⟨hL.ls, hL.lp, vecOf_len _ _⟩, ?_, ?_, fun q hq => ?_, fun q hq => ?_, .inl ⟨rfl, rfl, rfl, rfl⟩⟩
  · rw [A1_set]
    show (zs.set s inc).getD s 0 = inc
    rw [set_at s s inc (by omega), if_pos rfl]
  · show ((A0 b n s fl).vecOf ((A0 b n s fl).begP (zs.set s inc))).getD s 0 = ((A0 b n s fl).begP (zs.set s inc)).cid
    exact vecOf_self (A0 b n s fl) _ (by show s < 16; omega)
  · rw [A1_set, set_at s q inc (by omega), if_neg (by have : n ≤ q := hq; omega)]
  · exact vecOf_zero (A0 b n s fl) _ h16 q hq
end
end Go.Proofs.Ytdegjhkjmgimpaa.Mb
namespace Go.Proofs.Ytdegjhkjmgimpaa.Mb
open Go.RowKit
set_option linter.unusedVariables false
set_option linter.unusedSimpArgs false
section
variable {A A' : Ag} {w w' W : World} {B : Nat} {T : Int}
def Ag.hv (A : Ag) (inc : Int) : Int := hld A.ms A.self inc A.k
structure Ag.Iw (A : Ag) (inc : Int) : Prop where
  open_ : A.chg = true → A.id ≠ [0, 0, 0, 0] → A.own.top = A.id.getD 0 0 ∧ A.hv inc < A.own.cid
  shut : A.chg = false → A.hv inc ≤ A.own.cid
theorem begP_top (A : Ag) (s : List Int) (h : A.id ≠ [0, 0, 0, 0]) : (A.begP s).top = A.id.getD 0 0 := by
  unfold Ag.begP
  rw [if_neg h]
theorem Ag.Iw.rev0 {inc : Int} (h : A.Iw inc) (hc : A.chg = true) : (A.revA A.own).Iw inc := by
  unfold Ag.revA
  split
  · exact h
  · split
    · exact h
    · exact ⟨fun _ h2 => h.open_ hc h2, fun h1 => by have : A.chg = false := h1; rw [hc] at this; cases this⟩
theorem Ag.Iw.beg {inc : Int} (h : A.Iw inc) (s : List Int) (hsl : A.own.set.length = s.length) : (A.begA s).Iw inc := by
  unfold Ag.begA
  split
  · exact h
  · split
    · rename_i hno hE
      refine ⟨fun _ h2 => ?_, fun h1 => by cases h1⟩
      have hle : A.id ≠ [0, 0, 0, 0] → A.hv inc ≤ A.own.cid := fun hid => by
        cases hc : A.chg with
        | true => have := (h.open_ hc hid).2; omega
        | false => exact h.shut hc
      have hidA : A.id ≠ [0, 0, 0, 0] := fun e => h2 (by
        show (A.revA (A.begP s)).id = _
        have : (A.revA (A.begP s)).id = A.id := by unfold Ag.revA; split <;> (try split) <;> rfl
        rw [this]; exact e)
      have hh := hle hidA
      show (A.revA (A.begP s)).own.top = (A.revA (A.begP s)).id.getD 0 0 ∧ hld (A.revA (A.begP s)).ms (A.revA (A.begP s)).self inc (A.revA (A.begP s)).k < (A.revA (A.begP s)).own.cid
      unfold Ag.revE at hE
      unfold Ag.revA
      by_cases e1 : (A.wv (A.begP s)).fl = A.own.fl
      · exfalso
        unfold Ag.wv Pp.fl at e1
        have h3 := List.append_inj e1 (by rw [begP_set]; exact hsl.symm)
        have h4 := h3.2
        simp only [List.cons.injEq] at h4
        have h5 := h4.1
        rw [begP_cid] at h5
        omega
      · rw [if_neg e1] at hE ⊢
        by_cases e2 : (A.begP s).rev = 4611686018427387904
        · rw [if_pos e2] at hE; cases hE
        · rw [if_neg e2]
          exact ⟨begP_top A s hidA, by show A.hv inc < (A.begP s).cid; rw [begP_cid]; omega⟩
    · exact h
theorem Ag.Iw.est {inc : Int} (h : A.Iw inc) (ho : A.own.L) (xs : List Int) : (A.estA xs).Iw inc := by
  unfold Ag.estA
  split
  · exact h
  · split
    · exact h
    · exact h.beg (pad xs) (by rw [ho.ls, pad_len])
theorem Ag.Iw.fol {inc : Int} (h : A.Iw inc) (q : Nat) : (A.folA q).Iw inc := by
  unfold Ag.folA
  by_cases hc : A.chg = true
  · rw [if_pos hc]; exact h.rev0 hc
  · rw [if_neg hc]
    split
    · exact h.beg A.own.set rfl
    · exact h
theorem Ag.Iw.tk {inc : Int} (h : A.Iw inc) (q i : Int) (p : Pq) : (A.takA q i p).Iw inc := by
  unfold Ag.takA
  split
  · exact h
  · split
    · exact h
    · split
      · exact h
      · split
        · exact h
        · unfold Ag.tk1
          split
          · exact Ag.Iw.fol (A := A.set1 q.toNat p.pp) ⟨h.open_, h.shut⟩ q.toNat
          · exact h
theorem Ag.Iw.ins {inc : Int} (hv : A.Iv inc) (g c : Nat) : (A.inst g c).Iw inc :=
  ⟨(fun h1 => by cases h1), fun _ => (by
    have e := hld_self hv
    have : hld (A.msL A.mids) A.self inc A.mids.length ≤ A.own.cid := by rw [e]; exact Int.le_refl _
    exact this)⟩
theorem topL_ge (A : Ag) (l : List Nat) : A.own.top ≤ A.topL l := by
  unfold Ag.topL
  generalize A.own.top = t
  induction l generalizing t with
  | nil => exact Int.le_refl _
  | cons q l ih => exact Int.le_trans (by omega) (ih (max t (A.lat q).top))
theorem Ag.Iw.stp {inc : Int} (h : A.Iw inc) (hv : A.Iv inc) {o : Opx} {E : Int} (s : Stp A o E A') : A'.Iw inc := by
  cases s with
  | est _ => exact h.est hv.ol o.ss
  | tak _ => exact h.tk o.q o.inc o.p
  | ins g c _ _ => exact Ag.Iw.ins hv g c
  | apart _ _ => exact h
  | none _ _ _ => exact h
end
end Go.Proofs.Ytdegjhkjmgimpaa.Mb
