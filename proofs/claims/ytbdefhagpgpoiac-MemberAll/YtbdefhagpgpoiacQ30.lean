import Derived.Test.YtbdefhagpgpoiacQ00
import Derived.Test.YtbdefhagpgpoiacQ29
import Derived.Test.YtbdefhagpgpoiacQ27
import Derived.Test.YtbdefhagpgpoiacQ28
namespace Go.Proofs.Ytbdefhagpgpoiac.Mb
open Go.RowKit
set_option linter.unusedVariables false
set_option maxRecDepth 100000
set_option linter.unusedSimpArgs false
section
variable {A A' : Ag} {w w' W : World} {B : Nat} {T : Int}
end
end Go.Proofs.Ytbdefhagpgpoiac.Mb
namespace Go.Proofs.Ytbdefhagpgpoiac.Mb
open Go.RowKit
set_option linter.unusedVariables false
set_option maxRecDepth 100000
set_option linter.unusedSimpArgs false
section
variable {A A' : Ag} {w w' W : World} {B : Nat} {T : Int}
theorem a0_fine (b n s : Nat) (inc fl : Int) (hf : fl < 4611686018427387904) : (A0 b n s fl).begE (zs.set s inc) = 0 := by
  unfold Ag.begE
  have h1 : ¬ ((A0 b n s fl).own.cid = 4611686018427387904 ∨ (A0 b n s fl).id.getD 0 0 = 4611686018427387904) := by
    intro hh
    rcases hh with hh | hh
    · have : fl = 4611686018427387904 := hh
      omega
    · have : (0 : Int) = 4611686018427387904 := hh
      omega
  rw [if_neg h1]
  unfold Ag.revE
  split
  · rfl
  · rw [if_neg (by rw [begP_rev]; show ¬ (0 : Int) = 4611686018427387904; omega)]
def newA (b n s : Nat) (inc fl : Int) : Ag := (A0 b n s fl).begA (zs.set s inc)
end
end Go.Proofs.Ytbdefhagpgpoiac.Mb
namespace Go.Proofs.Ytbdefhagpgpoiac.Mb
open Go.RowKit
set_option linter.unusedVariables false
set_option linter.unusedSimpArgs false
section
variable {A A' : Ag} {w w' W : World} {B : Nat} {T : Int}
end
end Go.Proofs.Ytbdefhagpgpoiac.Mb
namespace Go.Proofs.Ytbdefhagpgpoiac.Mb
open Go.RowKit
set_option linter.unusedVariables false
set_option linter.unusedSimpArgs false
section
variable {A A' : Ag} {w w' W : World} {B : Nat} {T : Int}
def P1 (b n s : Nat) (inc fl : Int) : Pp := { (A0 b n s fl).wv ((A0 b n s fl).begP (zs.set s inc)) with rev := 1 }
def A1 (b n s : Nat) (inc fl : Int) : Ag := { A0 b n s fl with own := P1 b n s inc fl, chg := true }
theorem begP0 (b n s : Nat) (inc fl : Int) : (A0 b n s fl).begP (zs.set s inc) = ⟨zs.set s inc, fl + 1, 0, fl, [0, 0, 0, 0], zs⟩ := if_pos rfl
theorem zs_at (q : Nat) : zs.getD q 0 = 0 := by
  unfold zs
  rw [List.getD_eq_getElem?_getD, List.getElem?_replicate]
  split <;> rfl
theorem newA_eq (b n s : Nat) (inc fl : Int) (hf : fl < 4611686018427387904) : newA b n s inc fl = A1 b n s inc fl := by
  have h0 := a0_fine b n s inc fl hf
  unfold newA Ag.begA
  have h1 : ¬ ((A0 b n s fl).own.cid = 4611686018427387904 ∨ (A0 b n s fl).id.getD 0 0 = 4611686018427387904) := by
    intro hh
    rcases hh with hh | hh
    · have : fl = 4611686018427387904 := hh
      omega
    · have : (0 : Int) = 4611686018427387904 := hh
      omega
  have h2 : (A0 b n s fl).revE ((A0 b n s fl).begP (zs.set s inc)) = 0 := by
    unfold Ag.begE at h0
    rw [if_neg h1] at h0
    exact h0
  rw [if_neg h1, if_pos h2]
  unfold Ag.revA
  have h3 : ¬ ((A0 b n s fl).wv ((A0 b n s fl).begP (zs.set s inc))).fl = (A0 b n s fl).own.fl := by
    intro e
    have hL : ((A0 b n s fl).wv ((A0 b n s fl).begP (zs.set s inc))).L := wv_L _ (begP_L _ _ ⟨rfl, rfl, rfl⟩ rfl (by rw [List.length_set]; rfl))
    have := Pp.inj hL ⟨rfl, rfl, rfl⟩ e
    have h4 : ((A0 b n s fl).wv ((A0 b n s fl).begP (zs.set s inc))).cid = (A0 b n s fl).own.cid := congrArg Pp.cid this
    have h5 : ((A0 b n s fl).wv ((A0 b n s fl).begP (zs.set s inc))).cid = ((A0 b n s fl).begP (zs.set s inc)).cid := rfl
    rw [h5] at h4
    rw [begP_cid] at h4
    omega
  rw [if_neg h3, if_neg (by rw [begP_rev]; show ¬ (0 : Int) = _; omega)]
  unfold A1 P1
  rw [begP_rev]
  rfl
theorem A1_set (b n s : Nat) (inc fl : Int) : (A1 b n s inc fl).own.set = zs.set s inc := by
  show ((A0 b n s fl).begP (zs.set s inc)).set = _
  rw [begP_set]
theorem set_at (s q : Nat) (inc : Int) (hs : s < 16) : (zs.set s inc).getD q 0 = if q = s then inc else 0 := by
  by_cases e : q = s
  · subst e
    rw [if_pos rfl]
    simp [List.getD, List.getElem?_set, zs, hs]
  · rw [if_neg e]
    have : (zs.set s inc).getD q 0 = zs.getD q 0 := by simp [List.getD, List.getElem?_set, show ¬ s = q from fun h => e h.symm]
    rw [this, zs_at]
theorem A1_iv (b n s : Nat) (inc fl : Int) (h16 : 1 ≤ n ∧ n ≤ 16 ∧ s < n) (hi : 1 ≤ inc) : (A1 b n s inc fl).Iv inc := by
  have hL : ((A0 b n s fl).begP (zs.set s inc)).L := begP_L _ _ ⟨rfl, rfl, rfl⟩ rfl (by rw [List.length_set]; rfl)
  refine ⟨h16, hi, ⟨hL.ls, hL.lp, vecOf_len _ _⟩, ?_, ?_, fun q hq => ?_, fun q hq => ?_, .inl ⟨rfl, rfl, rfl, rfl⟩⟩
  · rw [A1_set]
    show (zs.set s inc).getD s 0 = inc
    rw [set_at s s inc (by omega), if_pos rfl]
  · show ((A0 b n s fl).vecOf ((A0 b n s fl).begP (zs.set s inc))).getD s 0 = ((A0 b n s fl).begP (zs.set s inc)).cid
    exact vecOf_self (A0 b n s fl) _ (by show s < 16; omega)
  · rw [A1_set, set_at s q inc (by omega), if_neg (by have : n ≤ q := hq; omega)]
  · exact vecOf_zero (A0 b n s fl) _ h16 q hq
end
end Go.Proofs.Ytbdefhagpgpoiac.Mb
namespace Go.Proofs.Ytbdefhagpgpoiac.Mb
open Go.RowKit
set_option linter.unusedVariables false
set_option linter.unusedSimpArgs false
section
variable {A A' : Ag} {w w' W : World} {B : Nat} {T : Int}
end
end Go.Proofs.Ytbdefhagpgpoiac.Mb
