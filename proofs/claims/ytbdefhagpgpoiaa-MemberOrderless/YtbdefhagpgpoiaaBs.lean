import Derived.Test.YtbdefhagpgpoiaaBo
import Derived.Test.YtbdefhagpgpoiaaBp
namespace Go.Proofs.Ytbdefhagpgpoiaa.Mb
open Go.RowKit
set_option linter.unusedVariables false
set_option linter.unusedSimpArgs false
section
variable {A A' : Ag} {w w' W : World} {B : Nat} {T : Int}
theorem msL_at (A : Ag) : ∀ (l : List Nat) (i : Nat), i < l.length → (A.msL l).getD (i * 3) 0 = ((l.getD i 0 : Nat) : Int) ∧ (A.msL l).getD (i * 3 + 1) 0 = A.own.set.getD (l.getD i 0) 0 ∧ (A.msL l).getD (i * 3 + 2) 0 = A.own.vec.getD (l.getD i 0) 0
  | [], i, h => by simp at h
  | q :: l, 0, _ => ⟨rfl, rfl, rfl⟩
  | q :: l, i + 1, h => by
    have ih := msL_at A l i (by simpa using h)
    have e : A.msL (q :: l) = (q : Int) :: A.own.set.getD q 0 :: A.own.vec.getD q 0 :: A.msL l := rfl
    rw [e, show (i + 1) * 3 = i * 3 + 3 by omega]
    refine ⟨?_, ?_, ?_⟩
    · simpa [List.getD] using ih.1
    · simpa [List.getD, show i * 3 + 3 + 1 = i * 3 + 1 + 3 by omega] using ih.2.1
    · simpa [List.getD, show i * 3 + 3 + 2 = i * 3 + 2 + 3 by omega] using ih.2.2
theorem hld_self {inc : Int} (h : A.Iv inc) : hld (A.msL A.mids) A.self inc A.mids.length = A.own.cid := by
  have hs : A.own.set.getD A.self 0 ≠ 0 := by rw [h.set]; have := h.inc1; omega
  have hm : A.self ∈ A.mids := List.mem_filter.2 ⟨List.mem_range.2 h.n16.2.2, by simpa [Ag.all1] using hs⟩
  obtain ⟨j, hj, hje⟩ := List.getElem_of_mem hm
  have hjd : A.mids.getD j 0 = A.self := by simp [List.getD, hj, hje]
  have hhit : hitB (A.msL A.mids) A.self inc j = true := by
    unfold hitB
    obtain ⟨e1, e2, _⟩ := msL_at A A.mids j hj
    rw [e1, e2, hjd, h.set]
    simp
  unfold hld
  cases hf : (List.range A.mids.length).find? (hitB (A.msL A.mids) A.self inc) with
  | none =>
    have := List.find?_eq_none.1 hf j (List.mem_range.2 hj)
    exact absurd hhit this
  | some i =>
    have hi := List.mem_range.1 (List.mem_of_find?_eq_some hf)
    have hit := List.find?_some hf
    unfold hitB at hit
    obtain ⟨e1, e2, e3⟩ := msL_at A A.mids i hi
    rw [e1, e2] at hit
    simp only [Bool.and_eq_true, beq_iff_eq] at hit
    have hq : A.mids.getD i 0 = A.self := by have := hit.1; omega
    show (A.msL A.mids).getD (i * 3 + 2) 0 = _
    rw [e3, hq, h.vec]
end
end Go.Proofs.Ytbdefhagpgpoiaa.Mb
