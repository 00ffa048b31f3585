import Derived.Test.YtdegjhkjmgimpaaV24
import Derived.Test.YtdegjhkjmgimpaaV27
namespace Go.Proofs.Ytdegjhkjmgimpaa.Mb
open Go.RowKit
set_option linter.unusedVariables false
set_option linter.unusedSimpArgs false
section
variable {A A' : Ag} {w w' W : World} {B : Nat} {T : Int}
structure Ag.Iv (A : Ag) (inc : Int) : Prop where
  n16 : 1 ≤ A.n ∧ A.n ≤ 16 ∧ A.self < A.n
  inc1 : 1 ≤ inc
  ol : A.own.L
  set : A.own.set.getD A.self 0 = inc
  vec : A.own.vec.getD A.self 0 = A.own.cid
  sz : ∀ q, A.n ≤ q → A.own.set.getD q 0 = 0
  vz : ∀ q, A.n ≤ q → A.own.vec.getD q 0 = 0
  vw : (A.id = [0, 0, 0, 0] ∧ A.msv = .slice none 0 0 ∧ A.k = 0 ∧ A.ms = []) ∨ (1 ≤ A.id.getD 0 0 ∧ 0 < A.k ∧ ∃ g c, A.msv = .slice (some ⟨g, 0, none⟩) A.k c)
theorem vecOf_self (A : Ag) (p : Pp) (h : A.self < 16) : (A.vecOf p).getD A.self 0 = p.cid := by
  unfold Ag.vecOf
  simp [List.getD, List.getElem?_set, vecK_len, h]
theorem vecOf_zero (A : Ag) (p : Pp) (h16 : 1 ≤ A.n ∧ A.n ≤ 16 ∧ A.self < A.n) (q : Nat) (hq : A.n ≤ q) : (A.vecOf p).getD q 0 = 0 := by
  unfold Ag.vecOf
  have hne : ¬ A.self = q := by omega
  simp only [List.getD, List.getElem?_set, if_neg hne]
  unfold Ag.vecK
  by_cases h : q < 16
  · have : ¬ q < A.n := by omega
    simp [h, this]
  · simp [h]
theorem Ag.Iv.rev {inc : Int} (h : A.Iv inc) (p : Pp) (hp : p.L) (hs : p.set.getD A.self 0 = inc) (hz : ∀ q, A.n ≤ q → p.set.getD q 0 = 0) : (A.revA p).Iv inc := by
  have h16 := h.n16
  unfold Ag.revA
  split
  · exact h
  · split
    · exact h
    · exact { h with ol := ⟨hp.ls, hp.lp, vecOf_len A p⟩, set := hs, vec := vecOf_self A p (by omega), sz := hz, vz := fun q hq => vecOf_zero A p h16 q hq }
theorem begP_set (A : Ag) (s : List Int) : (A.begP s).set = s := by unfold Ag.begP; split <;> rfl
theorem begP_cid (A : Ag) (s : List Int) : (A.begP s).cid = A.own.cid + 1 := by unfold Ag.begP; split <;> rfl
theorem begP_rev (A : Ag) (s : List Int) : (A.begP s).rev = A.own.rev := by unfold Ag.begP; split <;> rfl
theorem begP_L (A : Ag) (s : List Int) (ho : A.own.L) (hi : A.id.length = 4) (hs : s.length = 16) : (A.begP s).L := by
  unfold Ag.begP
  split
  · exact ⟨hs, ho.lp, ho.lv⟩
  · exact ⟨hs, hi, ho.lv⟩
theorem Ag.Iv.chg {inc : Int} (h : A.Iv inc) (c : Bool) : ({ A with chg := c } : Ag).Iv inc := { h with }
theorem Ag.Iv.beg {inc : Int} (h : A.Iv inc) (hi : A.id.length = 4) (s : List Int) (hs : s.length = 16) (h1 : s.getD A.self 0 = inc) (hz : ∀ q, A.n ≤ q → s.getD q 0 = 0) : (A.begA s).Iv inc := by
  unfold Ag.begA
  split
  · exact h
  · split
    · exact (h.rev (A.begP s) (begP_L A s h.ol hi hs) (by rw [begP_set]; exact h1) (by rw [begP_set]; exact hz)).chg true
    · exact h
theorem pad_zero (xs : List Int) (n q : Nat) (hl : xs.length = n) (hq : n ≤ q) : (pad xs).getD q 0 = 0 := by
  unfold pad
  by_cases h : q < 16
  · simp [List.getD, h, show ¬ q < xs.length by omega]
  · simp [List.getD, h]
theorem Ag.Iv.est {inc : Int} (h : A.Iv inc) (hi : A.id.length = 4) (xs : List Int) : (A.estA xs).Iv inc := by
  unfold Ag.estA
  split
  · exact h
  · rename_i hno
    split
    · exact h
    · have h1 : okL xs A.n = true := by cases hx : okL xs A.n with | false => exact absurd (.inl hx) hno | true => rfl
      have h2 : (pad xs).getD A.self 0 = A.own.set.getD A.self 0 := Classical.byContradiction (fun hh => hno (.inr hh))
      have h3 : xs.length = A.n := by unfold okL at h1; simp only [Bool.and_eq_true] at h1; exact of_decide_eq_true h1.1
      exact h.beg hi (pad xs) (pad_len xs) (h2.trans h.set) (fun q hq => pad_zero xs A.n q h3 hq)
theorem Ag.Iv.set1 {inc : Int} (h : A.Iv inc) (q : Nat) (p : Pp) : (A.set1 q p).Iv inc := { h with }
theorem Ag.Iv.fol {inc : Int} (h : A.Iv inc) (hi : A.id.length = 4) (q : Nat) : (A.folA q).Iv inc := by
  unfold Ag.folA
  split
  · exact h.rev A.own h.ol h.set h.sz
  · split
    · exact h.beg hi A.own.set h.ol.ls h.set h.sz
    · exact h
theorem Ag.Iv.tk {inc : Int} (h : A.Iv inc) (hi : A.id.length = 4) (q i : Int) (p : Pq) : (A.takA q i p).Iv inc := by
  unfold Ag.takA
  split
  · exact h
  · split
    · exact h
    · split
      · exact h
      · split
        · exact h
        · unfold Ag.tk1
          split
          · exact (h.set1 q.toNat p.pp).fol hi q.toNat
          · exact h
theorem Ag.Iv.ins {inc : Int} (h : A.Iv inc) (g c : Nat) (ht : 0 ≤ A.topL A.mids) : (A.inst g c).Iv inc := by
  have hp := mids_pos A h.n16 (by rw [h.set]; have := h.inc1; omega)
  exact { h with vw := .inr ⟨by show 1 ≤ A.topL A.mids + 1; omega, hp, g, c, rfl⟩ }
theorem Ag.Iv.stp {inc : Int} (h : A.Iv inc) (hi : A.id.length = 4) (ht : 0 ≤ A.topL A.mids) {o : Opx} {E : Int} (s : Stp A o E A') : A'.Iv inc := by
  cases s with
  | est _ => exact h.est hi o.ss
  | tak _ => exact h.tk hi o.q o.inc o.p
  | ins g c _ _ => exact h.ins g c ht
  | apart _ _ => exact h
  | none _ _ _ => exact h
def Mv (a b : Pp) : Prop := b = a ∨ (b.rev = a.rev + 1 ∧ a.cid ≤ b.cid ∧ ({ b with rev := a.rev } : Pp).fl ≠ a.fl)
theorem rev_mv (A : Ag) (p : Pp) (hr : p.rev = A.own.rev) (hc : A.own.cid ≤ p.cid) : Mv A.own (A.revA p).own := by
  unfold Ag.revA
  split
  · exact .inl rfl
  · rename_i hne
    split
    · exact .inl rfl
    · refine .inr ⟨by show p.rev + 1 = _; rw [hr], hc, fun e => hne ?_⟩
      rw [← e]
      unfold Ag.wv
      rw [← hr]
theorem beg_mv (A : Ag) (s : List Int) : Mv A.own (A.begA s).own := by
  unfold Ag.begA
  split
  · exact .inl rfl
  · split
    · exact rev_mv A (A.begP s) (begP_rev A s) (by rw [begP_cid]; omega)
    · exact .inl rfl
theorem est_mv (A : Ag) (xs : List Int) : Mv A.own (A.estA xs).own := by
  unfold Ag.estA
  split
  · exact .inl rfl
  · split
    · exact .inl rfl
    · exact beg_mv A _
theorem fol_mv (A : Ag) (q : Nat) : Mv A.own (A.folA q).own := by
  unfold Ag.folA
  split
  · exact rev_mv A A.own rfl (Int.le_refl _)
  · split
    · exact beg_mv A _
    · exact .inl rfl
theorem tak_mv (A : Ag) (q i : Int) (p : Pq) : Mv A.own (A.takA q i p).own := by
  unfold Ag.takA
  split
  · exact .inl rfl
  · split
    · exact .inl rfl
    · split
      · exact .inl rfl
      · split
        · exact .inl rfl
        · unfold Ag.tk1
          split
          · exact fol_mv (A.set1 q.toNat p.pp) q.toNat
          · exact .inl rfl
theorem stp_mv {o : Opx} {E : Int} (s : Stp A o E A') : Mv A.own A'.own := by
  cases s with
  | est _ => exact est_mv A o.ss
  | tak _ => exact tak_mv A o.q o.inc o.p
  | ins g c _ _ => exact .inl rfl
  | apart _ _ => exact .inl rfl
  | none _ _ _ => exact .inl rfl
end
end Go.Proofs.Ytdegjhkjmgimpaa.Mb
namespace Go.Proofs.Ytdegjhkjmgimpaa.Mb
open Go.RowKit
set_option linter.unusedVariables false
set_option linter.unusedSimpArgs false
section
variable {A A' : Ag} {w w' W : World} {B : Nat} {T : Int}
theorem msL_at (A : Ag) : ∀ (l : List Nat) (i : Nat), i < l.length → (A.msL l).getD (i * 3) 0 = ((l.getD i 0 : Nat) : Int) ∧ (A.msL l).getD (i * 3 + 1) 0 = A.own.set.getD (l.getD i 0) 0 ∧ (A.msL l).getD (i * 3 + 2) 0 = A.own.vec.getD (l.getD i 0) 0
  | [], i, h => by simp at h
  | q :: l, 0, _ => ⟨rfl, rfl, rfl⟩
  | q :: l, i + 1, h => by
    have ih := msL_at A l i (by simpa using h)
    have e : A.msL (q :: l) = (q : Int) :: A.own.set.getD q 0 :: A.own.vec.getD q 0 :: A.msL l := rfl
    rw [e, show (i + 1) * 3 = i * 3 + 3 by omega]
    refine ⟨?_, ?_, ?_⟩
    · simpa [List.getD] using ih.1
    · simpa [List.getD, show i * 3 + 3 + 1 = i * 3 + 1 + 3 by omega] using ih.2.1
    · simpa [List.getD, show i * 3 + 3 + 2 = i * 3 + 2 + 3 by omega] using ih.2.2
theorem hld_self {inc : Int} (h : A.Iv inc) : hld (A.msL A.mids) A.self inc A.mids.length = A.own.cid := by
  have hs : A.own.set.getD A.self 0 ≠ 0 := by rw [h.set]; have := h.inc1; omega
  have hm : A.self ∈ A.mids := List.mem_filter.2 ⟨List.mem_range.2 h.n16.2.2, by simpa [Ag.all1] using hs⟩
  obtain ⟨j, hj, hje⟩ := List.getElem_of_mem hm
  have hjd : A.mids.getD j 0 = A.self := by simp [List.getD, hj, hje]
  have hhit : hitB (A.msL A.mids) A.self inc j = true := by
    unfold hitB
    obtain ⟨e1, e2, _⟩ := msL_at A A.mids j hj
    rw [e1, e2, hjd, h.set]
    simp
  unfold hld
  cases hf : (List.range A.mids.length).find? (hitB (A.msL A.mids) A.self inc) with
  | none =>
    have := List.find?_eq_none.1 hf j (List.mem_range.2 hj)
    exact absurd hhit this
  | some i =>
    have hi := List.mem_range.1 (List.mem_of_find?_eq_some hf)
    have hit := List.find?_some hf
    unfold hitB at hit
    obtain ⟨e1, e2, e3⟩ := msL_at A A.mids i hi
    rw [e1, e2] at hit
    simp only [Bool.and_eq_true, beq_iff_eq] at hit
    have hq : A.mids.getD i 0 = A.self := by have := hit.1; omega
    show (A.msL A.mids).getD (i * 3 + 2) 0 = _
    rw [e3, hq, h.vec]
end
end Go.Proofs.Ytdegjhkjmgimpaa.Mb
