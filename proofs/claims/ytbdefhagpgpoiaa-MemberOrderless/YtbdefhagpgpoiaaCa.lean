import Derived.Test.YtbdefhagpgpoiaaBw
namespace Go.Proofs.Ytbdefhagpgpoiaa.Mb
open Go.RowKit
set_option linter.unusedVariables false
set_option linter.unusedSimpArgs false
section
variable {A A' : Ag} {w w' W : World} {B : Nat} {T : Int}
theorem revA_err (A : Ag) (p : Pp) : A.revE p ≠ 0 → A.revA p = A := by
  unfold Ag.revE Ag.revA
  intro h
  split
  · rfl
  · rename_i h1
    rw [if_neg h1] at h
    split
    · rfl
    · rename_i h2
      rw [if_neg h2] at h
      exact absurd rfl h
theorem begA_err (A : Ag) (s : List Int) : A.begE s ≠ 0 → A.begA s = A := by
  unfold Ag.begE Ag.begA
  intro h
  split
  · rfl
  · rename_i h1
    rw [if_neg h1] at h
    rw [if_neg h]
theorem estA_err (A : Ag) (xs : List Int) : A.estE xs ≠ 0 → A.estA xs = A := by
  unfold Ag.estE Ag.estA
  intro h
  split
  · rfl
  · rename_i h1
    rw [if_neg h1] at h
    split
    · rfl
    · rename_i h2
      rw [if_neg h2] at h
      exact begA_err A _ h
theorem takA_err (A : Ag) (q i : Int) (p : Pq) : A.takE q i p ≠ 0 → A.takA q i p = A := by
  unfold Ag.takE Ag.takA
  intro h
  by_cases h1 : A.tkOk q i = false
  · rw [if_pos h1]
  rw [if_neg h1] at h ⊢
  by_cases h2 : p.valid q.toNat i A.n = false
  · rw [if_pos h2]
  rw [if_neg h2] at h ⊢
  by_cases h3 : i < (A.lat q.toNat).set.getD q.toNat 0
  · rw [if_pos h3]
  rw [if_neg h3] at h ⊢
  by_cases h4 : A.fresh q.toNat i p = false
  · rw [if_pos h4]
  rw [if_neg h4] at h ⊢
  unfold Ag.tk1
  rw [if_neg h]
theorem stp_err {o : Opx} {E : Int} (s : Stp A o E A') : E ≠ 0 → A' = A := by
  intro h
  cases s with
  | est _ => exact estA_err A o.ss h
  | tak _ => exact takA_err A o.q o.inc o.p h
  | ins g c _ _ => exact absurd rfl h
  | apart _ _ => rfl
  | none _ _ _ => rfl
def Ag.Ix (A : Ag) : Prop := ∀ q, inR (A.own.set.getD q 0) = true
theorem Ag.Ix.rev (h : A.Ix) (p : Pp) (hp : ∀ q, inR (p.set.getD q 0) = true) : (A.revA p).Ix := by
  unfold Ag.revA
  split
  · exact h
  · split
    · exact h
    · exact hp
theorem Ag.Ix.beg (h : A.Ix) (s : List Int) (hp : ∀ q, inR (s.getD q 0) = true) : (A.begA s).Ix := by
  unfold Ag.begA
  split
  · exact h
  · split
    · exact h.rev (A.begP s) (by rw [begP_set]; exact hp)
    · exact h
theorem pad_inR (xs : List Int) (h : xs.all inR = true) (q : Nat) : inR ((pad xs).getD q 0) = true := by
  unfold pad
  by_cases hq : q < 16
  · simp only [List.getD, List.getElem?_map, List.getElem?_range hq, Option.map_some, Option.getD_some]
    by_cases h2 : q < xs.length
    · simp only [List.getElem?_eq_getElem h2, Option.getD_some]
      exact List.all_eq_true.1 h _ (List.getElem_mem h2)
    · simp only [List.getElem?_eq_none (Nat.le_of_not_lt h2), Option.getD_none]
      rfl
  · have e : ((List.range 16).map fun i => xs.getD i 0).getD q 0 = 0 := by simp [List.getD, hq]
    rw [e]
    rfl
theorem Ag.Ix.est (h : A.Ix) (xs : List Int) : (A.estA xs).Ix := by
  unfold Ag.estA
  split
  · exact h
  · rename_i hno
    split
    · exact h
    · have h1 : okL xs A.n = true := by cases hx : okL xs A.n with | false => exact absurd (.inl hx) hno | true => rfl
      unfold okL at h1
      exact h.beg (pad xs) (pad_inR xs (Bool.and_eq_true_iff.1 h1).2)
theorem Ag.Ix.fol (h : A.Ix) (q : Nat) : (A.folA q).Ix := by
  unfold Ag.folA
  split
  · exact h.rev _ h
  · split
    · exact h.beg _ h
    · exact h
theorem Ag.Ix.tk (h : A.Ix) (q i : Int) (p : Pq) : (A.takA q i p).Ix := by
  unfold Ag.takA
  split
  · exact h
  · split
    · exact h
    · split
      · exact h
      · split
        · exact h
        · unfold Ag.tk1
          split
          · exact Ag.Ix.fol (A := A.set1 q.toNat p.pp) h q.toNat
          · exact h
theorem Ag.Ix.stp (h : A.Ix) {o : Opx} {E : Int} (s : Stp A o E A') : A'.Ix := by
  cases s with
  | est _ => exact h.est o.ss
  | tak _ => exact h.tk o.q o.inc o.p
  | ins g c _ _ => exact h
  | apart _ _ => exact h
  | none _ _ _ => exact h
theorem A1_ix (b n s : Nat) (inc fl : Int) (h16 : 1 ≤ n ∧ n ≤ 16 ∧ s < n) (hi : 1 ≤ inc ∧ inc ≤ 4611686018427387904) : (A1 b n s inc fl).Ix := by
  intro q
  rw [A1_set, set_at s q inc (by omega)]
  split
  · unfold inR
    exact decide_eq_true (by omega)
  · rfl
theorem pad_take {A : Ag} {inc : Int} (h : A.Iv inc) : pad (A.own.set.take A.n) = A.own.set := by
  have h16 := h.n16
  apply List.ext_getElem (by rw [pad_len, h.ol.ls])
  intro i h1 h2
  have h3 : i < 16 := by rw [pad_len] at h1; exact h1
  have e1 : (pad (A.own.set.take A.n))[i] = (A.own.set.take A.n).getD i 0 := by unfold pad; simp
  have e2 : A.own.set[i] = A.own.set.getD i 0 := by simp [List.getD, h2]
  refine e1.trans (Eq.trans ?_ e2.symm)
  by_cases hi : A.n ≤ i
  · rw [h.sz i hi]
    simp [List.getD, List.getElem?_take, show ¬ i < A.n by omega]
  · simp [List.getD, List.getElem?_take, show i < A.n by omega]
theorem ok_own {inc : Int} (h : A.Iv inc) (hx : A.Ix) : okL (A.own.set.take A.n) A.n = true := by
  have h16 := h.n16
  unfold okL
  rw [decide_eq_true (by rw [List.length_take, h.ol.ls]; omega), Bool.true_and, List.all_eq_true]
  intro x hm
  obtain ⟨i, hi, rfl⟩ := List.getElem_of_mem (List.mem_of_mem_take hm)
  have := hx i
  simpa [List.getD, hi] using this
theorem est_own {inc : Int} (h : A.Iv inc) (hx : A.Ix) : A.estB (A.own.set.take A.n) = false ∧ A.estE (A.own.set.take A.n) = 0 ∧ A.estA (A.own.set.take A.n) = A := by
  have h1 : ¬ (okL (A.own.set.take A.n) A.n = false ∨ (pad (A.own.set.take A.n)).getD A.self 0 ≠ A.own.set.getD A.self 0) := by
    rw [ok_own h hx, pad_take h]
    rintro (h | h)
    · cases h
    · exact h rfl
  unfold Ag.estB Ag.estE Ag.estA
  rw [if_neg h1, if_neg h1, if_neg h1, if_pos (pad_take h), if_pos (pad_take h), if_pos (pad_take h)]
  exact ⟨rfl, rfl, rfl⟩
theorem rev_lat (A : Ag) (p : Pp) : (A.revA p).lat = A.lat := by
  unfold Ag.revA
  split <;> (try split) <;> rfl
theorem beg_lat (A : Ag) (s : List Int) : (A.begA s).lat = A.lat := by
  unfold Ag.begA
  split
  · rfl
  · split
    · exact rev_lat A _
    · rfl
theorem fol_lat (A : Ag) (q : Nat) : (A.folA q).lat = A.lat := by
  unfold Ag.folA
  split
  · exact rev_lat A _
  · split
    · exact beg_lat A _
    · rfl
theorem tak_again (A : Ag) (q i : Int) (p : Pq) (h : A.takE q i p = 0) : (A.takA q i p).takE q i p = 51 ∧ (A.takA q i p).takA q i p = A.takA q i p ∧ (A.takA q i p).takB q i p = false := by
  unfold Ag.takE at h
  by_cases h1 : A.tkOk q i = false
  · rw [if_pos h1] at h; cases h
  rw [if_neg h1] at h
  by_cases h2 : p.valid q.toNat i A.n = false
  · rw [if_pos h2] at h; cases h
  rw [if_neg h2] at h
  by_cases h3 : i < (A.lat q.toNat).set.getD q.toNat 0
  · rw [if_pos h3] at h; cases h
  rw [if_neg h3] at h
  by_cases h4 : A.fresh q.toNat i p = false
  · rw [if_pos h4] at h; cases h
  rw [if_neg h4] at h
  have e : A.takA q i p = (A.set1 q.toNat p.pp).folA q.toNat := by
    unfold Ag.takA
    rw [if_neg h1, if_neg h2, if_neg h3, if_neg h4]
    unfold Ag.tk1
    rw [if_pos h]
  rw [e]
  have hfx := (fol_fx (A.set1 q.toNat p.pp) q.toNat).1
  have hlat : ((A.set1 q.toNat p.pp).folA q.toNat).lat q.toNat = p.pp := by
    rw [fol_lat]
    exact upd_same _ _ _
  generalize (A.set1 q.toNat p.pp).folA q.toNat = C at hfx hlat ⊢
  have n1 : C.n = A.n := hfx.n
  have n2 : C.self = A.self := hfx.self
  have h2' : p.valid q.toNat i A.n = true := by cases hh : p.valid q.toNat i A.n with | true => rfl | false => exact absurd hh h2
  have hset : (pad p.ss).getD q.toNat 0 = i := by
    unfold Pq.valid at h2'
    simp only [Bool.and_eq_true, beq_iff_eq] at h2'
    exact h2'.1.1.1.1.1.1.2
  have g1 : ¬ C.tkOk q i = false := by
    unfold Ag.tkOk at h1 ⊢
    rw [n1, n2]
    exact h1
  have g2 : ¬ p.valid q.toNat i C.n = false := by rw [n1]; exact h2
  have g3 : ¬ i < (C.lat q.toNat).set.getD q.toNat 0 := by
    rw [hlat]
    show ¬ i < (pad p.ss).getD q.toNat 0
    rw [hset]
    omega
  have g4 : C.fresh q.toNat i p = false := by
    unfold Ag.fresh
    rw [hlat]
    show (decide ((pad p.ss).getD q.toNat 0 < i) || (decide (i = (pad p.ss).getD q.toNat 0) && decide (p.rev < p.rev))) = false
    rw [hset, decide_eq_false (Int.lt_irrefl _), decide_eq_false (Int.lt_irrefl _)]
    simp
  unfold Ag.takE Ag.takA Ag.takB
  rw [if_neg g1, if_neg g1, if_neg g1, if_neg g2, if_neg g2, if_neg g2, if_neg g3, if_neg g3, if_neg g3, if_pos g4, if_pos g4, if_pos g4]
  exact ⟨rfl, rfl, rfl⟩
end
end Go.Proofs.Ytbdefhagpgpoiaa.Mb
