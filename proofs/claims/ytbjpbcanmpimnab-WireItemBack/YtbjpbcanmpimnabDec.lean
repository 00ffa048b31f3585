import Derived.Test.YtbjpbcanmpimnabTake
import Derived.Test.YtbjpbcanmpimnabItem
import Derived.Test.YtbjpbcanmpimnabBook
namespace Go.Proofs.Ytbjpbcanmpimnab.Lo
open Go.RowKit
set_option linter.unusedVariables false

theorem tkGo_ok (bs : List Int) (a : Nat) : ∀ (k i : Nat) (u v nx : Int), 0 ≤ u → Wm.tkGo bs a k i u = (v, nx, 0) → ∃ m : Nat, nx = m ∧ m ≤ bs.length ∧ a < m ∧ 0 ≤ v ∧ v ≤ 4611686018427387904 := by
  intro k
  induction k with
  | zero => intro i u v nx hu h; simp [Wm.tkGo] at h
  | succ k ih =>
    intro i u v nx hu h
    rw [Wm.tkGo] at h
    have hp := Wm.pow_pos i
    have hnn : 0 ≤ u + bs.getD (a + i) 0 % 128 * 128 ^ i := by
      have : 0 ≤ bs.getD (a + i) 0 % 128 * 128 ^ i := Int.mul_nonneg (by omega) (Int.le_of_lt hp)
      omega
    split at h
    · rename_i hlt
      split at h
      · exact ih (i + 1) _ v nx hnn h
      · split at h
        · simp at h
        · rename_i hbad
          simp only [Prod.mk.injEq, and_true] at h
          obtain ⟨rfl, rfl⟩ := h
          refine ⟨a + i + 1, rfl, by omega, by omega, hnn, ?_⟩
          unfold Wm.maxCount at hbad
          omega
    · simp at h

theorem tk_ok {bs : List Int} {a : Nat} {v nx : Int} (h : Wm.tk bs a = (v, nx, 0)) : ∃ m : Nat, nx = m ∧ m ≤ bs.length ∧ a < m ∧ 0 ≤ v ∧ v ≤ 4611686018427387904 := by
  unfold Wm.tk at h
  split at h
  · simp at h
  · exact tkGo_ok bs a 9 0 0 v nx (by decide) (by simpa using h)

def cnt (bs : List Int) (a : Nat) (lo hi : Int) : Except Int (Int × Nat) :=
  if (Wm.tk bs a).2.2 ≠ 0 then .error (Wm.tk bs a).2.2 else if inR (Wm.tk bs a).1 lo hi then .ok ((Wm.tk bs a).1, (Wm.tk bs a).2.1.toNat) else .error 16

theorem cnt_ok {bs : List Int} {a m : Nat} {lo hi v : Int} (h : cnt bs a lo hi = .ok (v, m)) : Wm.tk bs a = (v, (m : Int), 0) ∧ inR v lo hi = true ∧ m ≤ bs.length ∧ a < m ∧ 0 ≤ v ∧ v ≤ 4611686018427387904 := by
  unfold cnt at h
  obtain ⟨x, y, z, ht⟩ : ∃ x y z, Wm.tk bs a = (x, y, z) := ⟨_, _, _, rfl⟩
  rw [ht] at h ⊢
  simp only at h
  split at h
  · simp at h
  · rename_i hz
    simp only [ne_eq, Classical.not_not] at hz
    subst hz
    split at h
    · rename_i hr
      simp only [Except.ok.injEq, Prod.mk.injEq] at h
      obtain ⟨rfl, rfl⟩ := h
      obtain ⟨m, rfl, h1, h2, h3, h4⟩ := tk_ok ht
      exact ⟨by simp, hr, by simpa using h1, by simpa using h2, h3, h4⟩
    · simp at h

theorem cnt_err {bs : List Int} {a : Nat} {lo hi x : Int} (h : cnt bs a lo hi = .error x) : (∃ v nx, Wm.tk bs a = (v, nx, x) ∧ x ≠ 0) ∨ (∃ v nx, Wm.tk bs a = (v, nx, 0) ∧ inR v lo hi = false ∧ x = 16) := by
  unfold cnt at h
  obtain ⟨x', y, z, ht⟩ : ∃ x y z, Wm.tk bs a = (x, y, z) := ⟨_, _, _, rfl⟩
  rw [ht] at h ⊢
  simp only at h
  split at h
  · rename_i hz
    simp only [Except.error.injEq] at h
    subst h
    exact .inl ⟨x', y, rfl, hz⟩
  · rename_i hz
    simp only [ne_eq, Classical.not_not] at hz
    subst hz
    split at h
    · simp at h
    · rename_i hr
      simp only [Except.error.injEq] at h
      exact .inr ⟨x', y, rfl, by simpa using hr, h.symm⟩

theorem cnt_nz {bs : List Int} {a : Nat} {lo hi x : Int} (h : cnt bs a lo hi = .error x) : x ≠ 0 := by
  rcases cnt_err h with ⟨_, _, _, h⟩ | ⟨_, _, _, _, rfl⟩
  · exact h
  · decide

def decD (bs : List Int) (a : Nat) : Except Int ((Int × Int × Int × List Int) × Nat) :=
  match cnt bs a 0 15 with
  | .error x => .error x
  | .ok (s, a1) => match cnt bs a1 1 4611686018427387904 with
    | .error x => .error x
    | .ok (q, a2) => match cnt bs a2 0 4611686018427387904 with
      | .error x => .error x
      | .ok (st, a3) => match cnt bs a3 0 256 with
        | .error x => .error x
        | .ok (n, a4) => if a4 + n.toNat ≤ bs.length then .ok ((s, q, st, (bs.drop a4).take n.toNat), a4 + n.toNat) else .error 10

structure It where
  k : Int
  s : Int
  q : Int
  st : Int
  body : List Int
  p : Int
  st2 : Int
  ss : Int
  sq : Int

def decI (bs : List Int) : Except Int It :=
  if 300 < bs.length then .error 17 else if bs.length = 0 then .error 10
  else if bs.getD 0 0 = 1 then match decD bs 1 with
    | .error x => .error x
    | .ok ((s, q, st, body), a) => if a < bs.length then .error 15 else .ok ⟨1, s, q, st, body, 0, 0, 0, 0⟩
  else if bs.getD 0 0 = 2 then match cnt bs 1 1 4611686018427387904 with
    | .error x => .error x
    | .ok (p, a1) => match cnt bs a1 0 (p - 1) with
      | .error x => .error x
      | .ok (st2, a2) => match cnt bs a2 0 15 with
        | .error x => .error x
        | .ok (ss, a3) => match cnt bs a3 1 4611686018427387904 with
          | .error x => .error x
          | .ok (sq, a4) => if a4 < bs.length then .error 15 else .ok ⟨2, 0, 0, 0, [], p, st2, ss, sq⟩
  else .error 12

end Go.Proofs.Ytbjpbcanmpimnab.Lo
