import Derived.Test.YtapenemfnngniaaPt3
namespace Go.Proofs.Ytapenemfnngniaa.Qm
open Go.RowKit Mb
set_option linter.unusedVariables false
set_option maxRecDepth 100000
set_option linter.unusedSimpArgs false
section
variable {w w' W : World} {B : Nat}
theorem own_set {g m c k : Nat} {ys : List Int} (h : w.ownsRow B 3 1 (.slice (some ⟨g, 0, none⟩) m c) m (ints ys)) (hk : k < m) (x : Int) : (w.setCell ⟨g, k, none⟩ (.int .i64 x)).ownsRow B 3 1 (.slice (some ⟨g, 0, none⟩) m c) m (ints (ys.set k x)) := by
  have hl : ys.length = m := by have := h.1; rw [ints_len] at this; omega
  rcases h.2 with ⟨h1, h2⟩ | ⟨g', cap, cur, hv, hB, hg, hnc, hcm, hcs, htk⟩
  · omega
  · simp only [Value.slice.injEq, Option.some.injEq, Addr.mk.injEq] at hv
    obtain ⟨⟨rfl, -⟩, -, rfl⟩ := hv
    refine ⟨by rw [ints_len, List.length_set]; omega, .inr ⟨g, c, cur.setIfInBounds k (.int .i64 x), rfl, hB, ?_, hnc, hcm, by simpa using hcs, ?_⟩⟩
    · exact blk_set hg rfl
    · rw [Array.toList_setIfInBounds, List.take_set, htk]
      simp [ints, List.map_set]
structure Al (w : World) (B : Nat) (v : Value) (E : List El) (C : Nat → List Int) : Prop where
  row : w.ownsRow B 22 1 v E.length (E.map El.v)
  el : ∀ i, i < E.length → w.ownsRow B 3 1 (E.getD i el0).v (C i).length (ints (C i))
  ap : Ap E
theorem Ll.al {n : Nat} {v : Value} {E : List El} (h : Ll w B n v E) (ha : Ap E) : Al w B v E (fun i => zi (listN (E.getD i el0).s n)) :=
  ⟨h.row, fun i hi => by rw [zi_len]; exact h.el _ (mem_getD hi), ha⟩
theorem ap_at {E : List El} (h : Ap E) {i j : Nat} (hi : i < E.length) (hj : j < E.length) (hij : i ≠ j) {g : Nat} (h1 : (E.getD i el0).b = some g) : (E.getD j el0).b ≠ some g := fun h2 => by
  have e1 : E.getD i el0 = E[i] := by simp [List.getD, hi]
  have e2 : E.getD j el0 = E[j] := by simp [List.getD, hj]
  rw [e1] at h1
  rw [e2] at h2
  have h3 := List.pairwise_iff_getElem.1 h
  rcases Nat.lt_or_gt_of_ne hij with hl | hl
  · have := h3 i j hi hj hl (by rw [h1, h2])
    rw [h1] at this
    cases this
  · have := h3 j i hj hi hl (by rw [h1, h2])
    rw [h2] at this
    cases this
def upC (C : Nat → List Int) (i : Nat) (l : List Int) : Nat → List Int := fun k => if k = i then l else C k
theorem Al.set {v : Value} {E : List El} {C : Nat → List Int} (h : Al w B v E C) {i k g c : Nat} (hi : i < E.length) (hk : k < (C i).length) (hv : (E.getD i el0).v = .slice (some ⟨g, 0, none⟩) (C i).length c) (x : Int) : Al (w.setCell ⟨g, k, none⟩ (.int .i64 x)) B v E (upC C i ((C i).set k x)) := by
  have hgi : (E.getD i el0).b = some g := by unfold El.b; rw [hv]; rfl
  have hrow := h.el i hi
  rw [hv] at hrow
  obtain ⟨cur, hcur⟩ := own_type hrow (g := g) rfl
  have kp : Kept w (w.setCell ⟨g, k, none⟩ (.int .i64 x)) (fun j => j = g) := kset _ _ _ _ (P := fun j => j = g) rfl
  refine ⟨kp.owns h.row (fun q hq e => ?_), fun j hj => ?_, h.ap⟩
  · obtain ⟨c3, h4⟩ := own_type h.row hq
    exact ty_ne h4 hcur (by decide) e
  · unfold upC
    by_cases e : j = i
    · subst e
      rw [if_pos rfl, List.length_set, hv]
      exact own_set hrow hk x
    · rw [if_neg e]
      exact kp.owns (h.el j hj) (fun q hq e2 => ap_at h.ap hi hj (Ne.symm e) hgi (by rw [← e2]; exact hq))
end
end Go.Proofs.Ytapenemfnngniaa.Qm
