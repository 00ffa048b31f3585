import Derived.Test.YtbdefhagpgpoiacQ00
import Derived.Test.YtbdefhagpgpoiacQ15
import Derived.Test.YtbdefhagpgpoiacQ22
namespace Go.Proofs.Ytbdefhagpgpoiac.Mb
open Go.RowKit
set_option linter.unusedVariables false
set_option maxRecDepth 100000
set_option linter.unusedSimpArgs false
section
variable {A A' : Ag} {w w' W : World} {B : Nat} {T : Int}
def Ag.fresh (A : Ag) (q : Nat) (inc : Int) (p : Pq) : Bool := decide ((A.lat q).set.getD q 0 < inc) || (decide (inc = (A.lat q).set.getD q 0) && decide ((A.lat q).rev < p.rev))
def Ag.takE (A : Ag) (q inc : Int) (p : Pq) : Int :=
  if A.tkOk q inc = false then 1 else if p.valid q.toNat inc A.n = false then 60 else if inc < (A.lat q.toNat).set.getD q.toNat 0 then 50 else if A.fresh q.toNat inc p = false then 51 else (A.set1 q.toNat p.pp).folE q.toNat
def Ag.takA (A : Ag) (q inc : Int) (p : Pq) : Ag :=
  if A.tkOk q inc = false then A else if p.valid q.toNat inc A.n = false then A else if inc < (A.lat q.toNat).set.getD q.toNat 0 then A else if A.fresh q.toNat inc p = false then A else A.tk1 q.toNat p.pp
def Ag.takB (A : Ag) (q inc : Int) (p : Pq) : Bool :=
  if A.tkOk q inc = false then false else if p.valid q.toNat inc A.n = false then false else if inc < (A.lat q.toNat).set.getD q.toNat 0 then false else if A.fresh q.toNat inc p = false then false else (A.set1 q.toNat p.pp).folB q.toNat
theorem take_any (h : A.Ok w B T) (hT : 4611686018427387903 ≤ T) (q inc : Int) (p : Pq) (hp : p.Rd w) : Calls Try.prog 17 #[.pointer (some ⟨A.b, 0, none⟩), .int .i64 q, .int .i64 inc, .agg p.cs] w fun e w' => e = .returned (.tuple #[.bool (A.takB q inc p), .int .i64 (A.takE q inc p)]) ∧ (A.takA q inc p).Ok w' B T ∧ Kept w w' (fun j => j = A.b) := by
  unfold Ag.takE Ag.takA Ag.takB
  by_cases h1 : A.tkOk q inc = false
  · simp only [if_pos h1]
    refine (take_arg h q inc p h1).mono ?_
    rintro e w' ⟨rfl, hb⟩
    exact ⟨rfl, h.still hb, Kept.ofBelow hb _⟩
  · simp only [if_neg h1]
    have h2 : A.tkOk q inc = true := by cases hx : A.tkOk q inc with | false => exact absurd hx h1 | true => rfl
    unfold Ag.tkOk at h2
    simp only [Bool.and_eq_true] at h2
    obtain ⟨⟨h3, h4⟩, h5⟩ := h2
    have h3' := of_decide_eq_true h3
    have h5' := of_decide_eq_true h5
    have h16 := h.n16
    obtain ⟨k, rfl⟩ : ∃ k : Nat, q = k := ⟨q.toNat, by omega⟩
    have hk : k < A.n := by omega
    have hks : k ≠ A.self := by
      intro e
      subst e
      simp at h4
    rw [Int.toNat_natCast]
    by_cases hv : p.valid k inc A.n = false
    · simp only [if_pos hv]
      refine (take_set h k hk hks inc h5' p hp hv).mono ?_
      rintro e w' ⟨rfl, hb⟩
      exact ⟨rfl, h.still hb, Kept.ofBelow hb _⟩
    · simp only [if_neg hv]
      have hv' : p.valid k inc A.n = true := by cases hx : p.valid k inc A.n with | false => exact absurd hx hv | true => rfl
      by_cases ho : inc < (A.lat k).set.getD k 0
      · simp only [if_pos ho]
        refine (take_old h k hk hks inc h5' p hp hv' ho).mono ?_
        rintro e w' ⟨rfl, hb⟩
        exact ⟨rfl, h.still hb, Kept.ofBelow hb _⟩
      · simp only [if_neg ho]
        by_cases hg : (A.lat k).set.getD k 0 < inc
        · have hf : ¬ A.fresh k inc p = false := by unfold Ag.fresh; rw [decide_eq_true hg, Bool.true_or]; simp
          simp only [if_neg hf]
          exact take_gt h k hk hks inc h5' p hp hT hv' hg
        · have he : inc = (A.lat k).set.getD k 0 := by omega
          by_cases hr : (A.lat k).rev < p.rev
          · have hf : ¬ A.fresh k inc p = false := by unfold Ag.fresh; rw [decide_eq_true he, decide_eq_true hr]; simp
            simp only [if_neg hf]
            exact take_eq h k hk hks inc h5' p hp hT hv' he hr
          · have hf : A.fresh k inc p = false := by unfold Ag.fresh; rw [decide_eq_false hg, decide_eq_false hr]; simp
            simp only [if_pos hf]
            refine (take_stale h k hk hks inc h5' p hp hv' he (by omega)).mono ?_
            rintro e w' ⟨rfl, hb⟩
            exact ⟨rfl, h.still hb, Kept.ofBelow hb _⟩
end
end Go.Proofs.Ytbdefhagpgpoiac.Mb
