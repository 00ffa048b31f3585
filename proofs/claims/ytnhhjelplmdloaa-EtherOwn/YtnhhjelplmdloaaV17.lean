import Derived.Test.YtnhhjelplmdloaaV16
namespace Go.Proofs.Ytnhhjelplmdloaa.Et
open Go.RowKit Go.Maps
set_option linter.unusedVariables false
set_option linter.unusedSimpArgs false
set_option maxRecDepth 100000
section
variable {R R' : Rn} {w w' W : World} {B : Nat}
end
end Go.Proofs.Ytnhhjelplmdloaa.Et
namespace Go.Proofs.Ytnhhjelplmdloaa.Et
open Go.RowKit Go.Maps
set_option linter.unusedVariables false
set_option linter.unusedSimpArgs false
set_option maxRecDepth 100000
def ng (p : Px) : Bool := !p.gone
def pd (p : Px) : Fd := p.f.d
theorem liveN_at (R : Rn) : ∀ n k, k < (liveN R n).length → liveN R ((liveN R n).getD k 0) = (liveN R n).take k ∧ (liveN R n).getD k 0 < n ∧ (R.all.getD ((liveN R n).getD k 0) p0).gone = false
  | 0, k, h => by simp [liveN] at h
  | n + 1, k, h => by
    rw [liveN_next] at h ⊢
    cases hg : (R.all.getD n p0).gone with
    | true =>
      rw [hg] at h
      simp only [if_true, List.append_nil] at h ⊢
      obtain ⟨a, b, c⟩ := liveN_at R n k h
      exact ⟨a, by omega, c⟩
    | false =>
      rw [hg] at h
      simp only [Bool.false_eq_true, if_false, List.length_append, List.length_cons, List.length_nil] at h ⊢
      by_cases hk : k < (liveN R n).length
      · obtain ⟨a, b, c⟩ := liveN_at R n k hk
        have e : (liveN R n ++ [n]).getD k 0 = (liveN R n).getD k 0 := by simp [List.getD, List.getElem?_append_left hk]
        rw [e, List.take_append_of_le_length (by omega)]
        exact ⟨a, by omega, c⟩
      · obtain rfl : k = (liveN R n).length := by omega
        have e : (liveN R n ++ [n]).getD (liveN R n).length 0 = n := by simp [List.getD]
        rw [e]
        exact ⟨by simp, by omega, hg⟩
theorem ptake_next {ps : List Px} {k : Nat} (hk : k < ps.length) : ps.take (k + 1) = ps.take k ++ [ps.getD k p0] := by
  rw [List.take_succ_eq_append_getElem hk]
  simp [List.getD, List.getElem?_eq_getElem hk]
theorem liveN_map (R : Rn) : ∀ k, k ≤ R.all.length → (liveN R k).map (fun i => R.all.getD i p0) = (R.all.take k).filter ng
  | 0, _ => by simp [liveN]
  | k + 1, h => by
    rw [liveN_next, List.map_append, liveN_map R k (by omega), ptake_next (by omega), List.filter_append]
    cases hg : (R.all.getD k p0).gone with
    | true => simp only [if_true, List.map_nil, List.filter_cons, List.filter_nil, ng, hg, Bool.not_true, Bool.false_eq_true, if_false]
    | false => simp only [Bool.false_eq_true, if_false, List.map_cons, List.map_nil, List.filter_cons, List.filter_nil, ng, hg, Bool.not_false, if_true]
theorem live_map (R : Rn) : (live R).map (fun i => R.all.getD i p0) = R.all.filter ng := by
  have := liveN_map R R.all.length (Nat.le_refl _)
  rw [List.take_length] at this
  exact this
theorem live_len (R : Rn) : (live R).length = (R.all.filter ng).length := by rw [← live_map, List.length_map]
theorem live_split (R : Rn) (k : Nat) (hk : k < (live R).length) : ∃ A p C, R.all = A ++ p :: C ∧ A.length = (live R).getD k 0 ∧ p.gone = false ∧ (A.filter ng).length = k ∧ R.all.getD ((live R).getD k 0) p0 = p := by
  obtain ⟨h1, h2, h3⟩ := liveN_at R R.all.length k hk
  change liveN R ((live R).getD k 0) = (live R).take k at h1
  change (live R).getD k 0 < R.all.length at h2
  change (R.all.getD ((live R).getD k 0) p0).gone = false at h3
  generalize (live R).getD k 0 = i at h1 h2 h3
  refine ⟨R.all.take i, R.all.getD i p0, R.all.drop (i + 1), ?_, by simp; omega, h3, ?_, rfl⟩
  · have e : R.all.getD i p0 = R.all[i] := by simp [List.getD, List.getElem?_eq_getElem h2]
    rw [e, List.getElem_cons_drop]
    exact (List.take_append_drop i R.all).symm
  · have := liveN_map R i (by omega)
    rw [← this, List.length_map, h1, List.length_take]
    omega
structure Sim (E : En) (R : Rn) (K : Nat) : Prop where
  nn : R.nn = E.nn
  room : R.room = E.room
  r1 : 1 ≤ E.room ∧ E.room ≤ 20000
  now : R.now = E.clock
  last : E.last = R.all.length
  len : R.all.length ≤ K
  nod : ∀ p, p < E.nn → R.up p = E.up p ∧ R.inc p = E.inc p ∧ R.tick p = E.tick p
  pat : ∀ p q, p < E.nn → q < E.nn → p ≠ q → R.shut p q = E.cut p q ∧ R.slow p q = E.dl p q
  fs : E.fs.map Fx.d = (R.all.filter ng).map pd
  szE : ∀ f ∈ E.fs, f.n ≤ 40000
  szR : ∀ p ∈ R.all, p.f.n ≤ 40000
  few : (E.fs.length : Int) ≤ E.room
section
variable {E E' : En} {R R' : Rn} {w w' w1 w2 w3 : World} {B K m : Nat}
theorem Sim.lvl (s : Sim E R K) : (live R).length = E.fs.length := by
  rw [live_len, ← List.length_map (f := pd), ← s.fs, List.length_map]
theorem Sim.mono {K' : Nat} (s : Sim E R K) (h : K ≤ K') : Sim E R K' := ⟨s.nn, s.room, s.r1, s.now, s.last, Nat.le_trans s.len h, s.nod, s.pat, s.fs, s.szE, s.szR, s.few⟩
end
end Go.Proofs.Ytnhhjelplmdloaa.Et
