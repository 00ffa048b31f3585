import Derived.Test.YtfodkackfahldaaBrf
namespace Go.Proofs.Ytfodkackfahldaa.Lo
open Go.RowKit
set_option linter.unusedVariables false
set_option linter.unusedSimpArgs false

def evS (k : Int) (sa : Option Addr) (sn sc : Nat) (xs : List Int) : Em := ⟨k, 0, 0, 0, none, 0, 0, [], 0, 0, 0, 0, ⟨#[]⟩, ⟨#[]⟩, ⟨#[]⟩, sa, sn, sc, xs⟩
theorem bEvS (k : Int) (sa : Option Addr) (sn sc : Nat) (xs : List Int) : Try.prog.built 36 [(0, .int .i64 k), (6, .slice sa sn sc)] = some (evS k sa sn sc xs).cs.toArray := by kernel_rfl
def sd (ss : List Int) (p : Nat) : Int := if (p : Int) ∈ ss then 2 else 1
def tw (ss : List Int) (n : Nat) : List Int := (List.range n).map (sd ss)
theorem tw_len (ss : List Int) (n : Nat) : (tw ss n).length = n := by simp [tw]
theorem tw_succ (ss : List Int) (n : Nat) : tw ss (n + 1) = tw ss n ++ [sd ss n] := by simp [tw, List.range_succ]
theorem tw_at (ss : List Int) {n p : Nat} (h : p < n) : (tw ss n).getD p 0 = sd ss p := by simp [tw, List.getD, h]
theorem tw_two (ss : List Int) (n : Nat) : ∀ x ∈ tw ss n, x = 1 ∨ x = 2 := by
  intro x hx
  simp only [tw, List.mem_map, List.mem_range] at hx
  obtain ⟨p, _, rfl⟩ := hx
  unfold sd
  split
  · exact .inr rfl
  · exact .inl rfl
def sdl (ss : List Int) (k : Int) (n : Nat) : List Int := (rg n).filter (fun x => decide (sd ss x.toNat = k))
theorem sdl_succ (ss : List Int) (k : Int) (n : Nat) : sdl ss k (n + 1) = if sd ss n = k then sdl ss k n ++ [(n : Int)] else sdl ss k n := by
  unfold sdl
  rw [rg_succ, List.filter_append]
  by_cases h : sd ss n = k
  · rw [if_pos h]; simp [h]
  · rw [if_neg h]; simp [h]
theorem sdl_mem {ss : List Int} {k : Int} {n : Nat} {x : Int} : x ∈ sdl ss k n ↔ (0 ≤ x ∧ x < n) ∧ sd ss x.toNat = k := by
  unfold sdl
  rw [List.mem_filter, rg_mem]
  simp
theorem sdl_le (ss : List Int) (k : Int) (n : Nat) : (sdl ss k n).length ≤ n := by
  unfold sdl
  have := List.length_filter_le (fun x : Int => decide (sd ss x.toNat = k)) (rg n)
  rw [rg_len] at this
  exact this
theorem setB_rg (N : Nat) : ∀ (m a : Nat), a + m = N → 0 < N → setB N a ((List.range' a m).map (fun (i : Nat) => (i : Int))) = true := by
  intro m
  induction m with
  | zero => intro a h h0; simp [setB]; omega
  | succ m ih =>
    intro a h h0
    simp only [List.range'_succ, List.map_cons, setB, Bool.and_eq_true, inR_iff]
    refine ⟨by omega, ?_⟩
    exact ih (a + 1) (by omega) h0
theorem setB_all {N : Nat} (h : 0 < N) : setB N 0 (rg N) = true := by
  have := setB_rg N N 0 (by omega) h
  rw [← List.range_eq_range'] at this
  exact this
theorem setB_filter (m : Int) (P : Int → Bool) : ∀ (l : List Int) (lo lo' : Int), lo' ≤ lo → 0 ≤ lo' → (l.filter P ≠ [] ∨ 0 < lo') → setB m lo l = true → setB m lo' (l.filter P) = true := by
  intro l
  induction l with
  | nil => intro lo lo' h1 h2 h3 h4; simp at h3; simp [setB]; exact h3
  | cons x l ih =>
    intro lo lo' h1 h2 h3 h4
    simp only [setB, Bool.and_eq_true, inR_iff] at h4
    by_cases hp : P x = true
    · rw [List.filter_cons_of_pos hp]
      simp only [setB, Bool.and_eq_true, inR_iff]
      exact ⟨by omega, ih (x + 1) (x + 1) (Int.le_refl _) (by omega) (.inr (by omega)) h4.2⟩
    · rw [List.filter_cons_of_neg hp] at h3 ⊢
      exact ih (x + 1) lo' (by omega) h2 h3 h4.2
theorem setB_sdl {ss : List Int} {k : Int} {N : Nat} (h0 : 0 < N) (h : sdl ss k N ≠ []) : setB N 0 (sdl ss k N) = true :=
  setB_filter N _ (rg N) 0 0 (Int.le_refl _) (Int.le_refl _) (.inl h) (setB_all h0)
theorem sdl_all {ss : List Int} {k : Int} {N : Nat} (h : (sdl ss k N).length = N) : sdl ss k N = rg N := by
  unfold sdl at *
  apply List.filter_eq_self.2
  have h2 : ((rg N).filter (fun x => decide (sd ss x.toNat = k))).length = (rg N).length := by rw [h, rg_len]
  exact List.length_filter_eq_length_iff.1 h2
theorem pE_ok {en : Nat} {N : Nat} {fl : Int} {xs : List Int} (h1 : en ≤ 4000) (h2 : setB N 0 xs = true) (h3 : fl ≤ 2305843009213693952) : pE 0 en N fl xs = 0 := by
  unfold pE
  rw [if_neg (by simp), if_neg (by omega), h2]
  simp [h3]
theorem pm_ok {en N : Nat} {ba fl : Int} {es : List Em} {xs : List Int} (h1 : en ≤ 4000) (h2 : setB N 0 xs = true) (h3 : fl ≤ 2305843009213693952) : pm 0 en N ba fl es xs = if prK N (inF (wtF N ba) xs) es en 290 = -1 then (0, 0, 180) else (prK N (inF (wtF N ba) xs) es en 290, prK N (inF (wtF N ba) xs) es en 291, 0) := by
  unfold pm pmF
  rw [pE_ok h1 h2 h3, if_neg (by simp)]
  rfl
theorem apart_fin {N : Nat} (n1 : 2 ≤ N) (n2 : N ≤ 16) {ba fl : Int} {l : List Em} {en : Nat} (hl : l.length = en) (h0 : 0 < en) (h1 : en + 1 ≤ 4000) (h3 : fl ≤ 2305843009213693952) {ss : List Int} {a : Option Addr} {c : Nat} (k : Int)
    (hq : (pm 0 en N ba fl l (rg N)).2.2 = 0) (hne : sdl ss k N ≠ []) :
    (pm 0 (en + 1) N ba fl (l ++ [evS 11 a N c (tw ss N)]) (sdl ss k N)).2.2 = 0 ∧
    ((sdl ss k N).length < N → (pm 0 (en + 1) N ba fl (l ++ [evS 11 a N c (tw ss N)]) (sdl ss k N)).1 = (en : Int) + 1 ∧ 1 ≤ (pm 0 (en + 1) N ba fl (l ++ [evS 11 a N c (tw ss N)]) (sdl ss k N)).2.1 ∧ (pm 0 (en + 1) N ba fl (l ++ [evS 11 a N c (tw ss N)]) (sdl ss k N)).2.1 ≤ (pm 0 en N ba fl l (rg N)).2.1) ∧
    ((sdl ss k N).length = N → (pm 0 (en + 1) N ba fl (l ++ [evS 11 a N c (tw ss N)]) (sdl ss k N)).1 = (pm 0 en N ba fl l (rg N)).1 ∧ (pm 0 (en + 1) N ba fl (l ++ [evS 11 a N c (tw ss N)]) (sdl ss k N)).2.1 = (pm 0 en N ba fl l (rg N)).2.1) := by
  subst hl
  rw [pm_ok (by omega) (setB_all (by omega)) h3] at hq ⊢
  by_cases hF : prK N (inF (wtF N ba) (rg N)) l l.length 290 = -1
  · rw [if_pos hF] at hq; cases hq
  rw [if_neg hF]
  rw [pm_ok h1 (setB_sdl (by omega) hne) h3]
  have hap := apart_pure N n1 n2 ba l (evS 11 a N c (tw ss N)) (tw ss N) rfl rfl (tw_len _ _) (tw_two _ _) h0 hF k (sdl ss k N) (fun p hp => by rw [sdl_mem, tw_at _ hp]; simp; omega) (fun x hx => (sdl_mem.1 hx).1)
  obtain ⟨x, hx⟩ := List.exists_mem_of_ne_nil _ hne
  have hxm := (sdl_mem.1 hx).1
  have hq0 : ∃ q : Nat, q < N ∧ (q : Int) ∈ sdl ss k N := ⟨x.toNat, by omega, by rw [show ((x.toNat : Nat) : Int) = x by omega]; exact hx⟩
  by_cases hN : (sdl ss k N).length = N
  · have h2 := hap.1 (sdl_all hN)
    rw [if_neg (by rw [h2.1]; exact hF)]
    exact ⟨rfl, fun h => by omega, fun _ => h2⟩
  · have hp0 : ∃ p : Nat, p < N ∧ ¬ (p : Int) ∈ sdl ss k N := by
      apply Classical.byContradiction
      intro hcon
      apply hN
      have hall : ∀ x ∈ rg N, decide (sd ss x.toNat = k) = true := by
        intro y hy
        have hy' := rg_mem.1 hy
        apply Classical.byContradiction
        intro hd
        apply hcon
        refine ⟨y.toNat, by omega, fun hm => hd ?_⟩
        rw [show ((y.toNat : Nat) : Int) = y by omega, sdl_mem] at hm
        simpa using hm.2
      show ((rg N).filter (fun x => decide (sd ss x.toNat = k))).length = N
      rw [List.filter_eq_self.2 hall, rg_len]
    have h2 := hap.2 hq0 hp0
    rw [if_neg (by rw [h2.1]; omega)]
    exact ⟨rfl, fun _ => h2, fun h => absurd h hN⟩
end Go.Proofs.Ytfodkackfahldaa.Lo
