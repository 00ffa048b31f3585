import Derived.Test.YtfodkackfahldaaBtd
import Derived.Test.YtfodkackfahldaaBte
import Derived.Test.YtfodkackfahldaaBtf
namespace Go.Proofs.Ytfodkackfahldaa.Lo
open Go.RowKit
set_option linter.unusedVariables false
set_option linter.unusedSimpArgs false

def aftB (b : Nat → Bool) (s : Nat → Int) (N : Nat) (e : Em) : Nat → Bool := rafB b N e.xs e.k e.n (ndB s e.a) (ndB s e.a && b (1 + e.a.toNat)) (ndB s e.a && ndB s e.b && !(e.a == e.b)) e.a.toNat e.b.toNat
def aftS (s : Nat → Int) (e : Em) : Nat → Int := rafS s e.k e.n (ndB s e.a && ndB s e.b && !(e.a == e.b)) e.a.toNat e.b.toNat
theorem after_any (b : Nat → Bool) (s : Nat → Int) (N : Nat) (e : Em) (w : World) (hN : s 0 = (N : Int)) (n1 : 1 ≤ N) (n2 : N ≤ 16) (hr : Ri w e.sa e.sn e.sc e.xs) (hn : e.sn ≤ 140737488355328) : Calls Try.prog 53 #[.agg (rvl b s).toArray, .agg e.cs.toArray] w fun r w' => r = .returned (.agg (rvl (aftB b s N e) (aftS s e)).toArray) ∧ Below w.heap.size w w' := by
  cases h : ndB s e.a
  · exact after_A b s N e w hN n1 n2 hr hn ⟨h, trivial⟩
  · cases h2 : b (1 + e.a.toNat)
    · exact after_B b s N e w hN n1 n2 hr hn ⟨h, h2⟩
    · exact after_C b s N e w hN n1 n2 hr hn ⟨h, h2⟩
structure Sim (N : Nat) (f : Nat → Int) (b : Nat → Bool) (s : Nat → Int) : Prop where
  fn : f 0 = (N : Int)
  sn : s 0 = (N : Int)
  u : ∀ p, p < N → (b (1 + p) = true ↔ f (1 + p) ≠ 0)
  l : ∀ p, p < N → f (1 + p) ≠ 0 → (b (17 + p) = true ↔ f (1 + p) = 2)
  v : ∀ p, p < N → f (1 + p) = 0 ∨ f (1 + p) = 1 ∨ f (1 + p) = 2
  h : ∀ p q, p < N → q < N → (b (33 + p * 16 + q) = true ↔ f (17 + p * 16 + q) < 0)
  z : ∀ p q, p < N → q < N → s (289 + p * 16 + q) = max (f (17 + p * 16 + q)) (-(f (17 + p * 16 + q))) ∧ f (17 + p * 16 + q) ≠ 0
section
variable {N : Nat} {f g : Nat → Int} {b b' : Nat → Bool} {s s' : Nat → Int}
theorem Sim.nt (h : Sim N f b s) (n2 : N ≤ 16) (hn : Nt f g) : Sim N g b s := by
  refine ⟨by rw [← hn 0 (by omega)]; exact h.fn, h.sn, fun p hp => ?_, fun p hp hne => ?_, fun p hp => ?_, fun p q hp hq => ?_, fun p q hp hq => ?_⟩
  · rw [← hn _ (by omega)]; exact h.u p hp
  · rw [← hn _ (by omega)] at hne ⊢; exact h.l p hp hne
  · rw [← hn _ (by omega)]; exact h.v p hp
  · rw [← hn _ (by omega)]; exact h.h p q hp hq
  · rw [← hn _ (by omega)]; exact h.z p q hp hq
theorem Sim.st (h : Sim N f b s) (n2 : N ≤ 16) {m : Nat} {v : Int} (hm : m < N) (hb : ∀ i, i ≠ 1 + m → i ≠ 17 + m → b' i = b i) (h1 : b' (1 + m) = true ↔ v ≠ 0) (h2 : v ≠ 0 → (b' (17 + m) = true ↔ v = 2)) (hv : v = 0 ∨ v = 1 ∨ v = 2) : Sim N (upF f (1 + m) v) b' s := by
  refine ⟨by rw [upF_ne _ _ (by omega)]; exact h.fn, h.sn, fun p hp => ?_, fun p hp hne => ?_, fun p hp => ?_, fun p q hp hq => ?_, fun p q hp hq => ?_⟩
  · by_cases e : p = m
    · subst e; rw [upF_at]; exact h1
    · rw [upF_ne _ _ (by omega), hb _ (by omega) (by omega)]; exact h.u p hp
  · by_cases e : p = m
    · subst e; rw [upF_at] at hne ⊢; exact h2 hne
    · rw [upF_ne _ _ (by omega)] at hne ⊢; rw [hb _ (by omega) (by omega)]; exact h.l p hp hne
  · by_cases e : p = m
    · subst e; rw [upF_at]; exact hv
    · rw [upF_ne _ _ (by omega)]; exact h.v p hp
  · rw [upF_ne _ _ (by omega), hb _ (by omega) (by omega)]; exact h.h p q hp hq
  · rw [upF_ne _ _ (by omega)]; exact h.z p q hp hq
theorem Sim.pa (h : Sim N f b s) (n2 : N ≤ 16) {m r : Nat} {v : Int} (hm : m < N) (hr : r < N) (hb : ∀ i, i ≠ 33 + m * 16 + r → b' i = b i) (hs : ∀ i, i ≠ 289 + m * 16 + r → s' i = s i) (h1 : b' (33 + m * 16 + r) = true ↔ v < 0) (h2 : s' (289 + m * 16 + r) = max v (-v) ∧ v ≠ 0) : Sim N (upF f (17 + m * 16 + r) v) b' s' := by
  refine ⟨by rw [upF_ne _ _ (by omega)]; exact h.fn, by rw [hs _ (by omega)]; exact h.sn, fun p hp => ?_, fun p hp hne => ?_, fun p hp => ?_, fun p q hp hq => ?_, fun p q hp hq => ?_⟩
  · rw [upF_ne _ _ (by omega), hb _ (by omega)]; exact h.u p hp
  · rw [upF_ne _ _ (by omega)] at hne ⊢; rw [hb _ (by omega)]; exact h.l p hp hne
  · rw [upF_ne _ _ (by omega)]; exact h.v p hp
  · by_cases e : p = m ∧ q = r
    · obtain ⟨rfl, rfl⟩ := e; rw [upF_at]; exact h1
    · rw [upF_ne _ _ (by omega), hb _ (by omega)]; exact h.h p q hp hq
  · by_cases e : p = m ∧ q = r
    · obtain ⟨rfl, rfl⟩ := e; rw [upF_at]; exact h2
    · rw [upF_ne _ _ (by omega), hs _ (by omega)]; exact h.z p q hp hq
theorem upB_at (b : Nat → Bool) (i : Nat) (x : Bool) : upB b i x i = x := by simp [upB]
theorem upB_ne (b : Nat → Bool) {i j : Nat} (x : Bool) (h : j ≠ i) : upB b i x j = b j := by simp [upB, h]
theorem nd_iff (h : Sim N f b s) {a : Int} : ndB s a = true ↔ 0 ≤ a ∧ a < N := by unfold ndB; rw [h.sn]; simp
theorem nd_in (h : Sim N f b s) {a : Int} : inR a 0 (f 0 - 1) = ndB s a := by
  rw [h.fn]; unfold ndB inR; rw [h.sn]
  by_cases h1 : 0 ≤ a
  · by_cases h2 : a < N
    · rw [decide_eq_true h1, decide_eq_true h2, decide_eq_true (by omega)]
    · rw [decide_eq_true h1, decide_eq_false h2, decide_eq_false (by omega)]
  · rw [decide_eq_false h1]; rfl
theorem Sim.after (h : Sim N f b s) (n2 : N ≤ 16) (e : Em) : Sim N (haE f N e) (aftB b s N e) (aftS s e) := by
  unfold haE aftB aftS
  by_cases h4 : k4 e.k
  · rw [if_pos h4]
    have hS : rafS s e.k e.n (ndB s e.a && ndB s e.b && !(e.a == e.b)) e.a.toNat e.b.toNat = s := by
      unfold rafS; rw [if_neg]; rintro ⟨h1, _⟩; unfold k4 at h4; omega
    rw [hS]
    unfold haS
    rw [nd_in h]
    cases hnd : ndB s e.a
    · rw [if_neg (by simp)]
      have : rafB b N e.xs e.k e.n false (false && b (1 + e.a.toNat)) (false && ndB s e.b && !(e.a == e.b)) e.a.toNat e.b.toNat = b := by
        unfold rafB k4 at *
        rcases h4 with h4 | h4 | h4 | h4 <;> simp [h4]
      rw [this]; exact h
    · rw [if_pos rfl]
      have hm := (nd_iff h).1 hnd
      have hmN : e.a.toNat < N := by omega
      have hu := h.u _ hmN
      have hl := h.l _ hmN
      have hv := h.v _ hmN
      generalize e.a.toNat = m at *
      cases hub : b (1 + m)
      · have hf0 : f (1 + m) = 0 := by
          apply Classical.byContradiction; intro hc; rw [hu.2 hc] at hub; cases hub
        have hst : stB (f (1 + m)) e.k e.n = if e.k = 6 then 1 else 0 := by unfold stB; rw [if_pos hf0]
        rw [hst]
        by_cases h6 : e.k = 6
        · rw [if_pos h6]
          have : rafB b N e.xs e.k e.n true (true && false) (true && ndB s e.b && !(e.a == e.b)) m e.b.toNat = upB (upB b (1 + m) true) (17 + m) false := by unfold rafB; simp [h6]
          rw [this]
          refine h.st n2 hmN (fun i h1 h2 => by rw [upB_ne _ _ h2, upB_ne _ _ h1]) ?_ (fun _ => ?_) (by omega)
          · rw [upB_ne _ _ (by omega), upB_at]; simp
          · rw [upB_at]; simp
        · rw [if_neg h6]
          have : rafB b N e.xs e.k e.n true (true && false) (true && ndB s e.b && !(e.a == e.b)) m e.b.toNat = b := by
            unfold rafB k4 at *
            rcases h4 with h4 | h4 | h4 | h4
            · simp [h4]
            · exact absurd h4 h6
            · simp [h4]
            · simp [h4]
          rw [this]
          refine h.st n2 hmN (fun i _ _ => rfl) ?_ (fun hc => absurd rfl hc) (by omega)
          rw [hub]; simp
      · have hf0 : f (1 + m) ≠ 0 := hu.1 hub
        have hst : stB (f (1 + m)) e.k e.n = if e.k = 5 ∨ (e.k = 7 ∧ 0 ≤ e.n) then 0 else if e.k = 18 then 2 else f (1 + m) := by unfold stB; rw [if_neg hf0]
        rw [hst]
        by_cases h5 : e.k = 5 ∨ (e.k = 7 ∧ 0 ≤ e.n)
        · rw [if_pos h5]
          have : rafB b N e.xs e.k e.n true (true && true) (true && ndB s e.b && !(e.a == e.b)) m e.b.toNat = upB b (1 + m) false := by
            unfold rafB
            rw [if_pos]
            rcases h5 with h5 | h5
            · exact .inl ⟨h5, rfl⟩
            · exact .inr ⟨h5.1, rfl, h5.2⟩
          rw [this]
          refine h.st n2 hmN (fun i h1 h2 => by rw [upB_ne _ _ h1]) ?_ (fun hc => absurd rfl hc) (by omega)
          rw [upB_at]; simp
        · rw [if_neg h5]
          by_cases h18 : e.k = 18
          · rw [if_pos h18]
            have : rafB b N e.xs e.k e.n true (true && true) (true && ndB s e.b && !(e.a == e.b)) m e.b.toNat = upB b (17 + m) true := by unfold rafB; simp [h18]
            rw [this]
            refine h.st n2 hmN (fun i h1 h2 => by rw [upB_ne _ _ h2]) ?_ (fun _ => ?_) (by omega)
            · rw [upB_ne _ _ (by omega), hub]; simp
            · rw [upB_at]; simp
          · rw [if_neg h18]
            have : rafB b N e.xs e.k e.n true (true && true) (true && ndB s e.b && !(e.a == e.b)) m e.b.toNat = b := by
              unfold rafB k4 at *
              rcases h4 with h4 | h4 | h4 | h4
              · exact absurd (.inl h4) h5
              · simp [h4]
              · have : ¬ 0 ≤ e.n := fun hh => h5 (.inr ⟨h4, hh⟩)
                simp [h4]; omega
              · exact absurd h4 h18
            rw [this]
            have := h.st (b' := b) (v := f (1 + m)) n2 hmN (fun i _ _ => rfl) hu hl hv
            exact this
  · rw [if_neg h4]
    by_cases h3 : k3 e.k
    · rw [if_pos h3]
      unfold haP
      rw [nd_in h, nd_in h]
      cases hpt : (ndB s e.a && ndB s e.b && !(e.a == e.b))
      · rw [if_neg (by simp)]
        have h1 : rafB b N e.xs e.k e.n (ndB s e.a) (ndB s e.a && b (1 + e.a.toNat)) false e.a.toNat e.b.toNat = b := by
          unfold rafB k3 at *
          rcases h3 with h3 | h3 | h3 <;> simp [h3]
        have h2 : rafS s e.k e.n false e.a.toNat e.b.toNat = s := by unfold rafS; simp
        rw [h1, h2]; exact h
      · rw [if_pos rfl]
        have hp := hpt
        simp only [Bool.and_eq_true] at hp
        have ha := (nd_iff h).1 hp.1.1
        have hb := (nd_iff h).1 hp.1.2
        have hmN : e.a.toNat < N := by omega
        have hrN : e.b.toNat < N := by omega
        have hh := h.h _ _ hmN hrN
        have hz := h.z _ _ hmN hrN
        generalize e.a.toNat = m at *
        generalize e.b.toNat = r at *
        generalize hx : f (17 + m * 16 + r) = x at *
        unfold k3 at h3
        rcases h3 with h3 | h3 | h3
        · have h1 : rafB b N e.xs e.k e.n (ndB s e.a) (ndB s e.a && b (1 + m)) true m r = upB b (33 + m * 16 + r) true := by unfold rafB; simp [h3]
          have h2 : rafS s e.k e.n true m r = s := by unfold rafS; simp [h3]
          rw [h1, h2]
          have hp8 : paB x e.k e.n = -(max x (-x)) := by unfold paB; rw [if_pos h3]
          rw [hp8]
          refine h.pa n2 hmN hrN (fun i hi => upB_ne _ _ hi) (fun i _ => rfl) ?_ ⟨by rw [hz.1]; omega, by omega⟩
          rw [upB_at]; simp; omega
        · have h1 : rafB b N e.xs e.k e.n (ndB s e.a) (ndB s e.a && b (1 + m)) true m r = upB b (33 + m * 16 + r) false := by unfold rafB; simp [h3]
          have h2 : rafS s e.k e.n true m r = s := by unfold rafS; simp [h3]
          rw [h1, h2]
          have hp9 : paB x e.k e.n = max x (-x) := by unfold paB; rw [if_neg (by omega), if_pos h3]
          rw [hp9]
          refine h.pa n2 hmN hrN (fun i hi => upB_ne _ _ hi) (fun i _ => rfl) ?_ ⟨by rw [hz.1]; omega, by omega⟩
          rw [upB_at]; simp; omega
        · have h1 : rafB b N e.xs e.k e.n (ndB s e.a) (ndB s e.a && b (1 + m)) true m r = b := by unfold rafB; simp [h3]
          rw [h1]
          by_cases hn : 1 ≤ e.n ∧ e.n ≤ 16
          · have h2 : rafS s e.k e.n true m r = upF s (289 + m * 16 + r) e.n := by unfold rafS; rw [if_pos ⟨h3, rfl, hn.1, hn.2⟩]
            rw [h2]
            have hp10 : paB x e.k e.n = if x < 0 then -e.n else e.n := by unfold paB; rw [if_neg (by omega), if_neg (by omega), if_neg (fun hc => hc hn)]
            rw [hp10]
            refine h.pa n2 hmN hrN (fun i _ => rfl) (fun i hi => upF_ne _ _ hi) ?_ ⟨by rw [upF_at]; split <;> omega, by split <;> omega⟩
            rw [hh]
            split <;> omega
          · have h2 : rafS s e.k e.n true m r = s := by unfold rafS; rw [if_neg (fun hc => hn hc.2.2)]
            rw [h2]
            have hp10 : paB x e.k e.n = x := by unfold paB; rw [if_neg (by omega), if_neg (by omega), if_pos hn]
            rw [hp10]
            exact h.pa n2 hmN hrN (fun i _ => rfl) (fun i _ => rfl) hh hz
    · rw [if_neg h3]
      have h2 : rafS s e.k e.n (ndB s e.a && ndB s e.b && !(e.a == e.b)) e.a.toNat e.b.toNat = s := by
        unfold rafS; rw [if_neg]; rintro ⟨h1, _⟩; unfold k3 at h3; omega
      rw [h2]
      have h1 : rafB b N e.xs e.k e.n (ndB s e.a) (ndB s e.a && b (1 + e.a.toNat)) (ndB s e.a && ndB s e.b && !(e.a == e.b)) e.a.toNat e.b.toNat = if e.k = 11 then rsB b N e.xs else b := by
        unfold rafB k4 k3 at *
        rw [if_neg (by omega), if_neg (by omega), if_neg (by omega), if_neg (by omega), if_neg (by omega)]
      rw [h1]
      by_cases h11 : e.k = 11
      · rw [if_pos h11, if_pos h11]
        unfold haL rsB
        rw [h.fn]
        by_cases hsi : siB N e.xs = true
        · rw [if_pos hsi, if_pos hsi]
          have hpq : ∀ p q, p < N → q < N → shB b N e.xs (N * 16) (33 + p * 16 + q) = decide (¬ e.xs.getD p 0 = e.xs.getD q 0) := fun p q hp hq => by
            unfold shB
            rw [if_pos (by omega), show (33 + p * 16 + q - 33) / 16 = p by omega, show (33 + p * 16 + q - 33) % 16 = q by omega]
          have hlo : ∀ i, i < 33 → shB b N e.xs (N * 16) i = b i := fun i hi => by unfold shB; rw [if_neg (by omega)]
          refine ⟨by rw [spG_0]; exact h.fn, h.sn, fun p hp => ?_, fun p hp hne => ?_, fun p hp => ?_, fun p q hp hq => ?_, fun p q hp hq => ?_⟩
          · rw [sp_out n2 (by omega), hlo _ (by omega)]; exact h.u p hp
          · rw [sp_out n2 (by omega)] at hne ⊢; rw [hlo _ (by omega)]; exact h.l p hp hne
          · rw [sp_out n2 (by omega)]; exact h.v p hp
          · rw [sp_at hp hq n2, hpq p q hp hq]
            have hz := h.z p q hp hq
            unfold kiB paB
            by_cases es : e.xs.getD p 0 = e.xs.getD q 0
            · rw [if_pos es, if_neg (by omega), if_pos rfl, decide_eq_false (fun hc => hc es)]
              exact ⟨fun hc => (by cases hc), fun hc => (by omega)⟩
            · rw [if_neg es, if_pos rfl, decide_eq_true es]
              exact ⟨fun _ => (by omega), fun _ => rfl⟩
          · rw [sp_at hp hq n2]
            have hz := h.z p q hp hq
            unfold kiB paB
            by_cases es : e.xs.getD p 0 = e.xs.getD q 0
            · rw [if_pos es, if_neg (by omega), if_pos rfl]; omega
            · rw [if_neg es, if_pos rfl]; omega
        · rw [if_neg hsi, if_neg hsi]; exact h
      · rw [if_neg h11, if_neg h11]; exact h
theorem Sim.begun (N : Nat) (n2 : N ≤ 16) (ba : Int) (xs : List Int) (hx : ∀ x ∈ xs, 0 ≤ x ∧ x < 16) : Sim N (inF (wtF N ba) xs) (bgB N) (bgS N (N * 16)) := by
  refine ⟨?_, rfl, fun p hp => ?_, fun p hp _ => ?_, fun p hp => ?_, fun p q hp hq => ?_, fun p q hp hq => ?_⟩
  · rw [inF_out _ _ _ hx (.inl (by omega))]; rfl
  · rw [f0_st hx hp n2]; unfold bgB; simp; omega
  · rw [f0_st hx hp n2]; unfold bgB; simp; omega
  · rw [f0_st hx hp n2]; omega
  · rw [f0_pa hx hp hq n2]; unfold bgB; simp; omega
  · rw [f0_pa hx hp hq n2]
    refine ⟨?_, by omega⟩
    unfold bgS
    rw [if_neg (by omega), if_pos (by omega)]; rfl
end
end Go.Proofs.Ytfodkackfahldaa.Lo
