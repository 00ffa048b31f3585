import Derived.Test.YtfodkackfahldaaBtg
namespace Go.Proofs.Ytfodkackfahldaa.Lo
open Go.RowKit
set_option linter.unusedVariables false
set_option linter.unusedSimpArgs false

theorem dP_le (s : Nat → Int) (xs : List Int) (q : Nat) (d M : Int) : ∀ n, dP s xs q d n ≤ M ↔ d ≤ M ∧ ∀ p, p < n → p ≠ q → (p : Int) ∈ xs → s (289 + p * 16 + q) ≤ M := by
  intro n
  induction n with
  | zero => simp [dP]
  | succ n ih =>
    unfold dP
    by_cases h : n ≠ q ∧ (n : Int) ∈ xs
    · rw [if_pos h]
      constructor
      · intro hm
        have h1 := ih.1 (by omega)
        refine ⟨h1.1, fun p hp a1 a2 => ?_⟩
        by_cases e : p = n
        · subst e; omega
        · exact h1.2 p (by omega) a1 a2
      · intro hm
        have h1 := ih.2 ⟨hm.1, fun p hp => hm.2 p (by omega)⟩
        have h2 := hm.2 n (by omega) h.1 h.2
        omega
    · rw [if_neg h]
      constructor
      · intro hm
        have h1 := ih.1 hm
        refine ⟨h1.1, fun p hp a1 a2 => ?_⟩
        by_cases e : p = n
        · subst e; exact absurd ⟨a1, a2⟩ h
        · exact h1.2 p (by omega) a1 a2
      · intro hm
        exact ih.2 ⟨hm.1, fun p hp => hm.2 p (by omega)⟩
theorem dL_le (s : Nat → Int) (N : Nat) (xs : List Int) (M : Int) : ∀ i, dL s N xs i ≤ M ↔ 1 ≤ M ∧ ∀ k, k < i → ∀ p, p < N → p ≠ (xs.getD k 0).toNat → (p : Int) ∈ xs → s (289 + p * 16 + (xs.getD k 0).toNat) ≤ M := by
  intro i
  induction i with
  | zero => simp [dL]
  | succ i ih =>
    unfold dL
    rw [dP_le, ih]
    constructor
    · rintro ⟨⟨h1, h2⟩, h3⟩
      refine ⟨h1, fun k hk => ?_⟩
      by_cases e : k = i
      · subst e; exact h3
      · exact h2 k (by omega)
    · rintro ⟨h1, h2⟩
      exact ⟨⟨h1, fun k hk => h2 k (by omega)⟩, h2 i (by omega)⟩
section
variable {N : Nat} {f : Nat → Int} {b : Nat → Bool} {s : Nat → Int} {xs : List Int} {most : Int}
theorem okP_iff (h : Sim N f b s) (hin : ∀ p, p < N → f (273 + p) = if (p : Int) ∈ xs then 1 else 0) (h89 : f 289 = most) {p q : Nat} (hp : p < N) (hq : q < N) : okP b s xs most q p = true ↔ p = q ∨ rtB f p q = true := by
  unfold okP rtB
  rw [hin p hp, h89]
  have hh := h.h p q hp hq
  have hz := h.z p q hp hq
  by_cases hm : (p : Int) ∈ xs
  · rw [if_pos hm, if_pos rfl, decide_eq_true hm, hz.1]
    cases hb : b (33 + p * 16 + q)
    · have hf : ¬ f (17 + p * 16 + q) < 0 := fun hc => by rw [hh.2 hc] at hb; cases hb
      simp [inR]; omega
    · have hf := hh.1 hb
      simp [inR]; omega
  · rw [if_neg hm, if_neg (by omega), decide_eq_false hm]
    cases hb : b (33 + p * 16 + q)
    · have hf : ¬ f (17 + p * 16 + q) < 0 := fun hc => by rw [hh.2 hc] at hb; cases hb
      simp [hf]
    · have hf := hh.1 hb
      simp [hf]
theorem okQ_iff (h : Sim N f b s) (hin : ∀ p, p < N → f (273 + p) = if (p : Int) ∈ xs then 1 else 0) (h89 : f 289 = most) {q : Nat} (hq : q < N) : okQ b s N xs most q = true ↔ (f (1 + q) = 1 ∧ ∀ p, p < N → p = q ∨ rtB f p q = true) := by
  unfold okQ
  simp only [Bool.and_eq_true, List.all_eq_true, List.mem_range, Bool.not_eq_true']
  have hu := h.u q hq
  have hl := h.l q hq
  have hv := h.v q hq
  constructor
  · rintro ⟨⟨h1, h2⟩, h3⟩
    have hf := hu.1 h1
    have h4 : ¬ f (1 + q) = 2 := fun hc => by rw [(hl hf).2 hc] at h2; cases h2
    exact ⟨by omega, fun p hp => (okP_iff h hin h89 hp hq).1 (h3 p hp)⟩
  · rintro ⟨h1, h3⟩
    refine ⟨⟨hu.2 (by omega), ?_⟩, fun p hp => (okP_iff h hin h89 hp hq).2 (h3 p hp)⟩
    cases hb : b (17 + q)
    · rfl
    · have := (hl (by omega)).1 hb; omega
theorem alone_eq (h : Sim N f b s) (n2 : N ≤ 16) (hx : ∀ x ∈ xs, 0 ≤ x ∧ x < N) (hin : ∀ p, p < N → f (273 + p) = if (p : Int) ∈ xs then 1 else 0) (h89 : f 289 = most) : alR b s N xs most = if alP f N then (true, max 1 (lgA f N N)) else (false, 0) := by
  have hall : xs.all (fun x => okQ b s N xs most x.toNat) = true ↔ alP f N := by
    rw [List.all_eq_true]
    constructor
    · intro ha q hq
      unfold alQ
      rw [hin q hq]
      by_cases hm : (q : Int) ∈ xs
      · rw [if_pos hm]
        exact .inr ((okQ_iff h hin h89 hq).1 (by have := ha _ hm; rwa [show ((q : Int).toNat) = q from rfl] at this))
      · rw [if_neg hm]; exact .inl rfl
    · intro ha x hxm
      have hr := hx x hxm
      have hq : x.toNat < N := by omega
      rw [okQ_iff h hin h89 hq]
      have h1 := ha _ hq
      unfold alQ at h1
      rw [hin _ hq, if_pos (by rw [show ((x.toNat : Nat) : Int) = x by omega]; exact hxm)] at h1
      rcases h1 with h1 | h1
      · omega
      · exact h1
  unfold alR
  by_cases ha : alP f N
  · rw [if_pos (hall.2 ha), if_pos ha]
    congr 1
    have hpa : ∀ p q, p < N → q < N → p ≠ q → (p : Int) ∈ xs → (q : Int) ∈ xs → s (289 + p * 16 + q) = f (17 + p * 16 + q) := fun p q hp hq hne hmp hmq => by
      have h1 := ha q hq
      unfold alQ at h1
      rw [hin q hq, if_pos hmq] at h1
      rcases h1 with h1 | ⟨_, h1⟩
      · omega
      · rcases h1 p hp with h1 | h1
        · exact absurd h1 hne
        · unfold rtB at h1
          rw [hin p hp, if_pos hmp, if_pos rfl, inR_iff] at h1
          rw [(h.z p q hp hq).1]; omega
    apply Int.le_antisymm
    · rw [dL_le]
      have hlg := (lgA_le f N (lgA f N N) N).1 (Int.le_refl _)
      refine ⟨by omega, fun k hk p hp hne hmp => ?_⟩
      have hmk : xs.getD k 0 ∈ xs := by rw [List.getD_eq_getElem?_getD, List.getElem?_eq_getElem hk]; exact List.getElem_mem _
      have hr := hx _ hmk
      generalize hqq : xs.getD k 0 = x at *
      have hq : x.toNat < N := by omega
      have hmq : ((x.toNat : Nat) : Int) ∈ xs := by rw [show ((x.toNat : Nat) : Int) = x by omega]; exact hmk
      rw [hpa p _ hp hq hne hmp hmq]
      have := hlg.2 p hp _ hq hne (by rw [hin p hp, if_pos hmp]) (by rw [hin _ hq, if_pos hmq])
      omega
    · have hd := (dL_le s N xs (dL s N xs xs.length) xs.length).1 (Int.le_refl _)
      have : lgA f N N ≤ dL s N xs xs.length := by
        rw [lgA_le]
        refine ⟨by omega, fun p hp q hq hne a1 a2 => ?_⟩
        have hmp : (p : Int) ∈ xs := by
          apply Classical.byContradiction; intro hc; rw [hin p hp, if_neg hc] at a1; omega
        have hmq : (q : Int) ∈ xs := by
          apply Classical.byContradiction; intro hc; rw [hin q hq, if_neg hc] at a2; omega
        obtain ⟨k, hk, hkq⟩ := List.mem_iff_getElem.1 hmq
        have hgk : xs.getD k 0 = (q : Int) := by rw [List.getD_eq_getElem?_getD, List.getElem?_eq_getElem hk]; exact hkq
        have h3 := hd.2 k hk p hp (by rw [hgk]; exact hne) hmp
        rw [hgk, show ((q : Int).toNat) = q from rfl, hpa p q hp hq hne hmp hmq] at h3
        exact h3
      omega
  · rw [if_neg (fun hc => ha (hall.1 hc)), if_neg ha]
end
def stt (N : Nat) (es : List Em) : Nat → (Nat → Bool) × (Nat → Int)
  | 0 => (bgB N, bgS N (N * 16))
  | j + 1 => (aftB (stt N es j).1 (stt N es j).2 N (es.getD j em0), aftS (stt N es j).2 (es.getD j em0))
def DD (N : Nat) (P : Nat → Nat → Int) (j : Nat) : Int := max 1 (lgA (P j) N N)
section
variable {N : Nat} {f0 : Nat → Int} {es : List Em}
theorem stt_sim (n2 : N ≤ 16) (hI : Iv N f0) (h0 : Sim N f0 (bgB N) (bgS N (N * 16))) : ∀ j, Sim N (prK N f0 es j) (stt N es j).1 (stt N es j).2
  | 0 => h0.nt n2 (fun i hi => (loF_ag f0 N 0 i (by omega)).symm)
  | j + 1 => by
    have h1 := ((stt_sim n2 hI h0 j).nt n2 (fun i hi => (diF_ag (prK N f0 es j) (es.getD j em0) i (by omega)).symm)).after n2 (es.getD j em0)
    exact h1.nt n2 (fun i hi => (loF_ag _ N ((j : Int) + 1) i (by omega)).symm)
theorem pr_no (n2 : N ≤ 16) {j : Nat} (h : ¬ alP (prK N f0 es j) N) : prK N f0 es j 290 = -1 := by
  obtain ⟨H, t, hP, ht⟩ := prK_lo (N := N) (f := f0) es j
  rw [hP] at h ⊢
  exact loF_no (fun hc => h (alP_ag n2 (loF_ag H N t).symm hc))
theorem pr_yes (n2 : N ≤ 16) (hI : Iv N f0) (h9 : f0 290 = -1) : ∀ j, alP (prK N f0 es j) N → prK N f0 es j 290 ≠ -1 ∧ DD N (prK N f0 es) j ≤ prK N f0 es j 291 ∧
    (j = 0 → prK N f0 es 0 290 = 0 ∧ prK N f0 es 0 291 = DD N (prK N f0 es) 0) ∧
    (∀ k, j = k + 1 → if alP (prK N f0 es k) N ∧ diB (prK N f0 es k) (es.getD k em0).k (es.getD k em0).a = false then prK N f0 es j 290 = prK N f0 es k 290 ∧ prK N f0 es j 291 = max (prK N f0 es k 291) (DD N (prK N f0 es) j) else prK N f0 es j 290 = (j : Int) ∧ prK N f0 es j 291 = DD N (prK N f0 es) j)
  | 0, ha => by
    have ha0 : alP f0 N := alP_ag n2 (loF_ag f0 N 0) ha
    have h1 := loF_al (t := 0) n2 ha0
    rw [h9, if_pos rfl, if_pos rfl] at h1
    have e0 : prK N f0 es 0 = loF f0 N 0 := rfl
    have hd : DD N (prK N f0 es) 0 = max 1 (lgA f0 N N) := by unfold DD; rw [e0, lgA_ag n2 (loF_ag f0 N 0)]
    refine ⟨by rw [e0, h1.1]; omega, by rw [e0, h1.2, hd]; exact Int.le_refl _, fun _ => ⟨by rw [e0, h1.1], by rw [e0, h1.2, hd]⟩, fun k hk => by omega⟩
  | j + 1, ha => by
    obtain ⟨e, he⟩ : ∃ e, es.getD j em0 = e := ⟨_, rfl⟩
    have e0 : prK N f0 es (j + 1) = loF (haE (diF (prK N f0 es j) e) N e) N ((j : Int) + 1) := by rw [← he]; rfl
    have haH : alP (haE (diF (prK N f0 es j) e) N e) N := by rw [e0] at ha; exact alP_ag n2 (loF_ag _ N _) ha
    have h1 := loF_al (t := (j : Int) + 1) n2 haH
    have hIj := ((hI.pr n2 es j).di e).n
    have hh : ∀ i, 273 ≤ i → haE (diF (prK N f0 es j) e) N e i = diF (prK N f0 es j) e i := fun i hi => haE_hh hIj n2 e i hi
    have hd : DD N (prK N f0 es) (j + 1) = max 1 (lgA (haE (diF (prK N f0 es j) e) N e) N N) := by unfold DD; rw [e0, lgA_ag n2 (loF_ag _ N _)]
    have h91 : diF (prK N f0 es j) e 291 = prK N f0 es j 291 := by unfold diF; split <;> first | rfl | rw [upF_ne _ _ (by omega)]
    rw [hh 290 (by omega), hh 291 (by omega), h91] at h1
    have key : if alP (prK N f0 es j) N ∧ diB (prK N f0 es j) e.k e.a = false then prK N f0 es (j + 1) 290 = prK N f0 es j 290 ∧ prK N f0 es (j + 1) 291 = max (prK N f0 es j 291) (DD N (prK N f0 es) (j + 1)) else prK N f0 es (j + 1) 290 = ((j + 1 : Nat) : Int) ∧ prK N f0 es (j + 1) 291 = DD N (prK N f0 es) (j + 1) := by
      by_cases hc : alP (prK N f0 es j) N ∧ diB (prK N f0 es j) e.k e.a = false
      · rw [if_pos hc]
        have ih := pr_yes n2 hI h9 j hc.1
        have h90 : diF (prK N f0 es j) e 290 = prK N f0 es j 290 := by unfold diF; rw [hc.2]; rfl
        rw [h90, if_neg ih.1, if_neg ih.1] at h1
        refine ⟨by rw [e0]; exact h1.1, ?_⟩
        rw [e0, h1.2, hd]
        have := ih.2.1
        unfold DD at this
        omega
      · rw [if_neg hc]
        have h90 : diF (prK N f0 es j) e 290 = -1 := by
          unfold diF
          cases hb : diB (prK N f0 es j) e.k e.a
          · rw [if_neg (by simp)]
            exact pr_no n2 (fun hal => hc ⟨hal, hb⟩)
          · rw [if_pos rfl, upF_at]
        rw [h90, if_pos rfl, if_pos rfl] at h1
        exact ⟨by rw [e0, h1.1]; omega, by rw [e0, h1.2, hd]⟩
    have hkk : ∀ k, j + 1 = k + 1 → if alP (prK N f0 es k) N ∧ diB (prK N f0 es k) (es.getD k em0).k (es.getD k em0).a = false then prK N f0 es (j + 1) 290 = prK N f0 es k 290 ∧ prK N f0 es (j + 1) 291 = max (prK N f0 es k 291) (DD N (prK N f0 es) (j + 1)) else prK N f0 es (j + 1) 290 = ((j + 1 : Nat) : Int) ∧ prK N f0 es (j + 1) 291 = DD N (prK N f0 es) (j + 1) := fun k hk => by
      obtain rfl : j = k := by omega
      rw [he]; exact key
    refine ⟨?_, ?_, fun h => by omega, hkk⟩
    · by_cases hc : alP (prK N f0 es j) N ∧ diB (prK N f0 es j) e.k e.a = false
      · rw [if_pos hc] at key; rw [key.1]; exact (pr_yes n2 hI h9 j hc.1).1
      · rw [if_neg hc] at key; rw [key.1]; omega
    · by_cases hc : alP (prK N f0 es j) N ∧ diB (prK N f0 es j) e.k e.a = false
      · rw [if_pos hc] at key; rw [key.2]; omega
      · rw [if_neg hc] at key; rw [key.2]; exact Int.le_refl _
end
end Go.Proofs.Ytfodkackfahldaa.Lo
