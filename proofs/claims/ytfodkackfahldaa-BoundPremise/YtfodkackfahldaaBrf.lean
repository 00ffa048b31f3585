import Derived.Test.YtfodkackfahldaaBre
namespace Go.Proofs.Ytfodkackfahldaa.Lo
open Go.RowKit
set_option linter.unusedVariables false
set_option linter.unusedSimpArgs false

theorem getD_last (l : List Em) (e : Em) : (l ++ [e]).getD l.length em0 = e := by
  rw [List.getD_eq_getElem?_getD, List.getElem?_append_right (Nat.le_refl _)]; simp
theorem getD_app (l : List Em) (e : Em) {i : Nat} (h : i < l.length) : (l ++ [e]).getD i em0 = l.getD i em0 := by
  rw [List.getD_eq_getElem?_getD, List.getElem?_append_left h, List.getD_eq_getElem?_getD]
theorem prK_snoc {N : Nat} {f : Nat → Int} (l : List Em) (e : Em) : prK N f (l ++ [e]) (l.length + 1) = stF N (prK N f l l.length) e ((l.length : Int) + 1) := by
  show stF N (prK N f (l ++ [e]) l.length) ((l ++ [e]).getD l.length em0) _ = _
  rw [getD_last, prK_ext l.length (fun i hi => getD_app l e hi)]
theorem sp_at {G : Nat → Int} {N : Nat} {tw : List Int} {p q : Nat} (hp : p < N) (hq : q < N) (n2 : N ≤ 16) : spG G N tw (N * 16) (17 + p * 16 + q) = paB (G (17 + p * 16 + q)) (kiB tw p q) 0 := by
  unfold spG
  rw [if_pos ⟨by omega, by omega, by omega⟩, show (17 + p * 16 + q - 17) / 16 = p by omega, show (17 + p * 16 + q - 17) % 16 = q by omega]
theorem sp_out {G : Nat → Int} {N : Nat} {tw : List Int} {i : Nat} (n2 : N ≤ 16) (h : i < 17 ∨ 273 ≤ i) : spG G N tw (N * 16) i = G i := by
  unfold spG
  rw [if_neg (by omega)]
theorem sp_same {G : Nat → Int} {N : Nat} {tw : List Int} {p q : Nat} (hp : p < N) (hq : q < N) (n2 : N ≤ 16) (h : tw.getD p 0 = tw.getD q 0) (hx : 1 ≤ G (17 + p * 16 + q)) : spG G N tw (N * 16) (17 + p * 16 + q) = G (17 + p * 16 + q) := by
  rw [sp_at hp hq n2]
  unfold kiB paB
  rw [if_pos h, if_neg (by omega), if_pos rfl]
  omega
theorem sp_cut {G : Nat → Int} {N : Nat} {tw : List Int} {p q : Nat} (hp : p < N) (hq : q < N) (n2 : N ≤ 16) (h : ¬ tw.getD p 0 = tw.getD q 0) (hx : 1 ≤ G (17 + p * 16 + q)) : spG G N tw (N * 16) (17 + p * 16 + q) < 0 := by
  rw [sp_at hp hq n2]
  unfold kiB paB
  rw [if_neg h, if_pos rfl]
  omega
theorem split_st {G : Nat → Int} {N : Nat} {tw : List Int} {e2 : Em} (h2 : e2.k = 11) (hx2 : e2.xs = tw) (hG : G 0 = (N : Int)) (htl : tw.length = N) (htw : ∀ x ∈ tw, x = 1 ∨ x = 2) (t : Int) : stF N G e2 t = loF (spG G N tw (N * 16)) N t := by
  unfold stF
  have h5 : diF G e2 = G := by
    unfold diF diB
    rw [h2, if_neg (show ¬ k5 11 from by decide), if_neg (show ¬ inR 11 12 17 = true from by decide)]
  rw [h5]
  unfold haE
  rw [h2, if_neg (show ¬ k4 11 from by decide), if_neg (show ¬ k3 11 from by decide), if_pos rfl, hx2]
  unfold haL
  rw [if_pos]
  unfold siB
  simp only [Bool.and_eq_true, decide_eq_true_eq, List.all_eq_true, inR_iff]
  refine ⟨by rw [hG, htl], fun x hx => ?_⟩
  have := htw x hx
  omega
theorem apart_pure (N : Nat) (n1 : 2 ≤ N) (n2 : N ≤ 16) (ba : Int) (l : List Em) (e2 : Em) (tw : List Int) (h2 : e2.k = 11) (hx2 : e2.xs = tw) (htl : tw.length = N) (htw : ∀ x ∈ tw, x = 1 ∨ x = 2) (hl : 0 < l.length)
    (hF : prK N (inF (wtF N ba) (rg N)) l l.length 290 ≠ -1) (k : Int) (side : List Int) (hside : ∀ p : Nat, p < N → ((p : Int) ∈ side ↔ tw.getD p 0 = k)) (hsr : ∀ x ∈ side, 0 ≤ x ∧ x < N) :
    (side = rg N → prK N (inF (wtF N ba) side) (l ++ [e2]) (l.length + 1) 290 = prK N (inF (wtF N ba) (rg N)) l l.length 290 ∧ prK N (inF (wtF N ba) side) (l ++ [e2]) (l.length + 1) 291 = prK N (inF (wtF N ba) (rg N)) l l.length 291) ∧
    ((∃ q : Nat, q < N ∧ (q : Int) ∈ side) → (∃ p : Nat, p < N ∧ ¬ (p : Int) ∈ side) → prK N (inF (wtF N ba) side) (l ++ [e2]) (l.length + 1) 290 = (l.length : Int) + 1 ∧ 1 ≤ prK N (inF (wtF N ba) side) (l ++ [e2]) (l.length + 1) 291 ∧ prK N (inF (wtF N ba) side) (l ++ [e2]) (l.length + 1) 291 ≤ prK N (inF (wtF N ba) (rg N)) l l.length 291) := by
  have hr1 : ∀ x ∈ rg N, 0 ≤ x ∧ x < 16 := fun x hx => by have := rg_mem.1 hx; omega
  have hr2 : ∀ x ∈ side, 0 ≤ x ∧ x < 16 := fun x hx => by have := hsr x hx; omega
  have hI1 : Iv N (inF (wtF N ba) (rg N)) := Iv.inF _ (Iv.wt N ba) (fun p hp => (hr1 p hp).1)
  have hI2 : Iv N (inF (wtF N ba) side) := Iv.inF _ (Iv.wt N ba) (fun p hp => (hr2 p hp).1)
  have hnt : Nt (inF (wtF N ba) side) (inF (wtF N ba) (rg N)) := fun i hi => by rw [inF_out _ _ i hr1 (.inl hi), inF_out _ _ i hr2 (.inl hi)]
  have hin1 : ∀ p, p < N → inF (wtF N ba) (rg N) (273 + p) = 1 := fun p hp => by
    rw [inF_at _ _ p (fun x hx => (hr1 x hx).1), if_pos (rg_mem.2 ⟨by omega, by omega⟩)]
  have hin2 : ∀ p, p < N → inF (wtF N ba) side (273 + p) = if (p : Int) ∈ side then 1 else 0 := fun p hp => by
    rw [inF_at _ _ p (fun x hx => (hr2 x hx).1)]
    have : wtF N ba (273 + p) = 0 := by unfold wtF; rw [if_neg (by omega), if_neg (by omega), if_neg (by omega)]
    rw [this]
  have hb1 : inF (wtF N ba) (rg N) 289 = ba := by rw [inF_out _ _ _ hr1 (.inr (by omega))]; unfold wtF; rw [if_neg (by omega), if_pos rfl]
  have hb2 : inF (wtF N ba) side 289 = ba := by rw [inF_out _ _ _ hr2 (.inr (by omega))]; unfold wtF; rw [if_neg (by omega), if_pos rfl]
  have hnG := prK_nt hI2 n2 hnt l l.length
  have hhF := prK_hh hI1 n2 l l.length
  have hhG := prK_hh hI2 n2 l l.length
  have hG0 := (hI2.pr n2 l l.length).n
  obtain ⟨m, hm⟩ : ∃ m, l.length = m + 1 := ⟨l.length - 1, by omega⟩
  obtain ⟨HF, hHF⟩ : ∃ H, prK N (inF (wtF N ba) (rg N)) l l.length = loF H N ((m : Int) + 1) := ⟨_, by rw [hm]; rfl⟩
  obtain ⟨HG, hHG⟩ : ∃ H, prK N (inF (wtF N ba) side) l l.length = loF H N ((m : Int) + 1) := ⟨_, by rw [hm]; rfl⟩
  have hall : alP (prK N (inF (wtF N ba) (rg N)) l l.length) N ∧ lgA (prK N (inF (wtF N ba) (rg N)) l l.length) N N ≤ prK N (inF (wtF N ba) (rg N)) l l.length 291 := by
    rw [hHF] at hF ⊢
    have := loF_yes n2 hF
    have ha := loF_ag HF N ((m : Int) + 1)
    exact ⟨alP_ag n2 ha.symm this.1, by rw [lgA_ag n2 ha]; exact this.2⟩
  have hst := split_st h2 hx2 hG0 htl htw ((l.length : Int) + 1)
  rw [prK_snoc, hst]
  have hfp := al_all (fun p hp => (hhF (273 + p) (by omega) (by omega)).trans (hin1 p hp)) hall.1
  have hle := (lgA_le _ N _ N).1 hall.2
  have hF9 : prK N (inF (wtF N ba) (rg N)) l l.length 289 = ba := (hhF 289 (by omega) (by omega)).trans hb1
  have hFin : ∀ p, p < N → prK N (inF (wtF N ba) (rg N)) l l.length (273 + p) = 1 := fun p hp => (hhF (273 + p) (by omega) (by omega)).trans (hin1 p hp)
  have hGin : ∀ p, p < N → prK N (inF (wtF N ba) side) l l.length (273 + p) = if (p : Int) ∈ side then 1 else 0 := fun p hp => (hhG (273 + p) (by omega) (by omega)).trans (hin2 p hp)
  have hG9 : prK N (inF (wtF N ba) side) l l.length 289 = ba := (hhG 289 (by omega) (by omega)).trans hb2
  have hGal : ¬ alP (prK N (inF (wtF N ba) side) l l.length) N → prK N (inF (wtF N ba) side) l l.length 290 = -1 := fun h => by
    rw [hHG] at h ⊢
    exact loF_no (fun h1 => h (alP_ag n2 (loF_ag HG N _).symm h1))
  have hsame : side = rg N → prK N (inF (wtF N ba) side) l l.length = prK N (inF (wtF N ba) (rg N)) l l.length := fun h => by rw [h]
  clear hHF hHG hI1 hI2 hnt hin1 hin2 hb1 hb2 hhF hhG hst
  generalize prK N (inF (wtF N ba) (rg N)) l l.length = F at *
  generalize prK N (inF (wtF N ba) side) l l.length = G at *
  have hup : ∀ q, q < N → G (1 + q) = 1 := fun q hq => (hnG (1 + q) (by omega)).trans (hfp.1 q hq)
  have hpa : ∀ p q, p < N → q < N → p ≠ q → 1 ≤ G (17 + p * 16 + q) ∧ G (17 + p * 16 + q) ≤ ba ∧ G (17 + p * 16 + q) ≤ F 291 := fun p q hp hq hne => by
    rw [hnG _ (by omega)]
    have h1 := hfp.2 p q hp hq hne
    have h3 := hle.2 p hp q hq hne (hFin p hp) (hFin q hq)
    rw [hF9] at h1
    exact ⟨h1.1, h1.2, h3⟩
  have halS : alP (spG G N tw (N * 16)) N := by
    intro q hq
    by_cases hqs : (q : Int) ∈ side
    · refine .inr ⟨by rw [sp_out n2 (by omega)]; exact hup q hq, fun p hp => ?_⟩
      by_cases hpq : p = q
      · exact .inl hpq
      · refine .inr ?_
        have h1 := hpa p q hp hq hpq
        unfold rtB
        rw [sp_out n2 (by omega), hGin p hp]
        by_cases hps : (p : Int) ∈ side
        · rw [if_pos hps, if_pos rfl, sp_same hp hq n2 (by rw [(hside p hp).1 hps, (hside q hq).1 hqs]) h1.1, sp_out n2 (by omega), hG9, inR_iff]
          exact ⟨h1.1, h1.2.1⟩
        · rw [if_neg hps, if_neg (by omega)]
          have := sp_cut hp hq n2 (tw := tw) (fun e => hps ((hside p hp).2 (e.trans ((hside q hq).1 hqs)))) h1.1
          exact decide_eq_true this
    · exact .inl (by rw [sp_out n2 (by omega), hGin q hq, if_neg hqs])
  have hlgS : lgA (spG G N tw (N * 16)) N N ≤ F 291 := by
    rw [lgA_le]
    refine ⟨hle.1, fun p hp q hq hne a1 a2 => ?_⟩
    have h1 := hpa p q hp hq hne
    by_cases e : tw.getD p 0 = tw.getD q 0
    · rw [sp_same hp hq n2 e h1.1]; exact h1.2.2
    · have := sp_cut hp hq n2 e h1.1
      omega
  have hlo := loF_al (t := (l.length : Int) + 1) n2 halS
  rw [hlo.1, hlo.2, sp_out n2 (.inr (by omega)), sp_out n2 (.inr (by omega))]
  refine ⟨fun hs => ?_, ?_⟩
  · rw [hsame hs, if_neg hF, if_neg hF]
    rw [hsame hs] at hlgS
    exact ⟨rfl, by omega⟩
  · rintro ⟨q0, hq0, hqs⟩ ⟨p0, hp0, hps⟩
    have hne : p0 ≠ q0 := fun e => hps (e ▸ hqs)
    have h1 := hpa p0 q0 hp0 hq0 hne
    have hno : G 290 = -1 := hGal (fun ha => by
      rcases ha q0 hq0 with h | ⟨_, h⟩
      · rw [hGin q0 hq0, if_pos hqs] at h; omega
      · rcases h p0 hp0 with h | h
        · exact hne h
        · unfold rtB at h
          rw [hGin p0 hp0, if_neg hps, if_neg (by omega)] at h
          have := of_decide_eq_true h
          omega)
    rw [hno, if_pos rfl, if_pos rfl]
    exact ⟨rfl, by omega, by omega⟩
end Go.Proofs.Ytfodkackfahldaa.Lo
