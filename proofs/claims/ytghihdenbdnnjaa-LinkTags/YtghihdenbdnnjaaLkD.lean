import Derived.Test.YtghihdenbdnnjaaLkA
namespace Go.Proofs.Ytghihdenbdnnjaa.Ln
open Go.RowKit Mb
set_option linter.unusedVariables false
set_option maxRecDepth 100000
set_option linter.unusedSimpArgs false
section
variable {P : Px} {s t : Nat}
theorem ne1 (hs : s < 2) : s ≠ 1 - s := by omega
theorem pick_nat {i l : Nat} (h : i < l) : pick (i : Int) l = i := by
  unfold pick absI
  rw [if_neg (by omega)]
  simp [Nat.mod_eq_of_lt h]
theorem take_E (P : Px) (t : Nat) (x : Nat × List Int) {r : Nat} (hr : r ≠ t) : (P.take t x).E r = P.E r := by
  unfold Px.take
  split
  · exact upd_ne _ _ hr
  · exact upd_ne _ _ hr
theorem take_op (P : Px) (t : Nat) (x : Nat × List Int) : ((P.take t x).E t).op = (P.E t).op ∧ ((P.take t x).E t).sent = (P.E t).sent := by
  unfold Px.take
  split
  · simp only [upd_same]; exact ⟨rfl, rfl⟩
  · simp only [upd_same]; exact ⟨rfl, rfl⟩
theorem carry_E (P : Px) (hs : s < 2) (n : Int) : (P.carry s n).E s = P.E s ∧ ((P.carry s n).E (1 - s)).op = (P.E (1 - s)).op ∧ ((P.carry s n).E (1 - s)).sent = (P.E (1 - s)).sent := by
  unfold Px.carry
  split
  · exact ⟨rfl, rfl, rfl⟩
  · exact ⟨take_E _ _ _ (ne1 hs), take_op _ _ _⟩
theorem carry_ip (h : P.Inv) (hs : s < 2) (hw : 1 ≤ P.win) {i : Nat} {c : List Int} (hf : (P.f s)[i]? = some ((P.E s).op + i + 1, c)) (hip : (P.E s).op + i ≤ (P.E (1 - s)).ip) : (P.E s).op + i + 1 ≤ ((P.carry s (i : Int)).E (1 - s)).ip ∧ ((P.carry s (i : Int)).E (1 - s)).owed = true := by
  have hH := h s hs
  have hi : i < (P.f s).length := by
    rcases Nat.lt_or_ge i (P.f s).length with hi | hi
    · exact hi
    · rw [List.getElem?_eq_none hi] at hf; cases hf
  unfold Px.carry
  rw [if_neg (by intro e; rw [e] at hi; simp at hi), pick_nat hi]
  have hg : (P.f s).getD i (0, []) = ((P.E s).op + i + 1, c) := by rw [List.getD, hf]; rfl
  rw [hg]
  unfold Px.take
  split
  · rename_i hc
    simp only [upd_same]
    refine ⟨?_, rfl⟩
    show (P.E s).op + i + 1 ≤ (P.E (1 - s)).ip
    rcases hc with hc | hc
    · exact hc
    · obtain ⟨c', hc'⟩ := Option.isSome_iff_exists.1 hc
      have h1 := hH.ib _ _ hc'
      have h2 := hH.ib1
      have e : (P.E (1 - s)).ip + 1 = (P.E s).op + i + 1 := by have := h1.1; simp only at this; omega
      rw [e] at h2
      simp only at hc'
      rw [h2] at hc'
      cases hc'
  · rename_i hc
    simp only [upd_same]
    refine ⟨?_, rfl⟩
    have hn : ¬ (P.E s).op + i + 1 ≤ (P.E (1 - s)).ip := fun e => hc (.inl e)
    have e : (P.E (1 - s)).ip = (P.E s).op + i := by omega
    have h1 : 1 ≤ ((P.E (1 - s)).tookO ((P.E s).op + i + 1) c P.win).length := by
      unfold Ep.tookO
      obtain ⟨k, hk⟩ : ∃ k, P.win = k + 1 := ⟨P.win - 1, by omega⟩
      rw [hk, e]
      simp only [takeP, upd_same, List.length_cons]
      omega
    show (P.E s).op + i + 1 ≤ (P.E (1 - s)).ip + ((P.E (1 - s)).tookO ((P.E s).op + i + 1) c P.win).length
    omega
theorem carries_ip (h : P.Inv) (hs : s < 2) (hw : 1 ≤ P.win) (hf : ∀ i, i < (P.f s).length → ∃ c, (P.f s)[i]? = some ((P.E s).op + i + 1, c)) : ∀ k, k ≤ (P.f s).length → (P.E s).op + k ≤ ((P.carries s k).E (1 - s)).ip ∧ (0 < k → ((P.carries s k).E (1 - s)).owed = true) ∧ (P.carries s k).E s = P.E s ∧ ((P.carries s k).E (1 - s)).op = (P.E (1 - s)).op ∧ ((P.carries s k).E (1 - s)).sent = (P.E (1 - s)).sent
  | 0, _ => ⟨(h s hs).op, fun h0 => absurd h0 (by omega), rfl, rfl, rfl⟩
  | k + 1, hk => by
      obtain ⟨h1, h2, h3, h4, h5⟩ := carries_ip h hs hw hf k (by omega)
      obtain ⟨c, hc⟩ := hf k (by omega)
      have hsm := carries_same P s k
      have hst := carry_ip (P := P.carries s k) (h.carries hs k) hs (by rw [hsm.2.2.2.1]; exact hw) (i := k) (c := c) (by rw [hsm.1, h3]; exact hc) (by rw [h3]; exact h1)
      have hE := carry_E (P.carries s k) hs (k : Int)
      rw [carries_succ]
      rw [h3] at hst
      exact ⟨by have := hst.1; omega, fun _ => hst.2, hE.1.trans h3, hE.2.1.trans h4, hE.2.2.trans h5⟩
theorem half_ip (h : P.Inv) (hs : s < 2) (hw : 1 ≤ P.win) : (P.E s).op + min P.win ((P.E s).sent - (P.E s).op) ≤ ((P.half s).E (1 - s)).ip ∧ (0 < min P.win ((P.E s).sent - (P.E s).op) → ((P.half s).E (1 - s)).owed = true) ∧ (P.half s).E s = P.E s ∧ ((P.half s).E (1 - s)).op = (P.E (1 - s)).op ∧ ((P.half s).E (1 - s)).sent = (P.E (1 - s)).sent := by
  have hF : (P.fresh s).f s = numb (P.E s).op (takeP (P.E s).ob (P.E s).op P.win) := by
    show upd (upd P.f s []) s (upd P.f s [] s ++ numb (P.E s).op (takeP (P.E s).ob (P.E s).op P.win)) s = _
    rw [upd_same, upd_same, List.nil_append]
  have hl : ((P.fresh s).f s).length = min P.win ((P.E s).sent - (P.E s).op) := by rw [hF, numb_len]; exact (h s hs).shown_len
  have := carries_ip (P := P.fresh s) (h.fresh hs) hs hw (fun i hi => by
    rw [hF, numb_len] at hi
    refine ⟨(takeP (P.E s).ob (P.E s).op P.win)[i], ?_⟩
    rw [hF, numb_at, List.getElem?_eq_getElem hi]
    rfl) _ (Nat.le_refl _)
  rw [hl] at this
  unfold Px.half
  rw [hl]
  exact this
theorem back_op (P : Px) (ht : t < 2) (ha : P.a t = []) : ((P.back t).E (1 - t)).op = (if (P.E t).owed then max (P.E (1 - t)).op (P.E t).ip else (P.E (1 - t)).op) ∧ ((P.back t).E t).op = (P.E t).op ∧ ((P.back t).E (1 - t)).ip = (P.E (1 - t)).ip ∧ ((P.back t).E (1 - t)).owed = (P.E (1 - t)).owed ∧ ((P.back t).E t).sent = (P.E t).sent ∧ ((P.back t).E (1 - t)).sent = (P.E (1 - t)).sent ∧ (P.back t).a (1 - t) = P.a (1 - t) ∧ (P.back t).p = P.p ∧ (P.back t).win = P.win ∧ (P.back t).space = P.space := by
  have hn := ne1 ht
  unfold Px.back Px.owe
  by_cases ho : (P.E t).owed = true
  · rw [if_pos ho, if_pos ho]
    unfold Px.answer
    simp only [upd_same, ha, List.nil_append]
    rw [if_neg (by simp)]
    simp only [upd_same, upd_ne _ _ hn, upd_ne _ _ (Ne.symm hn)]
    exact ⟨by simp [pick, Ep.acked, Nat.mod_one], rfl, rfl, rfl, rfl, rfl, trivial, trivial, trivial, trivial⟩
  · rw [if_neg ho, if_neg ho]
    unfold Px.answer
    rw [if_pos ha]
    exact ⟨rfl, rfl, rfl, rfl, rfl, rfl, rfl, rfl, rfl, rfl⟩
end
end Go.Proofs.Ytghihdenbdnnjaa.Ln
