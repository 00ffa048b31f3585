import Derived.Test.YtghihdenbdnnjaaLkA
namespace Go.Proofs.Ytghihdenbdnnjaa.Ln
open Go.RowKit Mb
set_option linter.unusedVariables false
set_option maxRecDepth 100000
set_option linter.unusedSimpArgs false
def Wr.zapF (X : Wr) (s : Nat) : Wr := { X with v := upd X.v (8 + s) (.slice none 0 0), f := upd X.f s [] }
def Wr.zapA (X : Wr) (s : Nat) : Wr := { X with v := upd X.v (10 + s) (.slice none 0 0), a := upd X.a s [] }
section
variable {w w' W : World} {B : Nat} {X X' : Wr} {P : Px} {s T : Nat}
theorem zapF_step (h : X.Ok w B) (hs : s < 2) : Xstep w (w.setCell ⟨X.b, 8 + s, none⟩ (.slice none 0 0)) X (X.zapF s) B := by
  refine h.grow (i := 8 + s) (by omega) (by omega) rfl rfl rfl rfl rfl rfl ?_ (fun j j4 j12 hj => ?_) (Kept.refl _ _) (fun q hq => by cases hq) (fun z hz => ?_)
  · have e3 : (X.zapF s).rowN (8 + s) = 0 := by unfold Wr.rowN Wr.zapF; rw [if_neg (by omega), if_neg (by omega), if_pos (by omega), Nat.add_sub_cancel_left]; show (upd X.f s _ s).length = _; rw [upd_same]; simp
    have e4 : (X.zapF s).rowC (8 + s) = [] := by unfold Wr.rowC Wr.zapF; rw [if_neg (by omega), if_neg (by omega), if_pos (by omega), Nat.add_sub_cancel_left]; show (upd X.f s _ s).flatMap frc = _; rw [upd_same]; simp
    rw [e3, e4]
    exact ⟨by simp, .inl ⟨rfl, rfl⟩⟩
  · unfold Wr.rowN Wr.rowC Wr.zapF
    by_cases c1 : j < 6
    · simp only [c1, if_true]; exact ⟨trivial, trivial⟩
    · by_cases c2 : j < 8
      · simp only [c1, c2, if_true, if_false]; exact ⟨trivial, trivial⟩
      · by_cases c3 : j < 10
        · simp only [c1, c2, c3, if_true, if_false]; rw [upd_ne _ _ (show j - 8 ≠ s by omega)]; exact ⟨rfl, rfl⟩
        · simp only [c1, c2, c3, if_false]; exact ⟨trivial, trivial⟩
  · obtain ⟨t, ht, hz⟩ := hz
    simp only [Wr.zapF] at hz
    rcases hz with hz | hz | ⟨m, hz⟩
    · exact .inl ⟨t, ht, .inl hz⟩
    · exact .inl ⟨t, ht, .inr (.inl hz)⟩
    · by_cases e : t = s
      · subst e
        rw [upd_same] at hz
        cases hz
      · rw [upd_ne _ _ e] at hz
        exact .inl ⟨t, ht, .inr (.inr ⟨m, hz⟩)⟩
theorem zapA_step (h : X.Ok w B) (hs : s < 2) : Xstep w (w.setCell ⟨X.b, 10 + s, none⟩ (.slice none 0 0)) X (X.zapA s) B := by
  refine h.grow (i := 10 + s) (by omega) (by omega) rfl rfl rfl rfl rfl rfl ?_ (fun j j4 j12 hj => ?_) (Kept.refl _ _) (fun q hq => by cases hq) (fun z hz => ?_)
  · have e3 : (X.zapA s).rowN (10 + s) = 0 := by unfold Wr.rowN Wr.zapA; rw [if_neg (by omega), if_neg (by omega), if_neg (by omega), Nat.add_sub_cancel_left]; show (upd X.a s _ s).length = _; rw [upd_same]; simp
    have e4 : (X.zapA s).rowC (10 + s) = [] := by unfold Wr.rowC Wr.zapA; rw [if_neg (by omega), if_neg (by omega), if_neg (by omega), Nat.add_sub_cancel_left]; show (upd X.a s _ s).flatMap akc = _; rw [upd_same]; simp
    rw [e3, e4]
    exact ⟨by simp, .inl ⟨rfl, rfl⟩⟩
  · unfold Wr.rowN Wr.rowC Wr.zapA
    by_cases c1 : j < 6
    · simp only [c1, if_true]; exact ⟨trivial, trivial⟩
    · by_cases c2 : j < 8
      · simp only [c1, c2, if_true, if_false]; exact ⟨trivial, trivial⟩
      · by_cases c3 : j < 10
        · simp only [c1, c2, c3, if_true, if_false]; exact ⟨trivial, trivial⟩
        · simp only [c1, c2, c3, if_false]; rw [upd_ne _ _ (show j - 10 ≠ s by omega)]; exact ⟨rfl, rfl⟩
  · obtain ⟨t, ht, hz⟩ := hz
    exact .inl ⟨t, ht, hz⟩
theorem zapF_pu (X : Wr) (s : Nat) : (X.zapF s).pu = X.pu.clrF s := by
  unfold Wr.zapF Wr.pu Px.clrF
  simp only [upd_comp, List.map_nil]
theorem zapA_pu (X : Wr) (s : Nat) : (X.zapA s).pu = X.pu.clrA s := rfl
structure TnS (w wr : World) (X : Wr) (B : Nat) (P : Px) (Xi : Wr) : Prop where
  st : Xstep w wr X Xi B
  pu : Xi.pu = P
theorem TnS.go {wr w2 : World} {Xi X2 : Wr} {P P2 : Px} (h : TnS w wr X B P Xi) (s : Xstep wr w2 Xi X2 B) (hp : X2.pu = P2) : TnS w w2 X B P2 X2 := ⟨h.st.trans s, hp⟩
def hP (P : Px) (s : Nat) : Px := if s = 0 then P else if s = 1 then P.half 0 else (P.half 0).half 1
def bP (P : Px) (s : Nat) : Px := if s = 0 then (P.half 0).half 1 else if s = 1 then ((P.half 0).half 1).back 0 else P.turn
theorem hP_next (P : Px) {s : Nat} (hs : s < 2) : hP P (s + 1) = (hP P s).half s := by
  rcases s2 hs with rfl | rfl <;> rfl
theorem bP_next (P : Px) {s : Nat} (hs : s < 2) : bP P (s + 1) = (bP P s).back s := by
  rcases s2 hs with rfl | rfl <;> rfl
theorem owe_sz (h : P.Sz T) (s : Nat) : (P.owe s).Sz (T + 1) := fun t ht => by
  have h0 := h t ht
  unfold Px.owe
  split
  · refine ⟨by show (P.p t).length ≤ _; omega, by show (P.f t).length ≤ _; omega, ?_⟩
    show (upd P.a s _ t).length ≤ _
    by_cases e : t = s
    · rw [e, upd_same]; rw [e] at h0; simp; omega
    · rw [upd_ne _ _ e]; omega
  · omega
theorem back_sz (h : P.Sz T) (s : Nat) : (P.back s).Sz (T + 1) := fun t ht => by
  have h0 := owe_sz h s t ht
  unfold Px.back Px.answer
  split
  · exact h0
  · exact h0
theorem hP_sz (h : P.Sz T) (hT : 1 ≤ T) (hw : P.win ≤ 5) (s : Nat) : (hP P s).Sz T := by
  unfold hP
  split
  · exact h
  · split
    · exact h.half hT hw 0
    · exact (h.half hT hw 0).half hT (by rw [(half_same P 0).1]; exact hw) 1
theorem bP_sz (h : P.Sz T) (hT : 1 ≤ T) (hw : P.win ≤ 5) {s : Nat} (hs : s < 2) : (bP P s).Sz (T + 1) := by
  have h2 := (h.half hT hw 0).half hT (by rw [(half_same P 0).1]; exact hw) 1
  rcases s2 hs with rfl | rfl
  · intro t ht; have : ((P.half 0).half 1).Sz T := h2; have h3 := this t ht; show (((P.half 0).half 1).p t).length ≤ _ ∧ (((P.half 0).half 1).f t).length ≤ _ ∧ (((P.half 0).half 1).a t).length ≤ _; omega
  · exact back_sz h2 0
theorem hP_inv (h : P.Inv) (s : Nat) : (hP P s).Inv := by
  unfold hP
  split
  · exact h
  · split
    · exact h.half (by omega)
    · exact (h.half (s := 0) (by omega)).half (by omega)
theorem bP_inv (h : P.Inv) (s : Nat) : (bP P s).Inv := by
  unfold bP
  split
  · exact (h.half (s := 0) (by omega)).half (by omega)
  · split
    · exact ((h.half (s := 0) (by omega)).half (s := 1) (by omega)).back (by omega)
    · exact h.turn
end
end Go.Proofs.Ytghihdenbdnnjaa.Ln
