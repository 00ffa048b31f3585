import Derived.Test.YtghihdenbdnnjaaLk1
namespace Go.Proofs.Ytghihdenbdnnjaa.Ln
open Go.RowKit Mb
set_option linter.unusedVariables false
set_option maxRecDepth 100000
set_option linter.unusedSimpArgs false
def Px.clrF (P : Px) (s : Nat) : Px := { P with f := upd P.f s [] }
def Px.clrA (P : Px) (s : Nat) : Px := { P with a := upd P.a s [] }
def Px.carries (P : Px) (s k : Nat) : Px := (List.range k).foldl (fun P (i : Nat) => P.carry s (i : Int)) P
def Px.fresh (P : Px) (s : Nat) : Px := ((P.clrF s).clrA s).show s
def Px.half (P : Px) (s : Nat) : Px := (P.fresh s).carries s ((P.fresh s).f s).length
def Px.back (P : Px) (s : Nat) : Px := (P.owe s).answer s 0
def Px.turn (P : Px) : Px := (((P.half 0).half 1).back 0).back 1
section
variable {w w' W : World} {B : Nat} {X X' : Wr} {P : Px} {s T : Nat}
theorem Px.Inv.clrF (h : P.Inv) (s : Nat) : (P.clrF s).Inv := fun t ht => by
  have h0 := h t ht
  show Hf P.win (P.E t) (P.E (1 - t)) (P.p t) (P.o (1 - t)) (upd P.f s [] t) (P.a (1 - t))
  by_cases e : t = s
  · rw [e, upd_same, ← e]; exact { h0 with fr := fun x hx => by cases hx }
  · rw [upd_ne _ _ e]; exact h0
theorem Px.Inv.clrA (h : P.Inv) (s : Nat) : (P.clrA s).Inv := fun t ht => by
  have h0 := h t ht
  show Hf P.win (P.E t) (P.E (1 - t)) (P.p t) (P.o (1 - t)) (P.f t) (upd P.a s [] (1 - t))
  by_cases e : 1 - t = s
  · rw [e, upd_same, ← e]; exact { h0 with ak := fun x hx => by cases hx }
  · rw [upd_ne _ _ e]; exact h0
theorem carry_same (P : Px) (s : Nat) (n : Int) : (P.carry s n).f = P.f ∧ (P.carry s n).p = P.p ∧ (P.carry s n).a = P.a ∧ (P.carry s n).win = P.win ∧ (P.carry s n).space = P.space := by
  unfold Px.carry Px.take
  repeat' split
  all_goals exact ⟨rfl, rfl, rfl, rfl, rfl⟩
theorem carries_succ (P : Px) (s k : Nat) : P.carries s (k + 1) = (P.carries s k).carry s (k : Int) := by
  unfold Px.carries
  rw [List.range_succ, List.foldl_append]
  rfl
theorem carries_same (P : Px) (s : Nat) : ∀ k, (P.carries s k).f = P.f ∧ (P.carries s k).p = P.p ∧ (P.carries s k).a = P.a ∧ (P.carries s k).win = P.win ∧ (P.carries s k).space = P.space
  | 0 => ⟨rfl, rfl, rfl, rfl, rfl⟩
  | k + 1 => by
      rw [carries_succ]
      obtain ⟨h1, h2, h3, h4, h5⟩ := carries_same P s k
      obtain ⟨g1, g2, g3, g4, g5⟩ := carry_same (P.carries s k) s (k : Int)
      exact ⟨g1.trans h1, g2.trans h2, g3.trans h3, g4.trans h4, g5.trans h5⟩
theorem Px.Inv.carries (h : P.Inv) (hs : s < 2) : ∀ k, (P.carries s k).Inv
  | 0 => h
  | k + 1 => by rw [carries_succ]; exact (Px.Inv.carries h hs k).carry hs _
theorem Px.Inv.fresh (h : P.Inv) (hs : s < 2) : (P.fresh s).Inv := ((h.clrF s).clrA s).show hs
theorem Px.Inv.half (h : P.Inv) (hs : s < 2) : (P.half s).Inv := (h.fresh hs).carries hs _
theorem Px.Inv.back (h : P.Inv) (hs : s < 2) : (P.back s).Inv := (h.owe hs).answer hs _
theorem Px.Inv.turn (h : P.Inv) : P.turn.Inv := (((h.half (s := 0) (by omega)).half (s := 1) (by omega)).back (s := 0) (by omega)).back (s := 1) (by omega)
theorem Px.Sz.clrF (h : P.Sz T) (s : Nat) : (P.clrF s).Sz T := fun t ht => by
  have h0 := h t ht
  refine ⟨h0.1, ?_, h0.2.2⟩
  show (upd P.f s [] t).length ≤ _
  by_cases e : t = s
  · rw [e, upd_same]; simp
  · rw [upd_ne _ _ e]; exact h0.2.1
theorem Px.Sz.clrA (h : P.Sz T) (s : Nat) : (P.clrA s).Sz T := fun t ht => by
  have h0 := h t ht
  refine ⟨h0.1, h0.2.1, ?_⟩
  show (upd P.a s [] t).length ≤ _
  by_cases e : t = s
  · rw [e, upd_same]; simp
  · rw [upd_ne _ _ e]; exact h0.2.2
theorem Px.Sz.fresh (h : P.Sz T) (hT : 1 ≤ T) (hw : P.win ≤ 5) (s : Nat) : (P.fresh s).Sz T := fun t ht => by
  have h0 := ((h.clrF s).clrA s) t ht
  refine ⟨h0.1, ?_, h0.2.2⟩
  show (upd ((P.clrF s).clrA s).f s _ t).length ≤ _
  by_cases e : t = s
  · rw [e, upd_same]
    have h1 : ((P.clrF s).clrA s).f s = [] := upd_same _ _ _
    rw [h1, List.nil_append]
    have := numb_len' ((P.clrF s).clrA s) s hw
    omega
  · rw [upd_ne _ _ e]; exact h0.2.1
theorem Px.Sz.carries (h : P.Sz T) (s k : Nat) : (P.carries s k).Sz T := fun t ht => by
  obtain ⟨h1, h2, h3, _⟩ := carries_same P s k
  rw [h1, h2, h3]
  exact h t ht
theorem half_same (P : Px) (s : Nat) : (P.half s).win = P.win ∧ (P.half s).space = P.space ∧ (P.half s).p = P.p ∧ (P.half s).a = upd P.a s [] := by
  obtain ⟨h1, h2, h3, h4, h5⟩ := carries_same (P.fresh s) s ((P.fresh s).f s).length
  exact ⟨h4, h5, h2, h3⟩
theorem Px.Sz.half (h : P.Sz T) (hT : 1 ≤ T) (hw : P.win ≤ 5) (s : Nat) : (P.half s).Sz T := (h.fresh hT hw s).carries s _
end
end Go.Proofs.Ytghihdenbdnnjaa.Ln
