import Derived.Test.YtbdefhagpgpoiaaCd
namespace Go.Proofs.Ytbdefhagpgpoiaa.Mb
open Go.RowKit
set_option linter.unusedVariables false
set_option linter.unusedSimpArgs false
section
variable {A A' : Ag} {w w' W : World} {B : Nat} {T : Int}
theorem b_true {b : Bool} (h : ¬ b = false) : b = true := by cases b <;> simp_all
def Ag.un (A : Ag) : Ag := { A with b := 0, msv := .slice none 0 0 }
theorem un_rev (A : Ag) (p : Pp) : (A.revA p).un = A.un.revA p := by
  unfold Ag.revA
  by_cases h1 : (A.wv p).fl = A.own.fl
  · rw [if_pos h1, if_pos (show (A.un.wv p).fl = A.un.own.fl from h1)]
  · rw [if_neg h1, if_neg (show ¬ (A.un.wv p).fl = A.un.own.fl from h1)]
    by_cases h2 : p.rev = 4611686018427387904
    · rw [if_pos h2, if_pos h2]
    · rw [if_neg h2, if_neg h2]; rfl
theorem un_beg (A : Ag) (s : List Int) : (A.begA s).un = A.un.begA s := by
  unfold Ag.begA
  by_cases h1 : A.own.cid = 4611686018427387904 ∨ A.id.getD 0 0 = 4611686018427387904
  · rw [if_pos h1, if_pos (show A.un.own.cid = 4611686018427387904 ∨ A.un.id.getD 0 0 = 4611686018427387904 from h1)]
  · rw [if_neg h1, if_neg (show ¬ (A.un.own.cid = 4611686018427387904 ∨ A.un.id.getD 0 0 = 4611686018427387904) from h1)]
    by_cases h2 : A.revE (A.begP s) = 0
    · rw [if_pos h2, if_pos (show A.un.revE (A.un.begP s) = 0 from h2)]
      have := un_rev A (A.begP s)
      show ({ A.revA (A.begP s) with chg := true } : Ag).un = { A.un.revA (A.begP s) with chg := true }
      rw [← this]
      rfl
    · rw [if_neg h2, if_neg (show ¬ A.un.revE (A.un.begP s) = 0 from h2)]
theorem un_est (A : Ag) (xs : List Int) : (A.estA xs).un = A.un.estA xs := by
  unfold Ag.estA
  by_cases h1 : okL xs A.n = false ∨ (pad xs).getD A.self 0 ≠ A.own.set.getD A.self 0
  · rw [if_pos h1, if_pos (show okL xs A.un.n = false ∨ (pad xs).getD A.un.self 0 ≠ A.un.own.set.getD A.un.self 0 from h1)]
  · rw [if_neg h1, if_neg (show ¬ (okL xs A.un.n = false ∨ (pad xs).getD A.un.self 0 ≠ A.un.own.set.getD A.un.self 0) from h1)]
    by_cases h2 : pad xs = A.own.set
    · rw [if_pos h2, if_pos (show pad xs = A.un.own.set from h2)]
    · rw [if_neg h2, if_neg (show ¬ pad xs = A.un.own.set from h2)]
      exact un_beg A _
theorem un_fol (A : Ag) (q : Nat) : (A.folA q).un = A.un.folA q := by
  unfold Ag.folA
  by_cases h1 : A.chg = true
  · rw [if_pos h1, if_pos (show A.un.chg = true from h1)]
    exact un_rev A _
  · rw [if_neg h1, if_neg (show ¬ A.un.chg = true from h1)]
    by_cases h2 : A.leaves q = true
    · rw [if_pos h2, if_pos (show A.un.leaves q = true from h2)]
      exact un_beg A _
    · rw [if_neg h2, if_neg (show ¬ A.un.leaves q = true from h2)]
theorem un_tk1 (A : Ag) (q : Nat) (p : Pp) : (A.tk1 q p).un = A.un.tk1 q p := by
  unfold Ag.tk1
  by_cases h1 : (A.set1 q p).folE q = 0
  · rw [if_pos h1, if_pos (show (A.un.set1 q p).folE q = 0 from h1)]
    exact un_fol (A.set1 q p) q
  · rw [if_neg h1, if_neg (show ¬ (A.un.set1 q p).folE q = 0 from h1)]
theorem un_tak (A : Ag) (q i : Int) (p : Pq) : (A.takA q i p).un = A.un.takA q i p := by
  unfold Ag.takA
  by_cases h1 : A.tkOk q i = false
  · rw [if_pos h1, if_pos (show A.un.tkOk q i = false from h1)]
  rw [if_neg h1, if_neg (show ¬ A.un.tkOk q i = false from h1)]
  by_cases h2 : p.valid q.toNat i A.n = false
  · rw [if_pos h2, if_pos (show p.valid q.toNat i A.un.n = false from h2)]
  rw [if_neg h2, if_neg (show ¬ p.valid q.toNat i A.un.n = false from h2)]
  by_cases h3 : i < (A.lat q.toNat).set.getD q.toNat 0
  · rw [if_pos h3, if_pos (show i < (A.un.lat q.toNat).set.getD q.toNat 0 from h3)]
  rw [if_neg h3, if_neg (show ¬ i < (A.un.lat q.toNat).set.getD q.toNat 0 from h3)]
  by_cases h4 : A.fresh q.toNat i p = false
  · rw [if_pos h4, if_pos (show A.un.fresh q.toNat i p = false from h4)]
  rw [if_neg h4, if_neg (show ¬ A.un.fresh q.toNat i p = false from h4)]
  exact un_tk1 A _ _
def Ag.opE (A : Ag) (o : Opx) : Int := if o.kind = 1 then A.estE o.ss else if o.kind = 2 then A.takE o.q o.inc o.p else if o.kind = 5 then (if A.agr = true then 0 else 61) else 0
def Ag.opA (A : Ag) (o : Opx) : Ag := if o.kind = 1 then A.estA o.ss else if o.kind = 2 then A.takA o.q o.inc o.p else if o.kind = 5 then (if A.agr = true then (A.inst 0 0).un else A) else A
theorem stp_un {o : Opx} {E : Int} (s : Stp A o E A') : E = A.un.opE o ∧ A'.un = A.un.opA o := by
  unfold Ag.opE Ag.opA
  cases s with
  | est h => rw [if_pos h, if_pos h]; exact ⟨rfl, un_est A _⟩
  | tak h =>
    have h1 : ¬ o.kind = 1 := by omega
    rw [if_neg h1, if_neg h1, if_pos h, if_pos h]
    exact ⟨rfl, un_tak A _ _ _⟩
  | ins g c h hg =>
    have h1 : ¬ o.kind = 1 := by omega
    have h2 : ¬ o.kind = 2 := by omega
    rw [if_neg h1, if_neg h1, if_neg h2, if_neg h2, if_pos h, if_pos h, if_pos (show A.un.agr = true from hg), if_pos (show A.un.agr = true from hg)]
    exact ⟨rfl, rfl⟩
  | apart h hg =>
    have h1 : ¬ o.kind = 1 := by omega
    have h2 : ¬ o.kind = 2 := by omega
    have h3 : ¬ A.un.agr = true := by show ¬ A.agr = true; rw [hg]; simp
    rw [if_neg h1, if_neg h1, if_neg h2, if_neg h2, if_pos h, if_pos h, if_neg h3, if_neg h3]
    exact ⟨rfl, rfl⟩
  | none h1 h2 h3 =>
    rw [if_neg h1, if_neg h1, if_neg h2, if_neg h2, if_neg h3, if_neg h3]
    exact ⟨rfl, rfl⟩
def Ag.Iz (A : Ag) : Prop := A.chg = true → A.vecOf A.own = A.own.vec
theorem rev_iz (A : Ag) (p : Pp) (hp : p.L) (ho : A.own.L) (h : A.revE p = 0) : (A.revA p).vecOf (A.revA p).own = (A.revA p).own.vec := by
  unfold Ag.revE at h
  unfold Ag.revA
  by_cases h1 : (A.wv p).fl = A.own.fl
  · rw [if_pos h1]
    have e := Pp.inj (wv_L A hp) ho h1
    rw [← e]
    rfl
  · rw [if_neg h1] at h ⊢
    by_cases h2 : p.rev = 4611686018427387904
    · rw [if_pos h2] at h; cases h
    · rw [if_neg h2]
      rfl
theorem Ag.Iz.beg (h : A.Iz) (s : List Int) (ho : A.own.L) (hi : A.id.length = 4) (hs : s.length = 16) : (A.begA s).Iz := by
  unfold Ag.begA
  split
  · exact h
  · split
    · rename_i h1 h2
      exact fun _ => rev_iz A (A.begP s) (begP_L A s ho hi hs) ho h2
    · exact h
theorem Ag.Iz.est (h : A.Iz) (xs : List Int) (ho : A.own.L) (hi : A.id.length = 4) : (A.estA xs).Iz := by
  unfold Ag.estA
  split
  · exact h
  · split
    · exact h
    · exact h.beg (pad xs) ho hi (pad_len xs)
theorem Ag.Iz.tk1 (h : A.Iz) (q : Nat) (p : Pp) (ho : A.own.L) (hi : A.id.length = 4) : (A.tk1 q p).Iz := by
  unfold Ag.tk1
  split
  · rename_i hE
    unfold Ag.folE at hE
    unfold Ag.folA
    by_cases hc : (A.set1 q p).chg = true
    · rw [if_pos hc] at hE ⊢
      exact fun _ => rev_iz (A.set1 q p) A.own ho ho hE
    · rw [if_neg hc]
      split
      · exact Ag.Iz.beg (A := A.set1 q p) (fun hh => absurd hh hc) A.own.set ho hi ho.ls
      · exact fun hh => absurd hh hc
  · exact h
theorem Ag.Iz.tk (h : A.Iz) (q i : Int) (p : Pq) (ho : A.own.L) (hi : A.id.length = 4) : (A.takA q i p).Iz := by
  unfold Ag.takA
  split
  · exact h
  · split
    · exact h
    · split
      · exact h
      · split
        · exact h
        · exact h.tk1 _ _ ho hi
theorem Ag.Iz.stp (h : A.Iz) (ho : A.own.L) (hi : A.id.length = 4) {o : Opx} {E : Int} (s : Stp A o E A') : A'.Iz := by
  cases s with
  | est _ => exact h.est o.ss ho hi
  | tak _ => exact h.tk o.q o.inc o.p ho hi
  | ins g c _ _ => exact fun hh => by cases hh
  | apart _ _ => exact h
  | none _ _ _ => exact h
theorem A1_iz (b n s : Nat) (inc fl : Int) : (A1 b n s inc fl).Iz := fun _ => rfl
def ent (A : Ag) (i : Nat) (x : Pp) : Int := if i = A.self then A.own.cid else if i < A.n ∧ x.set = A.own.set then x.cid else 0
def VV (A : Ag) (l : Nat → Pp) : List Int := ({ A with lat := l } : Ag).vecOf A.own
theorem VV_at (A : Ag) (l : Nat → Pp) (i : Nat) (hi : i < 16) (hs : A.self < 16) : (VV A l)[i]? = some (ent A i (l i)) := by
  unfold VV Ag.vecOf ent
  show ((Ag.vecK { A with lat := l } A.own A.n).set A.self A.own.cid)[i]? = _
  rw [List.getElem?_set, vecK_len]
  by_cases h : A.self = i
  · rw [if_pos h, if_pos hs, if_pos h.symm]
  · rw [if_neg h, if_neg (fun e => h e.symm)]
    unfold Ag.vecK
    simp [hi]
theorem VV_len (A : Ag) (l : Nat → Pp) : (VV A l).length = 16 := vecOf_len _ _
theorem VV_upd (A : Ag) (l : Nat → Pp) (r : Nat) (s : Pp) (hr : r < 16) (hs : A.self < 16) : VV A (upd l r s) = VV A l ↔ ent A r s = ent A r (l r) := by
  constructor
  · intro h
    have e1 := VV_at A (upd l r s) r hr hs
    have e2 := VV_at A l r hr hs
    rw [h, e2, upd_same] at e1
    exact (Option.some.inj e1).symm
  · intro h
    apply List.ext_getElem?
    intro i
    by_cases hi : i < 16
    · rw [VV_at A _ i hi hs, VV_at A _ i hi hs]
      by_cases e : i = r
      · subst e; rw [upd_same, h]
      · rw [upd_ne _ _ e]
    · rw [List.getElem?_eq_none (by rw [VV_len]; omega), List.getElem?_eq_none (by rw [VV_len]; omega)]
def Ag.put (A : Ag) (q : Nat) (p : Pp) : Ag := { A with lat := upd A.lat q p, own := { A.own with vec := VV A (upd A.lat q p), rev := A.own.rev + if VV A (upd A.lat q p) = A.own.vec then 0 else 1 } }
def Ag.acc (A : Ag) (q i : Int) (p : Pq) : Bool := A.tkOk q i && p.valid q.toNat i A.n && !(decide (i < (A.lat q.toNat).set.getD q.toNat 0)) && A.fresh q.toNat i p
theorem put_tk1 (A : Ag) (q : Nat) (p : Pp) (hc : A.chg = true) (hr : A.own.rev < 4611686018427387904) (ho : A.own.L) : A.tk1 q p = A.put q p := by
  have hw : (A.set1 q p).wv A.own = { A.own with vec := VV A (upd A.lat q p) } := rfl
  have hE : (A.set1 q p).folE q = 0 := by
    unfold Ag.folE
    rw [if_pos (show (A.set1 q p).chg = true from hc)]
    unfold Ag.revE
    split
    · rfl
    · rw [if_neg (show ¬ (A.set1 q p).own.rev = 4611686018427387904 by show ¬ A.own.rev = _; omega)]
  unfold Ag.tk1
  rw [if_pos hE]
  unfold Ag.folA
  rw [if_pos (show (A.set1 q p).chg = true from hc)]
  unfold Ag.revA Ag.put
  by_cases h1 : ((A.set1 q p).wv (A.set1 q p).own).fl = (A.set1 q p).own.fl
  · rw [if_pos h1]
    have e : (A.set1 q p).wv A.own = A.own := Pp.inj (wv_L (A.set1 q p) ho) ho h1
    have ev : VV A (upd A.lat q p) = A.own.vec := by rw [hw] at e; exact congrArg Pp.vec e
    rw [if_pos ev, ev, Int.add_zero]
    rfl
  · rw [if_neg h1, if_neg (show ¬ (A.set1 q p).own.rev = 4611686018427387904 by show ¬ A.own.rev = _; omega)]
    have ev : ¬ VV A (upd A.lat q p) = A.own.vec := fun ev => h1 (by
      show ((A.set1 q p).wv A.own).fl = A.own.fl
      rw [hw, ev])
    rw [if_neg ev]
    rfl
theorem tak_put (A : Ag) (q i : Int) (p : Pq) (hc : A.chg = true) (hr : A.own.rev < 4611686018427387904) (ho : A.own.L) : A.takA q i p = if A.acc q i p = true then A.put q.toNat p.pp else A := by
  unfold Ag.takA Ag.acc
  by_cases h1 : A.tkOk q i = false
  · rw [if_pos h1, if_neg (by rw [h1]; simp)]
  by_cases h2 : p.valid q.toNat i A.n = false
  · rw [if_neg h1, if_pos h2, if_neg (by rw [h2]; simp)]
  by_cases h3 : i < (A.lat q.toNat).set.getD q.toNat 0
  · rw [if_neg h1, if_neg h2, if_pos h3, if_neg (by rw [decide_eq_true h3]; simp)]
  by_cases h4 : A.fresh q.toNat i p = false
  · rw [if_neg h1, if_neg h2, if_neg h3, if_pos h4, if_neg (by rw [h4]; simp)]
  rw [if_neg h1, if_neg h2, if_neg h3, if_neg h4, if_pos (by
    rw [b_true h1, b_true h2, b_true h4, decide_eq_false h3]
    rfl)]
  exact put_tk1 A _ _ hc hr ho
structure Rdy (A : Ag) (m : Nat) : Prop where
  chg : A.chg = true
  iz : A.own.vec = VV A A.lat
  ol : A.own.L
  sf : A.self < 16
  rev : A.own.rev + (m : Int) ≤ 4611686018427387904
theorem VV_put (A : Ag) (q : Nat) (p : Pp) (l : Nat → Pp) : VV (A.put q p) l = VV A l := rfl
theorem Rdy.put {m : Nat} (h : Rdy A (m + 1)) (q : Nat) (p : Pp) : Rdy (A.put q p) m := by
  refine ⟨h.chg, rfl, ⟨h.ol.ls, h.ol.lp, VV_len _ _⟩, h.sf, ?_⟩
  have := h.rev
  show A.own.rev + (if VV A (upd A.lat q p) = A.own.vec then 0 else 1) + (m : Int) ≤ _
  split <;> omega
theorem Rdy.tak {m : Nat} (h : Rdy A (m + 1)) (q i : Int) (p : Pq) : Rdy (A.takA q i p) m := by
  rw [tak_put A q i p h.chg (by have := h.rev; omega) h.ol]
  split
  · exact h.put _ _
  · exact ⟨h.chg, h.iz, h.ol, h.sf, by have := h.rev; omega⟩
theorem put_comm {m : Nat} (h : Rdy A m) (q r : Nat) (p s : Pp) (hq : q < 16) (hr : r < 16) (hne : q ≠ r) : (A.put q p).put r s = (A.put r s).put q p := by
  have hl : upd (upd A.lat q p) r s = upd (upd A.lat r s) q p := by
    funext a
    unfold upd
    by_cases h1 : a = r
    · by_cases h2 : a = q
      · exact absurd (h2.symm.trans h1) hne
      · rw [if_pos h1, if_neg h2, if_pos h1]
    · by_cases h2 : a = q
      · rw [if_neg h1, if_pos h2, if_pos h2]
      · rw [if_neg h1, if_neg h2, if_neg h2, if_neg h1]
  have a1 : (VV A (upd A.lat q p) = A.own.vec) ↔ ent A q p = ent A q (A.lat q) := by rw [h.iz]; exact VV_upd A _ q p hq h.sf
  have a2 : (VV A (upd A.lat r s) = A.own.vec) ↔ ent A r s = ent A r (A.lat r) := by rw [h.iz]; exact VV_upd A _ r s hr h.sf
  have b1 : (VV A (upd (upd A.lat q p) r s) = VV A (upd A.lat q p)) ↔ ent A r s = ent A r (A.lat r) := by
    rw [VV_upd A _ r s hr h.sf, upd_ne _ _ (fun e => hne e.symm)]
  have b2 : (VV A (upd (upd A.lat r s) q p) = VV A (upd A.lat r s)) ↔ ent A q p = ent A q (A.lat q) := by
    rw [VV_upd A _ q p hq h.sf, upd_ne _ _ hne]
  show ({ A with lat := upd (upd A.lat q p) r s, own := { A.own with vec := VV A (upd (upd A.lat q p) r s), rev := A.own.rev + (if VV A (upd A.lat q p) = A.own.vec then 0 else 1) + (if VV A (upd (upd A.lat q p) r s) = VV A (upd A.lat q p) then 0 else 1) } } : Ag) = { A with lat := upd (upd A.lat r s) q p, own := { A.own with vec := VV A (upd (upd A.lat r s) q p), rev := A.own.rev + (if VV A (upd A.lat r s) = A.own.vec then 0 else 1) + (if VV A (upd (upd A.lat r s) q p) = VV A (upd A.lat r s) then 0 else 1) } }
  have hrev : A.own.rev + (if VV A (upd A.lat q p) = A.own.vec then 0 else 1) + (if VV A (upd (upd A.lat q p) r s) = VV A (upd A.lat q p) then 0 else 1) = A.own.rev + (if VV A (upd A.lat r s) = A.own.vec then 0 else 1) + (if VV A (upd (upd A.lat r s) q p) = VV A (upd A.lat r s) then 0 else 1) := by
    by_cases c1 : ent A q p = ent A q (A.lat q)
    · by_cases c2 : ent A r s = ent A r (A.lat r)
      · rw [if_pos (a1.2 c1), if_pos (b1.2 c2), if_pos (a2.2 c2), if_pos (b2.2 c1)]
      · rw [if_pos (a1.2 c1), if_neg (fun e => c2 (b1.1 e)), if_neg (fun e => c2 (a2.1 e)), if_pos (b2.2 c1)]
        omega
    · by_cases c2 : ent A r s = ent A r (A.lat r)
      · rw [if_neg (fun e => c1 (a1.1 e)), if_pos (b1.2 c2), if_pos (a2.2 c2), if_neg (fun e => c1 (b2.1 e))]
        omega
      · rw [if_neg (fun e => c1 (a1.1 e)), if_neg (fun e => c2 (b1.1 e)), if_neg (fun e => c2 (a2.1 e)), if_neg (fun e => c1 (b2.1 e))]
  rw [hrev, hl]
theorem acc_put (A : Ag) (q i : Int) (p : Pq) (r : Nat) (s : Pp) (hne : q.toNat ≠ r) : (A.put r s).acc q i p = A.acc q i p := by
  have e : (A.put r s).lat q.toNat = A.lat q.toNat := upd_ne _ _ hne
  unfold Ag.acc Ag.fresh
  rw [e]
  rfl
theorem tak_comm (h : Rdy A 2) (q i r j : Int) (p s : Pq) (hq : 0 ≤ q ∧ q < 16) (hr : 0 ≤ r ∧ r < 16) (hne : q ≠ r) : (A.takA q i p).takA r j s = (A.takA r j s).takA q i p := by
  have h1 := h.tak (m := 1) q i p
  have h2 := h.tak (m := 1) r j s
  have hr0 := h.rev
  have n1 : q.toNat ≠ r.toNat := by omega
  rw [tak_put (A.takA q i p) r j s h1.chg (by have := h1.rev; omega) h1.ol, tak_put (A.takA r j s) q i p h2.chg (by have := h2.rev; omega) h2.ol]
  rw [tak_put A q i p h.chg (by omega) h.ol, tak_put A r j s h.chg (by omega) h.ol]
  by_cases a : A.acc q i p = true
  · by_cases c : A.acc r j s = true
    · rw [if_pos a, if_pos c, if_pos (by rw [acc_put _ _ _ _ _ _ (fun e => n1 e.symm)]; exact c), if_pos (by rw [acc_put _ _ _ _ _ _ n1]; exact a)]
      exact put_comm h _ _ _ _ (by omega) (by omega) n1
    · rw [if_pos a, if_neg c, if_neg (by rw [acc_put _ _ _ _ _ _ (fun e => n1 e.symm)]; exact c), if_pos a]
  · by_cases c : A.acc r j s = true
    · rw [if_neg a, if_pos c, if_neg (by rw [acc_put _ _ _ _ _ _ n1]; exact a)]
    · rw [if_neg a, if_neg c, if_neg a]
structure Tx where
  q : Int
  inc : Int
  p : Pq
def Ag.tx (A : Ag) (t : Tx) : Ag := A.takA t.q t.inc t.p
def Ag.fd (A : Ag) (l : List Tx) : Ag := l.foldl Ag.tx A
theorem fd_push {m : Nat} : ∀ (l : List Tx) (A : Ag) (x : Tx), Rdy A (l.length + 1) → (0 ≤ x.q ∧ x.q < 16) → (∀ t ∈ l, (0 ≤ t.q ∧ t.q < 16) ∧ t.q ≠ x.q) → (A.fd l).tx x = (A.tx x).fd l
  | [], A, x, _, _, _ => rfl
  | y :: l, A, x, h, hx, hl => by
    have hy := hl y (List.mem_cons_self ..)
    show ((A.tx y).fd l).tx x = ((A.tx x).tx y).fd l
    rw [fd_push (m := m) l (A.tx y) x (h.tak (m := l.length + 1) y.q y.inc y.p) hx (fun t ht => hl t (List.mem_cons_of_mem _ ht))]
    have h2 : Rdy A 2 := ⟨h.chg, h.iz, h.ol, h.sf, by have := h.rev; simp only [List.length_cons] at this; omega⟩
    have e : (A.tx y).tx x = (A.tx x).tx y := tak_comm h2 y.q y.inc x.q x.inc y.p x.p hy.1 hx hy.2
    rw [e]
theorem fd_reverse : ∀ (l : List Tx) (A : Ag), Rdy A l.length → (∀ t ∈ l, 0 ≤ t.q ∧ t.q < 16) → l.Pairwise (fun a b => a.q ≠ b.q) → A.fd l.reverse = A.fd l
  | [], A, _, _, _ => rfl
  | x :: l, A, h, hl, hp => by
    rw [List.reverse_cons]
    unfold Ag.fd
    rw [List.foldl_append]
    show (A.fd l.reverse).tx x = (A.tx x).fd l
    rw [List.pairwise_cons] at hp
    have h' : Rdy A l.length := ⟨h.chg, h.iz, h.ol, h.sf, by have := h.rev; simp only [List.length_cons] at this; omega⟩
    rw [fd_reverse l A h' (fun t ht => hl t (List.mem_cons_of_mem _ ht)) hp.2]
    exact fd_push (m := 0) l A x h (hl x (List.mem_cons_self ..)) (fun t ht => ⟨hl t (List.mem_cons_of_mem _ ht), fun e => hp.1 t ht e.symm⟩)
theorem un_sg (A : Ag) : A.un.sg = A.sg := rfl
theorem un_tx (A : Ag) (t : Tx) : (A.tx t).un = A.un.tx t := un_tak A _ _ _
end
end Go.Proofs.Ytbdefhagpgpoiaa.Mb
namespace Go.Proofs.Ytbdefhagpgpoiaa.Mb
open Go.RowKit Oe
set_option linter.unusedVariables false
set_option maxRecDepth 100000
set_option linter.unusedSimpArgs false
section
variable {A A' : Ag} {w w' W : World} {B : Nat} {T : Int}
def Tx.cs (t : Tx) : List Value := [.int .i64 t.q, .int .i64 t.inc, .slice t.p.sa t.p.sn t.p.sc, .int .i64 t.p.cid, .int .i64 t.p.rev, .int .i64 t.p.top, .int .i64 (t.p.prev[0]?.getD 0), .int .i64 (t.p.prev[1]?.getD 0), .int .i64 (t.p.prev[2]?.getD 0), .int .i64 (t.p.prev[3]?.getD 0), .slice t.p.va t.p.vn t.p.vc]
def t0 : Tx := ⟨0, 0, Oe.p0⟩
def tCells (xs : List Tx) : List Value := xs.flatMap Tx.cs
theorem tCells_app (a b : List Tx) : tCells (a ++ b) = tCells a ++ tCells b := by simp [tCells]
theorem tCells_len (xs : List Tx) : (tCells xs).length = xs.length * 11 := by
  induction xs with
  | nil => rfl
  | cons x xs ih => simp only [tCells, List.flatMap_cons, List.length_append] at ih ⊢; rw [ih]; simp [Tx.cs]; omega
theorem Tx.one (t : Tx) : ∀ u ∈ t.cs, u.oneCell' = true := by
  unfold Tx.cs
  simp [Value.oneCell']
theorem tCells_get (xs : List Tx) (i : Nat) (hi : i < xs.length) (j : Nat) (hj : j < 11) : (tCells xs)[i * 11 + j]? = (xs.getD i t0).cs[j]? := by
  induction xs generalizing i with
  | nil => simp at hi
  | cons x xs ih =>
    have hl : x.cs.length = 11 := rfl
    cases i with
    | zero =>
      simp only [tCells, List.flatMap_cons, Nat.zero_mul, Nat.zero_add]
      rw [List.getElem?_append_left (by rw [hl]; exact hj)]
      simp
    | succ i =>
      have := ih i (by simpa using hi)
      simp only [tCells, List.flatMap_cons] at this ⊢
      rw [List.getElem?_append_right (by rw [hl]; omega), hl, show (i + 1) * 11 + j - 11 = i * 11 + j by omega, this]
      simp
def RowT (w : World) (B : Nat) (v : Value) (xs : List Tx) : Prop := w.ownsRow B 61 11 v xs.length (tCells xs)
theorem RowT.still {v : Value} {xs : List Tx} (h : RowT w B v xs) (hb : Below w.heap.size w w') : RowT w' B v xs := own_still h hb
theorem RowT.at {v : Value} {xs : List Tx} (h : RowT w B v xs) {k : Nat} (hk : k < xs.length) : ∃ g c, v = .slice (some ⟨g, 0, none⟩) xs.length c ∧ w.rangeAt g (k * 11) (xs.getD k t0).cs := by
  rcases h.2 with ⟨h1, h2⟩ | ⟨g, cap, cur, hv, hB, hg, hnc, hcm, hcs, htk⟩
  · omega
  · refine ⟨g, cap, hv, fun j u hu => ?_⟩
    have hj : j < 11 := (List.getElem?_eq_some_iff.1 hu).1
    rw [blk_cell hg, ← hu, ← tCells_get xs k hk j hj, ← htk, List.getElem?_take_of_lt (by omega), ← Array.getElem?_toList]
def RdTs (W : World) (a : Option Addr) (n : Nat) (ts : Nat → Tx) : Prop := (n = 0 ∨ ∃ b off, a = some (⟨b, off, none⟩ : Addr) ∧ ∀ i, i < n → W.rangeAt b (off + i * 11) (ts i).cs) ∧ ∀ i, i < n → (ts i).p.Rd W
theorem info_told : (Try.prog.info? 61).map (fun i => (i.zero, i.size, i.bytes)) = some (some (.agg #[.int .i64 0, .int .i64 0, .slice none 0 0, .int .i64 0, .int .i64 0, .int .i64 0, .int .i64 0, .int .i64 0, .int .i64 0, .int .i64 0, .slice none 0 0]), 11, 120) := by kernel_rfl
theorem size_told : (Try.prog.info? 61).map (·.size) = some 11 := by kernel_rfl
end
end Go.Proofs.Ytbdefhagpgpoiaa.Mb
namespace Go.Proofs.Ytbdefhagpgpoiaa.Oe
open Go.ChangeShapes Go.WideShapes Go.ChangeAt Go.RowKit Mb
set_option linter.unusedVariables false
set_option linter.unusedSimpArgs false
set_option maxRecDepth 100000
section
variable {H : Type} {enc : TypeId × Value → H} {W : World}
theorem cT : Try.prog.cellsOf 61 = 11 := by kernel_rfl
theorem bT : Try.prog.bytesOf 61 = 120 := by kernel_rfl
theorem cTs : Try.prog.cellsOf 58 = 1 := by kernel_rfl
theorem list11 {α : Type} {l : List α} (h : l.length = 11) : ∃ c0 c1 c2 c3 c4 c5 c6 c7 c8 c9 c10, l = [c0, c1, c2, c3, c4, c5, c6, c7, c8, c9, c10] := by
  match l, h with
  | [c0, c1, c2, c3, c4, c5, c6, c7, c8, c9, c10], _ => exact ⟨c0, c1, c2, c3, c4, c5, c6, c7, c8, c9, c10, rfl⟩
theorem open_tolds {fuel : Nat} {v : Value} {x : DataW H × List MemPlace} (h : DataW.trod enc Try.prog W 0 (fun _ => true) true fuel 58 [v] = some x) (hw : Wt x.1 58) : ∃ a n c ts, v = .slice a n c ∧ RdTs W a n ts ∧ n ≤ 1172812402927 := by
  rcases slice_parts Try.underlying58 cT (by decide) h hw with rfl | ⟨ad, len, cap, n, D, Pl, rfl, hb, hel⟩
  · exact ⟨none, 0, 0, (fun _ => Mb.t0), rfl, ⟨.inl rfl, fun i hi => by omega⟩, by omega⟩
  · rw [bT] at hb
    have each : ∀ i, ∃ t : Tx, i < len → (∀ j, j < 11 → W.cell? (ad.add (i * 11 + j)) = t.cs[j]?) ∧ t.p.Rd W := by
      intro i
      by_cases hi : i < len
      · obtain ⟨hwD, cs', hl, hcell, htr⟩ := hel i hi
        obtain ⟨c0, c1, c2, c3, c4, c5, c6, c7, c8, c9, c10, rfl⟩ := list11 hl
        obtain ⟨xs, n', hxl, hF, hWf⟩ := struct_parts Try.underlying61 htr hwD
        obtain ⟨y0, y1, y2, rfl⟩ := list3 hxl
        have h0 : DataW.trod enc Try.prog W 0 (fun _ => true) true n' 3 [c0] = some y0 := by simpa [cI, cIs, cP] using hF 0 _ rfl
        have h1 : DataW.trod enc Try.prog W 0 (fun _ => true) true n' 3 [c1] = some y1 := by simpa [cI, cIs, cP] using hF 1 _ rfl
        have h2 : DataW.trod enc Try.prog W 0 (fun _ => true) true n' 41 [c2, c3, c4, c5, c6, c7, c8, c9, c10] = some y2 := by simpa [cI, cIs, cP] using hF 2 _ rfl
        obtain ⟨v0, rfl, _⟩ := open_i h0
        obtain ⟨v1, rfl, _⟩ := open_i h1
        obtain ⟨p, hpc, hpr⟩ := open_prop h2 (hWf 2 _ y2 rfl rfl)
        refine ⟨⟨v0, v1, p⟩, fun _ => ⟨fun j hj => ?_, hpr⟩⟩
        rw [hcell j hj]
        have e : (⟨v0, v1, p⟩ : Tx).cs = [.int .i64 v0, .int .i64 v1] ++ p.cs.toList := rfl
        rw [e, hpc]
        simp
      · exact ⟨Mb.t0, fun h => absurd h hi⟩
    obtain ⟨f, hf⟩ := Classical.axiomOfChoice each
    refine ⟨some ad, len, cap, f, rfl, ⟨?_, fun i hi => (hf i hi).2⟩, by unfold reachBytes at hb; omega⟩
    by_cases h0 : len = 0
    · exact .inl h0
    · obtain ⟨b, off, rfl⟩ := ad_plain (v := .int .i64 (f 0).q) (by have h9 := (hf 0 (by omega)).1 0 (by decide); simp only [Nat.zero_mul, Nat.zero_add] at h9; exact h9)
      refine .inr ⟨b, off, rfl, fun i hi j u hu => ?_⟩
      have hj : j < 11 := (List.getElem?_eq_some_iff.1 hu).1
      have := (hf i hi).1 j hj
      rw [Addr.add_lit] at this
      rw [Nat.add_assoc, this, hu]
theorem open_told {base : Nat} {v : Value} {d : DataW H} {p : List MemPlace} (hok : Value.okWide Try.prog W .any base 58 v) (h : DataW.Trod enc Try.prog W 0 (fun _ => true) true 58 v d p) (hw : Wt d 58) : ∃ a n c ts, v = .slice a n c ∧ RdTs W a n ts ∧ n ≤ 1172812402927 := by
  obtain ⟨fuel, hf⟩ := h
  obtain ⟨a0, len, cap, rfl⟩ := okWide_slice Try.underlying58 hok
  exact open_tolds (v := .slice a0 len cap) (x := (d, p)) (by simpa [Value.cells] using hf) hw
end
end Go.Proofs.Ytbdefhagpgpoiaa.Oe
namespace Go.Proofs.Ytbdefhagpgpoiaa.Mb
open Go.RowKit Oe
set_option linter.unusedVariables false
set_option maxRecDepth 100000
set_option linter.unusedSimpArgs false
section
variable {A A' D D' : Ag} {w w' W : World} {B : Nat} {T : Int}
section
variable {a b n s kc : Nat} {inc : Int} {cc : Array Value}
theorem Fs.other (h : Fs w b n s inc kc cc D) (g : Fs w a n s inc kc cc A) (hne : a ≠ b) (hK : Kept w w' (fun j => j = a)) : Fs w' b n s inc kc cc D := by
  obtain ⟨C, hC⟩ := g.blk
  refine { h with ok := h.ok.keep hK (fun e => hne (by rw [← e]; exact h.b)) (own_ne h.ok.mem hC (by decide)), m1 := hK.obj h.m1 (fun e => blk_ne h.m1 hC (by decide) e) }
theorem Fs.take (h : Fs w b n s inc kc cc A) (t : Tx) (hr : t.p.Rd w) : Calls Try.prog 22 #[.pointer (some ⟨b, 0, none⟩), .int .i64 t.q, .int .i64 t.inc, .agg [.slice t.p.sa t.p.sn t.p.sc, .int .i64 t.p.cid, .int .i64 t.p.rev, .int .i64 t.p.top, .int .i64 (t.p.prev[0]?.getD 0), .int .i64 (t.p.prev[1]?.getD 0), .int .i64 (t.p.prev[2]?.getD 0), .int .i64 (t.p.prev[3]?.getD 0), .slice t.p.va t.p.vn t.p.vc].toArray] w fun e w' => ∃ (x : Bool) (E : Int), e = .returned (.tuple #[.bool x, .int .i64 E]) ∧ Fs w' b n s inc kc cc (A.tx t) ∧ Kept w w' (fun j => j = b) := by
  have hh := take_any h.ok (by omega) t.q t.inc t.p hr
  rw [h.b] at hh
  refine hh.mono ?_
  rintro e w2 ⟨rfl, hO, hK⟩
  exact ⟨_, _, rfl, h.step (o := ⟨2, t.q, t.inc, none, 0, 0, [], t.p⟩) hO hK (.tak rfl), hK⟩
structure Pr (w : World) (a b n s : Nat) (inc : Int) (kc : Nat) (cc : Array Value) (A D : Ag) : Prop where
  fa : Fs w a n s inc kc cc A
  fb : Fs w b n s inc kc cc D
  ne : a ≠ b
theorem Pr.still (h : Pr w a b n s inc kc cc A D) (hb : Below w.heap.size w w') : Pr w' a b n s inc kc cc A D := ⟨h.fa.still hb, h.fb.still hb, h.ne⟩
theorem Pr.keep (h : Pr w a b n s inc kc cc A D) {P : Nat → Prop} (hk : Kept w w' P) (h0 : NoI w P) (ha : ¬ P a) (hb : ¬ P b) (hc : ¬ P kc) : Pr w' a b n s inc kc cc A D := by
  refine ⟨{ h.fa with ok := h.fa.ok.keep hk (by rw [h.fa.b]; exact ha) (own_noI h.fa.ok.mem h0 (.inr rfl)), m1 := hk.obj h.fa.m1 hc }, { h.fb with ok := h.fb.ok.keep hk (by rw [h.fb.b]; exact hb) (own_noI h.fb.ok.mem h0 (.inr rfl)), m1 := hk.obj h.fb.m1 hc }, h.ne⟩
theorem Pr.put (h : Pr w a b n s inc kc cc A D) {k t : Nat} {C : Array Value} (hk : w.heap[k]? = some (.cells C t (0, 0))) (h1 : t ≠ 105) (h2 : t ≠ 86) (h3 : t ≠ 24) (h4 : t ≠ 3) {w2 : World} (hK : Kept w w2 (fun j => j = k)) : Pr w2 a b n s inc kc cc A D := by
  obtain ⟨Ca, hCa⟩ := h.fa.blk
  obtain ⟨Cb, hCb⟩ := h.fb.blk
  exact h.keep hK (noI_blk hk h4 h2) (fun e => blk_ne hCa hk (fun e => h1 e.symm) e) (fun e => blk_ne hCb hk (fun e => h1 e.symm) e) (fun e => blk_ne h.fa.m1 hk (fun e => h3 e.symm) e)
end
theorem run_fieldop {o : Oper} {ρ : Operand → Value} {w : World} (t : TypeId) (x : Operand) (f : Nat) {u v : Value} (hx : (Instr.field t u f).run Try.prog w = .ok v w) (ho : o.op = .field t x f) (hu : ρ x = u) : (execOp ρ o).run Try.prog w = .ok (.value v) w := by
  unfold execOp
  simp only [ho, hu, Sem.run_bind, hx, Result.andThen_ok, Sem.run_pure]
theorem fld_rev (a : Option Addr) (k c : Nat) (c1 c2 c3 c4 c5 c6 c7 : Int) (a' : Option Addr) (k' c' : Nat) : (Instr.field 41 (.agg #[.slice a k c, .int .i64 c1, .int .i64 c2, .int .i64 c3, .int .i64 c4, .int .i64 c5, .int .i64 c6, .int .i64 c7, .slice a' k' c']) 2).run Try.prog w = .ok (.int .i64 c2) w := by
  kernel_rfl
theorem rdy_un {inc : Int} {m : Nat} (h : A.Iv inc) (hz : A.Iz) (hc : A.chg = true) (hr : A.own.rev + (m : Int) ≤ 4611686018427387904) : Rdy A.un m :=
  ⟨hc, (hz hc).symm, h.ol, by have := h.n16; show A.self < 16; omega, hr⟩
structure Ls (w0 : World) (w : World) (a b n s : Nat) (inc : Int) (kc kb : Nat) (cc : Array Value) (A D : Ag) (v : Value) (ls : List Tx) (f : Nat → Bool) : Prop where
  pr : Pr w a b n s inc kc cc A D
  row : RowT w w0.heap.size v ls
  len : ls.length ≤ 16
  byb : Fb w kb 59 16 (fun i => .bool (f i))
  inr : ∀ t ∈ ls, (0 ≤ t.q ∧ t.q < 16) ∧ f t.q.toNat = true
  pw : ls.Pairwise (fun x y => x.q ≠ y.q)
  rd : ∀ t ∈ ls, ∀ W, Below w0.heap.size w0 W → t.p.Rd W
  lw : Below w0.heap.size w0 w
section
variable {w0 : World} {a b n s kc kb : Nat} {inc : Int} {cc : Array Value} {v : Value} {ls : List Tx} {f : Nat → Bool}
theorem Ls.still (h : Ls w0 w a b n s inc kc kb cc A D v ls f) (hb : Below w.heap.size w w') : Ls w0 w' a b n s inc kc kb cc A D v ls f :=
  { h with pr := h.pr.still hb, row := h.row.still hb, byb := h.byb.keep (Kept.ofBelow hb (fun _ => False)) (fun hh => hh), lw := bstep h.lw hb }
theorem Ls.push (h : Ls w0 w a b n s inc kc kb cc A D v ls f) (t : Tx) (q : Nat) (hq : t.q = (q : Int)) (hq16 : q < 16) (hf : f q = false) (hl : ls.length < 16) (hrd : ∀ W, Below w0.heap.size w0 W → t.p.Rd W) {w1 w2 w3 : World} {v3 : Value} (e1 : w.setCell ⟨kb, q, none⟩ (.bool true) = w1) (hkb : w0.heap.size ≤ kb) (hb2 : Below w1.heap.size w1 w2) (hg : w2.grownBy w3 v.ownBlock) (ho : w3.ownsRow w0.heap.size 61 11 v3 (ls.length + 1) (tCells ls ++ t.cs)) : Ls w0 w3 a b n s inc kc kb cc A D v3 (ls ++ [t]) (upd f q true) := by
  obtain ⟨Cb, hCb, _⟩ := h.byb
  have hk1 : Kept w w1 (fun j => j = kb) := by rw [← e1]; exact kset w kb q _ rfl
  have p1 := h.pr.put hCb (by decide) (by decide) (by decide) (by decide) hk1
  have p2 := p1.still hb2
  have r1 : RowT w1 w0.heap.size v ls := hk1.owns h.row (own_ne h.row hCb (by decide))
  have r2 := r1.still hb2
  have hk3 := Kept.ofGrown hg
  have n3 : NoI w2 (fun k => some k = v.ownBlock) := fun g hg' C => by
    rcases r2.2 with ⟨h1, _⟩ | ⟨g', cap, cur, h1, _, h3, _⟩
    · rw [h1] at hg'; cases hg'
    · rw [h1] at hg'
      cases hg'
      rw [h3]
      exact ⟨fun e => by simp at e, fun e => by simp at e⟩
  have hne : ∀ k t' (C : Array Value), w2.heap[k]? = some (.cells C t' (0, 0)) → t' ≠ 61 → ¬ some k = v.ownBlock := fun k t' C hk ht hh => by
    rcases r2.2 with ⟨h1, _⟩ | ⟨g', cap, cur, h1, _, h3, _⟩
    · rw [h1] at hh; cases hh
    · rw [h1] at hh
      cases hh
      exact blk_ne hk h3 ht rfl
  obtain ⟨Ca, hCa⟩ := p2.fa.blk
  obtain ⟨Cd, hCd⟩ := p2.fb.blk
  have by1 : Fb w1 kb 59 16 (fun j => if j = q then .bool true else .bool (f j)) := by rw [← e1]; exact h.byb.set q (.bool true)
  have by2 := by1.keep (Kept.ofBelow hb2 (fun _ => False)) (fun hh => hh)
  obtain ⟨Ck, hCk, _⟩ := by2
  refine ⟨p2.keep hk3 n3 (hne _ _ _ hCa (by decide)) (hne _ _ _ hCd (by decide)) (hne _ _ _ p2.fa.m1 (by decide)), ?_, by simp; omega, ?_, ?_, ?_, ?_, ?_⟩
  · unfold RowT
    rw [tCells_app, List.length_append]
    simpa [tCells] using ho
  · refine ((by1.keep (Kept.ofBelow hb2 (fun _ => False)) (fun hh => hh)).keep hk3 (hne _ _ _ hCk (by decide))).congr fun i hi => ?_
    unfold upd
    by_cases e : i = q
    · rw [if_pos e, if_pos e]
    · rw [if_neg e, if_neg e]
  · intro x hx
    rcases List.mem_append.1 hx with hx | hx
    · have := h.inr x hx
      refine ⟨this.1, ?_⟩
      unfold upd
      split
      · rfl
      · exact this.2
    · rw [List.mem_singleton] at hx
      subst hx
      refine ⟨by omega, ?_⟩
      rw [hq]
      unfold upd
      rw [if_pos (by simp)]
  · rw [List.pairwise_append]
    refine ⟨h.pw, List.pairwise_singleton _ _, fun x hx y hy e => ?_⟩
    rw [List.mem_singleton] at hy
    subst hy
    have h1 := (h.inr x hx).2
    rw [e, hq] at h1
    have h2 : f q = true := by simpa using h1
    rw [hf] at h2
    cases h2
  · intro x hx
    rcases List.mem_append.1 hx with hx | hx
    · exact h.rd x hx
    · rw [List.mem_singleton] at hx
      subst hx
      exact hrd
  · have l1 : Below w0.heap.size w0 w1 := h.lw.trans (hk1.below h.lw.size (fun k hk e => by omega))
    have l2 := bstep l1 hb2
    exact l2.trans (hk3.below l2.size (fun k hk e => by
      rcases r2.2 with ⟨h1, _⟩ | ⟨g', cap, cur, h1, hge, _⟩
      · rw [h1] at e; cases e
      · rw [h1] at e
        have e2 : k = g' := by simpa [Value.ownBlock] using e
        omega))
end
theorem RdTs.at {ta : Option Addr} {tn i : Nat} {ts : Nat → Tx} (h : RdTs w ta tn ts) (hi : i < tn) : ∃ tb toff, ta = some ⟨tb, toff, none⟩ ∧ ∀ W, Below w.heap.size w W → W.rangeAt tb (toff + i * 11) (ts i).cs := by
  rcases h.1 with h1 | ⟨tb, toff, e, hc⟩
  · omega
  · exact ⟨tb, toff, e, fun W hW => rng_below (hc i hi) hW⟩
structure Lt (w0 : World) (w : World) (a b n s : Nat) (inc : Int) (kc : Nat) (cc : Array Value) (U : Ag) (A D : Ag) (v : Value) (ls : List Tx) (j : Nat) : Prop where
  pr : Pr w a b n s inc kc cc A D
  row : RowT w w0.heap.size v ls
  ua : A.un = U.fd (ls.take j)
  ud : D.un = U.fd (ls.reverse.take j)
  lw : Below w0.heap.size w0 w
theorem rng_two {g o : Nat} {x y : Value} {L : List Value} (h : w.rangeAt g o (x :: y :: L)) : w.rangeAt g (o + 2) L := fun j v hv => by
  have := h (j + 2) v hv
  rwa [show o + (j + 2) = o + 2 + j by omega] at this
theorem fd_next (U : Ag) (l : List Tx) (j : Nat) (h : j < l.length) : U.fd (l.take (j + 1)) = (U.fd (l.take j)).tx (l.getD j t0) := by
  unfold Ag.fd
  rw [List.take_add_one, List.foldl_append]
  have e : l[j]? = some (l.getD j t0) := by simp [List.getD, h]
  rw [e]
  rfl
theorem rev_getD (l : List Tx) (j : Nat) (h : j < l.length) : l.reverse.getD j t0 = l.getD (l.length - 1 - j) t0 := by
  simp only [List.getD]
  rw [List.getElem?_reverse h]
end
end Go.Proofs.Ytbdefhagpgpoiaa.Mb
