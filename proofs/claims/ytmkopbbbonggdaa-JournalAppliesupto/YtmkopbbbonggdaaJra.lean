import Derived.Test.YtmkopbbbonggdaaUs0
import Derived.Maps.AppendAt
import Derived.Deep.DeepCutAuto
namespace Go.Proofs.Ytmkopbbbonggdaa.Jn
open Go.RowKit Mb Fg
set_option linter.unusedVariables false
set_option maxRecDepth 100000
set_option linter.unusedSimpArgs false
structure Wr where
  f : Int
  st : Bool
  ao : Option Addr
  n : Nat
  c : Nat
  bs : List Int
def wr0 : Wr := ⟨0, false, none, 0, 0, []⟩
def Wr.cs (x : Wr) : List Value := [.int .i64 x.f, .bool x.st, .slice x.ao x.n x.c]
theorem Wr.cs_len (x : Wr) : x.cs.length = 3 := rfl
theorem Wr.cs_one (x : Wr) : ∀ u ∈ x.cs, u.oneCell' = true := by
  intro u hu
  simp only [Wr.cs, List.mem_cons, List.not_mem_nil, or_false] at hu
  rcases hu with rfl | rfl | rfl <;> rfl
def isF (f : Int) : Bool := decide (f = 0) || decide (f = 1)
def Wr.un (x : Wr) : Nat := if isF x.f then (if x.st then 1 + x.bs.length else x.bs.length) else 0
def cost : List Wr → Nat
  | [] => 0
  | x :: r => x.un + cost r
def tot : List Wr → Nat
  | [] => 0
  | x :: r => x.bs.length + tot r
theorem cost_le : ∀ l : List Wr, cost l ≤ l.length + tot l
  | [] => Nat.le_refl _
  | x :: r => by
      have := cost_le r
      simp only [cost, tot, List.length_cons]
      have : x.un ≤ 1 + x.bs.length := by unfold Wr.un; split <;> (try split) <;> omega
      omega
theorem cost_app : ∀ (a b : List Wr), cost (a ++ b) = cost a + cost b
  | [], b => by simp [cost]
  | x :: r, b => by simp only [List.cons_append, cost, cost_app r b]; omega
theorem tot_app : ∀ (a b : List Wr), tot (a ++ b) = tot a + tot b
  | [], b => by simp [tot]
  | x :: r, b => by simp only [List.cons_append, tot, tot_app r b]; omega
def put (f : Int) (y : List Int → List Int) (d : List Int × List Int) : List Int × List Int := if f = 0 then (y d.1, d.2) else (d.1, y d.2)
def put1 (x : Wr) (d : List Int × List Int) (left : Nat) : (List Int × List Int) × Nat :=
  if isF x.f = false then (d, left) else if left = 0 then (d, 0) else
    (put x.f (· ++ x.bs.take (min (if x.st then left - 1 else left) x.bs.length)) (if x.st then put x.f (fun _ => []) d else d), (if x.st then left - 1 else left) - min (if x.st then left - 1 else left) x.bs.length)
def ap : List Wr → List Int × List Int → Nat → List Int × List Int
  | [], d, _ => d
  | x :: r, d, l => ap r (put1 x d l).1 (put1 x d l).2
theorem put1_zero (x : Wr) (d : List Int × List Int) : put1 x d 0 = (d, 0) := by
  unfold put1
  split <;> simp
theorem ap_zero : ∀ (l : List Wr) (d : List Int × List Int), ap l d 0 = d
  | [], d => rfl
  | x :: r, d => by simp only [ap, put1_zero]; exact ap_zero r d
def wh1 (x : Wr) (d : List Int × List Int) : List Int × List Int := if isF x.f then put x.f (· ++ x.bs) (if x.st then put x.f (fun _ => []) d else d) else d
def wh : List Wr → List Int × List Int → List Int × List Int
  | [], d => d
  | x :: r, d => wh r (wh1 x d)
theorem put_id (f : Int) (d : List Int × List Int) : put f (· ++ []) d = d := by
  unfold put
  split <;> simp
theorem ap_cost : ∀ (l : List Wr) (d : List Int × List Int) (e : Nat), ap l d (cost l + e) = wh l d
  | [], d, e => rfl
  | x :: r, d, e => by
      simp only [ap, cost, wh]
      cases hf : isF x.f with
      | false =>
        have h1 : x.un = 0 := by unfold Wr.un; simp [hf]
        have h2 : put1 x d (x.un + cost r + e) = (d, cost r + e) := by unfold put1; simp [hf, h1]
        have h3 : wh1 x d = d := by unfold wh1; simp [hf]
        rw [h2, h3]
        exact ap_cost r d e
      | true =>
        by_cases h0 : x.un + cost r + e = 0
        · have hst : x.st = false := by
            cases hs : x.st with
            | false => rfl
            | true => unfold Wr.un at h0; simp [hf, hs] at h0
          have hb : x.bs = [] := by
            unfold Wr.un at h0
            simp [hf, hst] at h0
            exact h0.1.1
          have h3 : wh1 x d = d := by
            unfold wh1
            simp only [hf, hst, hb, if_true]
            exact put_id _ _
          rw [h0, put1_zero, h3]
          have := ap_cost r d e
          rw [show cost r + e = 0 by omega] at this
          exact this
        · have hun : x.un = if x.st then 1 + x.bs.length else x.bs.length := by unfold Wr.un; simp [hf]
          have h2 : put1 x d (x.un + cost r + e) = (wh1 x d, cost r + e) := by
            unfold put1 wh1
            simp only [hf, if_neg h0]
            have e1 : (if x.st = true then x.un + cost r + e - 1 else x.un + cost r + e) = x.bs.length + (cost r + e) := by
              rw [hun]
              split <;> omega
            rw [e1, Nat.min_eq_right (by omega), List.take_length]
            simp
            try omega
          rw [h2]
          exact ap_cost r _ e
def kN (l : List Wr) (k : Int) : Nat := if k < 0 then cost l else k.toNat
def siz (d : List Int × List Int) : Nat := d.1.length + d.2.length
theorem put1_siz (x : Wr) (d : List Int × List Int) (left : Nat) : siz (put1 x d left).1 ≤ siz d + x.bs.length := by
  unfold put1 siz
  split
  · show d.1.length + d.2.length ≤ _; omega
  · split
    · show d.1.length + d.2.length ≤ _; omega
    · have hm : (x.bs.take (min (if x.st then left - 1 else left) x.bs.length)).length ≤ x.bs.length := by rw [List.length_take]; omega
      generalize x.bs.take (min (if x.st then left - 1 else left) x.bs.length) = y at *
      unfold put
      cases x.st <;> by_cases h0 : x.f = 0 <;> simp [h0] <;> omega
def ByD (d : List Int × List Int) : Prop := By d.1 ∧ By d.2
theorem put1_by {x : Wr} {d : List Int × List Int} (left : Nat) (h : ByD d) (hx : By x.bs) : ByD (put1 x d left).1 := by
  unfold put1
  split
  · exact h
  · split
    · exact h
    · have hy := hx.take (min (if x.st then left - 1 else left) x.bs.length)
      generalize x.bs.take (min (if x.st then left - 1 else left) x.bs.length) = y at *
      unfold put ByD
      cases x.st <;> by_cases h0 : x.f = 0 <;> simp [h0]
      · exact ⟨h.1.append hy, h.2⟩
      · exact ⟨h.1, h.2.append hy⟩
      · exact ⟨hy, h.2⟩
      · exact ⟨h.1, hy⟩
theorem drop_cons {l : List Wr} {k : Nat} (h : k < l.length) : l.drop k = l.getD k wr0 :: l.drop (k + 1) := by
  rw [List.drop_eq_getElem_cons h]
  simp [List.getD, h]
end Go.Proofs.Ytmkopbbbonggdaa.Jn
