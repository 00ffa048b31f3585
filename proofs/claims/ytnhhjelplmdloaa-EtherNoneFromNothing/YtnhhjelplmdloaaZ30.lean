import Derived.Test.YtnhhjelplmdloaaZ29
import Derived.Deep.RegionHeld3
import Derived.Deep.DeepCutAuto
namespace Go.Proofs.Ytnhhjelplmdloaa.Et
open Go.RowKit Go.Maps
set_option linter.unusedVariables false
set_option linter.unusedSimpArgs false
set_option maxRecDepth 100000
section
variable {E E1 E' : En} {w w' w1 w2 w3 : World} {B K m : Nat}
theorem oneB : (Try.prog.info? 4).map (·.size) = some 1 := by kernel_rfl
theorem wl_stB {ops : Array Oper} {rest : List Oper} {o : Oper} {a : Act} {Q : Exit → Act → World → Prop} (hgd : o.guard = none) (ty : TypeId) (x y : Operand) (ho : o.op = .store ty x y) {g p t : Nat} {C : Array Value} {z : Bool} (hx : a.eval x = .pointer (some ⟨g, p, none⟩)) (hy : a.eval y = .bool z) (hg : w.heap[g]? = some (.cells C t (0, 0))) (hp : p < C.size) (hz : (Try.prog.info? ty).map (·.size) = some 1) (hd : o.dst = none)
    (h : wpList Try.prog ops Q rest a (w.setCell ⟨g, p, none⟩ (.bool z))) : wpList Try.prog ops Q (o :: rest) a w := wpList_plain hgd fun K hK => by
    have q : w.cell? ⟨g, p, none⟩ = some C[p] := by rw [blk_cell hg p]; exact Array.getElem?_eq_getElem hp
    have zz : w.frozen? ⟨g, p, none⟩ = false := frozen_of_row w _ _ _ _ hg
    have hs := size_of (w := w) hz
    unfold Oper.wp execOp
    simp only [ho, hx, hy]
    go_simp
    have hk := hK a _ h
    rw [hd] at *
    exact hk
def zs (i : Nat) : Value := if i = 0 then .int .i64 0 else if i < 18 then .bool false else if i < 52 then .int .i64 0 else if i < 341 then .bool false else if i < 630 then .int .i64 0 else .slice none 0 0
def dn (p q r d : Nat) (i : Nat) : Prop :=
  i = 0 ∨ i = 630 ∨ (1 ≤ i ∧ i < 18 ∧ (i - 1 < p ∨ (1 ≤ d ∧ i - 1 = p))) ∨ (18 ≤ i ∧ i < 35 ∧ (i - 18 < p ∨ (2 ≤ d ∧ i - 18 = p))) ∨ (35 ≤ i ∧ i < 52 ∧ (i - 35 < p ∨ (3 ≤ d ∧ i - 35 = p))) ∨ (52 ≤ i ∧ i < 341 ∧ i - 52 < p * 17 + q) ∨ (341 ≤ i ∧ i < 630 ∧ i - 341 < p * 17 + r)
structure Lk (E : En) (v : Value) (sb p q r d : Nat) (V X : World) (rb : Nat) (f : Nat → Value) : Prop where
  blk : X.heap[sb]? = some (.cells (rv 631 f).toArray 58 (0, 0))
  one : ∀ i, i < 631 → (f i).oneCell' = true
  ok : ∀ i, i < 631 → dn p q r d i → f i = sg E v i
  rb : X.heap[rb]? = some (.cells (rv 631 zs).toArray 58 (0, 0))
  b : Below V.heap.size V X
section
variable {v : Value} {sb p q r d rb : Nat} {V X X' : World} {f : Nat → Value}
theorem Lk.still (h : Lk E v sb p q r d V X rb f) (hb : Below X.heap.size X X') : Lk E v sb p q r d V X' rb f :=
  ⟨(hb.block _ (lt_heap h.blk)).trans h.blk, h.one, h.ok, (hb.block _ (lt_heap h.rb)).trans h.rb, bstep h.b hb⟩
theorem Lk.put (h : Lk E v sb p q r d V X rb f) {i p' q' r' d' : Nat} {z : Value} (hi : i < 631) (hz : z.oneCell' = true) (hv : dn p' q' r' d' i → z = sg E v i) (hd : ∀ j, j < 631 → j ≠ i → dn p' q' r' d' j → dn p q r d j) (hsb : V.heap.size ≤ sb) (hne : rb ≠ sb) : Lk E v sb p' q' r' d' V (X.setCell ⟨sb, i, none⟩ z) rb (upv f i z) := by
  refine ⟨?_, fun j hj => ?_, fun j hj hdn => ?_, ?_, ?_⟩
  · rw [← rv_set]
    exact blk_set h.blk (by rw [List.setIfInBounds_toArray])
  · unfold upv
    split
    · exact hz
    · exact h.one j hj
  · unfold upv
    split
    · next e => subst e; exact hv hdn
    · next e => exact h.ok j hj (hd j hj e hdn)
  · exact blk_set_ne h.rb hne
  · exact h.b.trans ((kset (P := fun q => q = sb) X sb i z rfl).below h.b.size (fun q hq e => by omega))
theorem Lk.cong {p' q' r' d' : Nat} (h : Lk E v sb p q r d V X rb f) (hd : ∀ j, j < 631 → dn p' q' r' d' j → dn p q r d j) : Lk E v sb p' q' r' d' V X rb f := ⟨h.blk, h.one, fun j hj e => h.ok j hj (hd j hj e), h.rb, h.b⟩
end
end
end Go.Proofs.Ytnhhjelplmdloaa.Et
namespace Go.Proofs.Ytnhhjelplmdloaa.Et
open Go.RowKit Go.Maps
set_option linter.unusedVariables false
set_option linter.unusedSimpArgs false
set_option maxRecDepth 100000
section
variable {E E1 E' : En} {w w' w1 w2 w3 : World} {B K m : Nat}
end
end Go.Proofs.Ytnhhjelplmdloaa.Et
