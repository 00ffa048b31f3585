import Derived.Test.YtnhhjelplmdloaaV11
namespace Go.Proofs.Ytnhhjelplmdloaa.Et
open Go.RowKit Go.Maps
set_option linter.unusedVariables false
set_option linter.unusedSimpArgs false
set_option maxRecDepth 100000
structure Px where
  f : Fx
  gone : Bool
def p0 : Px := ⟨f0, false⟩
def Px.cs (p : Px) : List Value := p.f.cs.toList ++ [.bool p.gone]
structure Rn where
  b : Nat
  nn : Nat
  room : Int
  now : Int
  up : Nat → Bool
  inc : Nat → Int
  tick : Nat → Int
  shut : Nat → Nat → Bool
  slow : Nat → Nat → Int
  va : Option Addr
  vc : Nat
  all : List Px
def Rn.own (R : Rn) (j : Nat) : Prop := j = R.b ∨ (Value.slice R.va R.all.length R.vc).ownBlock = some j ∨ ∃ p ∈ R.all, p.f.v.ownBlock = some j
section
variable {R R' : Rn} {w w' : World} {B : Nat} {cs : Array Value}
end
end Go.Proofs.Ytnhhjelplmdloaa.Et
namespace Go.Proofs.Ytnhhjelplmdloaa.Et
open Go.RowKit Go.Maps
set_option linter.unusedVariables false
set_option linter.unusedSimpArgs false
set_option maxRecDepth 100000
section
variable {R R' : Rn} {w w' : World} {B : Nat}
theorem wrap_eq (x : Int) : wrap64 x = IntKind.i64.wrap x := by rw [IntKind.wrap_i64, wrap64]
def rN (R : Rn) (p : Int) : Bool := decide (0 ≤ p ∧ p < R.nn)
def rCk (R : Rn) (p : Int) : Int := if rN R p then (if R.up p.toNat then 0 else 32) else 1
end
end Go.Proofs.Ytnhhjelplmdloaa.Et
namespace Go.Proofs.Ytnhhjelplmdloaa.Et
open Go.RowKit Go.Maps
set_option linter.unusedVariables false
set_option linter.unusedSimpArgs false
set_option maxRecDepth 100000
section
variable {R R' : Rn} {w w' : World} {B : Nat}
theorem own_shape {w2 : World} {B' n : Nat} {v : Value} {l : List Value} {t s : Nat} (h : w2.ownsRow B t s v n l) : ∃ a c, v = .slice a n c := by
  rcases h.2 with ⟨h1, h2⟩ | ⟨g, cap, cur, hv, _⟩
  · exact ⟨none, 0, by rw [h2]; exact h1⟩
  · exact ⟨_, _, hv⟩
end
end Go.Proofs.Ytnhhjelplmdloaa.Et
namespace Go.Proofs.Ytnhhjelplmdloaa.Et
open Go.RowKit Go.Maps
set_option linter.unusedVariables false
set_option linter.unusedSimpArgs false
set_option maxRecDepth 100000
section
variable {R R' : Rn} {w w' : World} {B : Nat}
theorem info_i : (Try.prog.info? 3).map (fun i => (i.zero, i.size, i.bytes)) = some (some (.int .i64 0), 1, 8) := by kernel_rfl
def liveN (R : Rn) (k : Nat) : List Nat := (List.range k).filter fun i => !(R.all.getD i p0).gone
theorem liveN_next (R : Rn) (k : Nat) : liveN R (k + 1) = liveN R k ++ (if (R.all.getD k p0).gone then [] else [k]) := by
  unfold liveN
  rw [List.range_succ, List.filter_append]
  congr 1
  cases h : (R.all.getD k p0).gone <;> (simp only [List.filter_cons, List.filter_nil, h]; rfl)
def intsOf (l : List Nat) : List Value := l.map fun (i : Nat) => Value.int .i64 (i : Int)
end
end Go.Proofs.Ytnhhjelplmdloaa.Et
