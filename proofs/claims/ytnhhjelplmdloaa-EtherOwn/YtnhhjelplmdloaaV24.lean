import Derived.Test.YtnhhjelplmdloaaV23
namespace Go.Proofs.Ytnhhjelplmdloaa.Et
open Go.RowKit Go.Maps
set_option linter.unusedVariables false
set_option linter.unusedSimpArgs false
set_option maxRecDepth 100000
section
variable {E E' : En} {R R' : Rn} {w w' w1 w2 w3 wa : World} {B K m : Nat}
theorem Rd.keep {P : Nat → Prop} {ao : Option Addr} {n c : Nat} {bs : List Int} (h : Rd w ao n c bs) (k : Kept w w' P) (hp : ∀ b off, ao = some ⟨b, off, none⟩ → ¬ P b) : Rd w' ao n c bs := by
  obtain ⟨h1, h2, h3, h4⟩ := h
  refine ⟨h1, h2, h3.elim (fun hh => Or.inl hh) (fun hh => Or.inr ?_), h4⟩
  obtain ⟨b, off, hb, hc⟩ := hh
  exact ⟨b, off, hb, fun i hi => kcell k (hc i hi) (hp b off hb)⟩
theorem round_any2 (h : E.Ok w B m) (hB : B ≤ w.heap.size) (hlen : E.fs.length ≤ 20000) : Calls Try.prog 9 #[.pointer (some ⟨E.b, 0, none⟩)] w fun e w' => ∃ a n c, e = .returned (.slice a n c) ∧ RdO w.heap.size B E w' a n c ((E.fs.filter (comes E)).map Fx.d) ∧ Step w w' E { E with clock := ckN E, fs := E.fs.filter (stays E) } B m := by
  by_cases hl : 0 < E.fs.length
  · exact round_cons2 h hB hl hlen
  · exact round_nil2 h (List.eq_nil_of_length_eq_zero (by omega))
end
end Go.Proofs.Ytnhhjelplmdloaa.Et
namespace Go.Proofs.Ytnhhjelplmdloaa.Et
open Go.RowKit Go.Maps
set_option linter.unusedVariables false
set_option linter.unusedSimpArgs false
set_option maxRecDepth 100000
section
variable {E E' : En} {R R' : Rn} {w w' w1 w2 w3 wa : World} {B K m : Nat}
def tup (x y : Int) : Value := .tuple #[.int .i64 x, .int .i64 y]
def aL (b a c : Nat) (ao : Option Addr) (n cp : Nat) : Array Value := #[.pointer (some ⟨b, 0, none⟩), .agg #[.int .i64 a, .int .i64 c], .slice ao n cp]
def aQ (b : Nat) (p q : Int) (ao : Option Addr) (n cp : Nat) : Array Value := #[.pointer (some ⟨b, 0, none⟩), .int .i64 p, .int .i64 q, .slice ao n cp]
end
end Go.Proofs.Ytnhhjelplmdloaa.Et
