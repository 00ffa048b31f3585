import Derived.Test.YtnhhjelplmdloaaV21
namespace Go.Proofs.Ytnhhjelplmdloaa.Et
open Go.RowKit Go.Maps
set_option linter.unusedVariables false
set_option linter.unusedSimpArgs false
set_option maxRecDepth 100000
section
variable {E E' : En} {R R' : Rn} {w w' w1 w2 w3 : World} {B K m : Nat}
theorem Step.low (s : Step w w1 E E' B m) (hE : E.Ok w B m) (hB : B ≤ w.heap.size) : Below B w w1 := s.kept.below hB (fun k hk ho => by have := hE.geOwn ho; omega)
theorem Step.none (h : E.Ok w B m) (hb : Below w.heap.size w w') : Step w w' E E B m := (Step.same h).post hb
theorem Sim.nq (s : Sim E R K) (p : Int) : rN R p = isN E p := by unfold rN isN; rw [s.nn]
theorem Sim.ck (s : Sim E R K) (p : Int) : rCk R p = ckUp E p := by
  unfold rCk ckUp
  rw [s.nq]
  cases h : isN E p with
  | false => rfl
  | true =>
    obtain ⟨h0, h1⟩ := isN_true h
    rw [(s.nod p.toNat (by omega)).1]
def aN (b : Nat) (p : Int) : Array Value := #[.pointer (some ⟨b, 0, none⟩), .int .i64 p]
theorem rstE_zero {p : Int} (h : rstE E p = 0) : ∃ k : Nat, p = k ∧ k < E.nn ∧ E.up k = false := by
  unfold rstE at h
  split at h
  · next hn =>
    obtain ⟨h0, h1⟩ := isN_true hn
    split at h
    · omega
    · next hu => exact ⟨p.toNat, by omega, by omega, by simpa using hu⟩
  · omega
end
end Go.Proofs.Ytnhhjelplmdloaa.Et
namespace Go.Proofs.Ytnhhjelplmdloaa.Et
open Go.RowKit Go.Maps
set_option linter.unusedVariables false
set_option linter.unusedSimpArgs false
set_option maxRecDepth 100000
section
variable {E E' : En} {R R' : Rn} {w w' w1 w2 w3 : World} {B K m : Nat}
theorem kcell {W w1 : World} {P : Nat → Prop} {k i : Nat} {v : Value} (hk : Kept W w1 P) (hc : W.cell? ⟨k, i, none⟩ = some v) (hp : ¬ P k) : w1.cell? ⟨k, i, none⟩ = some v :=
  (World.cell?_of_block (w := W) (hk.block k (World.block_lt_of_cell? W _ hc) hp)).trans hc
end
end Go.Proofs.Ytnhhjelplmdloaa.Et
