import Derived.Test.YtnhhjelplmdloaaV24
namespace Go.Proofs.Ytnhhjelplmdloaa.Et
open Go.RowKit Go.Maps
set_option linter.unusedVariables false
set_option linter.unusedSimpArgs false
set_option maxRecDepth 100000
section
variable {E E' : En} {R R' : Rn} {w w' w1 w2 w3 wa : World} {B K m : Nat}
def aD (b : Nat) (v : Ev) : Array Value := #[.pointer (some ⟨b, 0, none⟩), .agg v.cs]
structure GoodV (w : World) (own : Nat → Prop) (v : Ev) (k a b n : Int) (bn sn : Nat) (bs xs : List Int) : Prop where
  hk : v.k = k
  ha : v.a = a
  hb : v.b = b
  hn : v.n = n
  hbn : v.bn = bn
  hsn : v.sn = sn
  rd : Rd w v.ba bn v.bc bs
  sd : ∃ gs, v.sa = some ⟨gs, 0, none⟩ ∧ (∀ i, i < sn → w.cell? ⟨gs, 0 + i, none⟩ = some (.int .i64 (xs.getD i 0))) ∧ ¬ own gs
theorem GoodV.still {own : Nat → Prop} {v : Ev} {k a b n : Int} {bn sn : Nat} {bs xs : List Int} (g : GoodV w own v k a b n bn sn bs xs) (hb : Below w.heap.size w w') : GoodV w' own v k a b n bn sn bs xs := by
  obtain ⟨gs, h1, h2, h3⟩ := g.sd
  exact ⟨g.hk, g.ha, g.hb, g.hn, g.hbn, g.hsn, g.rd.still hb, gs, h1, fun i hi => below_at hb (h2 i hi), h3⟩
end
end Go.Proofs.Ytnhhjelplmdloaa.Et
namespace Go.Proofs.Ytnhhjelplmdloaa.Et
open Go.RowKit Go.Maps
set_option linter.unusedVariables false
set_option linter.unusedSimpArgs false
set_option maxRecDepth 100000
section
variable {E E' : En} {R R' : Rn} {w w' w1 w2 w3 wa : World} {B K m : Nat}
end
end Go.Proofs.Ytnhhjelplmdloaa.Et
