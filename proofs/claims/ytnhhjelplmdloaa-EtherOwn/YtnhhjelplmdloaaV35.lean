import Derived.Test.YtnhhjelplmdloaaV34
namespace Go.Proofs.Ytnhhjelplmdloaa.Et
open Go.RowKit Go.Maps
set_option linter.unusedVariables false
set_option linter.unusedSimpArgs false
set_option maxRecDepth 100000
section
variable {E E1 E' : En} {w w' w1 w2 w3 : World} {B K m : Nat}
theorem iOp : (Try.prog.info? 46).map (·.size) = some 6 := by kernel_rfl
end
end Go.Proofs.Ytnhhjelplmdloaa.Et
namespace Go.Proofs.Ytnhhjelplmdloaa.Et
open Go.RowKit Go.Maps
set_option linter.unusedVariables false
set_option linter.unusedSimpArgs false
set_option maxRecDepth 100000
section
variable {E E1 E' : En} {w w' w1 w2 w3 : World} {B K m : Nat}
structure Rz (w w1 : World) (E E1 : En) (B K : Nat) (y : Int) (add : Bool) : Prop where
  ok : E1.Ok w1 B (256 * (K + 1))
  inv : Inv E1 (K + 1)
  b : E1.b = E.b
  kept : Kept w w1 E.own
  low : ∀ W : World, W.heap.size ≤ B → Below W.heap.size W w → Below W.heap.size W w1
  no : y ≠ 0 → E1 = E ∧ Below w.heap.size w w1
  yes : y = 0 → add = true → E1.last = E.last + 1 ∧ ∃ f, E1.fs = E.fs ++ [f] ∧ f.id = E.last + 1
  not : y = 0 → add = false → E1.last = E.last
theorem Res.out {y : Int} {add : Bool} (he : E.Ok w B (256 * K)) (hB : B ≤ w.heap.size) (h : Inv E K) (r : Res w w1 E B K y add) : ∃ E1, Rz w w1 E E1 B K y add := by
  rcases r with ⟨hy, hb⟩ | ⟨hy, E1, m1, st, hm, hx, h1, h2⟩
  · exact ⟨E, (he.still hb).mono (by omega), h.mono (Nat.le_succ _), rfl, Kept.ofBelow hb _, fun W hW hl => bstep hl hb, fun _ => ⟨rfl, hb⟩, fun e => absurd e hy, fun e => absurd e hy⟩
  · exact ⟨E1, st.ok.mono hm, hx.inv, hx.b, st.kept, fun W hW hl => hl.trans (st.kept.below hl.size (fun j hj e => by have := he.geOwn e; omega)), fun e => absurd hy e, fun _ => h1, fun _ => h2⟩
theorem ops_range {oa : Option Addr} {n k b off : Nat} {os : Nat → Opx} (h : RdOps w oa n os) (hk : k < n) (hb : Below w.heap.size w w1) (he : oa = some ⟨b, off, none⟩) : w1.rangeAt b (off + k * 6) (os k).cs.toList := by
  rcases h.1 with h0 | ⟨b', off', e', hc⟩
  · omega
  · rw [he] at e'
    simp only [Option.some.injEq, Addr.mk.injEq, and_true] at e'
    obtain ⟨rfl, rfl⟩ := e'
    intro j v hv
    have hj : j < 6 := (List.getElem?_eq_some_iff.1 hv).1
    have := hc k hk j hj
    rw [Array.getElem?_toList] at hv
    rw [Nat.add_assoc]
    exact below_at hb (this.trans hv)
theorem ops_block {oa : Option Addr} {n k : Nat} {os : Nat → Opx} (h : RdOps w oa n os) (hk : k < n) : ∃ b off, oa = some ⟨b, off, none⟩ := by
  rcases h.1 with h0 | ⟨b', off', e', hc⟩
  · omega
  · exact ⟨b', off', e'⟩
end
end Go.Proofs.Ytnhhjelplmdloaa.Et
