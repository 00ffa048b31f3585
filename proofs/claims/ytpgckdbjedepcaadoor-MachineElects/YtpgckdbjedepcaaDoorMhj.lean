import Derived.Test.YtpgckdbjedepcaaDoorMhi
import Derived.Deep.DeepCutAuto
namespace Go.Proofs.YtpgckdbjedepcaaDoor.Mh
open Go.RowKit Mb Go.Maps
set_option linter.unusedVariables false
set_option maxRecDepth 100000
set_option linter.unusedSimpArgs false
section
variable {w w' W : World} {B : Nat}
structure Ms (w : World) (mb pb lb n : Nat) (f : Nat → Value) (D : DataW Unit) : Prop where
  blk : Fb w mb 40 83 f
  f0 : f 0 = .map (some pb)
  f1 : f 1 = .map (some lb)
  pm : w.ownsMap Tryd.prog 9 prE pb n D
  lm : w.ownsMap Tryd.prog 9 lkE lb 0 (.map [])
  ap : pb ≠ lb
  ss : ∀ q, q < 16 → ∃ (a r cd nn : Int) (vl : ByteArray), f (3 + q * 5) = .int .i64 a ∧ f (3 + q * 5 + 1) = .int .i64 r ∧ f (3 + q * 5 + 2) = .int .i64 cd ∧ f (3 + q * 5 + 3) = .string vl ∧ f (3 + q * 5 + 4) = .int .i64 nn
theorem map_ne_cells {k b : Nat} {R : Value → Option (DataW Unit × List MemPlace)} {m n t l : Nat} {D : DataW Unit} {f : Nat → Value} (h : w.ownsMap Tryd.prog k R b n D) (h2 : Fb w m t l f) : b ≠ m := by
  intro e
  subst e
  obtain ⟨es, cl, h1, _⟩ := h
  obtain ⟨C, h3, _⟩ := h2
  rw [h1] at h3
  cases h3
theorem Ms.keep {P : Nat → Prop} {mb pb lb n : Nat} {f : Nat → Value} {D : DataW Unit} (h : Ms w mb pb lb n f D) (k : Kept w w' P) (h1 : ¬ P mb) (h2 : ¬ P pb) (h3 : ¬ P lb) : Ms w' mb pb lb n f D :=
  ⟨h.blk.keep k h1, h.f0, h.f1, Om_keep h.pm k h2, Om_keep h.lm k h3, h.ap, h.ss⟩
theorem Ms.still {mb pb lb n : Nat} {f : Nat → Value} {D : DataW Unit} (h : Ms w mb pb lb n f D) (hb : Below w.heap.size w w') : Ms w' mb pb lb n f D := h.keep (Kept.ofBelow hb (fun _ => False)) id id id
theorem Ms.newmap {mb pb lb n n' : Nat} {f : Nat → Value} {D D' : DataW Unit} (h : Ms w mb pb lb n f D) (k : Kept w w' (fun j => j = pb)) (hm : w'.ownsMap Tryd.prog 9 prE pb n' D') : Ms w' mb pb lb n' f D' :=
  ⟨h.blk.keep k (fun e => map_ne_cells h.pm h.blk e.symm), h.f0, h.f1, hm, Om_keep h.lm k (fun e => h.ap e.symm), h.ap, h.ss⟩
def upS (f : Nat → Value) (q : Nat) (vs : List Value) : Nat → Value := fun j => if 3 + q * 5 ≤ j ∧ j < 3 + q * 5 + vs.length then vs.getD (j - (3 + q * 5)) undef else f j
theorem upS_lo {f : Nat → Value} {q : Nat} {vs : List Value} {j : Nat} (h : j < 3) : upS f q vs j = f j := by
  unfold upS
  rw [if_neg (by omega)]
theorem upS_at {f : Nat → Value} {q : Nat} {vs : List Value} {j : Nat} (h : j < vs.length) : upS f q vs (3 + q * 5 + j) = vs.getD j undef := by
  unfold upS
  rw [if_pos (by omega)]
  congr 1
  omega
theorem upS_ne {f : Nat → Value} {q p j : Nat} {vs : List Value} (hl : vs.length = 5) (h : p ≠ q) (hj : j < 5) : upS f q vs (3 + p * 5 + j) = f (3 + p * 5 + j) := by
  unfold upS
  rw [if_neg (by rw [hl]; omega)]
theorem Ms.sess {mb pb lb n : Nat} {f : Nat → Value} {D : DataW Unit} (h : Ms w mb pb lb n f D) {q : Nat} (hq : q < 16) (a r cd nn : Int) (vl : ByteArray) : Ms (w.setCells mb (3 + q * 5) [.int .i64 a, .int .i64 r, .int .i64 cd, .string vl, .int .i64 nn]) mb pb lb n (upS f q [.int .i64 a, .int .i64 r, .int .i64 cd, .string vl, .int .i64 nn]) D := by
  have k : Kept w (w.setCells mb (3 + q * 5) [.int .i64 a, .int .i64 r, .int .i64 cd, .string vl, .int .i64 nn]) (fun j => j = mb) := ksets (P := fun j => j = mb) rfl _ _ _
  refine ⟨Fb.sets _ _ _ _ h.blk, by rw [upS_lo (by omega)]; exact h.f0, by rw [upS_lo (by omega)]; exact h.f1, Om_keep h.pm k (map_ne_cells h.pm h.blk), Om_keep h.lm k (map_ne_cells h.lm h.blk), h.ap, fun p hp => ?_⟩
  by_cases e : p = q
  · subst e
    exact ⟨a, r, cd, nn, vl, upS_at (j := 0) (by simp), upS_at (j := 1) (by simp), upS_at (j := 2) (by simp), upS_at (j := 3) (by simp), upS_at (j := 4) (by simp)⟩
  · obtain ⟨a', r', cd', nn', vl', h0, h1, h2, h3, h4⟩ := h.ss p hp
    exact ⟨a', r', cd', nn', vl', (upS_ne (j := 0) rfl e (by decide)).trans h0, (upS_ne (j := 1) rfl e (by decide)).trans h1, (upS_ne (j := 2) rfl e (by decide)).trans h2, (upS_ne (j := 3) rfl e (by decide)).trans h3, (upS_ne (j := 4) rfl e (by decide)).trans h4⟩
end
end Go.Proofs.YtpgckdbjedepcaaDoor.Mh
