import Derived.Test.YtfbollifegngjaaXx
namespace Go.Proofs.Ytfbollifegngjaa.Dt
open Go.RowKit
set_option linter.unusedVariables false
set_option maxRecDepth 100000
set_option linter.unusedSimpArgs false
section
variable {D D' : De} {R R' : Rf} {w w' W V : World} {B m : Nat}
section
variable {hb : Nat} {vg vw vr : Value} {E K : List El} {X : Nat → List Int}
theorem Du.upTo {m' : Nat} (h : Du D R w B m) (hm : m ≤ m') (h62 : m' ≤ 4611686018427387904) : Du D R w B m' := ⟨h.d.mono hm h62, h.r, h.ap, h.sim, Nat.le_trans h.len hm⟩
theorem Hz.still (z : Hz w B hb m D R vg vw vr E K X) (b : Below w.heap.size w w') : Hz w' B hb m D R vg vw vr E K X := ⟨z.h.still b, z.du.still b, z.ap⟩
theorem Hz.dq {m' N : Nat} (z : Hz w B hb m D R vg vw vr E K X) (q : Dq w w' D D' R R' B m') : Hzo w w' B hb m' D R vg vw vr E K N := by
  refine ⟨D', R', vg, vw, vr, E, K, X, ⟨z.h.keep q.kept z.ap, q.du, fun j hj e => ?_⟩, q.kept.mono (fun j _ e => e.elim .inl (fun e => .inr (.inl e))), fun j hj => ?_, Nat.le_add_right _ _, q.db, q.rb⟩
  · have hl := z.h.lt hj
    rcases q.own j e with e | e | e
    · exact z.ap j hj (.inl e)
    · exact z.ap j hj (.inr e)
    · omega
  · have hD : D'.own j ∨ R'.own j → D.own j ∨ R.own j ∨ hown hb vg vw vr E K j ∨ w.heap.size ≤ j := fun e => by
      rcases q.own j e with e | e | e
      · exact .inl e
      · exact .inr (.inl e)
      · exact .inr (.inr (.inr e))
    rcases hj with hj | hj | hj
    · exact hD (.inl hj)
    · exact hD (.inr hj)
    · exact .inr (.inr (.inl hj))
theorem Hzo.pre {N : Nat} (b : Below w.heap.size w W) (h : Hzo W w' B hb m D R vg vw vr E K N) : Hzo w w' B hb m D R vg vw vr E K N := by
  obtain ⟨D', R', vg', vw', vr', E', K', X', z, k, s, l, e1, e2⟩ := h
  have := b.size
  exact ⟨D', R', vg', vw', vr', E', K', X', z, (Kept.ofBelow b _).trans k, fun j hj => (s j hj).imp id (fun e => e.imp id (fun e => e.imp id (fun e => by omega))), l, e1, e2⟩
theorem Hzo.post {N : Nat} (h : Hzo w W B hb m D R vg vw vr E K N) (b : Below W.heap.size W w') : Hzo w w' B hb m D R vg vw vr E K N := by
  obtain ⟨D', R', vg', vw', vr', E', K', X', z, k, s, l, e1, e2⟩ := h
  exact ⟨D', R', vg', vw', vr', E', K', X', z.still b, k.trans (Kept.ofBelow b _), s, l, e1, e2⟩
theorem Hzo.more {N M : Nat} (h : Hzo w w' B hb m D R vg vw vr E K N) (hN : N ≤ M) : Hzo w w' B hb m D R vg vw vr E K M := by
  obtain ⟨D', R', vg', vw', vr', E', K', X', z, k, s, l, e1, e2⟩ := h
  exact ⟨D', R', vg', vw', vr', E', K', X', z, k, s, by omega, e1, e2⟩
def Hk (W w : World) (B hb m : Nat) (D : De) (R : Rf) (vg vw vr : Value) (E K : List El) (N : Nat) : Prop := ∃ vg' vw' E' K' X', Hz w B hb m D R vg' vw' vr E' K' X' ∧ Kept W w (hown hb vg vw vr E K) ∧ (∀ j, hown hb vg' vw' vr E' K' j → hown hb vg vw vr E K j ∨ W.heap.size ≤ j) ∧ E'.length ≤ E.length + N
theorem Hk.next {w1 w2 : World} {vg' vw' vg2 vw2 : Value} {E' K' E2 K2 : List El} {X' X2 : Nat → List Int} {N : Nat} {x : El} (z : Hz w B hb m D R vg' vw' vr E' K' X') (k0 : Kept W w (hown hb vg vw vr E K)) (s0 : ∀ j, hown hb vg' vw' vr E' K' j → hown hb vg vw vr E K j ∨ W.heap.size ≤ j) (l0 : E'.length ≤ E.length + N) (b : Below w.heap.size w w1) (h2 : Hs w2 B hb vg2 vw2 vr E2 K2 X2) (k : Kept w1 w2 (fun j => j = hb ∨ vg'.ownBlock = some j ∨ vw'.ownBlock = some j)) (s : ∀ j, hown hb vg2 vw2 vr E2 K2 j → hown hb vg' vw' vr E' K' j ∨ x.b = some j ∨ w1.heap.size ≤ j) (hx : ∀ j, x.b = some j → w.heap.size ≤ j) (hl : E2.length = E'.length + 1) : Hk W w2 B hb m D R vg vw vr E K (N + 1) := by
  have hin : ∀ j, (j = hb ∨ vg'.ownBlock = some j ∨ vw'.ownBlock = some j) → hown hb vg' vw' vr E' K' j := fun j e => by
    rcases e with e | e | e
    · exact .inl e
    · exact .inr (.inl e)
    · exact .inr (.inr (.inl e))
  have b1 := b.size
  have b0 := k0.size
  have d1 := z.du.still b
  refine ⟨vg2, vw2, E2, K2, X2, ⟨h2, ⟨d1.d.keep k (fun j hj e => z.ap j (hin j e) (.inl hj)), d1.r.keep k (fun j hj e => z.ap j (hin j e) (.inr hj)), d1.ap, d1.sim, d1.len⟩, fun j hj e => ?_⟩, (k0.trans (Kept.ofBelow b _)).step k (fun j e => s0 j (hin j e)), fun j hj => ?_, by omega⟩
  · have hlt : j < w.heap.size := e.elim (fun e => z.du.d.ltOwn e) (fun e => z.du.r.ltOwn e)
    rcases s j hj with t | t | t
    · exact z.ap j t e
    · have := hx j t; omega
    · omega
  · rcases s j hj with t | t | t
    · exact s0 j t
    · have := hx j t; exact .inr (by omega)
    · exact .inr (by omega)
theorem Hk.done {N : Nat} (h : Hk W w B hb m D R vg vw vr E K N) (h62 : m + 1 ≤ 4611686018427387904) : Hzo W w B hb (m + 1) D R vg vw vr E K N := by
  obtain ⟨vg', vw', E', K', X', z, k, s, l⟩ := h
  refine ⟨D, R, vg', vw', vr, E', K', X', ⟨z.h, z.du.upTo (Nat.le_succ _) h62, z.ap⟩, k.mono (fun j _ e => .inr (.inr e)), fun j hj => ?_, l, rfl, rfl⟩
  rcases hj with hj | hj | hj
  · exact .inl hj
  · exact .inr (.inl hj)
  · exact .inr (.inr (s j hj))
end
end
end Go.Proofs.Ytfbollifegngjaa.Dt
