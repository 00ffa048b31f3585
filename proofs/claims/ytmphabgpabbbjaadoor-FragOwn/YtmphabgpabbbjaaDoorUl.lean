import Derived.Test.YtmphabgpabbbjaaDoorUk
namespace Go.Proofs.YtmphabgpabbbjaaDoor.Fg
open Go.RowKit Mb
set_option linter.unusedVariables false
set_option maxRecDepth 100000
set_option linter.unusedSimpArgs false
section
variable {w w' W : World} {B : Nat}
theorem take_eq {p : Pt} {bs : List Int} (hf : form bs = true) (hft : fits p bs = true) : take p bs = if (joined p bs).length < sz bs then ⟨⟨sz bs, sm bs, joined p bs⟩, none, 0⟩ else if crc (joined p bs) = sm bs then ⟨p0, some (joined p bs), 0⟩ else ⟨p0, none, 91⟩ := by
  unfold take
  rw [if_pos (by rw [hf, hft]; rfl)]
structure Mid (w V : World) (B : Nat) (J : Jn) (k : Nat) (bs qb L : List Int) (g : Nat) : Prop where
  row : Fb V J.bp 64 (J.n * 4) (J.put k ⟨sz bs, sm bs, qb⟩ (some g)).f
  ql : qb.length = pl bs
  bk : Bk V g L
  ll : L.length = sz bs
  lt : L.take (pl bs) = qb
  lb : By L
  jn : joined (J.ps k) bs = qb ++ bs.drop 8
  kp : Kept w V J.own
  gl : J.own g ∨ w.heap.size ≤ g
  lo : B ≤ g
  go : ∀ t g', t ≠ k → J.gs t = some g' → g' ≠ g
  gb : g ≠ J.b
  gp : g ≠ J.bp
  jp : J.b ≠ J.bp
theorem own_put {J : Jn} {k : Nat} {p : Pt} {g : Option Nat} {j : Nat} (h : (J.put k p g).own j) : J.own j ∨ g = some j := by
  rcases h with h | h | ⟨s, hs⟩
  · exact .inl (.inl h)
  · exact .inl (.inr (.inl h))
  · by_cases e : s = k
    · subst e
      right
      simpa [Jn.put, upd_same] using hs
    · left
      right; right
      refine ⟨s, ?_⟩
      simpa [Jn.put, upd_ne _ _ e] using hs
theorem Mid.fin_more {V X : World} {J : Jn} {k : Nat} {bs qb L L2 : List Int} {g : Nat} (hm : Mid w V B J k bs qb L g) (h : J.Ok w B) (hk : k < J.n) (hf : Form bs) (hby : By bs) (hft : fits (J.ps k) bs = true) (hs : (joined (J.ps k) bs).length < sz bs)
    (kx : Kept w X J.own) (hrow : Fb X J.bp 64 (J.n * 4) (J.put k ⟨sz bs, sm bs, joined (J.ps k) bs⟩ (some g)).f) (hbk : Bk X g L2) (hl : L2.length = sz bs) (ht : L2.take (joined (J.ps k) bs).length = joined (J.ps k) bs) (hb2 : By L2) (hjb : X.heap[J.b]? = w.heap[J.b]?) (hoth : ∀ t g', t ≠ k → J.gs t = some g' → X.heap[g']? = w.heap[g']?) :
    TkOut w X B J k ⟨⟨sz bs, sm bs, joined (J.ps k) bs⟩, none, 0⟩ (.returned (.tuple #[.slice none 0 0, .bool false, .int .i64 0])) := by
  have hl2 := joined_len hf hft
  have hlt := hf.lt
  have hmul := hf.mul
  have hbig := hf.big
  have hok : (J.put k ⟨sz bs, sm bs, joined (J.ps k) bs⟩ (some g)).Ok X B := by
    refine h.put hk (P := fun j => X.heap[j]? ≠ w.heap[j]?) ⟨kx.os, kx.tape, kx.output, kx.size, fun i hi hp => Classical.not_not.1 hp⟩ (fun hh => hh hjb) (fun t g' ht' hg' hh => hh (hoth t g' ht' hg')) hrow ?_ (fun e => by cases e) (fun g' e => ?_) (fun t g' ht' hg' e => ?_)
    · exact ⟨joined_by (h.ok k) hby, sm_lt hby, .inr ⟨by show 0 < (joined (J.ps k) bs).length; omega, hs, hbig, by show (joined (J.ps k) bs).length % 248 = 0; omega⟩⟩
    · cases e
      refine ⟨⟨⟨L2, hbk, hl, ht, hb2⟩, hm.lo⟩, fun e2 => ?_⟩
      have : (joined (J.ps k) bs).length = 0 := by
        have := congrArg (fun p => p.bs.length) e2
        simpa [p0] using this
      omega
    · cases e
      exact hm.go t g ht' hg' rfl
  refine ⟨none, 0, 0, some g, rfl, fun _ => ⟨rfl, rfl, rfl⟩, fun b hb => (by cases hb), hok, kx, fun j hj => ?_⟩
  rcases own_put hj with h1 | h1
  · exact .inl h1
  · cases h1
    exact hm.gl
theorem Mid.fin_done {V X : World} {J : Jn} {k : Nat} {bs qb L : List Int} {g : Nat} (hm : Mid w V B J k bs qb L g) (h : J.Ok w B) (hk : k < J.n) (hby : By bs)
    (kx : Kept w X J.own) (hrow : Fb X J.bp 64 (J.n * 4) (J.put k p0 none).f) (hbk : Bk X g (joined (J.ps k) bs)) (hjb : X.heap[J.b]? = w.heap[J.b]?) (hoth : ∀ t g', t ≠ k → J.gs t = some g' → X.heap[g']? = w.heap[g']?) :
    TkOut w X B J k ⟨p0, some (joined (J.ps k) bs), 0⟩ (.returned (.tuple #[.slice (some ⟨g, 0, none⟩) (joined (J.ps k) bs).length (joined (J.ps k) bs).length, .bool true, .int .i64 0])) ∧ TkOut w X B J k ⟨p0, none, 91⟩ (.returned (.tuple #[.slice none 0 0, .bool false, .int .i64 91])) := by
  have hok : (J.put k p0 none).Ok X B := h.put hk (P := fun j => X.heap[j]? ≠ w.heap[j]?) ⟨kx.os, kx.tape, kx.output, kx.size, fun i hi hp => Classical.not_not.1 hp⟩ (fun hh => hh hjb) (fun t g' ht' hg' hh => hh (hoth t g' ht' hg')) hrow p0_ok (fun _ => rfl) (fun g' e => by cases e) (fun t g' ht' hg' e => by cases e)
  have hown : ∀ j, (J.put k p0 none).own j → J.own j ∨ w.heap.size ≤ j := fun j hj => by
    rcases own_put hj with h1 | h1
    · exact .inl h1
    · cases h1
  have hno : ¬ (J.put k p0 none).own g := by
    rintro (h1 | h1 | ⟨s, hs⟩)
    · exact hm.gb h1
    · exact hm.gp h1
    · by_cases e : s = k
      · subst e
        simp [Jn.put, upd_same] at hs
      · simp only [Jn.put, upd_ne _ _ e] at hs
        exact hm.go s g e hs rfl
  exact ⟨⟨_, _, _, none, rfl, (fun hh => by cases hh), (fun b hb => by cases hb; exact ⟨g, rfl, rfl, rfl, hbk, joined_by (h.ok k) hby, hm.lo, hno, hm.gl⟩), hok, kx, hown⟩, ⟨_, _, _, none, rfl, (fun _ => ⟨rfl, rfl, rfl⟩), (fun b hb => by cases hb), hok, kx, hown⟩⟩
end
end Go.Proofs.YtmphabgpabbbjaaDoor.Fg
