import Derived.Test.YtfbollifegngjaaVo
namespace Go.Proofs.Ytfbollifegngjaa.Dt
open Go.RowKit
set_option linter.unusedVariables false
set_option maxRecDepth 100000
set_option linter.unusedSimpArgs false
section
variable {D D' : De} {w w' W V : World} {B m : Nat}
def stP (i t wr T j : Int) : Pe := ⟨i, t, if j ≤ T then j else T + 1, wr, T, decide (j ≤ T), true⟩
theorem stP_tick (i t wr T j : Int) : (stP i t wr T j).tick = stP i t wr T (j + 1) := by
  unfold stP Pe.tick Pe.older
  by_cases h : j ≤ T
  · by_cases h2 : j + 1 ≤ T
    · simp [h, h2]
    · have : j = T := by omega
      subst this
      simp
  · have h2 : ¬ j + 1 ≤ T := by omega
    simp [h, h2]
theorem stP_hear (i t wr T n step lim x inc : Int) (t2 : Int) (hx : x = inc) (hT : 0 ≤ T) (hm : 0 ≤ min lim (T + step)) : ({ (if i = (stP i t wr T n).known ∧ (stP i t wr T n).heard = false then { stP i t wr T n with wrong := (stP i t wr T n).wrong + 1, ticks := min lim ((stP i t wr T n).ticks + step) } else stP i t wr T n) with known := i, last := t2, age := 0, heard := true, both := decide (x = inc) } : Pe) = stP i t2 (if n ≤ T then wr else wr + 1) (if n ≤ T then T else min lim (T + step)) 0 := by
  subst hx
  unfold stP
  by_cases h : n ≤ T
  · simp [h, hT]
  · simp only [h, decide_false, and_self, if_true, if_false, decide_true]
    rw [if_pos hm, decide_eq_true hm]
theorem hear_se {n s b q : Nat} {inc step lim : Int} {p : Pe} (h : D.Ok w B m) (hm : m + 1 ≤ 4611686018427387904) (hS : Se D n s inc step lim b q p) (hq : q < n) (hs : q ≠ s) (hsn : s < n) (i t x : Int) (hi : 1 ≤ i ∧ i ≤ 4611686018427387904) (ht : 0 ≤ t ∧ t ≤ 4611686018427387904) (hx : 0 ≤ x ∧ x ≤ 4611686018427387904) {g : Nat} (hb : Below w.heap.size w w') (hg : w.heap.size ≤ g) (hk : BlkI w' g (heaI n s x)) (h1 : ¬ i < p.known) (h2 : ¬ (i = p.known ∧ t ≤ p.last)) :
    Calls Try.prog 11 #[.pointer (some ⟨b, 0, none⟩), .int .i64 q, .int .i64 i, .agg #[.int .i64 t, .slice (some ⟨g, 0, none⟩) n n]] w' fun e w2 => e = .returned (.int .i64 0) ∧ ∃ D', Dtep w w2 D D' B (m + 1) ∧ Se D' n s inc step lim b q { (if i = p.known ∧ p.heard = false then { p with wrong := p.wrong + 1, ticks := min lim (p.ticks + step) } else p) with known := i, last := t, age := 0, heard := true, both := decide (x = inc) } := by
  have he : D.herr q i t (heaI n s x) = 0 := by rw [hS.herr hq hs i t x hi ht hx, if_neg h1, if_neg h2]
  have hc := heard_any (c := n) (h.still hb) hm q i t (hk.rd (heaI_len n s x)) (fun g' ⟨o, e⟩ ho => by
    have := h.ltOwn ho
    simp only [Option.some.injEq, Addr.mk.injEq] at e
    omega)
  rw [he] at hc
  rw [← hS.b]
  exact hc.mono fun e w2 ⟨e1, e2⟩ => ⟨e1, _, e2.pre hb, hS.b ▸ hS.after hsn i t x he⟩
def gc (n s inc base step lim q f : Int) (ga : Option Addr) (gn gcap : Nat) : Array Value := #[.int .i64 n, .int .i64 s, .int .i64 inc, .int .i64 base, .int .i64 step, .int .i64 lim, .int .i64 q, .int .i64 f, .slice ga gn gcap]
structure GC (W : World) (k : Nat) (n s inc base step lim q f : Int) (ga : Option Addr) (gn gcap : Nat) : Prop where
  c0 : W.cell? ⟨k, 0, none⟩ = some (.int .i64 n)
  c1 : W.cell? ⟨k, 1, none⟩ = some (.int .i64 s)
  c2 : W.cell? ⟨k, 2, none⟩ = some (.int .i64 inc)
  c3 : W.cell? ⟨k, 3, none⟩ = some (.int .i64 base)
  c4 : W.cell? ⟨k, 4, none⟩ = some (.int .i64 step)
  c5 : W.cell? ⟨k, 5, none⟩ = some (.int .i64 lim)
  c6 : W.cell? ⟨k, 6, none⟩ = some (.int .i64 q)
  c7 : W.cell? ⟨k, 7, none⟩ = some (.int .i64 f)
  c8 : W.cell? ⟨k, 8, none⟩ = some (.slice ga gn gcap)
theorem below_to {k i B : Nat} {v : Value} (hb : Below B W V) (hk : k < B) (hc : W.cell? ⟨k, i, none⟩ = some v) : V.cell? ⟨k, i, none⟩ = some v := (hb.cell hk).trans hc
theorem GC.to {k : Nat} {n s inc base step lim q f : Int} {ga : Option Addr} {gn gcap : Nat} (h : GC W k n s inc base step lim q f ga gn gcap) {B : Nat} (hb : Below B W V) (hk : k < B) : GC V k n s inc base step lim q f ga gn gcap :=
  ⟨below_to hb hk h.c0, below_to hb hk h.c1, below_to hb hk h.c2, below_to hb hk h.c3, below_to hb hk h.c4, below_to hb hk h.c5, below_to hb hk h.c6, below_to hb hk h.c7, below_to hb hk h.c8⟩

end
end Go.Proofs.Ytfbollifegngjaa.Dt
