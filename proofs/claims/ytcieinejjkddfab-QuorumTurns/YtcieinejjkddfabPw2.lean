import Derived.Test.YtcieinejjkddfabPt2
namespace Go.Proofs.Ytcieinejjkddfab.Qm
open Go.RowKit Mb
set_option linter.unusedVariables false
set_option maxRecDepth 100000
set_option linter.unusedSimpArgs false
section
variable {w w' : World} {B : Nat} {A A1 A2 A' : Wa} {R R1 R2 R' : Rq} {v : Vw} {s : Nat}
theorem Rq.Ok.keepC {P : Nat → Prop} (h : R.Ok w B) (k : Kept w w' P) (h1 : ¬ P R.b) (h2 : ∀ g cur, w.heap[g]? = some (.cells cur 3 (0, 0)) → ¬ P g) (h3 : ∀ g, (Value.slice R.wo R.es.length R.wc).ownBlock = some g → ¬ P g) (h4 : ∀ g cur, w.heap[g]? = some (.cells cur 115 (0, 0)) → ¬ P g) : R.Ok w' B :=
  ⟨k.obj h.blk h1, h.bB, own_keepT h.vot k h2, h.ok, k.owns h.row h3, fun e he => ⟨own_keepT (h.mem e he).1 k h4, (h.mem e he).2⟩⟩
structure Two (A1 : Wa) (R1 : Rq) (A2 : Wa) (R2 : Rq) (w : World) (B : Nat) : Prop where
  p1 : Pr A1 R1 w B
  p2 : Pr A2 R2 w B
  ab : A1.b ≠ A2.b
  rb : R1.b ≠ R2.b
  rw : ∀ g, (Value.slice R1.wo R1.es.length R1.wc).ownBlock = some g → ¬ (Value.slice R2.wo R2.es.length R2.wc).ownBlock = some g
theorem Two.symm (h : Two A1 R1 A2 R2 w B) : Two A2 R2 A1 R1 w B := ⟨h.p2, h.p1, fun e => h.ab e.symm, fun e => h.rb e.symm, fun g h1 h2 => h.rw g h2 h1⟩
theorem Two.still (h : Two A1 R1 A2 R2 w B) (hb : Below w.heap.size w w') : Two A1 R1 A2 R2 w' B := ⟨h.p1.still hb, h.p2.still hb, h.ab, h.rb, h.rw⟩
theorem Two.step (h : Two A1 R1 A2 R2 w B) (hA : A'.b = A1.b) (hR : R'.b = R1.b) (hP : Pr A' R' w' B) (hrw : ∀ g, (Value.slice R'.wo R'.es.length R'.wc).ownBlock = some g → some g = (Value.slice R1.wo R1.es.length R1.wc).ownBlock ∨ w.heap.size ≤ g) (hk : Kept w w' (fun j => j = A1.b ∨ j = R1.b ∨ some j = (Value.slice R1.wo R1.es.length R1.wc).ownBlock)) : Two A' R' A2 R2 w' B := by
  have hty : ∀ (t g : Nat) (cur : Array Value), t ≠ 106 → t ≠ 109 → t ≠ 52 → w.heap[g]? = some (.cells cur t (0, 0)) → ¬ (g = A1.b ∨ g = R1.b ∨ some g = (Value.slice R1.wo R1.es.length R1.wc).ownBlock) := fun t g cur h1 h2 h3 hg e => by
    rcases e with e | e | e
    · exact ty_ne hg h.p1.a.blk h1 e
    · exact ty_ne hg h.p1.r.blk h2 e
    · obtain ⟨c2, hc⟩ := own_type h.p1.r.row e.symm
      exact ty_ne hg hc h3 rfl
  refine ⟨hP, ⟨h.p2.a.keep hk ?_, h.p2.ab, h.p2.r.keepC hk ?_ (fun g cur hg => hty _ g cur (by decide) (by decide) (by decide) hg) ?_ (fun g cur hg => hty _ g cur (by decide) (by decide) (by decide) hg), h.p2.s⟩, by rw [hA]; exact h.ab, by rw [hR]; exact h.rb, ?_⟩
  · rintro (e | e | e)
    · exact h.ab e.symm
    · exact ty_ne h.p2.a.blk h.p1.r.blk (by decide) e
    · obtain ⟨c2, hc⟩ := own_type h.p1.r.row e.symm
      exact ty_ne h.p2.a.blk hc (by decide) rfl
  · rintro (e | e | e)
    · exact ty_ne h.p2.r.blk h.p1.a.blk (by decide) e
    · exact h.rb e.symm
    · obtain ⟨c2, hc⟩ := own_type h.p1.r.row e.symm
      exact ty_ne h.p2.r.blk hc (by decide) rfl
  · intro g hg e
    obtain ⟨cur, hc⟩ := own_type h.p2.r.row hg
    rcases e with e | e | e
    · exact ty_ne hc h.p1.a.blk (by decide) e
    · exact ty_ne hc h.p1.r.blk (by decide) e
    · exact h.rw g e.symm hg
  · intro g h1 h2
    rcases hrw g h1 with e | e
    · exact h.rw g e.symm h2
    · have := (World.ownsRow.lt h.p2.r.row g h2).2
      omega
def St2 (b1 r1 b2 r2 B k1 k2 : Nat) (w : World) : Prop := ∃ (A1 : Wa) (R1 : Rq) (A2 : Wa) (R2 : Rq), A1.b = b1 ∧ R1.b = r1 ∧ A2.b = b2 ∧ R2.b = r2 ∧ Two A1 R1 A2 R2 w B ∧ R1.es.length ≤ k1 ∧ R2.es.length ≤ k2
variable {b1 r1 b2 r2 k1 k2 : Nat}
theorem St2.still (h : St2 b1 r1 b2 r2 B k1 k2 w) (hb : Below w.heap.size w w') : St2 b1 r1 b2 r2 B k1 k2 w' := by
  obtain ⟨A1, R1, A2, R2, e1, e2, e3, e4, ht, l1, l2⟩ := h
  exact ⟨A1, R1, A2, R2, e1, e2, e3, e4, ht.still hb, l1, l2⟩
theorem St2.up {j1 j2 : Nat} (h : St2 b1 r1 b2 r2 B k1 k2 w) (h1 : k1 ≤ j1) (h2 : k2 ≤ j2) : St2 b1 r1 b2 r2 B j1 j2 w := by
  obtain ⟨A1, R1, A2, R2, e1, e2, e3, e4, ht, l1, l2⟩ := h
  exact ⟨A1, R1, A2, R2, e1, e2, e3, e4, ht, by omega, by omega⟩
theorem St2.symm (h : St2 b1 r1 b2 r2 B k1 k2 w) : St2 b2 r2 b1 r1 B k2 k1 w := by
  obtain ⟨A1, R1, A2, R2, e1, e2, e3, e4, ht, l1, l2⟩ := h
  exact ⟨A2, R2, A1, R1, e3, e4, e1, e2, ht.symm, l2, l1⟩
theorem St2.asks (h : St2 b1 r1 b2 r2 B k1 k2 w) (hk : k1 ≤ 2300000000000) (j : Int) : Calls Try.prog 22 #[.pointer (some ⟨b1, 0, none⟩), .pointer (some ⟨r1, 0, none⟩), .int .i64 j] w fun e w' => e = .returned (.bool true) ∧ Below w.heap.size w w' := by
  obtain ⟨A1, R1, A2, R2, rfl, rfl, rfl, rfl, ht, l1, l2⟩ := h
  exact asks_any ht.p1.a ht.p1.r ht.p1.s (by omega) j
theorem St2.go (h : St2 b1 r1 b2 r2 B k1 k2 w) (hBw : B ≤ w.heap.size) (hk : k1 ≤ 2299999999999) (o : Ow) (hr : Rd3 w o.mo o.mn o.mc o.v.ms) (hm : o.mn ≤ 5864062014634) (hmb : o.mn ≠ 0 → ∀ b off, o.mo = some ⟨b, off, none⟩ → b < B) : Calls Try.prog 21 #[.pointer (some ⟨b1, 0, none⟩), .pointer (some ⟨r1, 0, none⟩), .agg #[.int .i64 o.k, .int .i64 o.v.ep, .int .i64 o.v.ld, .int .i64 o.v.ic, .int .i64 o.v.cd, .slice o.mo o.mn o.mc]] w fun e w' => e = .returned (.bool true) ∧ St2 b1 r1 b2 r2 B (k1 + 1) k2 w' ∧ Below B w w' := by
  obtain ⟨A1, R1, A2, R2, rfl, rfl, rfl, rfl, ht, l1, l2⟩ := h
  refine (watched1_any (v := o.v) ht.p1 hBw (by omega) o.k hr hm hmb).mono ?_
  rintro e w1 ⟨he, A', R', hA, hR, hP, hl, hb, hrw, hk⟩
  exact ⟨he, ⟨A', R', A2, R2, hA, hR, rfl, rfl, ht.step hA hR hP hrw hk, by omega, l2⟩, hb⟩
end
end Go.Proofs.Ytcieinejjkddfab.Qm
