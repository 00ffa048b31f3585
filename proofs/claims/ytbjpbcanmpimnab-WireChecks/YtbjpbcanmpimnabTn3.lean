import Derived.Test.YtbjpbcanmpimnabTn1
namespace Go.Proofs.Ytbjpbcanmpimnab.Lo
open Go.RowKit Bk
set_option linter.unusedVariables false
set_option linter.unusedSimpArgs false

theorem own_shape {w2 : World} {B B' n : Nat} {v : Value} {bs : List Int} (hn : bs.length = n) (h : Own w2 B v bs) (hB : B' ≤ B) : ∃ a c, v = .slice a n c ∧ w2.ownsRow B' 5 1 (.slice a n c) n (bs.map (Value.int .u8)) := by
  subst hn
  have h' : w2.ownsRow B 5 1 v bs.length (bs.map (Value.int .u8)) := h
  have hm : w2.ownsRow B' 5 1 v bs.length (bs.map (Value.int .u8)) := ⟨h'.1, h'.2.imp id fun ⟨g, cap, cur, e1, e2, e3⟩ => ⟨g, cap, cur, e1, by omega, e3⟩⟩
  rcases h'.2 with ⟨h1, h2⟩ | ⟨g, cap, cur, hv, _⟩
  · subst h1
    rw [h2] at hm
    exact ⟨none, 0, by rw [h2], by rw [h2]; exact hm⟩
  · subst hv
    exact ⟨_, _, rfl, hm⟩

theorem info_data : (Try.prog.info? 24).map (fun i => (i.zero, i.size, i.bytes)) = some (some (.agg #[.int .i64 0, .int .i64 0, .int .i64 0, .slice none 0 0]), 4, 48) := by kernel_rfl

def datCells (es : List Dt) : List Value := es.flatMap fun d => d.cs.toList
theorem datCells_snoc (es : List Dt) (E : Dt) : datCells (es ++ [E]) = datCells es ++ E.cs.toList := by simp [datCells]
theorem datCells_get (es : List Dt) (i : Nat) (hi : i < es.length) : (datCells es)[i * 4]? = some (.int .i64 (es.getD i dt0).s) ∧ (datCells es)[i * 4 + 1]? = some (.int .i64 (es.getD i dt0).q) ∧ (datCells es)[i * 4 + 2]? = some (.int .i64 (es.getD i dt0).st) ∧ (datCells es)[i * 4 + 3]? = some (.slice (es.getD i dt0).a (es.getD i dt0).n (es.getD i dt0).c) := by
  induction es generalizing i with
  | nil => simp at hi
  | cons p es ih =>
    cases i with
    | zero => simp [datCells, Dt.cs]
    | succ i =>
      have := ih i (by simpa using hi)
      simp only [datCells, Dt.cs, List.flatMap_cons, List.cons_append, List.nil_append, List.getD_cons_succ] at this ⊢
      rw [show (i + 1) * 4 = i * 4 + 1 + 1 + 1 + 1 by omega]
      simpa using this

structure TS (w W : World) (P Q : Pk) (L : List (TypeId × Nat × Value × Nat × List Value)) (ds : List Dt) (bb : List (List Int)) (j : Nat) (a : Option Addr) (c : Nat) (es : List Dt) : Prop where
  t : T3 w W P Pk.zero { Q with wmA := a, wmN := j, wmC := c }
  l : RowL w W L
  n : ∀ r ∈ L, r.1 ≠ 24
  o : W.ownsRow (w.heap.size + 1 + 1 + 1) 24 4 (.slice a j c) j (datCells es)
  len : es.length = j
  m : ∀ i, i < j → (es.getD i dt0).s = (ds.getD i dt0).s ∧ (es.getD i dt0).q = (ds.getD i dt0).q ∧ (es.getD i dt0).st = (ds.getD i dt0).st ∧ (es.getD i dt0).n = (ds.getD i dt0).n
  b : ∀ i, i < j → W.ownsRow (w.heap.size + 1 + 1 + 1) 5 1 (.slice (es.getD i dt0).a (es.getD i dt0).n (es.getD i dt0).c) (es.getD i dt0).n ((bb.getD i []).map (Value.int .u8))

theorem own_still {W W' : World} {B e s n : Nat} {v : Value} {l : List Value} (h : W.ownsRow B e s v n l) (hb : Below W.heap.size W W') : W'.ownsRow B e s v n l := (Kept.ofBelow hb (fun _ => False)).owns h (fun _ _ => id)

theorem TS.still {w W W' : World} {P Q : Pk} {L : List (TypeId × Nat × Value × Nat × List Value)} {ds : List Dt} {bb : List (List Int)} {j : Nat} {a : Option Addr} {c : Nat} {es : List Dt} (h : TS w W P Q L ds bb j a c es) (hb : Below W.heap.size W W') : TS w W' P Q L ds bb j a c es :=
  ⟨h.t.still hb, h.l.still hb, h.n, own_still h.o hb, h.len, h.m, fun i hi => own_still (h.b i hi) hb⟩

theorem own_ne {W : World} {B B' s s' n n' : Nat} {t t' : TypeId} {v v' : Value} {l l' : List Value} (h : W.ownsRow B t s v n l) (h' : W.ownsRow B' t' s' v' n' l') (hne : t ≠ t') : ∀ k, v.ownBlock = some k → ¬ some k = v'.ownBlock := by
  intro k hk e
  rcases h.2 with ⟨h1, _⟩ | ⟨g, cap, cur, hv, _, hg, _⟩
  · rw [h1] at hk; simp [Value.ownBlock] at hk
  · rw [hv] at hk
    simp [Value.ownBlock] at hk
    subst hk
    rcases h'.2 with ⟨h1, _⟩ | ⟨g', cap', cur', hv', _, hg', _⟩
    · rw [h1] at e; simp [Value.ownBlock] at e
    · rw [hv'] at e
      simp [Value.ownBlock] at e
      subst e
      rw [hg] at hg'
      simp at hg'
      exact hne hg'.2
theorem blk_ne {W : World} {B s n k : Nat} {t t' : TypeId} {v : Value} {l : List Value} {cs : Array Value} (h : W.ownsRow B t s v n l) (hk : W.heap[k]? = some (.cells cs t' (0, 0))) (hne : t ≠ t') : ¬ some k = v.ownBlock := by
  intro e
  rcases h.2 with ⟨h1, _⟩ | ⟨g, cap, cur, hv, _, hg, _⟩
  · rw [h1] at e; simp [Value.ownBlock] at e
  · rw [hv] at e
    simp [Value.ownBlock] at e
    subst e
    rw [hg] at hk
    simp at hk
    exact hne hk.2

theorem TS.grow {w W W3 : World} {o : Obj} {P Q : Pk} {L : List (TypeId × Nat × Value × Nat × List Value)} {ds : List Dt} {bb : List (List Int)} {j : Nat} {a : Option Addr} {c : Nat} {es : List Dt} (h : TS w W P Q L ds bb j a c es) (hg : (W.alloc o).grownBy W3 (Value.slice a j c).ownBlock) (hl : w.heap.size ≤ W.heap.size) :
    T3 w W3 P Pk.zero { Q with wmA := a, wmN := j, wmC := c } ∧ RowL w W3 L ∧ ∀ i, i < j → W3.ownsRow (w.heap.size + 1 + 1 + 1) 5 1 (.slice (es.getD i dt0).a (es.getD i dt0).n (es.getD i dt0).c) (es.getD i dt0).n ((bb.getD i []).map (Value.int .u8)) := by
  have k0 : Kept W W3 (fun k => some k = (Value.slice a j c).ownBlock) := (Kept.ofBelow ((Below.refl _ _).alloc (Nat.le_refl _) o) _).trans (Kept.ofGrown hg)
  refine ⟨⟨?_, ?_, ?_, ?_⟩, ?_, ?_⟩
  · exact (k0.block _ (lt_heap h.t.p) (blk_ne h.o h.t.p (by decide))).trans h.t.p
  · exact (k0.block _ (lt_heap h.t.r) (blk_ne h.o h.t.r (by decide))).trans h.t.r
  · exact (k0.block _ (lt_heap h.t.q) (blk_ne h.o h.t.q (by decide))).trans h.t.q
  · refine h.t.l.trans (k0.below hl fun k hk e => ?_)
    have := (World.ownsRow.lt h.o k e.symm).1
    omega
  · exact fun r hr => k0.owns (h.l r hr) (own_ne (h.l r hr) h.o (h.n r hr))
  · exact fun i hi => k0.owns (h.b i hi) (own_ne (h.b i hi) h.o (by decide))

theorem own_setK {W : World} {B e s n k i : Nat} {v u : Value} {l : List Value} (h : W.ownsRow B e s v n l) (hk : k < B) : (W.setCell ⟨k, i, none⟩ u).ownsRow B e s v n l :=
  (kset (P := fun j => j = k) W k i u rfl).owns h (fun q hq e => by have := (World.ownsRow.lt h q hq).1; omega)

theorem getD_snoc (es : List Dt) (E : Dt) (i : Nat) : (i < es.length → (es ++ [E]).getD i dt0 = es.getD i dt0) ∧ (i = es.length → (es ++ [E]).getD i dt0 = E) := by
  constructor
  · intro h; simp [List.getD, List.getElem?_append, h]
  · intro h; subst h; simp [List.getD]

theorem TS.next {w W W3 : World} {o : Obj} {P Q : Pk} {L : List (TypeId × Nat × Value × Nat × List Value)} {ds : List Dt} {bb : List (List Int)} {j : Nat} {a : Option Addr} {c : Nat} {es : List Dt} (h : TS w W P Q L ds bb j a c es) (hl : w.heap.size ≤ W.heap.size) (E : Dt) (a3 : Option Addr) (c3 : Nat)
    (hg : (W.alloc o).grownBy W3 (Value.slice a j c).ownBlock) (ho : W3.ownsRow (w.heap.size + 1 + 1 + 1) 24 4 (.slice a3 (j + 1) c3) (j + 1) (datCells es ++ E.cs.toList))
    (hE : E.s = (ds.getD j dt0).s ∧ E.q = (ds.getD j dt0).q ∧ E.st = (ds.getD j dt0).st ∧ E.n = (ds.getD j dt0).n) (hb : W.ownsRow (w.heap.size + 1 + 1 + 1) 5 1 (.slice E.a E.n E.c) E.n ((bb.getD j []).map (Value.int .u8))) :
    TS w (W3.setCell ⟨w.heap.size + 1 + 1, 44, none⟩ (.slice a3 (j + 1) c3)) P Q L ds bb (j + 1) a3 c3 (es ++ [E]) := by
  obtain ⟨g1, g2, g3⟩ := h.grow hg hl
  have k0 : Kept W W3 (fun k => some k = (Value.slice a j c).ownBlock) := (Kept.ofBelow ((Below.refl _ _).alloc (Nat.le_refl _) o) _).trans (Kept.ofGrown hg)
  have hbE : W3.ownsRow (w.heap.size + 1 + 1 + 1) 5 1 (.slice E.a E.n E.c) E.n ((bb.getD j []).map (Value.int .u8)) := k0.owns hb (own_ne hb h.o (by decide))
  refine ⟨g1.set 44 _ rfl, g2.set 44 _, h.n, ?_, by simp [h.len], ?_, ?_⟩
  · rw [datCells_snoc]
    exact own_setK ho (by omega)
  · intro i hi
    by_cases hij : i < j
    · rw [(getD_snoc es E i).1 (by rw [h.len]; exact hij)]
      exact h.m i hij
    · obtain rfl : i = j := by omega
      rw [(getD_snoc es E i).2 h.len.symm]
      exact hE
  · intro i hi
    by_cases hij : i < j
    · rw [(getD_snoc es E i).1 (by rw [h.len]; exact hij)]
      exact own_setK (g3 i hij) (by omega)
    · obtain rfl : i = j := by omega
      rw [(getD_snoc es E i).2 h.len.symm]
      exact own_setK hbE (by omega)

end Go.Proofs.Ytbjpbcanmpimnab.Lo
