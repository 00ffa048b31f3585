import Derived.Test.YtbjpbcanmpimnabSm4
import Derived.Deep.RegionHeldLaw
import Derived.Deep.WholeRow
namespace Go.Proofs.Ytbjpbcanmpimnab.Lo
open Go.RowKit Bk
set_option linter.unusedVariables false
set_option linter.unusedSimpArgs false

theorem info_int : (Try.prog.info? 3).map (fun i => (i.zero, i.size, i.bytes)) = some (some (.int .i64 0), 1, 8) := by kernel_rfl
theorem info_slot : (Try.prog.info? 26).map (fun i => (i.zero, i.size, i.bytes)) = some (some (.agg #[.int .i64 0, .int .i64 0]), 2, 16) := by kernel_rfl

def Pk.zero : Pk := ⟨0, 0, 0, 0, 0, 0, none, 0, 0, none, 0, 0, 0, 0, 0, 0, 0, 0, 0, none, 0, 0, 0, 0, 0, 0, 0, none, 0, 0, none, 0, 0, 0, 0, 0, 0, 0, 0, 0, 0, 0, 0, 0, none, 0, 0, 0, 0, 0, 0, 0, 0, 0, 0, 0, none, 0, 0⟩

structure T3 (w W : World) (P R Q : Pk) : Prop where
  p : W.heap[w.heap.size]? = some (.cells P.cs 72 (0, 0))
  r : W.heap[w.heap.size + 1]? = some (.cells R.cs 72 (0, 0))
  q : W.heap[w.heap.size + 1 + 1]? = some (.cells Q.cs 72 (0, 0))
  l : Below w.heap.size w W

theorem T3.still {w W W' : World} {P R Q : Pk} (h : T3 w W P R Q) (hb : Below W.heap.size W W') : T3 w W' P R Q :=
  ⟨(hb.block _ (lt_heap h.p)).trans h.p, (hb.block _ (lt_heap h.r)).trans h.r, (hb.block _ (lt_heap h.q)).trans h.q, bstep h.l hb⟩
theorem T3.cp {w W : World} {P R Q : Pk} {v : Value} (h : T3 w W P R Q) (i : Nat) (hv : P.cs[i]? = some v) : W.cell? ⟨w.heap.size, i, none⟩ = some v := (blk_cell h.p i).trans hv
theorem T3.cq {w W : World} {P R Q : Pk} {v : Value} (h : T3 w W P R Q) (i : Nat) (hv : Q.cs[i]? = some v) : W.cell? ⟨w.heap.size + 1 + 1, i, none⟩ = some v := (blk_cell h.q i).trans hv
theorem T3.fq {w W : World} {P R Q : Pk} (h : T3 w W P R Q) (i : Nat) : W.frozen? ⟨w.heap.size + 1 + 1, i, none⟩ = false := frozen_of_row W _ i _ _ h.q
theorem T3.set {w W : World} {P R Q Q' : Pk} (h : T3 w W P R Q) (i : Nat) (v : Value) (hQ : Q.cs.setIfInBounds i v = Q'.cs) : T3 w (W.setCell ⟨w.heap.size + 1 + 1, i, none⟩ v) P R Q' :=
  ⟨(Below.heap_setCell W ⟨w.heap.size + 1 + 1, i, none⟩ v w.heap.size (by show ¬ w.heap.size = w.heap.size + 1 + 1; omega)).trans h.p, (Below.heap_setCell W ⟨w.heap.size + 1 + 1, i, none⟩ v (w.heap.size + 1) (by show ¬ w.heap.size + 1 = w.heap.size + 1 + 1; omega)).trans h.r, hQ ▸ heap_setCell_same W (w.heap.size + 1 + 1) i Q.cs 72 v h.q, bset h.l (by omega) i v⟩

def RowL (w W : World) (L : List (TypeId × Nat × Value × Nat × List Value)) : Prop := ∀ r ∈ L, W.ownsRow (w.heap.size + 1 + 1 + 1) r.1 r.2.1 r.2.2.1 r.2.2.2.1 r.2.2.2.2
theorem RowL.nil (w W : World) : RowL w W [] := fun r h => by cases h
theorem RowL.still {w W W' : World} {L : List (TypeId × Nat × Value × Nat × List Value)} (h : RowL w W L) (hb : Below W.heap.size W W') : RowL w W' L := fun r hr => (Kept.ofBelow hb (fun _ => False)).owns (h r hr) (fun _ _ => id)
theorem RowL.set {w W : World} {L : List (TypeId × Nat × Value × Nat × List Value)} (h : RowL w W L) (i : Nat) (v : Value) : RowL w (W.setCell ⟨w.heap.size + 1 + 1, i, none⟩ v) L := fun r hr =>
  (kset (P := fun j => j = w.heap.size + 1 + 1) W (w.heap.size + 1 + 1) i v rfl).owns (h r hr) (fun k hk e => by have := (World.ownsRow.lt (h r hr) k hk).1; omega)
theorem RowL.cons {w W : World} {L : List (TypeId × Nat × Value × Nat × List Value)} {r : TypeId × Nat × Value × Nat × List Value} (h : RowL w W L) (hr : W.ownsRow (w.heap.size + 1 + 1 + 1) r.1 r.2.1 r.2.2.1 r.2.2.2.1 r.2.2.2.2) : RowL w W (r :: L) := by
  intro x hx
  rcases List.mem_cons.1 hx with rfl | hx
  · exact hr
  · exact h x hx

theorem pk_one (P : Pk) : P.cs.all (·.oneCell') = true := by simp [Pk.cs, Value.oneCell']
theorem T3.first (w : World) (P : Pk) : T3 w (((w.alloc (.cells P.cs 72)).alloc (.cells Pk.zero.cs 72)).alloc (.cells P.cs 72)) P Pk.zero P := by
  have h1 := heap_alloc_new (w.alloc (.cells P.cs 72)) (.cells Pk.zero.cs 72)
  have h2 := heap_alloc_new ((w.alloc (.cells P.cs 72)).alloc (.cells Pk.zero.cs 72)) (.cells P.cs 72)
  simp only [World.size_alloc] at h1 h2
  exact ⟨blk_alloc (blk_alloc (heap_alloc_new w _)), blk_alloc h1, h2, balloc (balloc (balloc (Below.refl _ _)))⟩

theorem store_first {ops : Array Oper} {rest : List Oper} {o : Oper} {a : Act} {Q : Exit → Act → World → Prop} {w : World} {P : Pk} (hgd : o.guard = none) (x y : Operand) (ho : o.op = .store 72 x y) (hx : a.eval x = .pointer (some ⟨w.heap.size + 1 + 1, 0, none⟩)) (hy : a.eval y = .agg P.cs)
    (h : ∀ W, T3 w W P Pk.zero P → wpList Try.prog ops Q rest (a.put o.dst undef) W) : wpList Try.prog ops Q (o :: rest) a (((w.alloc (.cells P.cs 72)).alloc (.cells Pk.zero.cs 72)).alloc (.cells Pk.zero.cs 72)) := by
  have e : w.heap.size + 1 + 1 = ((w.alloc (.cells P.cs 72)).alloc (.cells Pk.zero.cs 72)).heap.size := by simp only [World.size_alloc]
  rw [e] at hx
  refine wpList_store_row hgd 72 x y ho _ P.cs hx hy 72 Pk.zero.cs (heap_alloc_new _ _) info_pk rfl (pk_one P) ?_
  rw [World.setRow_alloc_new]
  exact h _ (T3.first w P)

theorem copy_append {w W : World} {P R Q : Pk} {L : List (TypeId × Nat × Value × Nat × List Value)} (T : T3 w W P R Q) (HL : RowL w W L) {ops : Array Oper} {rest : List Oper} {o : Oper} {a : Act} {Qp : Exit → Act → World → Prop} (hgd : o.guard = none) (s x : Operand) (t e : TypeId)
    (ho : o.op = .call { callee := .builtin .append, args := #[s, x], argTypes := #[t, t] })
    (i : TypeInfo) (z : Value) (size bytes : Nat) (ht : Try.prog.underlying t = some (.slice e)) (hi : Try.prog.info? e = some i) (hz : i.zero = some z)
    (hsize : i.size = size) (hby : i.bytes = bytes) (hzs : z.cells.size = size) (hsz : 0 < size)
    (hs : a.eval s = .slice (some ⟨W.heap.size, 0, none⟩) 0 0)
    (ao : Option Addr) (m c : Nat) (news : List Value) (hx : a.eval x = .slice ao m c) (hnone : ao = none → m = 0 ∧ c = 0) (hl : news.length = m * size) (hnews : ∀ ad, ao = some ad → ∀ j u, news[j]? = some u → w.cell? (ad.add j) = some u) (h1 : ∀ u ∈ news, u.oneCell' = true)
    (h63 : m ≤ maxLen) (hbytes : m * bytes ≤ 140737488355328)
    (h : ∀ (a1 : Option Addr) (c1 : Nat) (w2 : World), T3 w w2 P R Q → RowL w w2 ((e, size, .slice a1 m c1, m, news) :: L) → wpList Try.prog ops Qp rest (a.put o.dst (.slice a1 m c1)) w2) :
    wpList Try.prog ops Qp (o :: rest) a (W.alloc (.cells #[] e)) := by
  have hq := lt_heap T.q
  have hown : (W.alloc (.cells #[] e)).ownsRow (w.heap.size + 1 + 1 + 1) e size (.slice (some ⟨W.heap.size, 0, none⟩) 0 0) 0 [] := World.ownsRow_made W #[] 0 (by omega) (Nat.zero_le _) (by simp)
  have hbW : Below W.heap.size W (W.alloc (.cells #[] e)) := (Below.refl _ _).alloc (Nat.le_refl _) _
  cases ao with
  | some ad =>
    refine wpList_append_own _ hgd s x t ho (w.heap.size + 1 + 1 + 1) e i z size bytes ht hi hz hsize hby hzs hsz _ 0 [] hs hown ad m c news hx hl (fun j u hu => ?_) h1 (by omega) (by simpa using hbytes) (by simp; omega) fun v' w' h2 h3 _ => ?_
    · have hc := hnews ad rfl j u hu
      have hlt := World.block_lt_of_cell? w _ hc
      exact ((T.l.alloc T.l.size _).cell hlt).trans hc
    · simp only [Nat.zero_add, List.nil_append] at h2
      have hb2 : Below W.heap.size W w' := hbW.grown h3 (by simp) (fun k hk => by simp [Value.ownBlock] at hk; omega)
      obtain ⟨a1, c1, rfl⟩ : ∃ a1 c1, v' = Value.slice a1 m c1 := by
        rcases h2.2 with ⟨h3, h4⟩ | ⟨g, cap, cur, hv, _⟩
        · exact ⟨none, 0, by rw [h4]; exact h3⟩
        · exact ⟨_, _, hv⟩
      exact h a1 c1 w' (T.still hb2) ((HL.still hb2).cons h2)
  | none =>
    obtain ⟨rfl, rfl⟩ := hnone rfl
    obtain rfl : news = [] := List.eq_nil_of_length_eq_zero (by omega)
    exact wpList_append_own_none hgd s x t ho _ e i size ht hi _ 0 [] hs hown hx (h _ _ _ (T.still hbW) ((HL.still hbW).cons hown))

def slotCells (sl : List (Int × Int)) : List Value := sl.flatMap fun p => [.int .i64 p.1, .int .i64 p.2]
theorem slotCells_len (sl : List (Int × Int)) : (slotCells sl).length = sl.length * 2 := by
  induction sl with
  | nil => rfl
  | cons p sl ih => simp [slotCells] at ih ⊢; omega
theorem slotCells_one (sl : List (Int × Int)) : ∀ u ∈ slotCells sl, u.oneCell' = true := by
  intro u hu
  simp only [slotCells, List.mem_flatMap] at hu
  obtain ⟨p, _, hp⟩ := hu
  simp at hp
  rcases hp with rfl | rfl <;> rfl
theorem slotCells_get (sl : List (Int × Int)) (i : Nat) (hi : i < sl.length) : (slotCells sl)[i * 2]? = some (.int .i64 (sl.getD i (0, 0)).1) ∧ (slotCells sl)[i * 2 + 1]? = some (.int .i64 (sl.getD i (0, 0)).2) := by
  induction sl generalizing i with
  | nil => simp at hi
  | cons p sl ih =>
    cases i with
    | zero => simp [slotCells]
    | succ i =>
      have := ih i (by simpa using hi)
      simp only [slotCells, List.flatMap_cons, List.cons_append, List.nil_append, List.getD_cons_succ] at this ⊢
      rw [show (i + 1) * 2 = i * 2 + 1 + 1 by omega]
      simpa using this

theorem ints_one (xs : List Int) : ∀ u ∈ xs.map (Value.int .i64), u.oneCell' = true := by
  intro u hu
  obtain ⟨_, _, rfl⟩ := List.mem_map.1 hu
  rfl
theorem Ri.cellsW {w : World} {ao : Option Addr} {len : Nat} {bs : List Int} (h : Ri w ao len bs) (a : Addr) (ha : ao = some a) : ∀ j v, (bs.map (Value.int .i64))[j]? = some v → w.cell? (a.add j) = some v := by
  intro j v hv
  obtain ⟨hl, hc⟩ := h
  have hj : j < len := by have := (List.getElem?_eq_some_iff.1 hv).1; simpa [hl] using this
  rcases hc with h | ⟨b, off, hao, hc⟩
  · omega
  · rw [ha] at hao
    obtain rfl := Option.some.inj hao
    rw [Addr.add_lit, hc j hj]
    have e : (bs.map (Value.int .i64))[j]? = some (.int .i64 (bs.getD j 0)) := by simp [List.getD, show j < bs.length by omega]
    rw [e] at hv
    exact hv
theorem Rs.cellsW {w : World} {ao : Option Addr} {len : Nat} {sl : List (Int × Int)} (h : Rs w ao len sl) (a : Addr) (ha : ao = some a) : ∀ j v, (slotCells sl)[j]? = some v → w.cell? (a.add j) = some v := by
  intro j v hv
  obtain ⟨hl, hc⟩ := h
  have hj : j < len * 2 := by have := (List.getElem?_eq_some_iff.1 hv).1; rw [slotCells_len, hl] at this; exact this
  rcases hc with h | ⟨b, off, hao, hc⟩
  · omega
  · rw [ha] at hao
    obtain rfl := Option.some.inj hao
    rw [Addr.add_lit]
    have hk : j / 2 < sl.length := by omega
    have h1 := slotCells_get sl (j / 2) hk
    have h2 := hc (j / 2) (by omega)
    rcases (by omega : j = j / 2 * 2 ∨ j = j / 2 * 2 + 1) with e | e
    · rw [e] at hv ⊢
      rw [h1.1] at hv
      rw [h2.1]
      exact hv
    · rw [e] at hv ⊢
      rw [h1.2] at hv
      rw [← Nat.add_assoc, h2.2]
      exact hv

structure Pn (P : Pk) : Prop where
  h : P.hA = none → P.hN = 0 ∧ P.hC = 0
  ps : P.psA = none → P.psN = 0 ∧ P.psC = 0
  pv : P.pvA = none → P.pvN = 0 ∧ P.pvC = 0
  fs : P.fsA = none → P.fsN = 0 ∧ P.fsC = 0
  fh : P.fhA = none → P.fhN = 0 ∧ P.fhC = 0
  lh : P.hN * 8 ≤ 140737488351232
  lps : P.psN * 8 ≤ 140737488351232
  lpv : P.pvN * 8 ≤ 140737488351232
  lfs : P.fsN * 16 ≤ 140737488351232
  lfh : P.fhN * 8 ≤ 140737488351232
  ltb : P.tbN ≤ 140737488351232
  lwm : P.wmN * 48 ≤ 140737488351232

end Go.Proofs.Ytbjpbcanmpimnab.Lo
