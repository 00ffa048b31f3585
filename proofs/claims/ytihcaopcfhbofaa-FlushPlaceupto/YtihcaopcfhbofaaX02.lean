import Derived.Test.YtihcaopcfhbofaaRows
import Derived.WalkKit
import Derived.WalkLawsBesides
import Derived.WalkSpells
import Derived.Outline
import Derived.Below
import Derived.BigQuiet
import Derived.Deep.QuietTactic
import Derived.Deep.RegionHeld3
import Derived.Deep.RegionHeldLaw
import Derived.Deep.AppendLies
import Derived.Deep.MidRow
import Derived.ArgAppend
import Derived.Laws.OwnMore
import Derived.Laws.AppendOwnNone
import Derived.Laws.CopyOwn
import Derived.Laws.StructEq
namespace Go.Proofs.Ytihcaopcfhbofaa.Mb
open Go.RowKit
set_option linter.unusedVariables false
set_option maxRecDepth 100000
set_option linter.unusedSimpArgs false
theorem sA9 {α : Type _} (l : List α) (i : Nat) (x : α) : l.toArray.setIfInBounds i x = (l.set i x).toArray := List.setIfInBounds_toArray l i x
theorem sZ9 {α : Type _} (a b : α) (l : List α) : (a :: l).set 0 b = b :: l := List.set_cons_zero
theorem sC9 {α : Type _} (a b : α) (n : Nat) (l : List α) : (a :: l).set (n + 1) b = a :: l.set n b := List.set_cons_succ
theorem gA9 {α : Type _} {xs : List α} {i : Nat} (h : i < xs.toArray.size) : xs.toArray[i] = xs[i]'(by simpa using h) := List.getElem_toArray h
theorem gZ9 {α : Type _} {a : α} {l : List α} (h : 0 < (a :: l).length) : (a :: l)[0] = a := rfl
theorem gC9 {α : Type _} {a : α} {l : List α} {i : Nat} (h : i + 1 < (a :: l).length) : (a :: l)[i + 1] = l[i]'(Nat.lt_of_succ_lt_succ h) := rfl
structure Kept (w w' : World) (P : Nat → Prop) : Prop where
  os : w'.os = w.os
  tape : w'.tape = w.tape
  output : w'.output = w.output
  size : w.heap.size ≤ w'.heap.size
  block : ∀ k, k < w.heap.size → ¬ P k → w'.heap[k]? = w.heap[k]?
theorem Kept.refl (w : World) (P : Nat → Prop) : Kept w w P := ⟨rfl, rfl, rfl, Nat.le_refl _, fun _ _ _ => rfl⟩
theorem Kept.trans {a b c : World} {P : Nat → Prop} (h : Kept a b P) (k : Kept b c P) : Kept a c P :=
  ⟨k.os.trans h.os, k.tape.trans h.tape, k.output.trans h.output, Nat.le_trans h.size k.size, fun i hi hp => (k.block i (Nat.lt_of_lt_of_le hi h.size) hp).trans (h.block i hi hp)⟩
theorem Kept.mono {a b : World} {P Q : Nat → Prop} (h : Kept a b P) (hq : ∀ k, k < a.heap.size → P k → Q k) : Kept a b Q :=
  ⟨h.os, h.tape, h.output, h.size, fun i hi hp => h.block i hi (fun hP => hp (hq i hi hP))⟩
theorem Kept.ofGrown {a b : World} {r : Option Nat} (h : a.grownBy b r) : Kept a b (fun k => some k = r) := ⟨h.os, h.tape, h.output, h.size, fun i hi hp => h.block i hi hp⟩
theorem Kept.ofBelow {a b : World} (h : Below a.heap.size a b) (P : Nat → Prop) : Kept a b P := ⟨h.os, h.tape, h.output, h.size, fun i hi _ => h.block i hi⟩
theorem Kept.below {a b : World} {P : Nat → Prop} {B : Nat} (h : Kept a b P) (hB : B ≤ a.heap.size) (hp : ∀ k, k < B → ¬ P k) : Below B a b := ⟨h.os, h.tape, h.output, h.size, fun i hi => h.block i (by omega) (hp i hi)⟩
theorem Kept.owns {a b : World} {P : Nat → Prop} {base e size n : Nat} {v : Value} {xs : List Value} (h : Kept a b P) (ho : a.ownsRow base e size v n xs) (hp : ∀ k, v.ownBlock = some k → ¬ P k) : b.ownsRow base e size v n xs := by
  refine ⟨ho.1, ?_⟩
  have hlt := ho.lt
  rcases ho.2 with h1 | ⟨g, cap, cur, hv, hg, hh, hr⟩
  · exact .inl h1
  · subst hv
    exact .inr ⟨g, cap, cur, rfl, hg, (h.block g (hlt g rfl).2 (hp g rfl)).trans hh, hr⟩
theorem lt_heap {w : World} {k : Nat} {o : Obj} (h : w.heap[k]? = some o) : k < w.heap.size := by
  rcases Array.getElem?_eq_some_iff.1 h with ⟨h, _⟩; exact h
theorem Kept.obj {a b : World} {P : Nat → Prop} {k : Nat} {o : Obj} (h : Kept a b P) (ho : a.heap[k]? = some o) (hp : ¬ P k) : b.heap[k]? = some o := (h.block k (lt_heap ho) hp).trans ho
theorem kset {P : Nat → Prop} (w : World) (k i : Nat) (v : Value) (hp : P k) : Kept w (w.setCell ⟨k, i, none⟩ v) P :=
  ⟨rfl, rfl, rfl, by simp, fun j hj hq => Below.heap_setCell w ⟨k, i, none⟩ v j (fun e => hq (by cases e; exact hp))⟩
theorem bstep {w0 w w' : World} (h : Below w0.heap.size w0 w) (hb : Below w.heap.size w w') : Below w0.heap.size w0 w' := h.trans (hb.mono h.size)
theorem balloc {w0 w : World} {o : Obj} (h : Below w0.heap.size w0 w) : Below w0.heap.size w0 (w.alloc o) := h.alloc h.size o
theorem bset {w w1 : World} {k : Nat} (h : Below w.heap.size w w1) (hk : w.heap.size ≤ k) (i : Nat) (v : Value) : Below w.heap.size w (w1.setCell ⟨k, i, none⟩ v) :=
  ⟨h.os, h.tape, h.output, by simpa using h.size, fun j hj => (Below.heap_setCell w1 ⟨k, i, none⟩ v j (by show ¬ j = k; omega)).trans (h.block j hj)⟩
theorem blk_cell {W : World} {cs : Array Value} {t : TypeId} {kb : Nat} (h : W.heap[kb]? = some (.cells cs t (0, 0))) (i : Nat) : W.cell? ⟨kb, i, none⟩ = cs[i]? := cell_of_row W kb i cs t (0, 0) h
theorem blk_alloc {W : World} {cs : Array Value} {t : TypeId} {kb : Nat} {o : Obj} (h : W.heap[kb]? = some (.cells cs t (0, 0))) : (W.alloc o).heap[kb]? = some (.cells cs t (0, 0)) :=
  (((Below.refl _ _).alloc (Nat.le_refl _) o).block _ (lt_heap h)).trans h
theorem blk_set {w : World} {t : TypeId} {k i : Nat} {cs cs' : Array Value} {v : Value} (h : w.heap[k]? = some (.cells cs t (0, 0))) (e : cs.setIfInBounds i v = cs') : (w.setCell ⟨k, i, none⟩ v).heap[k]? = some (.cells cs' t (0, 0)) := e ▸ heap_setCell_same w k i cs t v h
theorem blk_set_ne {w : World} {t : TypeId} {k k' i : Nat} {cs : Array Value} {v : Value} (h : w.heap[k]? = some (.cells cs t (0, 0))) (e : k ≠ k') : (w.setCell ⟨k', i, none⟩ v).heap[k]? = some (.cells cs t (0, 0)) := (Below.heap_setCell w ⟨k', i, none⟩ v k e).trans h
theorem own_still {W W' : World} {B e s n : Nat} {v : Value} {l : List Value} (h : W.ownsRow B e s v n l) (hb : Below W.heap.size W W') : W'.ownsRow B e s v n l := (Kept.ofBelow hb (fun _ => False)).owns h (fun _ _ => id)
theorem own_lower {w : World} {B B' t s n : Nat} {v : Value} {l : List Value} (h : w.ownsRow B t s v n l) (hB : B' ≤ B) : w.ownsRow B' t s v n l :=
  ⟨h.1, h.2.elim (fun hh => .inl hh) (fun ⟨g, cap, cur, e1, e2, e3⟩ => .inr ⟨g, cap, cur, e1, by omega, e3⟩)⟩
theorem below_at {w w' : World} {k i : Nat} {v : Value} (hb : Below w.heap.size w w') (hc : w.cell? ⟨k, i, none⟩ = some v) : w'.cell? ⟨k, i, none⟩ = some v := (hb.cell (World.block_lt_of_cell? w _ hc)).trans hc
theorem wrap_id {a : Int} (h0 : -9223372036854775808 ≤ a) (h1 : a ≤ 9223372036854775807) : IntKind.i64.wrap a = a := by
  rw [IntKind.wrap_i64]; omega
def ints (xs : List Int) : List Value := xs.map (Value.int .i64)
theorem ints_len (xs : List Int) : (ints xs).length = xs.length := by simp [ints]
theorem ints_one (xs : List Int) : ∀ u ∈ ints xs, u.oneCell' = true := by
  intro u hu
  obtain ⟨_, _, rfl⟩ := List.mem_map.1 hu
  rfl
theorem ints_at (xs : List Int) (i : Nat) (h : i < xs.length) : (ints xs)[i]? = some (.int .i64 (xs.getD i 0)) := by simp [ints, List.getD, h]
section
variable {w w' : World} {b t n o : Nat}
def Fb (w : World) (b t n : Nat) (f : Nat → Value) : Prop := ∃ C : Array Value, w.heap[b]? = some (.cells C t (0, 0)) ∧ C.size = n ∧ ∀ i, i < n → C[i]? = some (f i)
theorem Fb.cell {f : Nat → Value} (h : Fb w b t n f) (i : Nat) (hi : i < n) : w.cell? ⟨b, i, none⟩ = some (f i) := by
  obtain ⟨C, h1, h2, h3⟩ := h
  exact (blk_cell h1 i).trans (h3 i hi)
theorem Fb.fz {f : Nat → Value} (h : Fb w b t n f) (i : Nat) : w.frozen? ⟨b, i, none⟩ = false := by
  obtain ⟨C, h1, _⟩ := h
  exact frozen_of_row w _ i _ _ h1
theorem Fb.congr {f g : Nat → Value} (h : Fb w b t n f) (e : ∀ i, i < n → f i = g i) : Fb w b t n g := by
  obtain ⟨C, h1, h2, h3⟩ := h
  exact ⟨C, h1, h2, fun i hi => (h3 i hi).trans (by rw [e i hi])⟩
theorem Fb.set {f : Nat → Value} (h : Fb w b t n f) (i : Nat) (v : Value) : Fb (w.setCell ⟨b, i, none⟩ v) b t n (fun j => if j = i then v else f j) := by
  obtain ⟨C, h1, h2, h3⟩ := h
  refine ⟨_, blk_set h1 rfl, by simp [h2], fun j hj => ?_⟩
  rw [Array.getElem?_setIfInBounds]
  by_cases e : i = j
  · subst e
    simp [show i < C.size by omega]
  · rw [if_neg e, h3 j hj]
    simp [show ¬ j = i from fun h => e h.symm]
theorem ksets {P : Nat → Prop} (hp : P b) : ∀ (vs : List Value) (o : Nat) (w : World), Kept w (w.setCells b o vs) P
  | [], _, w => Kept.refl w P
  | v :: vs, o, w => (kset w b o v hp).trans (ksets hp vs (o + 1) _)
theorem bsets {w0 : World} {k : Nat} (hk : w0.heap.size ≤ k) : ∀ (vs : List Value) (o : Nat) {w : World}, Below w0.heap.size w0 w → Below w0.heap.size w0 (w.setCells k o vs)
  | [], _, w, h => h
  | v :: vs, o, w, h => bsets hk vs (o + 1) (bset h hk o v)
end
end Go.Proofs.Ytihcaopcfhbofaa.Mb
