import Derived.Test.YthanifbimndhaaaRows
import Derived.WalkKit
import Derived.WalkLawsBesides
import Derived.WalkSpells
import Derived.Outline
import Derived.Below
import Derived.BigQuiet
import Derived.Deep.QuietTactic
import Derived.Deep.RegionHeld3
import Derived.Deep.RegionHeldLaw
import Derived.Deep.AppendLies
import Derived.Deep.MidRow
import Derived.ArgAppend
import Derived.Laws.OwnMore
import Derived.Laws.AppendOwnNone
import Derived.Laws.CopyOwn
import Derived.Laws.StructEq
import Derived.Laws.BitsAllLaws
import Derived.Laws.BytesArg
import Derived.Deep.DeepCutAuto
namespace Go.Proofs.Ythanifbimndhaaa.Mb
set_option maxHeartbeats 40000000
open Go.RowKit
set_option linter.unusedVariables false
set_option maxRecDepth 100000
set_option linter.unusedSimpArgs false

theorem tG (i d : Nat) (v : Value) {P : Program} {md : Region.Mode} {ops : Array Oper} {Q : Exit -> Act -> World -> Prop} {S : World -> Prop} {oi : Oper} {fuel : Nat} {listed : Array Bool} {a : Act} {w : World} (hi : ops[i]? = some oi) (hS : S w) (h : wpAnyH P md ops Q S fuel (listed.setIfInBounds i true) (a.put (some d) v) w) (hd : oi.dst = some d := by kernel_rfl) (hs : Region.noSelect ops = true := by kernel_rfl) (hf : Region.free md ops listed i = true := by kernel_rfl) (hr : (Region.ready md ops listed).contains i = true := by kernel_rfl) (hQ : ∀ c a w, Q (.panic c) (a.put oi.dst v) w -> Q (.panic c) a w := by exact fun _ _ _ h => h) (hy : YieldsIf P ops S oi v a := by exact Or.inl ⟨by rfl, fun w' hS => by go_simp⟩) : wpAnyH P md ops Q S (fuel + 1) listed a w :=
 wpAnyH_take hi hs hf hr hQ hy hS (by rw [hd]; exact h)
theorem tL (i d : Nat) (v : Value) {P : Program} {md : Region.Mode} {ops : Array Oper} {Q : Exit -> Act -> World -> Prop} {S : World -> Prop} {oi : Oper} {fuel : Nat} {listed : Array Bool} {a : Act} {w : World} (hi : ops[i]? = some oi) (hS : S w) (h : wpAnyH P md ops Q S fuel (listed.setIfInBounds i true) (a.put (some d) v) w) (hd : oi.dst = some d := by kernel_rfl) (hs : Region.noSelect ops = true := by kernel_rfl) (hf : Region.free md ops listed i = true := by kernel_rfl) (hr : (Region.ready md ops listed).contains i = true := by kernel_rfl) (hQ : ∀ c a w, Q (.panic c) (a.put oi.dst v) w -> Q (.panic c) a w := by exact fun _ _ _ h => h) (hy : YieldsIf P ops S oi v a := by exact Or.inl ⟨by rfl, fun w' hS => by ((repeat (obtain ⟨_, hS⟩ := hS)); go_simp)⟩) : wpAnyH P md ops Q S (fuel + 1) listed a w :=
 wpAnyH_take hi hs hf hr hQ hy hS (by rw [hd]; exact h)
theorem tK (i d : Nat) (v : Value) {P : Program} {md : Region.Mode} {ops : Array Oper} {Q : Exit -> Act -> World -> Prop} {S : World -> Prop} {oi : Oper} {fuel : Nat} {listed : Array Bool} {a : Act} {w : World} (hi : ops[i]? = some oi) (hS : S w) (h : wpAnyH P md ops Q S fuel (listed.setIfInBounds i true) (a.put (some d) v) w) (hd : oi.dst = some d := by kernel_rfl) (hs : Region.noSelect ops = true := by kernel_rfl) (hf : Region.free md ops listed i = true := by kernel_rfl) (hr : (Region.ready md ops listed).contains i = true := by kernel_rfl) (hQ : ∀ c a w, Q (.panic c) (a.put oi.dst v) w -> Q (.panic c) a w := by exact fun _ _ _ h => h) (hy : YieldsIf P ops S oi v a := by exact Or.inl ⟨by kernel_rfl, fun w' hS => by go_simp⟩) : wpAnyH P md ops Q S (fuel + 1) listed a w :=
 wpAnyH_take hi hs hf hr hQ hy hS (by rw [hd]; exact h)
theorem tM (i d : Nat) (v : Value) {P : Program} {md : Region.Mode} {ops : Array Oper} {Q : Exit -> Act -> World -> Prop} {S : World -> Prop} {oi : Oper} {fuel : Nat} {listed : Array Bool} {a : Act} {w : World} (hi : ops[i]? = some oi) (hS : S w) (h : wpAnyH P md ops Q S fuel (listed.setIfInBounds i true) (a.put (some d) v) w) (hd : oi.dst = some d := by kernel_rfl) (hs : Region.noSelect ops = true := by kernel_rfl) (hf : Region.free md ops listed i = true := by kernel_rfl) (hr : (Region.ready md ops listed).contains i = true := by kernel_rfl) (hQ : ∀ c a w, Q (.panic c) (a.put oi.dst v) w -> Q (.panic c) a w := by exact fun _ _ _ h => h) (hy : YieldsIf P ops S oi v a := by exact Or.inl ⟨by kernel_rfl, fun w' hS => by ((repeat (obtain ⟨_, hS⟩ := hS)); go_simp)⟩) : wpAnyH P md ops Q S (fuel + 1) listed a w :=
 wpAnyH_take hi hs hf hr hQ hy hS (by rw [hd]; exact h)
theorem tS (i d : Nat)  {P : Program} {md : Region.Mode} {ops : Array Oper} {Q : Exit -> Act -> World -> Prop} {S : World -> Prop} {oi : Oper} {fuel : Nat} {listed : Array Bool} {a : Act} {w : World} (hi : ops[i]? = some oi) (hS : S w) (h : wpAnyH P md ops Q S fuel (listed.setIfInBounds i true) (a.put (some d) undef) w) (hd : oi.dst = some d := by kernel_rfl) (hs : Region.noSelect ops = true := by kernel_rfl) (hf : Region.free md ops listed i = true := by kernel_rfl) (hr : (Region.ready md ops listed).contains i = true := by kernel_rfl) (hQ : ∀ c a w, Q (.panic c) (a.put oi.dst undef) w -> Q (.panic c) a w := by exact fun _ _ _ h => h) (hy : YieldsIf P ops S oi undef a := by exact Or.inr ⟨by kernel_rfl, rfl⟩) : wpAnyH P md ops Q S (fuel + 1) listed a w :=
 wpAnyH_take hi hs hf hr hQ hy hS (by rw [hd]; exact h)
theorem tX (i d : Nat) (v : Value) {P : Program} {md : Region.Mode} {ops : Array Oper} {Q : Exit -> Act -> World -> Prop} {S : World -> Prop} {oi : Oper} {fuel : Nat} {listed : Array Bool} {a : Act} {w : World} (hi : ops[i]? = some oi) (hy : YieldsIf P ops S oi v a) (hS : S w) (h : wpAnyH P md ops Q S fuel (listed.setIfInBounds i true) (a.put (some d) v) w) (hd : oi.dst = some d := by kernel_rfl) (hs : Region.noSelect ops = true := by kernel_rfl) (hf : Region.free md ops listed i = true := by kernel_rfl) (hr : (Region.ready md ops listed).contains i = true := by kernel_rfl) (hQ : ∀ c a w, Q (.panic c) (a.put oi.dst v) w -> Q (.panic c) a w := by exact fun _ _ _ h => h)  : wpAnyH P md ops Q S (fuel + 1) listed a w :=
 wpAnyH_take hi hs hf hr hQ hy hS (by rw [hd]; exact h)
theorem wG (i : Nat) (v : Value) {P : Program} {md : Region.Mode} {ops : Array Oper} {Q : Exit -> Act -> World -> Prop} {S : World -> Prop} {oi : Oper} {fuel : Nat} {listed : Array Bool} {a : Act} {w : World} (hi : ops[i]? = some oi) (hS : S w) (h : wpAnyH P md ops Q S fuel (listed.setIfInBounds i true) (a.put oi.dst v) w) (hs : Region.noSelect ops = true := by kernel_rfl) (hf : Region.free md ops listed i = true := by kernel_rfl) (hr : (Region.ready md ops listed).contains i = true := by kernel_rfl) (hQ : ∀ c a w, Q (.panic c) (a.put oi.dst v) w -> Q (.panic c) a w := by exact fun _ _ _ h => h) (hy : YieldsIf P ops S oi v a := by exact Or.inl ⟨by rfl, fun w' hS => by go_simp⟩) : wpAnyH P md ops Q S (fuel + 1) listed a w :=
 wpAnyH_take hi hs hf hr hQ hy hS h
theorem wL (i : Nat) (v : Value) {P : Program} {md : Region.Mode} {ops : Array Oper} {Q : Exit -> Act -> World -> Prop} {S : World -> Prop} {oi : Oper} {fuel : Nat} {listed : Array Bool} {a : Act} {w : World} (hi : ops[i]? = some oi) (hS : S w) (h : wpAnyH P md ops Q S fuel (listed.setIfInBounds i true) (a.put oi.dst v) w) (hs : Region.noSelect ops = true := by kernel_rfl) (hf : Region.free md ops listed i = true := by kernel_rfl) (hr : (Region.ready md ops listed).contains i = true := by kernel_rfl) (hQ : ∀ c a w, Q (.panic c) (a.put oi.dst v) w -> Q (.panic c) a w := by exact fun _ _ _ h => h) (hy : YieldsIf P ops S oi v a := by exact Or.inl ⟨by rfl, fun w' hS => by ((repeat (obtain ⟨_, hS⟩ := hS)); go_simp)⟩) : wpAnyH P md ops Q S (fuel + 1) listed a w :=
 wpAnyH_take hi hs hf hr hQ hy hS h
theorem wK (i : Nat) (v : Value) {P : Program} {md : Region.Mode} {ops : Array Oper} {Q : Exit -> Act -> World -> Prop} {S : World -> Prop} {oi : Oper} {fuel : Nat} {listed : Array Bool} {a : Act} {w : World} (hi : ops[i]? = some oi) (hS : S w) (h : wpAnyH P md ops Q S fuel (listed.setIfInBounds i true) (a.put oi.dst v) w) (hs : Region.noSelect ops = true := by kernel_rfl) (hf : Region.free md ops listed i = true := by kernel_rfl) (hr : (Region.ready md ops listed).contains i = true := by kernel_rfl) (hQ : ∀ c a w, Q (.panic c) (a.put oi.dst v) w -> Q (.panic c) a w := by exact fun _ _ _ h => h) (hy : YieldsIf P ops S oi v a := by exact Or.inl ⟨by kernel_rfl, fun w' hS => by go_simp⟩) : wpAnyH P md ops Q S (fuel + 1) listed a w :=
 wpAnyH_take hi hs hf hr hQ hy hS h
theorem wM (i : Nat) (v : Value) {P : Program} {md : Region.Mode} {ops : Array Oper} {Q : Exit -> Act -> World -> Prop} {S : World -> Prop} {oi : Oper} {fuel : Nat} {listed : Array Bool} {a : Act} {w : World} (hi : ops[i]? = some oi) (hS : S w) (h : wpAnyH P md ops Q S fuel (listed.setIfInBounds i true) (a.put oi.dst v) w) (hs : Region.noSelect ops = true := by kernel_rfl) (hf : Region.free md ops listed i = true := by kernel_rfl) (hr : (Region.ready md ops listed).contains i = true := by kernel_rfl) (hQ : ∀ c a w, Q (.panic c) (a.put oi.dst v) w -> Q (.panic c) a w := by exact fun _ _ _ h => h) (hy : YieldsIf P ops S oi v a := by exact Or.inl ⟨by kernel_rfl, fun w' hS => by ((repeat (obtain ⟨_, hS⟩ := hS)); go_simp)⟩) : wpAnyH P md ops Q S (fuel + 1) listed a w :=
 wpAnyH_take hi hs hf hr hQ hy hS h
theorem wS (i : Nat)  {P : Program} {md : Region.Mode} {ops : Array Oper} {Q : Exit -> Act -> World -> Prop} {S : World -> Prop} {oi : Oper} {fuel : Nat} {listed : Array Bool} {a : Act} {w : World} (hi : ops[i]? = some oi) (hS : S w) (h : wpAnyH P md ops Q S fuel (listed.setIfInBounds i true) (a.put oi.dst undef) w) (hs : Region.noSelect ops = true := by kernel_rfl) (hf : Region.free md ops listed i = true := by kernel_rfl) (hr : (Region.ready md ops listed).contains i = true := by kernel_rfl) (hQ : ∀ c a w, Q (.panic c) (a.put oi.dst undef) w -> Q (.panic c) a w := by exact fun _ _ _ h => h) (hy : YieldsIf P ops S oi undef a := by exact Or.inr ⟨by kernel_rfl, rfl⟩) : wpAnyH P md ops Q S (fuel + 1) listed a w :=
 wpAnyH_take hi hs hf hr hQ hy hS h
theorem wX (i : Nat) (v : Value) {P : Program} {md : Region.Mode} {ops : Array Oper} {Q : Exit -> Act -> World -> Prop} {S : World -> Prop} {oi : Oper} {fuel : Nat} {listed : Array Bool} {a : Act} {w : World} (hi : ops[i]? = some oi) (hy : YieldsIf P ops S oi v a) (hS : S w) (h : wpAnyH P md ops Q S fuel (listed.setIfInBounds i true) (a.put oi.dst v) w) (hs : Region.noSelect ops = true := by kernel_rfl) (hf : Region.free md ops listed i = true := by kernel_rfl) (hr : (Region.ready md ops listed).contains i = true := by kernel_rfl) (hQ : ∀ c a w, Q (.panic c) (a.put oi.dst v) w -> Q (.panic c) a w := by exact fun _ _ _ h => h)  : wpAnyH P md ops Q S (fuel + 1) listed a w :=
 wpAnyH_take hi hs hf hr hQ hy hS h
theorem sA {α : Type _} (l : List α) (i : Nat) (x : α) : l.toArray.setIfInBounds i x = (l.set i x).toArray := List.setIfInBounds_toArray l i x
theorem sZ {α : Type _} (a b : α) (l : List α) : (a :: l).set 0 b = b :: l := List.set_cons_zero
theorem sC {α : Type _} (a b : α) (n : Nat) (l : List α) : (a :: l).set (n + 1) b = a :: l.set n b := List.set_cons_succ
theorem gA {α : Type _} {xs : List α} {i : Nat} (h : i < xs.toArray.size) : xs.toArray[i] = xs[i]'(by simpa using h) := List.getElem_toArray h
theorem gZ {α : Type _} {a : α} {l : List α} (h : 0 < (a :: l).length) : (a :: l)[0] = a := rfl
theorem gC {α : Type _} {a : α} {l : List α} {i : Nat} (h : i + 1 < (a :: l).length) : (a :: l)[i + 1] = l[i]'(Nat.lt_of_succ_lt_succ h) := rfl
theorem aP (a : Act) (d : Nat) (v : Value) : a.put (some d) v = { a with tmps := a.tmps.setIfInBounds d v } := rfl
theorem rY (i : Nat) {P : Program} {md : Region.Mode} {ops : Array Oper} {Q : Exit -> Act -> World -> Prop} {S : World -> Prop} {o : Oper} {fuel : Nat} {listed : Array Bool} {a : Act} {w : World} (ho : ops[i]? = some o) (h : ∀ K' : Act -> World -> Prop, Shut (∀ a w, S w -> (S w -> wpAnyH P md ops Q S fuel (listed.setIfInBounds i true) a w) -> K' a w) -> if Region.wanted o (yielded ops a.tmps) = true then Oper.wp P o a w K' Q else K' (a.put o.dst undef) w) (hr : Region.ready md ops listed = [i] := by kernel_rfl) : wpAnyH P md ops Q S (fuel + 1) listed a w := wpAnyH_ready hr (by simp) (AllReadyH.cons ho h AllReadyH.nil)
theorem lA {α : Type _} {l : List α} : l.toArray.size = l.length := List.size_toArray ..
theorem lC {α : Type _} {a : α} {l : List α} : (a :: l).length = l.length + 1 := List.length_cons
theorem lN {α : Type _} : ([] : List α).length = 0 := rfl
theorem zA (n : Nat) : 0 + n = n := Nat.zero_add n
theorem bW0 {w W : World} {o : Obj} (h : w.alloc o = W) : Below w.heap.size w W := by rw [<- h]; exact (Below.refl _ _).alloc (Nat.le_refl _) o
theorem hQ0 {w W : World} {cs : Array Value} {t : TypeId} (h : w.alloc (.cells cs t) = W) : W.heap[w.heap.size]? = some (.cells cs t (0, 0)) := by rw [<- h]; exact heap_alloc_new _ _
theorem aL0 {w : World} {o : Obj} {k i : Nat} {v : Value} (hc : w.cell? ⟨k, i, none⟩ = some v) : (w.alloc o).cell? ⟨k, i, none⟩ = some v := (((Below.refl w.heap.size w).alloc (Nat.le_refl _) o).cell (World.block_lt_of_cell? w _ hc)).trans hc
theorem dW0 {w : World} {k i : Nat} {v : Value} (hc : w.cell? ⟨k, i, none⟩ = some v) : w.drew.cell? ⟨k, i, none⟩ = some v := hc
structure Kept (w w' : World) (P : Nat -> Prop) : Prop where
 os : w'.os = w.os
 tape : w'.tape = w.tape
 output : w'.output = w.output
 size : w.heap.size ≤ w'.heap.size
 block : ∀ k, k < w.heap.size -> ¬ P k -> w'.heap[k]? = w.heap[k]?

theorem Kept.refl (w : World) (P : Nat -> Prop) : Kept w w P := ⟨rfl, rfl, rfl, Nat.le_refl _, fun _ _ _ => rfl⟩
theorem Kept.trans {a b c : World} {P : Nat -> Prop} (h : Kept a b P) (k : Kept b c P) : Kept a c P :=
 ⟨k.os.trans h.os, k.tape.trans h.tape, k.output.trans h.output, Nat.le_trans h.size k.size, fun i hi hp => (k.block i (Nat.lt_of_lt_of_le hi h.size) hp).trans (h.block i hi hp)⟩
theorem Kept.step {a b c : World} {P Q : Nat -> Prop} (h : Kept a b P) (k : Kept b c Q) (hq : ∀ j, Q j -> P j ∨ a.heap.size ≤ j) : Kept a c P :=
 ⟨k.os.trans h.os, k.tape.trans h.tape, k.output.trans h.output, Nat.le_trans h.size k.size, fun i hi hp => (k.block i (Nat.lt_of_lt_of_le hi h.size) (fun hQ => (hq i hQ).elim hp (fun hh => by omega))).trans (h.block i hi hp)⟩
theorem Kept.mono {a b : World} {P Q : Nat -> Prop} (h : Kept a b P) (hq : ∀ k, k < a.heap.size -> P k -> Q k) : Kept a b Q :=
 ⟨h.os, h.tape, h.output, h.size, fun i hi hp => h.block i hi (fun hP => hp (hq i hi hP))⟩
theorem Kept.ofGrown {a b : World} {r : Option Nat} (h : a.grownBy b r) : Kept a b (fun k => some k = r) := ⟨h.os, h.tape, h.output, h.size, fun i hi hp => h.block i hi hp⟩
theorem Kept.ofBelow {a b : World} (h : Below a.heap.size a b) (P : Nat -> Prop) : Kept a b P := ⟨h.os, h.tape, h.output, h.size, fun i hi _ => h.block i hi⟩
theorem Kept.below {a b : World} {P : Nat -> Prop} {B : Nat} (h : Kept a b P) (hB : B ≤ a.heap.size) (hp : ∀ k, k < B -> ¬ P k) : Below B a b := ⟨h.os, h.tape, h.output, h.size, fun i hi => h.block i (by omega) (hp i hi)⟩
theorem Kept.owns {a b : World} {P : Nat -> Prop} {base e size n : Nat} {v : Value} {xs : List Value} (h : Kept a b P) (ho : a.ownsRow base e size v n xs) (hp : ∀ k, v.ownBlock = some k -> ¬ P k) : b.ownsRow base e size v n xs := by
 refine ⟨ho.1, ?_⟩
 have hlt := ho.lt
 rcases ho.2 with h1 | ⟨g, cap, cur, hv, hg, hh, hr⟩
 ·exact .inl h1
 ·subst hv
  exact .inr ⟨g, cap, cur, rfl, hg, (h.block g (hlt g rfl).2 (hp g rfl)).trans hh, hr⟩
theorem lt_heap {w : World} {k : Nat} {o : Obj} (h : w.heap[k]? = some o) : k < w.heap.size := by
 rcases Array.getElem?_eq_some_iff.1 h with ⟨h, _⟩; exact h
theorem Kept.obj {a b : World} {P : Nat -> Prop} {k : Nat} {o : Obj} (h : Kept a b P) (ho : a.heap[k]? = some o) (hp : ¬ P k) : b.heap[k]? = some o := (h.block k (lt_heap ho) hp).trans ho
theorem kset {P : Nat -> Prop} (w : World) (k i : Nat) (v : Value) (hp : P k) : Kept w (w.setCell ⟨k, i, none⟩ v) P :=
 ⟨rfl, rfl, rfl, by simp, fun j hj hq => Below.heap_setCell w ⟨k, i, none⟩ v j (fun e => hq (by cases e; exact hp))⟩
theorem bstep {w0 w w' : World} (h : Below w0.heap.size w0 w) (hb : Below w.heap.size w w') : Below w0.heap.size w0 w' := h.trans (hb.mono h.size)
theorem balloc {w0 w : World} {o : Obj} (h : Below w0.heap.size w0 w) : Below w0.heap.size w0 (w.alloc o) := h.alloc h.size o
theorem bset {w w1 : World} {k : Nat} (h : Below w.heap.size w w1) (hk : w.heap.size ≤ k) (i : Nat) (v : Value) : Below w.heap.size w (w1.setCell ⟨k, i, none⟩ v) :=
 ⟨h.os, h.tape, h.output, by simpa using h.size, fun j hj => (Below.heap_setCell w1 ⟨k, i, none⟩ v j (by show ¬ j = k; omega)).trans (h.block j hj)⟩
theorem bC {W : World} {cs : Array Value} {t : TypeId} {kb : Nat} (h : W.heap[kb]? = some (.cells cs t (0, 0))) (i : Nat) : W.cell? ⟨kb, i, none⟩ = cs[i]? := cell_of_row W kb i cs t (0, 0) h
theorem blk_set {w : World} {t : TypeId} {k i : Nat} {cs cs' : Array Value} {v : Value} (h : w.heap[k]? = some (.cells cs t (0, 0))) (e : cs.setIfInBounds i v = cs') : (w.setCell ⟨k, i, none⟩ v).heap[k]? = some (.cells cs' t (0, 0)) := e ▸ heap_setCell_same w k i cs t v h
theorem blk_set_ne {w : World} {t : TypeId} {k k' i : Nat} {cs : Array Value} {v : Value} (h : w.heap[k]? = some (.cells cs t (0, 0))) (e : k ≠ k') : (w.setCell ⟨k', i, none⟩ v).heap[k]? = some (.cells cs t (0, 0)) := (Below.heap_setCell w ⟨k', i, none⟩ v k e).trans h
theorem own_still {W W' : World} {B e s n : Nat} {v : Value} {l : List Value} (h : W.ownsRow B e s v n l) (hb : Below W.heap.size W W') : W'.ownsRow B e s v n l := (Kept.ofBelow hb (fun _ => False)).owns h (fun _ _ => id)
theorem own_lower {w : World} {B B' t s n : Nat} {v : Value} {l : List Value} (h : w.ownsRow B t s v n l) (hB : B' ≤ B) : w.ownsRow B' t s v n l :=
 ⟨h.1, h.2.elim (fun hh => .inl hh) (fun ⟨g, cap, cur, e1, e2, e3⟩ => .inr ⟨g, cap, cur, e1, by omega, e3⟩)⟩
theorem bA {w w' : World} {k i : Nat} {v : Value} (hb : Below w.heap.size w w') (hc : w.cell? ⟨k, i, none⟩ = some v) : w'.cell? ⟨k, i, none⟩ = some v := (hb.cell (World.block_lt_of_cell? w _ hc)).trans hc


def upd {α : Type} (f : Nat -> α) (p : Nat) (x : α) : Nat -> α := fun a => if a = p then x else f a
theorem upd_same {α : Type} (f : Nat -> α) (p : Nat) (x : α) : upd f p x p = x := by simp [upd]
theorem upd_ne {α : Type} (f : Nat -> α) {p q : Nat} (x : α) (h : q ≠ p) : upd f p x q = f q := by simp [upd, h]
theorem upd_twice {α : Type} (f : Nat -> α) (p : Nat) (x y : α) : upd (upd f p x) p y = upd f p y := by
 funext a; simp [upd]; split <;> rfl
theorem upd_self {α : Type} (f : Nat -> α) (p : Nat) : upd f p (f p) = f := by
 funext a; simp [upd]; intro h; rw [h]
theorem wrap_id {a : Int} (h0 : -9223372036854775808 ≤ a) (h1 : a ≤ 9223372036854775807) : IntKind.i64.wrap a = a := by
 rw [IntKind.wrap_i64]; omega
def ints (xs : List Int) : List Value := xs.map (Value.int .i64)
theorem ints_at (xs : List Int) (i : Nat) (h : i < xs.length) : (ints xs)[i]? = some (.int .i64 (xs.getD i 0)) := by simp [ints, List.getD, h]
section
variable {w w' : World} {b t n o : Nat}
def Fb (w : World) (b t n : Nat) (f : Nat -> Value) : Prop := ∃ C : Array Value, w.heap[b]? = some (.cells C t (0, 0)) /\ C.size = n /\ ∀ i, i < n -> C[i]? = some (f i)
theorem Fb.lt {f : Nat -> Value} (h : Fb w b t n f) : b < w.heap.size := by obtain ⟨C, h1, _⟩ := h; exact lt_heap h1
theorem Fb.cell {f : Nat -> Value} (h : Fb w b t n f) (i : Nat) (hi : i < n) : w.cell? ⟨b, i, none⟩ = some (f i) := by
 obtain ⟨C, h1, h2, h3⟩ := h
 exact (bC h1 i).trans (h3 i hi)
theorem Fb.fz {f : Nat -> Value} (h : Fb w b t n f) (i : Nat) : w.frozen? ⟨b, i, none⟩ = false := by
 obtain ⟨C, h1, _⟩ := h
 exact frozen_of_row w _ i _ _ h1
theorem Fb.congr {f g : Nat -> Value} (h : Fb w b t n f) (e : ∀ i, i < n -> f i = g i) : Fb w b t n g := by
 obtain ⟨C, h1, h2, h3⟩ := h
 exact ⟨C, h1, h2, fun i hi => (h3 i hi).trans (by rw [e i hi])⟩
theorem Fb.keep {P : Nat -> Prop} {f : Nat -> Value} (h : Fb w b t n f) (k : Kept w w' P) (hp : ¬ P b) : Fb w' b t n f := by
 obtain ⟨C, h1, h2, h3⟩ := h
 exact ⟨C, k.obj h1 hp, h2, h3⟩
theorem Fb.set {f : Nat -> Value} (h : Fb w b t n f) (i : Nat) (v : Value) : Fb (w.setCell ⟨b, i, none⟩ v) b t n (fun j => if j = i then v else f j) := by
 obtain ⟨C, h1, h2, h3⟩ := h
 refine ⟨_, blk_set h1 rfl, by simp [h2], fun j hj => ?_⟩
 rw [Array.getElem?_setIfInBounds]
 by_cases e : i = j
 ·subst e
  simp [show i < C.size by omega]
 ·rw [if_neg e, h3 j hj]
  simp [show ¬ j = i from fun h => e h.symm]
theorem Fb.sets : ∀ (vs : List Value) (o : Nat) (w : World) (f : Nat -> Value), Fb w b t n f -> Fb (w.setCells b o vs) b t n (fun j => if o ≤ j /\ j < o + vs.length then vs.getD (j - o) undef else f j)
 | [], o, w, f, h => h.congr fun i _ => by simp only [List.length_nil, Nat.add_zero]; rw [if_neg (by omega)]
 | v :: vs, o, w, f, h => (Fb.sets vs (o + 1) _ _ (h.set o v)).congr fun i _ => by
   simp only [List.length_cons]
   by_cases e : i = o
   ·subst e
    rw [if_neg (by omega), if_pos rfl, if_pos (by omega), Nat.sub_self]
    simp [List.getD]
   ·by_cases e2 : o + 1 ≤ i /\ i < o + 1 + vs.length
    ·rw [if_pos e2, if_pos (by omega)]
     rw [show i - o = (i - (o + 1)) + 1 by omega]
     simp [List.getD]
    ·rw [if_neg e2, if_neg e, if_neg (by omega)]
theorem Fb.there {f : Nat -> Value} (h : Fb w b t n f) (o k : Nat) (hk : o + k ≤ n) : w.there b o k := fun j hj => ⟨by rw [h.cell (o + j) (by omega)]; rfl, h.fz _⟩
theorem ksets {P : Nat -> Prop} (hp : P b) : ∀ (vs : List Value) (o : Nat) (w : World), Kept w (w.setCells b o vs) P
 | [], _, w => Kept.refl w P
 | v :: vs, o, w => (kset w b o v hp).trans (ksets hp vs (o + 1) _)
theorem bsets {w0 : World} {k : Nat} (hk : w0.heap.size ≤ k) : ∀ (vs : List Value) (o : Nat) {w : World}, Below w0.heap.size w0 w -> Below w0.heap.size w0 (w.setCells k o vs)
 | [], _, w, h => h
 | v :: vs, o, w, h => bsets hk vs (o + 1) (bset h hk o v)

end
end Go.Proofs.Ythanifbimndhaaa.Mb
namespace Go.Proofs.Ythanifbimndhaaa.Ln
set_option maxHeartbeats 40000000
open Go.RowKit Mb
set_option linter.unusedVariables false
set_option maxRecDepth 100000
set_option linter.unusedSimpArgs false

def By (bs : List Int) : Prop := ∀ i, 0 ≤ bs.getD i 0 /\ bs.getD i 0 ≤ 255
theorem By.mem {bs : List Int} (h : By bs) : ∀ x ∈ bs, 0 ≤ x /\ x ≤ 255 := by
 intro x hx
 obtain ⟨i, hi, rfl⟩ := List.mem_iff_getElem.1 hx
 have := h i
 simpa [List.getD, hi] using this
theorem By.of {bs : List Int} (h : ∀ x ∈ bs, 0 ≤ x /\ x ≤ 255) : By bs := by
 intro i
 by_cases hi : i < bs.length
 ·have := h bs[i] (List.getElem_mem hi)
  simpa [List.getD, hi] using this
 ·simp [List.getD, List.getElem?_eq_none (by omega : bs.length ≤ i)]
theorem By.take {a : List Int} (h : By a) (n : Nat) : By (a.take n) := By.of fun x hx => h.mem x (List.mem_of_mem_take hx)
theorem By.drop {a : List Int} (h : By a) (n : Nat) : By (a.drop n) := By.of fun x hx => h.mem x (List.mem_of_mem_drop hx)
section
variable {w w' W : World} {B : Nat}
def inR (lo hi x : Int) : Bool := decide (lo ≤ x) && decide (x ≤ hi)
theorem inR_t {a b x : Int} (h1 : a ≤ x) (h2 : x ≤ b) : inR a b x = true := by simp [inR, h1, h2]
theorem inR_f {a b x : Int} (h : ¬ (a ≤ x /\ x ≤ b)) : inR a b x = false := by
 simp [inR]; omega
def byts (bs : List Int) : List Value := bs.map (Value.int .u8)
theorem byts_len (bs : List Int) : (byts bs).length = bs.length := by simp [byts]
theorem byts_one (bs : List Int) : ∀ u ∈ byts bs, u.oneCell' = true := by
 intro u hu
 obtain ⟨_, _, rfl⟩ := List.mem_map.1 hu
 rfl
theorem byts_at (bs : List Int) (i : Nat) (h : i < bs.length) : (byts bs)[i]? = some (.int .u8 (bs.getD i 0)) := by simp [byts, List.getD, h]
structure Rd (w : World) (ao : Option Addr) (n c : Nat) (bs : List Int) : Prop where
 len : bs.length = n
 cap : n ≤ c
 nil : ao = none -> c = 0
 at_ : n = 0 ∨ ∃ b off, ao = some ⟨b, off, none⟩ /\ ∀ i, i < n -> w.cell? ⟨b, off + i, none⟩ = some (.int .u8 (bs.getD i 0))
 by_ : By bs
theorem Rd.still {ao : Option Addr} {n c : Nat} {bs : List Int} (h : Rd w ao n c bs) (hb : Below w.heap.size w w') : Rd w' ao n c bs :=
 ⟨h.len, h.cap, h.nil, h.at_.elim .inl fun ⟨b, off, h1, h2⟩ => .inr ⟨b, off, h1, fun i hi => bA hb (h2 i hi)⟩, h.by_⟩
def In (ao : Option Addr) (P : Nat -> Prop) : Prop := ∀ b off, ao = some ⟨b, off, none⟩ -> P b
theorem kC {P : Nat -> Prop} {b i : Nat} {v : Value} (k : Kept w w' P) (hp : ¬ P b) (h : w.cell? ⟨b, i, none⟩ = some v) : w'.cell? ⟨b, i, none⟩ = some v := by
 have hl := World.block_lt_of_cell? w _ h
 have := k.block b hl hp
 rw [<- h]
 simp [World.cell?, this]
theorem Rd.keep {P : Nat -> Prop} {ao : Option Addr} {n c : Nat} {bs : List Int} (h : Rd w ao n c bs) (k : Kept w w' P) (hp : In ao fun b => ¬ P b) : Rd w' ao n c bs :=
 ⟨h.len, h.cap, h.nil, h.at_.elim .inl fun ⟨b, off, h1, h2⟩ => .inr ⟨b, off, h1, fun i hi => kC k (hp b off h1) (h2 i hi)⟩, h.by_⟩
theorem Rd.nil' {ao : Option Addr} {c : Nat} {bs : List Int} (h : Rd w ao 0 c bs) : bs = [] := List.eq_nil_of_length_eq_zero h.len
theorem Rd.news {ao : Option Addr} {n c : Nat} {bs : List Int} (h : Rd w ao n c bs) : ∀ ad, ao = some ad -> ∀ j u, (byts bs)[j]? = some u -> w.cell? (ad.add j) = some u := fun ad he j u hu => by
 have hj : j < bs.length := by have := (List.getElem?_eq_some_iff.1 hu).1; rwa [byts_len] at this
 rcases h.at_ with h0 | ⟨b, off, h1, h2⟩
 ·have := h.len; omega
 ·rw [h1] at he
  cases he
  rw [Addr.add_mid, h2 j (by have := h.len; omega)]
  rw [byts_at bs j hj] at hu
  exact hu
def Bk (w : World) (g : Nat) (bs : List Int) : Prop := w.heap[g]? = some (.cells (byts bs).toArray 5 (0, 0))
theorem Bk.keep {P : Nat -> Prop} {g : Nat} {bs : List Int} (h : Bk w g bs) (k : Kept w w' P) (hp : ¬ P g) : Bk w' g bs := k.obj h hp
theorem Bk.still {g : Nat} {bs : List Int} (h : Bk w g bs) (hb : Below w.heap.size w w') : Bk w' g bs := (hb.block _ (lt_heap h)).trans h
theorem Bk.lt {g : Nat} {bs : List Int} (h : Bk w g bs) : g < w.heap.size := lt_heap h
theorem Bk.cell {g : Nat} {bs : List Int} (h : Bk w g bs) {i : Nat} (hi : i < bs.length) : w.cell? ⟨g, i, none⟩ = some (.int .u8 (bs.getD i 0)) := by
 rw [bC h i, List.getElem?_toArray, byts_at bs i hi]
theorem Bk.rd {g : Nat} {bs : List Int} (h : Bk w g bs) (o n c : Nat) (hn : o + n ≤ bs.length) (hc : n ≤ c) (hb : By bs) : Rd w (some ⟨g, o, none⟩) n c ((bs.drop o).take n) := by
 refine ⟨by rw [List.length_take, List.length_drop]; omega, hc, by simp, .inr ⟨g, o, rfl, fun i hi => ?_⟩, (hb.drop o).take n⟩
 rw [h.cell (by omega)]
 congr 2
 simp [List.getD, hi]
theorem Bk.all {g : Nat} {bs : List Int} (h : Bk w g bs) (c : Nat) (hc : bs.length ≤ c) (hb : By bs) : Rd w (some ⟨g, 0, none⟩) bs.length c bs := by
 have := h.rd 0 bs.length c (by omega) hc hb
 simpa using this
theorem bk_ne {a b t : Nat} {bs : List Int} {C : Array Value} (h : Bk w a bs) (h' : w.heap[b]? = some (.cells C t (0, 0))) (ht : t ≠ 5) : a ≠ b := by
 rintro rfl
 unfold Bk at h
 rw [h] at h'
 simp at h'
 exact ht h'.2.symm
theorem num_any (x : Int) : Calls Try.prog 24 #[.int .i64 x] w fun e w' => e = .returned (.int .i64 x) /\ w = w' := by
 go_enter Try.func24, Try.ntmps24
 go_wp2
 go_ret
 exact ⟨rfl, rfl⟩
theorem byte_info : ∃ i : TypeInfo, Try.prog.info? 5 = some i /\ i.zero = some (.int .u8 0) /\ i.size = 1 /\ i.bytes = 1 := by
 have h : (Try.prog.info? 5).map (fun i => (i.zero, i.size, i.bytes)) = some (some (.int .u8 0), 1, 1) := by kernel_rfl
 cases hq : Try.prog.info? 5 with
 | none => rw [hq] at h; cases h
 | some i => rw [hq] at h; simp at h; exact ⟨i, rfl, h.1, h.2.1, h.2.2⟩
theorem byts_rep (n : Nat) : byts (List.replicate n 0) = List.replicate n (.int .u8 0) := by simp [byts]
theorem kset_row {P : Nat -> Prop} (w : World) (g : Nat) (cs : Array Value) (hp : P g) : Kept w (w.setRow g cs) P :=
 ⟨rfl, rfl, rfl, by simp [World.setRow], fun j hj hq => setRow_other w g j cs (fun e => hq (by subst e; exact hp))⟩
def spl (L : List Int) (off : Nat) (xs : List Int) : List Int := L.take off ++ xs ++ L.drop (off + xs.length)
theorem step_copy {ops : Array Oper} {o : Oper} {a : Act} {K : Act -> World -> Prop} {Q : Exit -> Act -> World -> Prop} {E : Prop} (hgd : o.guard = none) (d s : Operand) (ho : o.op = .call { callee := .builtin .copy, args := #[d, s], argTypes := #[40, 40] })
  (dp sp : Option Addr) (dLen dCap sLen sCap : Nat) (hd : a.eval d = .slice dp dLen dCap) (hs : a.eval s = .slice sp sLen sCap) {g off : Nat} {L xs : List Int} (hb : Bk w g L) (hr : Rd w sp sLen sCap xs) (hm : sLen ≤ dLen) (hdp : 0 < sLen -> dp = some ⟨g, off, none⟩) (hfit : off + sLen ≤ L.length)
  (h : ∀ w', Bk w' g (spl L off xs) -> Kept w w' (fun k => k = g) -> K (a.put o.dst (.int .i64 (sLen : Int))) w') : if Region.wanted o (yielded ops a.tmps) = true then Oper.wp Try.prog o a w K Q else E := by
 have hw : Region.wanted o (yielded ops a.tmps) = true := by simp [Region.wanted, hgd]
 rw [if_pos hw]
 have hsz : (Try.prog.info? 5).map (·.size) = some 1 := by kernel_rfl
 have hl := hr.len
 by_cases h0 : sLen = 0
 ·subst h0
  obtain rfl := hr.nil'
  have hrun := run_copy_none (P := Try.prog) w 40 40 o.type 5 dp sp dLen dCap 0 sCap Try.underlying40 hsz (by simp)
  unfold Oper.wp
  simp [execOp, ho, resolve, invoke, builtin, hd, hs, hrun, Result.andThen]
  exact h w (by simpa [spl] using hb) (Kept.refl _ _)
 ·obtain rfl := hdp (by omega)
  rcases hr.at_ with h1 | ⟨b', off', rfl, hc⟩
  ·omega
  ·have hrun := run_copy_row (P := Try.prog) w 40 40 o.type 5 g off dLen dCap ⟨b', off', none⟩ sLen sCap (byts L).toArray 5 (byts xs) Try.underlying40 hsz hb (by rw [byts_len, hl]; simp [Nat.min_def]; omega) (hr.news _ rfl) (by simp [byts_len]; omega) (byts_one xs)
   have e : ((byts L).toArray.toList.take off ++ byts xs ++ (byts L).toArray.toList.drop (off + (byts xs).length)) = byts (spl L off xs) := by
    simp [byts, spl, List.map_take, List.map_drop]
   rw [e] at hrun
   unfold Oper.wp
   simp [execOp, ho, resolve, invoke, builtin, hd, hs, hrun, Result.andThen]
   have hlen : (byts xs).length = sLen := by rw [byts_len, hl]
   rw [hlen]
   exact h _ (setRow_heap w g _ _ _ _ hb) (kset_row _ _ _ rfl)
theorem rows_info : ∃ i : TypeInfo, Try.prog.info? 40 = some i /\ i.zero = some (.slice none 0 0) /\ i.size = 1 /\ i.bytes = 24 := by
 have h : (Try.prog.info? 40).map (fun i => (i.zero, i.size, i.bytes)) = some (some (.slice none 0 0), 1, 24) := by kernel_rfl
 cases hq : Try.prog.info? 40 with
 | none => rw [hq] at h; cases h
 | some i => rw [hq] at h; simp at h; exact ⟨i, rfl, h.1, h.2.1, h.2.2⟩
theorem wl_makeB {ops : Array Oper} {rest : List Oper} {o : Oper} {a : Act} {Q : Exit -> Act -> World -> Prop} (hg : o.guard = none) (l c : Operand) (hop : o.op = Op.makeSlice 40 l c) (x y : Int) (n : Nat) (hl : a.eval l = .int .i64 x) (hc : a.eval c = .int .i64 y) (hx : x = (n : Int)) (hy : y = (n : Int)) (hn : n ≤ 1000000)
  (h : ∀ w', Bk w' w.heap.size (List.replicate n 0) -> Below w.heap.size w w' -> wpList Try.prog ops Q rest (a.put o.dst (.slice (some ⟨w.heap.size, 0, none⟩) n n)) w') : wpList Try.prog ops Q (o :: rest) a w := by
 obtain ⟨si, shi, shz0, shz1, shz2⟩ := byte_info
 refine wpList_make_full w hg l c 40 hop w.heap.size 5 si (.int .u8 0) 1 Try.underlying40 shi shz0 shz1 .i64 .i64 x y n hl hc hx hy (by rw [shz2]; omega) (by unfold maxLen; omega) (Nat.le_refl _) fun w1 hown hgrow => h w1 ?_ ((Below.refl _ w).grown hgrow (Nat.le_refl _) (fun k hk => by cases hk))
 rcases hown.2 with ⟨h3, _⟩ | ⟨g, cap, cur, hv, hg, hh, hr1, hr2, hr3, hr4⟩
 ·cases h3
 ·simp at hv
  obtain ⟨hg', rfl⟩ := hv
  subst hg'
  unfold Bk
  rw [hh, byts_rep]
  have e : cur.toList = List.replicate n (.int .u8 0) := by
   have := hr4
   rw [List.take_of_length_le (by simp [hr3])] at this
   rw [this]
   simp only [Nat.mul_one]
   exact toList_madeCells_one _ _
  have : cur = (List.replicate n (Value.int .u8 0)).toArray := Array.ext' (by rw [e])
  rw [this]
theorem own_ty {base e s n g : Nat} {v : Value} {l : List Value} (h : w.ownsRow base e s v n l) (hg : v.ownBlock = some g) : ∃ C, w.heap[g]? = some (.cells C e (0, 0)) := by
 rcases h.2 with ⟨h1, _⟩ | ⟨g', cap, cur, hv, _, hh, _⟩
 ·rw [h1] at hg; cases hg
 ·rw [hv] at hg
  simp [Value.ownBlock] at hg
  subst hg
  exact ⟨cur, hh⟩
theorem at_load {ops : Array Oper} {rest : List Oper} {o : Oper} {a : Act} {Q : Exit -> Act -> World -> Prop} (ty : TypeId) (x : Operand) (ho : o.op = .load ty x) (h : wpList Try.prog ops Q (o :: rest) a w) : wpList Try.prog ops Q (o :: rest) a w := h
theorem load_mid {ops : Array Oper} {rest : List Oper} {o : Oper} {a : Act} {Q : Exit -> Act -> World -> Prop} (ty : TypeId) (x : Operand) {b off : Nat} {cs : List Value} (hc : w.rangeAt b off cs) (d : TypeDesc) (hu : Try.prog.underlying ty = some d) (hd : d.isRow = true) (hi : (Try.prog.info? ty).map (·.size) = some cs.length)
  (ho : o.op = .load ty x) (hx : a.eval x = .pointer (some ⟨b, off, none⟩)) (hw : Region.wanted o (yielded ops a.tmps) = true) (h : wpList Try.prog ops Q rest (a.put o.dst (.agg cs.toArray)) w) : wpList Try.prog ops Q (o :: rest) a w :=
 wpList_step fun K hK => by
  rw [if_pos hw]
  exact wp_load_mid ty x ho b off hx cs d hc hu hd hi (hK _ _ h)
theorem run_eqlop {o : Oper} {ρ : Operand -> Value} {w : World} (t : TypeId) (x y : Operand) (t' : TypeId) (ho : o.op = .binOp .eql t x y t') (xs ys : Array Value) (hx : ρ x = .agg xs) (hy : ρ y = .agg ys) (hg : Try.prog.eqGuardType Try.prog.depth t = false) (r : Bool) (h : (Op.equalIn 10000 t (.agg xs) (.agg ys)).run Try.prog w = .ok r w) : (execOp ρ o).run Try.prog w = .ok (.value (.bool r)) w := by
 unfold execOp
 simp only [ho, hx, hy, Sem.run_bind, run_eqGuard_agg w .eql t x y xs ys hg, run_eql_struct, h, Result.andThen_ok, Sem.run_pure]
theorem run_neqop {o : Oper} {ρ : Operand -> Value} {w : World} (t : TypeId) (x y : Operand) (t' : TypeId) (ho : o.op = .binOp .neq t x y t') (xs ys : Array Value) (hx : ρ x = .agg xs) (hy : ρ y = .agg ys) (hg : Try.prog.eqGuardType Try.prog.depth t = false) (r : Bool) (h : (Op.equalIn 10000 t (.agg xs) (.agg ys)).run Try.prog w = .ok r w) : (execOp ρ o).run Try.prog w = .ok (.value (.bool (!r))) w := by
 unfold execOp
 simp only [ho, hx, hy, Sem.run_bind, run_eqGuard_agg w .neq t x y xs ys hg, run_neq_struct, h, Result.andThen_ok, Sem.run_pure]
theorem eql_step {ops : Array Oper} {rest : List Oper} {o : Oper} {a : Act} {w : World} {Q : Exit -> Act -> World -> Prop} (t : TypeId) (x y : Operand) (t' : TypeId) {xs ys : Array Value} {r : Bool} (h : (Op.equalIn 10000 t (.agg xs) (.agg ys)).run Try.prog w = .ok r w) (hg : Try.prog.eqGuardType Try.prog.depth t = false)
  (ho : o.op = .binOp .eql t x y t') (hx : a.eval x = .agg xs) (hy : a.eval y = .agg ys) (hw : Region.wanted o (yielded ops a.tmps) = true) (hn : wpList Try.prog ops Q rest (a.put o.dst (.bool r)) w) : wpList Try.prog ops Q (o :: rest) a w :=
 wpList_step fun K hK => by
  rw [if_pos hw]
  unfold Oper.wp
  rw [run_eqlop t x y t' ho xs ys hx hy hg r h]
  exact hK _ _ hn
theorem blk_ne {a b t t' : Nat} {C C' : Array Value} (h : w.heap[a]? = some (.cells C t (0, 0))) (h' : w.heap[b]? = some (.cells C' t' (0, 0))) (ht : t ≠ t') : a ≠ b := by
 rintro rfl
 rw [h] at h'
 simp at h'
 exact ht h'.2
theorem sets_list {k t : Nat} : ∀ (vs : List Value) (o : Nat) (w : World) (xs : List Value), w.heap[k]? = some (.cells xs.toArray t (0, 0)) -> o + vs.length ≤ xs.length -> (w.setCells k o vs).heap[k]? = some (.cells (xs.take o ++ vs ++ xs.drop (o + vs.length)).toArray t (0, 0))
 | [], o, w, xs, h, _ => by simpa [World.setCells] using h
 | y :: ys, o, w, xs, h, hl => by
   simp only [List.length_cons] at hl
   have h1 : (w.setCell ⟨k, o, none⟩ y).heap[k]? = some (.cells (xs.set o y).toArray t (0, 0)) := blk_set h (by simp)
   have := sets_list ys (o + 1) _ _ h1 (by simp; omega)
   have e : (xs.set o y).take (o + 1) ++ ys ++ (xs.set o y).drop (o + 1 + ys.length) = xs.take o ++ y :: ys ++ xs.drop (o + (y :: ys).length) := by
    rw [List.take_set, List.drop_set, if_pos (by omega), List.length_cons, show o + (ys.length + 1) = o + 1 + ys.length by omega]
    rw [List.take_add_one, List.set_append]
    simp [show ¬ o < min o xs.length by omega, show min o xs.length = o by omega, show o < xs.length by omega]
   rw [e] at this
   exact this
theorem sets_whole {k t : Nat} {C : Array Value} {L : List Value} (h : w.heap[k]? = some (.cells C t (0, 0))) (hl : C.size = L.length) : (w.setCells k 0 L).heap[k]? = some (.cells L.toArray t (0, 0)) := by
 have := sets_list (k := k) (t := t) L 0 w C.toList (by simpa using h) (by simp [hl])
 have hd : C.toList.drop L.length = [] := List.drop_eq_nil_of_le (by simp [hl])
 simpa [hd] using this
theorem blk_there {k t n : Nat} {C : Array Value} (h : w.heap[k]? = some (.cells C t (0, 0))) (hn : C.size = n) : w.there k 0 n := fun j hj => ⟨by rw [bC h, Nat.zero_add]; simp [show j < C.size by omega], frozen_of_row w _ _ _ _ h⟩
theorem blk_range {k t : Nat} {L : List Value} (h : w.heap[k]? = some (.cells L.toArray t (0, 0))) : w.rangeAt k 0 L := fun j v hv => by
 rw [bC h, Nat.zero_add, List.getElem?_toArray, hv]
theorem newvar (w : World) (t : TypeId) (Z : Array Value) (L : List Value) (h : Z.size = L.length) : Below w.heap.size w ((w.alloc (.cells Z t)).setCells w.heap.size 0 L) /\ ((w.alloc (.cells Z t)).setCells w.heap.size 0 L).heap[w.heap.size]? = some (.cells L.toArray t (0, 0)) :=
 ⟨bsets (Nat.le_refl _) _ _ (balloc (Below.refl _ _)), sets_whole (heap_alloc_new w _) h⟩
theorem new_there (w : World) (t : TypeId) (Z : Array Value) {n : Nat} (h : Z.size = n) : (w.alloc (.cells Z t)).there w.heap.size 0 n := blk_there (heap_alloc_new w _) h
theorem wl_copy {ops : Array Oper} {rest : List Oper} {o : Oper} {a : Act} {Q : Exit -> Act -> World -> Prop} (hgd : o.guard = none) (d s : Operand) (ho : o.op = .call { callee := .builtin .copy, args := #[d, s], argTypes := #[40, 40] })
  (dp sp : Option Addr) (dLen dCap sLen sCap : Nat) (hd : a.eval d = .slice dp dLen dCap) (hs : a.eval s = .slice sp sLen sCap) {g off : Nat} {L xs : List Int} (hb : Bk w g L) (hr : Rd w sp sLen sCap xs) (hm : sLen ≤ dLen) (hdp : 0 < sLen -> dp = some ⟨g, off, none⟩) (hfit : off + sLen ≤ L.length)
  (h : ∀ w', Bk w' g (spl L off xs) -> Kept w w' (fun k => k = g) -> wpList Try.prog ops Q rest (a.put o.dst (.int .i64 (sLen : Int))) w') : wpList Try.prog ops Q (o :: rest) a w :=
 wpList_step fun K hK => step_copy hgd d s ho dp sp dLen dCap sLen sCap hd hs hb hr hm hdp hfit fun w' h1 h2 => hK _ _ (h w' h1 h2)
theorem step_storeL {ops : Array Oper} {o : Oper} {a : Act} {K : Act -> World -> Prop} {Q : Exit -> Act -> World -> Prop} {E : Prop} (hgd : o.guard = none) (ty : TypeId) (x y : Operand) (ho : o.op = .store ty x y) {b off : Nat} {L : List Value} (hx : a.eval x = .pointer (some ⟨b, off, none⟩)) (hy : a.eval y = .agg L.toArray) (ht : w.there b off L.length) (hi : (Try.prog.info? ty).map (·.size) = some L.length) (h1 : ∀ u ∈ L, u.oneCell' = true)
  (h : K (a.put o.dst undef) (w.setCells b off L)) : if Region.wanted o (yielded ops a.tmps) = true then Oper.wp Try.prog o a w K Q else E := by
 have hw : Region.wanted o (yielded ops a.tmps) = true := by simp [Region.wanted, hgd]
 rw [if_pos hw]
 exact wp_store_mid ty x y ho b off _ hx hy (by simpa using ht) (by simpa using hi) (all_oneCell_toArray h1) (by simpa using h)
theorem at_store {ops : Array Oper} {rest : List Oper} {o : Oper} {a : Act} {Q : Exit -> Act -> World -> Prop} (ty : TypeId) (x y : Operand) (ho : o.op = .store ty x y) (h : wpList Try.prog ops Q (o :: rest) a w) : wpList Try.prog ops Q (o :: rest) a w := h
theorem wl_storeL {ops : Array Oper} {rest : List Oper} {o : Oper} {a : Act} {Q : Exit -> Act -> World -> Prop} (hgd : o.guard = none) (ty : TypeId) (x y : Operand) (ho : o.op = .store ty x y) {b off : Nat} {L : List Value} (hx : a.eval x = .pointer (some ⟨b, off, none⟩)) (hy : a.eval y = .agg L.toArray) (ht : w.there b off L.length) (hi : (Try.prog.info? ty).map (·.size) = some L.length) (h1 : ∀ u ∈ L, u.oneCell' = true)
  (h : wpList Try.prog ops Q rest (a.put o.dst undef) (w.setCells b off L)) : wpList Try.prog ops Q (o :: rest) a w :=
 wpList_step fun K hK => step_storeL hgd ty x y ho hx hy ht hi h1 (hK _ _ h)
theorem info_cell : (Try.prog.info? 127).map (·.size) = some 2 := by kernel_rfl
theorem cell_info : ∃ i : TypeInfo, Try.prog.info? 127 = some i /\ i.zero = some (.agg #[.int .i64 0, .slice none 0 0]) /\ i.size = 2 /\ i.bytes = 32 := by
 have h : (Try.prog.info? 127).map (fun i => (i.zero, i.size, i.bytes)) = some (some (.agg #[.int .i64 0, .slice none 0 0]), 2, 32) := by kernel_rfl
 cases hq : Try.prog.info? 127 with
 | none => rw [hq] at h; cases h
 | some i => rw [hq] at h; simp at h; exact ⟨i, rfl, h.1, h.2.1, h.2.2⟩
theorem z2_at (i : Nat) : (#[Value.int .i64 0, .slice none 0 0])[i % 2]! = [Value.int .i64 0, .slice none 0 0].getD (i % 2) undef := by
 have : i % 2 < 2 := Nat.mod_lt _ (by omega)
 generalize i % 2 = k at this
 rcases k with _ | _ | k <;> first | rfl | omega
theorem wl_makeC {ops : Array Oper} {rest : List Oper} {o : Oper} {a : Act} {Q : Exit -> Act -> World -> Prop} (hg : o.guard = none) (l c : Operand) (hop : o.op = Op.makeSlice 96 l c) (x y : Int) (n : Nat) (hl : a.eval l = .int .i64 x) (hc : a.eval c = .int .i64 y) (hx : x = (n : Int)) (hy : y = (n : Int)) (hn : n ≤ 1000000)
  (h : ∀ w', Fb w' w.heap.size 127 (n * 2) (fun j => [Value.int .i64 0, .slice none 0 0].getD (j % 2) undef) -> Below w.heap.size w w' -> wpList Try.prog ops Q rest (a.put o.dst (.slice (some ⟨w.heap.size, 0, none⟩) n n)) w') : wpList Try.prog ops Q (o :: rest) a w := by
 obtain ⟨i0, hi, hz0, hz1, hz2⟩ := cell_info
 refine wpList_make_full w hg l c 96 hop w.heap.size 127 i0 (.agg #[.int .i64 0, .slice none 0 0]) 2 Try.underlying96 hi hz0 hz1 .i64 .i64 x y n hl hc hx hy (by rw [hz2]; omega) (by unfold maxLen; omega) (Nat.le_refl _) fun w1 hown hgrow => h w1 ?_ ((Below.refl _ w).grown hgrow (Nat.le_refl _) (fun k hk => by cases hk))
 rcases hown.2 with ⟨h3, _⟩ | ⟨g, cap, cur, hv, hg, hh, hr1, hr2, hr3, hr4⟩
 ·cases h3
 ·simp at hv
  obtain ⟨hg', rfl⟩ := hv
  subst hg'
  refine ⟨cur, hh, hr3, fun i hi => ?_⟩
  have e1 : cur[i]? = (cur.toList.take (n * 2))[i]? := by rw [List.getElem?_take]; simp [hi]
  rw [e1, hr4]
  have e2 : (madeCells (#[Value.int .i64 0, .slice none 0 0]) (n * 2)).toList[i]? = some ((#[Value.int .i64 0, .slice none 0 0])[i % 2]!) := by
   simp [madeCells, hi, Value.cells]
  exact e2.trans (congrArg some (z2_at i))
end
def nm (p L i : Nat) : Nat := p + 1 + (i + L - (p + 1) % L) % L
theorem mod_add_d (x d L : Nat) (hL : 0 < L) (hd : d < L) : (x + d) % L = if x % L + d < L then x % L + d else x % L + d - L := by
 have hx := Nat.mod_lt x hL
 rw [Nat.add_mod, Nat.mod_eq_of_lt hd]
 by_cases h : x % L + d < L
 ·rw [if_pos h, Nat.mod_eq_of_lt h]
 ·rw [if_neg h, Nat.mod_eq_sub_mod (by omega), Nat.mod_eq_of_lt (by omega)]
theorem nm_mod {p L n : Nat} (h1 : p < n) (h2 : n ≤ p + L) : nm p L (n % L) = n := by
 have hL : 0 < L := by omega
 obtain ⟨d, rfl⟩ : ∃ d, n = p + 1 + d := ⟨n - (p + 1), by omega⟩
 have hd : d < L := by omega
 have ha := Nat.mod_lt (p + 1) hL
 unfold nm
 rw [mod_add_d (p + 1) d L hL hd]
 generalize (p + 1) % L = a at *
 by_cases h : a + d < L
 ·rw [if_pos h, show a + d + L - a = d + L by omega, Nat.add_mod_right, Nat.mod_eq_of_lt hd]
 ·rw [if_neg h, show a + d - L + L - a = d by omega, Nat.mod_eq_of_lt hd]
theorem nm_gt (p L i : Nat) : p < nm p L i := by unfold nm; omega
theorem nm_le {p L : Nat} (i : Nat) (hL : 0 < L) : nm p L i ≤ p + L := by
 have := Nat.mod_lt (i + L - (p + 1) % L) hL
 unfold nm; omega
theorem nm_res {p L i : Nat} (hi : i < L) : nm p L i % L = i := by
 have hL : 0 < L := by omega
 have ha := Nat.mod_lt (p + 1) hL
 unfold nm
 have hd := Nat.mod_lt (i + L - (p + 1) % L) hL
 rw [mod_add_d (p + 1) _ L hL hd]
 generalize (p + 1) % L = a at *
 by_cases h : a ≤ i
 ·have e : (i + L - a) % L = i - a := by rw [show i + L - a = (i - a) + L by omega, Nat.add_mod_right, Nat.mod_eq_of_lt (by omega)]
  rw [e, if_pos (by omega)]; omega
 ·have e : (i + L - a) % L = i + L - a := Nat.mod_eq_of_lt (by omega)
  rw [e, if_neg (by omega)]; omega
theorem nm_next {p L i : Nat} (hi : i < L) (h : i ≠ (p + 1) % L) : nm (p + 1) L i = nm p L i := by
 have hL : 0 < L := by omega
 have h1 := nm_gt p L i
 have h2 := nm_le (p := p) i hL
 have h3 := nm_res (p := p) hi
 have : nm p L i ≠ p + 1 := by intro e; rw [e] at h3; exact h h3.symm
 have h4 := nm_mod (p := p + 1) (L := L) (n := nm p L i) (by omega) (by omega)
 rwa [h3] at h4
theorem nm_next_same {p L : Nat} (hL : 0 < L) : nm (p + 1) L ((p + 1) % L) = p + 1 + L := by
 have h4 := nm_mod (p := p + 1) (L := L) (n := p + 1 + L) (by omega) (by omega)
 rwa [Nat.add_mod_right] at h4
structure Bd where
 k : Nat
 bs : List Int
def Bd.v (b : Bd) : Value := .slice (some ⟨b.k, 0, none⟩) b.bs.length b.bs.length
structure St where
 p : Nat
 L : Nat
 rb : Nat
 f : Nat -> Option Bd
def noV (n : Nat) : Option Bd -> Value
 | some _ => .int .i64 (n : Int)
 | none => .int .i64 0
def thV : Option Bd -> Value
 | some b => b.v
 | none => .slice none 0 0
def St.cs (S : St) (i : Nat) : List Value := [noV (nm S.p S.L i) (S.f (nm S.p S.L i)), thV (S.f (nm S.p S.L i))]
def St.rf (S : St) (j : Nat) : Value := (S.cs (j / 2)).getD (j % 2) undef
def St.ring (S : St) : Value := .slice (if S.L = 0 then none else some ⟨S.rb, 0, none⟩) S.L S.L
def St.own (S : St) (j : Nat) : Prop := (0 < S.L /\ j = S.rb) ∨ ∃ n b, S.f n = some b /\ j = b.k
def St.set (S : St) (n : Nat) (b : Bd) : St := { S with f := upd S.f n (some b) }
def St.nxt (S : St) : St := { S with p := S.p + 1, f := upd S.f (S.p + 1) none }
section
variable {w w' W : World} {B : Nat} {S S' : St}
structure Body (w : World) (B : Nat) (b : Bd) : Prop where
 bk : Bk w b.k b.bs
 by_ : By b.bs
 pos : 0 < b.bs.length
 le : b.bs.length ≤ 300
 lo : B ≤ b.k
theorem Body.keep {b : Bd} {P : Nat -> Prop} (h : Body w B b) (k : Kept w w' P) (hp : ¬ P b.k) : Body w' B b := ⟨h.bk.keep k hp, h.by_, h.pos, h.le, h.lo⟩
theorem Body.still {b : Bd} (h : Body w B b) (hb : Below w.heap.size w w') : Body w' B b := h.keep (Kept.ofBelow hb (fun _ => False)) id
theorem Body.rd {b : Bd} (h : Body w B b) : Rd w (some ⟨b.k, 0, none⟩) b.bs.length b.bs.length b.bs := h.bk.all _ (Nat.le_refl _) h.by_
structure St.Ok (S : St) (w : World) (B : Nat) : Prop where
 row : 0 < S.L -> Fb w S.rb 127 (S.L * 2) S.rf /\ B ≤ S.rb
 el : ∀ n b, S.f n = some b -> Body w B b
 inw : ∀ n b, S.f n = some b -> S.p < n /\ n ≤ S.p + S.L
 inj : ∀ n m b c, S.f n = some b -> S.f m = some c -> b.k = c.k -> n = m
 le : S.L ≤ 40000
 p62 : S.p ≤ 4611686018427387904
theorem St.Ok.ne {n : Nat} {b : Bd} (h : S.Ok w B) (hL : 0 < S.L) (hb : S.f n = some b) : b.k ≠ S.rb := by
 obtain ⟨C, h1, _⟩ := (h.row hL).1
 exact bk_ne (h.el n b hb).bk h1 (by decide)
theorem St.Ok.lt (h : S.Ok w B) {j : Nat} (hj : S.own j) : j < w.heap.size := by
 rcases hj with ⟨h1, rfl⟩ | ⟨n, b, h1, rfl⟩
 ·exact (h.row h1).1.lt
 ·exact (h.el n b h1).bk.lt
theorem St.Ok.lo (h : S.Ok w B) {j : Nat} (hj : S.own j) : B ≤ j := by
 rcases hj with ⟨h1, rfl⟩ | ⟨n, b, h1, rfl⟩
 ·exact (h.row h1).2
 ·exact (h.el n b h1).lo
theorem St.Ok.keep {P : Nat -> Prop} (h : S.Ok w B) (k : Kept w w' P) (hp : ∀ j, S.own j -> ¬ P j) : S.Ok w' B :=
 ⟨fun hL => ⟨(h.row hL).1.keep k (hp _ (.inl ⟨hL, rfl⟩)), (h.row hL).2⟩, fun n b hb => (h.el n b hb).keep k (hp _ (.inr ⟨n, b, hb, rfl⟩)), h.inw, h.inj, h.le, h.p62⟩
theorem St.Ok.still (h : S.Ok w B) (hb : Below w.heap.size w w') : S.Ok w' B := h.keep (Kept.ofBelow hb (fun _ => False)) fun _ _ => id
theorem St.Ok.none_gt (h : S.Ok w B) {n : Nat} (hn : S.p + S.L < n) : S.f n = none := by
 cases e : S.f n with
 | none => rfl
 | some b => have := (h.inw n b e).2; omega
theorem St.Ok.none_le (h : S.Ok w B) {n : Nat} (hn : n ≤ S.p) : S.f n = none := by
 cases e : S.f n with
 | none => rfl
 | some b => have := (h.inw n b e).1; omega
theorem St.cell_no (h : Fb w S.rb 127 (S.L * 2) S.rf) {i : Nat} (hi : i < S.L) : w.cell? ⟨S.rb, i * 2, none⟩ = some (noV (nm S.p S.L i) (S.f (nm S.p S.L i))) := by
 rw [h.cell _ (by omega)]
 unfold St.rf St.cs
 rw [show i * 2 / 2 = i by omega, show i * 2 % 2 = 0 by omega]
 rfl
theorem St.cell_th (h : Fb w S.rb 127 (S.L * 2) S.rf) {i : Nat} (hi : i < S.L) : w.cell? ⟨S.rb, i * 2 + 1, none⟩ = some (thV (S.f (nm S.p S.L i))) := by
 rw [h.cell _ (by omega)]
 unfold St.rf St.cs
 rw [show (i * 2 + 1) / 2 = i by omega, show (i * 2 + 1) % 2 = 1 by omega]
 rfl
theorem rf_ext {S S' : St} {k : Nat} {l : List Value} (hl : l.length = 2) (h : ∀ i, i ≠ k -> i < S.L -> S'.cs i = S.cs i) (hk : S'.cs k = l) {j : Nat} (hj : j < S.L * 2) : (if k * 2 ≤ j /\ j < k * 2 + l.length then l.getD (j - k * 2) undef else S.rf j) = S'.rf j := by
 unfold St.rf
 rw [hl]
 by_cases e : k * 2 ≤ j /\ j < k * 2 + 2
 ·rw [if_pos e, show j / 2 = k by omega, hk, show j % 2 = j - k * 2 by omega]
 ·rw [if_neg e, h (j / 2) (by omega) (by omega)]
theorem set_row (h : S.Ok w B) (hL : 0 < S.L) {n : Nat} (h1 : S.p < n) (h2 : n ≤ S.p + S.L) (b : Bd) : Fb (w.setCells S.rb (n % S.L * 2) [.int .i64 (n : Int), b.v]) S.rb 127 (S.L * 2) (S.set n b).rf := by
 refine (Fb.sets _ _ _ _ (h.row hL).1).congr fun j hj => rf_ext rfl (fun i hi hl => ?_) ?_ hj
 ·have : nm S.p S.L i ≠ n := by intro e; rw [<- e, nm_res hl] at hi; exact hi rfl
  unfold St.cs St.set
  simp only
  rw [upd_ne _ _ this]
 ·unfold St.cs St.set
  simp only
  rw [nm_mod h1 h2, upd_same]
  rfl
theorem nxt_row (h : S.Ok w B) (hL : 0 < S.L) : Fb (w.setCells S.rb ((S.p + 1) % S.L * 2) [.int .i64 0, .slice none 0 0]) S.rb 127 (S.L * 2) S.nxt.rf := by
 refine (Fb.sets _ _ _ _ (h.row hL).1).congr fun j hj => rf_ext rfl (fun i hi hl => ?_) ?_ hj
 ·have h3 := nm_next (p := S.p) hl hi
  have h4 : nm S.p S.L i ≠ S.p + 1 := by intro e; have := nm_res (p := S.p) hl; rw [e] at this; exact hi this.symm
  unfold St.cs St.nxt
  simp only
  rw [h3, upd_ne _ _ h4]
 ·unfold St.cs St.nxt
  simp only
  rw [nm_next_same hL, upd_ne _ _ (by omega), h.none_gt (by omega)]
  rfl
theorem St.Ok.set (h : S.Ok w B) (hL : 0 < S.L) {n : Nat} (h1 : S.p < n) (h2 : n ≤ S.p + S.L) {b : Bd} (hb : Body w B b) (hn : ¬ S.own b.k) : (S.set n b).Ok (w.setCells S.rb (n % S.L * 2) [.int .i64 (n : Int), b.v]) B := by
 have k : Kept w (w.setCells S.rb (n % S.L * 2) [.int .i64 (n : Int), b.v]) (fun j => j = S.rb) := ksets (P := fun j => j = S.rb) rfl _ _ _
 refine ⟨fun _ => ⟨set_row h hL h1 h2 b, (h.row hL).2⟩, fun m c hc => ?_, fun m c hc => ?_, fun m m' c c' hc hc' e => ?_, h.le, h.p62⟩
 ·by_cases e : m = n
  ·subst e
   simp only [St.set, upd_same, Option.some.injEq] at hc
   subst hc
   exact hb.keep k (fun e => hn (.inl ⟨hL, e⟩))
  ·simp only [St.set, upd_ne _ _ e] at hc
   exact (h.el m c hc).keep k (h.ne hL hc)
 ·by_cases e : m = n
  ·subst e; exact ⟨h1, h2⟩
  ·simp only [St.set, upd_ne _ _ e] at hc
   exact h.inw m c hc
 ·by_cases e1 : m = n
  ·by_cases e2 : m' = n
   ·rw [e1, e2]
   ·subst e1
    simp only [St.set, upd_same, upd_ne _ _ e2, Option.some.injEq] at hc hc'
    subst hc
    exact (hn (.inr ⟨m', c', hc', e⟩)).elim
  ·by_cases e2 : m' = n
   ·subst e2
    simp only [St.set, upd_same, upd_ne _ _ e1, Option.some.injEq] at hc hc'
    subst hc'
    exact (hn (.inr ⟨m, c, hc, e.symm⟩)).elim
   ·simp only [St.set, upd_ne _ _ e1, upd_ne _ _ e2] at hc hc'
    exact h.inj m m' c c' hc hc' e
theorem St.Ok.nxt (h : S.Ok w B) (hL : 0 < S.L) (h62 : S.p + 1 ≤ 4611686018427387904) : S.nxt.Ok (w.setCells S.rb ((S.p + 1) % S.L * 2) [.int .i64 0, .slice none 0 0]) B := by
 have k : Kept w (w.setCells S.rb ((S.p + 1) % S.L * 2) [.int .i64 0, .slice none 0 0]) (fun j => j = S.rb) := ksets (P := fun j => j = S.rb) rfl _ _ _
 have hf : ∀ m c, S.nxt.f m = some c -> S.f m = some c /\ m ≠ S.p + 1 := fun m c hc => by
  by_cases e : m = S.p + 1
  ·subst e; simp only [St.nxt, upd_same] at hc; cases hc
  ·simp only [St.nxt, upd_ne _ _ e] at hc; exact ⟨hc, e⟩
 refine ⟨fun _ => ⟨nxt_row h hL, (h.row hL).2⟩, fun m c hc => (h.el m c (hf m c hc).1).keep k (h.ne hL (hf m c hc).1), fun m c hc => ?_, fun m m' c c' hc hc' e => h.inj m m' c c' (hf m c hc).1 (hf m' c' hc').1 e, h.le, h62⟩
 obtain ⟨h1, h2⟩ := hf m c hc
 have := h.inw m c h1
 exact ⟨by show S.p + 1 < m; omega, by show m ≤ S.p + 1 + S.L; omega⟩
end
section
variable {w w' W : World} {B : Nat} {S S' : St}
theorem within_any (v lo hi : Int) : Calls Try.prog 66 #[.int .i64 v, .int .i64 lo, .int .i64 hi] w fun e w' => e = .returned (.bool (inR lo hi v)) /\ w = w' := by
 go_enter Try.func66, Try.ntmps66
 go_wp2
 all_goals (go_ret; exact ⟨by simp [inR]; first | assumption | omega, rfl⟩)
theorem body_any {ao : Option Addr} {n c : Nat} : Calls Try.prog 69 #[.slice ao n c] w fun e w' => e = .returned (.bool (inR 1 300 n)) /\ w = w' := by
 have HW : Hid (Calls Try.prog 66 #[.int .i64 (n : Int), .int .i64 1, .int .i64 300] w fun e w' => e = .returned (.bool (inR 1 300 n)) /\ w = w') := within_any _ _ _
 go_enter Try.func69, Try.ntmps69
 go_wp2_with (first | (go_at_call 66; refine HW.out.mono ?_; rintro e w2 ⟨rfl, rfl⟩) | fail)
 go_ret
 exact ⟨rfl, rfl⟩
theorem copy_any {ao : Option Addr} {n c : Nat} {bs : List Int} (hr : Rd w ao n c bs) (hn : n ≤ 1000) : Calls Try.prog 62 #[.slice ao n c] w fun e w' => e = .returned (.slice (some ⟨w.heap.size, 0, none⟩) n n) /\ Bk w' w.heap.size bs /\ Below w.heap.size w w' := by
 have Hr : Hid (Rd w ao n c bs) := hr
 clear hr
 go_enter Try.func62, Try.ntmps62
 go_wp2_with (first | (at_make; refine wl_makeB rfl _ _ rfl _ _ n rfl rfl rfl rfl (by omega) ?_) | fail)
 intro w1 hb1 hbel
 have Hb1 : Hid (Bk w1 w.heap.size (List.replicate n 0)) := hb1
 have Hr1 : Hid (Rd w1 ao n c bs) := Hr.out.still hbel
 have Hl : Hid (spl (List.replicate n 0) 0 bs = bs) := (show _ = _ from by have := Hr.out.len; unfold spl; simp [this])
 clear hb1
 go_wp2_with (first | (refine wl_copy rfl (.tmp 7) (.tmp 8) rfl (some ⟨w.heap.size, 0, none⟩) ao n n n c rfl rfl Hb1.out Hr1.out (Nat.le_refl _) (fun _ => rfl) (by simp) ?_) | fail)
 intro w2 hb2 hk2
 rw [Hl.out] at hb2
 have HB2 : Hid (Bk w2 w.heap.size bs) := hb2
 have HBel : Hid (Below w.heap.size w w2) := (show Below w.heap.size w w2 from ⟨hk2.os.trans hbel.os, hk2.tape.trans hbel.tape, hk2.output.trans hbel.output, Nat.le_trans hbel.size hk2.size, fun i hi => (hk2.block i (Nat.lt_of_lt_of_le hi hbel.size) (by show ¬ i = w.heap.size; omega)).trans (hbel.block i hi)⟩)
 clear hb2 hk2 hbel
 go_wp2
 go_ret
 exact ⟨rfl, HB2.out, HBel.out⟩
theorem tmod_nat (n L : Nat) : Int.tmod (n : Int) (L : Int) = ((n % L : Nat) : Int) := by
 rw [Int.tmod_eq_emod_of_nonneg (Int.natCast_nonneg n)]; rfl
theorem place_any {rb L n : Nat} (hL : 0 < L) (hn : n ≤ 4611686018427427905) (hl : L ≤ 40000) : Calls Try.prog 83 #[.slice (some ⟨rb, 0, none⟩) L L, .int .i64 (n : Int)] w fun e w' => e = .returned (.pointer (some ⟨rb, n % L * 2, none⟩)) /\ w = w' := by
 have h1 : ((L : Int) == 0) = false := by rw [beq_eq_false_iff_ne]; omega
 have hlt := Nat.mod_lt n hL
 have e := tmod_nat n L
 generalize hm : n % L = m at *
 go_enter Try.func83, Try.ntmps83
 go_wp2
 go_ret
 exact ⟨rfl, rfl⟩
theorem ring_pos (hL : 0 < S.L) : S.ring = .slice (some ⟨S.rb, 0, none⟩) S.L S.L := by unfold St.ring; rw [if_neg (by omega)]
theorem ring_zero (hL : S.L = 0) : S.ring = .slice none 0 0 := by unfold St.ring; rw [if_pos hL, hL]
theorem no_eq (h : S.Ok w B) (hL : 0 < S.L) {n : Nat} (hn : S.p < n) : ∃ x : Int, noV (nm S.p S.L (n % S.L)) (S.f (nm S.p S.L (n % S.L))) = .int .i64 x /\ (x == (n : Int)) = (S.f n).isSome := by
 by_cases h2 : n ≤ S.p + S.L
 ·rw [nm_mod hn h2]
  cases e : S.f n with
  | none => exact ⟨0, rfl, by simp; omega⟩
  | some b => exact ⟨n, rfl, by simp⟩
 ·have h3 := nm_le (p := S.p) (L := S.L) (n % S.L) hL
  have h4 := h.none_gt (n := n) (by omega)
  generalize nm S.p S.L (n % S.L) = m at *
  rw [h4]
  cases e : S.f m with
  | none => exact ⟨0, rfl, by simp; omega⟩
  | some b => exact ⟨m, rfl, by simp; omega⟩
theorem has_any {eb off n : Nat} (h : S.Ok w B) (hr : w.cell? ⟨eb, off + 1, none⟩ = some S.ring) (hn : S.p < n) (hn2 : n ≤ 4611686018427427905) : Calls Try.prog 72 #[.pointer (some ⟨eb, off, none⟩), .int .i64 (n : Int)] w fun e w' => e = .returned (.bool (S.f n).isSome) /\ w = w' := by
 by_cases hL : 0 < S.L
 ·rw [ring_pos hL] at hr
  obtain ⟨x, hx1, hx2⟩ := no_eq h hL hn
  have c0 := St.cell_no (h.row hL).1 (i := n % S.L) (Nat.mod_lt _ hL)
  rw [hx1] at c0
  have hle := h.le
  have HP : Hid (Calls Try.prog 83 #[.slice (some ⟨S.rb, 0, none⟩) S.L S.L, .int .i64 (n : Int)] w fun e w' => e = .returned (.pointer (some ⟨S.rb, n % S.L * 2, none⟩)) /\ w = w') := place_any hL hn2 hle
  rw [<- hx2]
  clear h hx1 hx2
  generalize n % S.L = m at *
  go_enter Try.func72, Try.ntmps72
  go_wp2_with (first | (go_at_call 83; refine HP.out.mono ?_; rintro e w2 ⟨rfl, rfl⟩) | fail)
  all_goals (go_ret; exact ⟨by simp, rfl⟩)
 ·rw [ring_zero (by omega)] at hr
  rw [h.none_gt (n := n) (by omega)]
  clear h
  go_enter Try.func72, Try.ntmps72
  go_wp2
  go_ret
  exact ⟨rfl, rfl⟩
end
end Go.Proofs.Ythanifbimndhaaa.Ln
