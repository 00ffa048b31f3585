import Derived.Test.YtbdefhagpgpoiacQ00
import Derived.Test.YtbdefhagpgpoiacRows
import Derived.WalkKit
import Derived.WalkLawsBesides
import Derived.WalkSpells
import Derived.Outline
import Derived.Below
import Derived.BigQuiet
import Derived.Deep.QuietTactic
import Derived.Deep.RegionHeld3
import Derived.Deep.RegionHeldLaw
import Derived.Deep.AppendLies
import Derived.Deep.MidRow
import Derived.ArgAppend
import Derived.Laws.OwnMore
import Derived.Laws.AppendOwnNone
import Derived.Laws.CopyOwn
import Derived.Laws.StructEq
import Derived.ChangeKeysEq
namespace Go.Proofs.Ytbdefhagpgpoiac.Mb
open Go.RowKit
set_option linter.unusedVariables false
set_option maxRecDepth 100000
set_option linter.unusedSimpArgs false
structure Kept (w w' : World) (P : Nat → Prop) : Prop where
  os : w'.os = w.os
  tape : w'.tape = w.tape
  output : w'.output = w.output
  size : w.heap.size ≤ w'.heap.size
  block : ∀ k, k < w.heap.size → ¬ P k → w'.heap[k]? = w.heap[k]?
theorem Kept.refl (w : World) (P : Nat → Prop) : Kept w w P := ⟨rfl, rfl, rfl, Nat.le_refl _, fun _ _ _ => rfl⟩
theorem Kept.trans {a b c : World} {P : Nat → Prop} (h : Kept a b P) (k : Kept b c P) : Kept a c P :=
  ⟨k.os.trans h.os, k.tape.trans h.tape, k.output.trans h.output, Nat.le_trans h.size k.size, fun i hi hp => (k.block i (Nat.lt_of_lt_of_le hi h.size) hp).trans (h.block i hi hp)⟩
theorem Kept.step {a b c : World} {P Q : Nat → Prop} (h : Kept a b P) (k : Kept b c Q) (hq : ∀ j, Q j → P j ∨ a.heap.size ≤ j) : Kept a c P :=
  ⟨k.os.trans h.os, k.tape.trans h.tape, k.output.trans h.output, Nat.le_trans h.size k.size, fun i hi hp => (k.block i (Nat.lt_of_lt_of_le hi h.size) (fun hQ => (hq i hQ).elim hp (fun hh => by omega))).trans (h.block i hi hp)⟩
theorem Kept.mono {a b : World} {P Q : Nat → Prop} (h : Kept a b P) (hq : ∀ k, k < a.heap.size → P k → Q k) : Kept a b Q :=
  ⟨h.os, h.tape, h.output, h.size, fun i hi hp => h.block i hi (fun hP => hp (hq i hi hP))⟩
theorem Kept.ofGrown {a b : World} {r : Option Nat} (h : a.grownBy b r) : Kept a b (fun k => some k = r) := ⟨h.os, h.tape, h.output, h.size, fun i hi hp => h.block i hi hp⟩
theorem Kept.ofBelow {a b : World} (h : Below a.heap.size a b) (P : Nat → Prop) : Kept a b P := ⟨h.os, h.tape, h.output, h.size, fun i hi _ => h.block i hi⟩
theorem Kept.below {a b : World} {P : Nat → Prop} {B : Nat} (h : Kept a b P) (hB : B ≤ a.heap.size) (hp : ∀ k, k < B → ¬ P k) : Below B a b := ⟨h.os, h.tape, h.output, h.size, fun i hi => h.block i (by omega) (hp i hi)⟩
theorem Kept.owns {a b : World} {P : Nat → Prop} {base e size n : Nat} {v : Value} {xs : List Value} (h : Kept a b P) (ho : a.ownsRow base e size v n xs) (hp : ∀ k, v.ownBlock = some k → ¬ P k) : b.ownsRow base e size v n xs := by
  refine ⟨ho.1, ?_⟩
  have hlt := ho.lt
  rcases ho.2 with h1 | ⟨g, cap, cur, hv, hg, hh, hr⟩
  · exact .inl h1
  · subst hv
    exact .inr ⟨g, cap, cur, rfl, hg, (h.block g (hlt g rfl).2 (hp g rfl)).trans hh, hr⟩
theorem lt_heap {w : World} {k : Nat} {o : Obj} (h : w.heap[k]? = some o) : k < w.heap.size := by
  rcases Array.getElem?_eq_some_iff.1 h with ⟨h, _⟩; exact h
theorem Kept.obj {a b : World} {P : Nat → Prop} {k : Nat} {o : Obj} (h : Kept a b P) (ho : a.heap[k]? = some o) (hp : ¬ P k) : b.heap[k]? = some o := (h.block k (lt_heap ho) hp).trans ho
theorem kset {P : Nat → Prop} (w : World) (k i : Nat) (v : Value) (hp : P k) : Kept w (w.setCell ⟨k, i, none⟩ v) P :=
  ⟨rfl, rfl, rfl, by simp, fun j hj hq => Below.heap_setCell w ⟨k, i, none⟩ v j (fun e => hq (by cases e; exact hp))⟩
theorem bstep {w0 w w' : World} (h : Below w0.heap.size w0 w) (hb : Below w.heap.size w w') : Below w0.heap.size w0 w' := h.trans (hb.mono h.size)
theorem balloc {w0 w : World} {o : Obj} (h : Below w0.heap.size w0 w) : Below w0.heap.size w0 (w.alloc o) := h.alloc h.size o
theorem bset {w w1 : World} {k : Nat} (h : Below w.heap.size w w1) (hk : w.heap.size ≤ k) (i : Nat) (v : Value) : Below w.heap.size w (w1.setCell ⟨k, i, none⟩ v) :=
  ⟨h.os, h.tape, h.output, by simpa using h.size, fun j hj => (Below.heap_setCell w1 ⟨k, i, none⟩ v j (by show ¬ j = k; omega)).trans (h.block j hj)⟩
theorem blk_cell {W : World} {cs : Array Value} {t : TypeId} {kb : Nat} (h : W.heap[kb]? = some (.cells cs t (0, 0))) (i : Nat) : W.cell? ⟨kb, i, none⟩ = cs[i]? := cell_of_row W kb i cs t (0, 0) h
theorem blk_alloc {W : World} {cs : Array Value} {t : TypeId} {kb : Nat} {o : Obj} (h : W.heap[kb]? = some (.cells cs t (0, 0))) : (W.alloc o).heap[kb]? = some (.cells cs t (0, 0)) :=
  (((Below.refl _ _).alloc (Nat.le_refl _) o).block _ (lt_heap h)).trans h
theorem blk_set {w : World} {t : TypeId} {k i : Nat} {cs cs' : Array Value} {v : Value} (h : w.heap[k]? = some (.cells cs t (0, 0))) (e : cs.setIfInBounds i v = cs') : (w.setCell ⟨k, i, none⟩ v).heap[k]? = some (.cells cs' t (0, 0)) := e ▸ heap_setCell_same w k i cs t v h
theorem own_still {W W' : World} {B e s n : Nat} {v : Value} {l : List Value} (h : W.ownsRow B e s v n l) (hb : Below W.heap.size W W') : W'.ownsRow B e s v n l := (Kept.ofBelow hb (fun _ => False)).owns h (fun _ _ => id)
theorem own_lower {w : World} {B B' t s n : Nat} {v : Value} {l : List Value} (h : w.ownsRow B t s v n l) (hB : B' ≤ B) : w.ownsRow B' t s v n l :=
  ⟨h.1, h.2.elim (fun hh => .inl hh) (fun ⟨g, cap, cur, e1, e2, e3⟩ => .inr ⟨g, cap, cur, e1, by omega, e3⟩)⟩
theorem below_at {w w' : World} {k i : Nat} {v : Value} (hb : Below w.heap.size w w') (hc : w.cell? ⟨k, i, none⟩ = some v) : w'.cell? ⟨k, i, none⟩ = some v := (hb.cell (World.block_lt_of_cell? w _ hc)).trans hc
def upd {α : Type} (f : Nat → α) (p : Nat) (x : α) : Nat → α := fun a => if a = p then x else f a
theorem upd_same {α : Type} (f : Nat → α) (p : Nat) (x : α) : upd f p x p = x := by simp [upd]
theorem upd_ne {α : Type} (f : Nat → α) {p q : Nat} (x : α) (h : q ≠ p) : upd f p x q = f q := by simp [upd, h]
theorem upd_twice {α : Type} (f : Nat → α) (p : Nat) (x y : α) : upd (upd f p x) p y = upd f p y := by
  funext a; simp [upd]; split <;> rfl
theorem upd_self {α : Type} (f : Nat → α) (p : Nat) : upd f p (f p) = f := by
  funext a; simp [upd]; intro h; rw [h]
theorem wrap_id {a : Int} (h0 : -9223372036854775808 ≤ a) (h1 : a ≤ 9223372036854775807) : IntKind.i64.wrap a = a := by
  rw [IntKind.wrap_i64]; omega
def ints (xs : List Int) : List Value := xs.map (Value.int .i64)
theorem ints_len (xs : List Int) : (ints xs).length = xs.length := by simp [ints]
theorem ints_one (xs : List Int) : ∀ u ∈ ints xs, u.oneCell' = true := by
  intro u hu
  obtain ⟨_, _, rfl⟩ := List.mem_map.1 hu
  rfl
theorem ints_at (xs : List Int) (i : Nat) (h : i < xs.length) : (ints xs)[i]? = some (.int .i64 (xs.getD i 0)) := by simp [ints, List.getD, h]
section
variable {w w' : World} {b t n o : Nat}
def Fb (w : World) (b t n : Nat) (f : Nat → Value) : Prop := ∃ C : Array Value, w.heap[b]? = some (.cells C t (0, 0)) ∧ C.size = n ∧ ∀ i, i < n → C[i]? = some (f i)
theorem Fb.lt {f : Nat → Value} (h : Fb w b t n f) : b < w.heap.size := by obtain ⟨C, h1, _⟩ := h; exact lt_heap h1
theorem Fb.cell {f : Nat → Value} (h : Fb w b t n f) (i : Nat) (hi : i < n) : w.cell? ⟨b, i, none⟩ = some (f i) := by
  obtain ⟨C, h1, h2, h3⟩ := h
  exact (blk_cell h1 i).trans (h3 i hi)
theorem Fb.fz {f : Nat → Value} (h : Fb w b t n f) (i : Nat) : w.frozen? ⟨b, i, none⟩ = false := by
  obtain ⟨C, h1, _⟩ := h
  exact frozen_of_row w _ i _ _ h1
theorem Fb.congr {f g : Nat → Value} (h : Fb w b t n f) (e : ∀ i, i < n → f i = g i) : Fb w b t n g := by
  obtain ⟨C, h1, h2, h3⟩ := h
  exact ⟨C, h1, h2, fun i hi => (h3 i hi).trans (by rw [e i hi])⟩
theorem Fb.keep {P : Nat → Prop} {f : Nat → Value} (h : Fb w b t n f) (k : Kept w w' P) (hp : ¬ P b) : Fb w' b t n f := by
  obtain ⟨C, h1, h2, h3⟩ := h
  exact ⟨C, k.obj h1 hp, h2, h3⟩
theorem Fb.set {f : Nat → Value} (h : Fb w b t n f) (i : Nat) (v : Value) : Fb (w.setCell ⟨b, i, none⟩ v) b t n (fun j => if j = i then v else f j) := by
  obtain ⟨C, h1, h2, h3⟩ := h
  refine ⟨_, blk_set h1 rfl, by simp [h2], fun j hj => ?_⟩
  rw [Array.getElem?_setIfInBounds]
  by_cases e : i = j
  · subst e
    simp [show i < C.size by omega]
  · rw [if_neg e, h3 j hj]
    simp [show ¬ j = i from fun h => e h.symm]
theorem Fb.sets : ∀ (vs : List Value) (o : Nat) (w : World) (f : Nat → Value), Fb w b t n f → Fb (w.setCells b o vs) b t n (fun j => if o ≤ j ∧ j < o + vs.length then vs.getD (j - o) undef else f j)
  | [], o, w, f, h => h.congr fun i _ => by simp only [List.length_nil, Nat.add_zero]; rw [if_neg (by omega)]
  | v :: vs, o, w, f, h => (Fb.sets vs (o + 1) _ _ (h.set o v)).congr fun i _ => by
      simp only [List.length_cons]
      by_cases e : i = o
      · subst e
        rw [if_neg (by omega), if_pos rfl, if_pos (by omega), Nat.sub_self]
        simp [List.getD]
      · by_cases e2 : o + 1 ≤ i ∧ i < o + 1 + vs.length
        · rw [if_pos e2, if_pos (by omega)]
          rw [show i - o = (i - (o + 1)) + 1 by omega]
          simp [List.getD]
        · rw [if_neg e2, if_neg e, if_neg (by omega)]
theorem Fb.range {f : Nat → Value} (h : Fb w b t n f) (o : Nat) (cs : List Value) (hc : ∀ j v, cs[j]? = some v → o + j < n ∧ f (o + j) = v) : w.rangeAt b o cs := fun j v hv => by
  obtain ⟨h1, h2⟩ := hc j v hv
  rw [h.cell _ h1, h2]
theorem Fb.there {f : Nat → Value} (h : Fb w b t n f) (o k : Nat) (hk : o + k ≤ n) : w.there b o k := fun j hj => ⟨by rw [h.cell (o + j) (by omega)]; rfl, h.fz _⟩
theorem ksets {P : Nat → Prop} (hp : P b) : ∀ (vs : List Value) (o : Nat) (w : World), Kept w (w.setCells b o vs) P
  | [], _, w => Kept.refl w P
  | v :: vs, o, w => (kset w b o v hp).trans (ksets hp vs (o + 1) _)
theorem bsets {w0 : World} {k : Nat} (hk : w0.heap.size ≤ k) : ∀ (vs : List Value) (o : Nat) {w : World}, Below w0.heap.size w0 w → Below w0.heap.size w0 (w.setCells k o vs)
  | [], _, w, h => h
  | v :: vs, o, w, h => bsets hk vs (o + 1) (bset h hk o v)
def Rw (w : World) (g t : Nat) (xs : List Int) : Prop := w.heap[g]? = some (.cells (ints xs).toArray t (0, 0))
theorem Rw.cell {g : Nat} {xs : List Int} (h : Rw w g t xs) {i : Nat} (hi : i < xs.length) : w.cell? ⟨g, i, none⟩ = some (.int .i64 (xs.getD i 0)) := by
  rw [blk_cell h i]
  simp [ints, List.getD, hi]
theorem Rw.fz {g : Nat} {xs : List Int} (h : Rw w g t xs) (i : Nat) : w.frozen? ⟨g, i, none⟩ = false := frozen_of_row w _ i _ _ h
theorem Rw.set {g : Nat} {xs : List Int} (h : Rw w g t xs) (i : Nat) (x : Int) : Rw (w.setCell ⟨g, i, none⟩ (.int .i64 x)) g t (xs.set i x) := by
  refine blk_set h ?_
  simp [ints, List.map_set]
theorem Rw.still {g : Nat} {xs : List Int} (h : Rw w g t xs) (hb : Below w.heap.size w w') : Rw w' g t xs := (hb.block _ (lt_heap h)).trans h
theorem Rw.keep {P : Nat → Prop} {g : Nat} {xs : List Int} (h : Rw w g t xs) (k : Kept w w' P) (hp : ¬ P g) : Rw w' g t xs := k.obj h hp
theorem Rw.lt {g : Nat} {xs : List Int} (h : Rw w g t xs) : g < w.heap.size := lt_heap h
theorem Rw.range {g : Nat} {xs : List Int} (h : Rw w g t xs) (o : Nat) (ys : List Int) (hc : ∀ j, j < ys.length → o + j < xs.length ∧ xs.getD (o + j) 0 = ys.getD j 0) : w.rangeAt g o (ints ys) := fun j v hv => by
  have hj : j < ys.length := by have := (List.getElem?_eq_some_iff.1 hv).1; rwa [ints_len] at this
  obtain ⟨h1, h2⟩ := hc j hj
  rw [h.cell h1, h2, ← ints_at ys j hj, hv]
theorem Rw.all {g : Nat} {xs : List Int} (h : Rw w g t xs) : w.rangeAt g 0 (ints xs) := h.range 0 xs fun j hj => by rw [Nat.zero_add]; exact ⟨hj, rfl⟩
theorem Rw.there {g : Nat} {xs : List Int} (h : Rw w g t xs) (o k : Nat) (hk : o + k ≤ xs.length) : w.there g o k := fun j hj => ⟨by rw [h.cell (i := o + j) (by omega)]; rfl, h.fz _⟩
theorem Rw.sets {g : Nat} : ∀ (ys : List Int) (o : Nat) (w : World) (xs : List Int), Rw w g t xs → o + ys.length ≤ xs.length → Rw (w.setCells g o (ints ys)) g t (xs.take o ++ ys ++ xs.drop (o + ys.length))
  | [], o, w, xs, h, _ => by simpa [ints, World.setCells] using h
  | y :: ys, o, w, xs, h, hl => by
      simp only [List.length_cons] at hl
      have := Rw.sets ys (o + 1) _ _ (h.set o y) (by simp; omega)
      have e : (xs.set o y).take (o + 1) ++ ys ++ (xs.set o y).drop (o + 1 + ys.length) = xs.take o ++ y :: ys ++ xs.drop (o + (y :: ys).length) := by
        rw [List.take_set, List.drop_set, if_pos (by omega), List.length_cons, show o + (ys.length + 1) = o + 1 + ys.length by omega]
        rw [List.take_add_one, List.set_append]
        simp [show ¬ o < min o xs.length by omega, show min o xs.length = o by omega, show o < xs.length by omega]
      rw [e] at this
      exact this
end
end Go.Proofs.Ytbdefhagpgpoiac.Mb
namespace Go.Proofs.Ytbdefhagpgpoiac.Mb
open Go.RowKit
set_option linter.unusedVariables false
set_option maxRecDepth 100000
set_option linter.unusedSimpArgs false
structure Pp where
  set : List Int
  cid : Int
  rev : Int
  top : Int
  prev : List Int
  vec : List Int
def Pp.fl (p : Pp) : List Int := p.set ++ (p.cid :: p.rev :: p.top :: (p.prev ++ p.vec))
structure Pp.L (p : Pp) : Prop where
  ls : p.set.length = 16
  lp : p.prev.length = 4
  lv : p.vec.length = 16
theorem Pp.L.fl {p : Pp} (h : p.L) : p.fl.length = 39 := by simp [Pp.fl, h.ls, h.lp, h.lv]
theorem Pp.inj {p q : Pp} (hp : p.L) (hq : q.L) (h : p.fl = q.fl) : p = q := by
  unfold Pp.fl at h
  obtain ⟨h1, h2⟩ := List.append_inj h (by rw [hp.ls, hq.ls])
  simp only [List.cons.injEq] at h2
  obtain ⟨h3, h4, h5, h6⟩ := h2
  obtain ⟨h7, h8⟩ := List.append_inj h6 (by rw [hp.lp, hq.lp])
  cases p; cases q; simp_all
theorem Pp.L.at_set {p : Pp} (h : p.L) (j : Nat) (hj : j < 16) : p.fl.getD j 0 = p.set.getD j 0 := by
  simp [Pp.fl, List.getD, List.getElem?_append, h.ls, hj]
theorem Pp.L.cid {p : Pp} (h : p.L) : p.fl.getD 16 0 = p.cid := by simp [Pp.fl, List.getD, List.getElem?_append, h.ls]
theorem Pp.L.rev {p : Pp} (h : p.L) : p.fl.getD 17 0 = p.rev := by simp [Pp.fl, List.getD, List.getElem?_append, h.ls]
theorem Pp.L.top {p : Pp} (h : p.L) : p.fl.getD 18 0 = p.top := by simp [Pp.fl, List.getD, List.getElem?_append, h.ls]
theorem Pp.L.at_prev {p : Pp} (h : p.L) (j : Nat) (hj : j < 4) : p.fl.getD (19 + j) 0 = p.prev.getD j 0 := by
  simp [Pp.fl, List.getD, List.getElem?_append, h.ls, h.lp, show ¬ 19 + j < 16 by omega, show 19 + j - 16 = j + 3 by omega, hj]
theorem Pp.L.at_vec {p : Pp} (h : p.L) (j : Nat) (hj : j < 16) : p.fl.getD (23 + j) 0 = p.vec.getD j 0 := by
  simp [Pp.fl, List.getD, List.getElem?_append, h.ls, h.lp, show ¬ 23 + j < 16 by omega, show 23 + j - 16 = j + 7 by omega, show ¬ j + 4 < 4 by omega]
theorem Pp.L.set_cid {p : Pp} (h : p.L) (x : Int) : p.fl.set 16 x = ({ p with cid := x } : Pp).fl := by
  simp [Pp.fl, List.set_append, h.ls]
theorem Pp.L.set_rev {p : Pp} (h : p.L) (x : Int) : p.fl.set 17 x = ({ p with rev := x } : Pp).fl := by
  simp [Pp.fl, List.set_append, h.ls]
theorem Pp.L.set_top {p : Pp} (h : p.L) (x : Int) : p.fl.set 18 x = ({ p with top := x } : Pp).fl := by
  simp [Pp.fl, List.set_append, h.ls]
theorem Pp.L.put_set {p : Pp} (h : p.L) (s : List Int) (hs : s.length = 16) : p.fl.take 0 ++ s ++ p.fl.drop (0 + s.length) = ({ p with set := s } : Pp).fl := by
  simp [Pp.fl, hs, List.drop_append, h.ls]
theorem Pp.L.put_vec {p : Pp} (h : p.L) (s : List Int) (hs : s.length = 16) : p.fl.take 23 ++ s ++ p.fl.drop (23 + s.length) = ({ p with vec := s } : Pp).fl := by
  rw [List.drop_of_length_le (by rw [h.fl, hs]; omega), List.append_nil]
  simp [Pp.fl, List.take_append, h.ls, h.lp]
  rw [List.take_of_length_le (by rw [h.ls]; omega)]
theorem Pp.L.put_prev {p : Pp} (h : p.L) (s : List Int) (hs : s.length = 4) : p.fl.take 19 ++ s ++ p.fl.drop (19 + s.length) = ({ p with prev := s } : Pp).fl := by
  simp [Pp.fl, List.take_append, List.drop_append, h.ls, h.lp, hs]
  rw [List.take_of_length_le (by rw [h.ls]; omega), List.drop_of_length_le (by rw [h.ls]; omega)]
  simp
section
variable {w : World}
theorem cells_i : Try.prog.cellsOf 3 = 1 := by kernel_rfl
theorem info_iS : ∃ i, Try.prog.info? 3 = some i := by
  have : (Try.prog.info? 3).isSome = true := by kernel_rfl
  exact Option.isSome_iff_exists.1 this
theorem part_i (xs : List Int) (i : Nat) (h : i < xs.length) : (part 3 (ints xs).toArray i).run Try.prog w = .ok (.int .i64 (xs.getD i 0)) w := by
  have hagg : (isAgg 3).run Try.prog w = .ok false w := by
    unfold isAgg
    rw [Sem.run_bind, run_underlying Try.underlying3 w]
    rfl
  unfold part
  simp only [Sem.run_bind, hagg, Result.andThen_ok, Bool.false_eq_true, if_false, List.getElem?_toArray, ints_at xs i h]
  rfl
theorem items_i (d : Nat) (xs ys : List Int) : ∀ (is : List Nat), (∀ i ∈ is, i < xs.length ∧ i < ys.length) → (Op.eqItems (d + 1) 3 1 (ints xs).toArray (ints ys).toArray is).run Try.prog w = .ok (is.all fun i => xs.getD i 0 == ys.getD i 0) w
  | [], _ => by simp [Op.eqItems]
  | i :: is, h => by
    have h1 := h i (by simp)
    have ih := items_i d xs ys is (fun j hj => h j (by simp [hj]))
    simp only [Op.eqItems, Sem.run_bind, Nat.mul_one, part_i xs i h1.1, part_i ys i h1.2, Result.andThen_ok, run_equalIn_int w d 3 .i64 .i64 _ _ Try.underlying3, List.all_cons]
    cases hb : (xs.getD i 0 == ys.getD i 0)
    · simp
    · simpa using ih
theorem all_range (xs ys : List Int) (n : Nat) (hx : xs.length = n) (hy : ys.length = n) : ((List.range n).all fun i => xs.getD i 0 == ys.getD i 0) = decide (xs = ys) := by
  rw [Bool.eq_iff_iff, List.all_eq_true, decide_eq_true_iff]
  constructor
  · intro h
    apply List.ext_getElem (by omega)
    intro i h1 h2
    have := h i (List.mem_range.2 (by omega))
    simpa [List.getD, h1, h2] using this
  · rintro rfl i hi
    simp
theorem eq_row (d : Nat) (xs ys : List Int) (hx : xs.length = 16) (hy : ys.length = 16) : (Op.equalIn (d + 2) 45 (.agg (ints xs).toArray) (.agg (ints ys).toArray)).run Try.prog w = .ok (decide (xs = ys)) w := by
  obtain ⟨i, hi⟩ := info_iS
  rw [run_equalIn_array w (d + 1) _ _ Try.underlying45 hi, cells_i, items_i d xs ys _ (fun i hi => by have := List.mem_range.1 hi; omega), all_range xs ys 16 hx hy]
theorem part_row (cs : Array Value) (o : Nat) : (part 45 cs o).run Try.prog w = .ok (.agg (cs.extract o (o + 16))) w := by
  have hagg : (isAgg 45).run Try.prog w = .ok true w := by
    unfold isAgg
    rw [Sem.run_bind, run_underlying Try.underlying45 w]
    rfl
  have hs : (sizeOf 45).run Try.prog w = .ok 16 w := by
    have h : (Try.prog.info? 45).map (·.size) = some 16 := by kernel_rfl
    cases hq : Try.prog.info? 45 with
    | none => simp [hq] at h
    | some i => simp [hq] at h; simp [sizeOf, typeInfo, hq, h]
  unfold part
  simp only [Sem.run_bind, hagg, hs, Result.andThen_ok, if_true, Sem.run_pure]
theorem part_id (cs : Array Value) (o : Nat) : (part 38 cs o).run Try.prog w = .ok (.agg (cs.extract o (o + 4))) w := by
  have hagg : (isAgg 38).run Try.prog w = .ok true w := by
    unfold isAgg
    rw [Sem.run_bind, run_underlying Try.underlying38 w]
    rfl
  have hs : (sizeOf 38).run Try.prog w = .ok 4 w := by
    have h : (Try.prog.info? 38).map (·.size) = some 4 := by kernel_rfl
    cases hq : Try.prog.info? 38 with
    | none => simp [hq] at h
    | some i => simp [hq] at h; simp [sizeOf, typeInfo, hq, h]
  unfold part
  simp only [Sem.run_bind, hagg, hs, Result.andThen_ok, if_true, Sem.run_pure]
theorem fields_id : (Try.prog.fieldsOf 38).toList.map (fun f => (f.name, f.type, f.offset)) = [("Epoch", 3, 0), ("Lead", 3, 1), ("Inc", 3, 2), ("Cid", 3, 3)] := by kernel_rfl
theorem fields_prop : (Try.prog.fieldsOf 47).toList.map (fun f => (f.name, f.type, f.offset)) = [("set", 45, 0), ("cid", 3, 16), ("rev", 3, 17), ("top", 3, 18), ("prev", 38, 19), ("vec", 45, 23)] := by kernel_rfl
def eqF (d : Nat) (xs ys : Array Value) : List (String × TypeId × Nat) → Sem Bool
  | [] => pure true
  | (n, t, o) :: fs =>
    if n ≠ "_" then do
      let a ← part t xs o
      let b ← part t ys o
      let r ← Op.equalIn d t a b
      if (!r) = true then pure false else eqF d xs ys fs
    else eqF d xs ys fs
theorem eqF_eq (d : Nat) (xs ys : Array Value) : ∀ fs : List Field, Op.eqFields d xs ys fs = eqF d xs ys (fs.map fun f => (f.name, f.type, f.offset))
  | [] => rfl
  | f :: fs => by simp only [Op.eqFields, List.map_cons, eqF, eqF_eq d xs ys fs]
theorem under_id : Try.prog.underlying 38 = some (.struct (Try.prog.fieldsOf 38)) := by
  unfold Program.fieldsOf
  rw [Try.underlying38]
theorem under_prop : Try.prog.underlying 47 = some (.struct (Try.prog.fieldsOf 47)) := by
  unfold Program.fieldsOf
  rw [Try.underlying47]
theorem stood_id : Try.prog.stoodInHeld 38 = false := by kernel_rfl
theorem stood_prop : Try.prog.stoodInHeld 47 = false := by kernel_rfl
theorem eq_id (d : Nat) (xs ys : List Int) (hx : xs.length = 4) (hy : ys.length = 4) : (Op.equalIn (d + 2) 38 (.agg (ints xs).toArray) (.agg (ints ys).toArray)).run Try.prog w = .ok (decide (xs = ys)) w := by
  rw [run_equalIn_struct w (d + 1) 38 _ _ under_id stood_id, eqF_eq, fields_id]
  simp only [eqF, ne_eq, reduceCtorEq, String.reduceEq, not_false_eq_true, if_true, Sem.run_bind, Sem.run_ite, Sem.run_pure, part_i xs 0 (by omega), part_i ys 0 (by omega), part_i xs 1 (by omega), part_i ys 1 (by omega), part_i xs 2 (by omega), part_i ys 2 (by omega), part_i xs 3 (by omega), part_i ys 3 (by omega), Result.andThen_ok, run_equalIn_int w d 3 .i64 .i64 _ _ Try.underlying3]
  have e : decide (xs = ys) = (xs.getD 0 0 == ys.getD 0 0 && xs.getD 1 0 == ys.getD 1 0 && xs.getD 2 0 == ys.getD 2 0 && xs.getD 3 0 == ys.getD 3 0) := by
    match xs, ys, hx, hy with
    | [a, b, c, d], [e, f, g, h], _, _ =>
      rw [Bool.eq_iff_iff]
      simp [and_assoc]
  rw [e]
  cases xs.getD 0 0 == ys.getD 0 0 <;> cases xs.getD 1 0 == ys.getD 1 0 <;> cases xs.getD 2 0 == ys.getD 2 0 <;> cases xs.getD 3 0 == ys.getD 3 0 <;> rfl
theorem ints_extract (xs : List Int) (a b : Nat) : (ints xs).toArray.extract a b = (ints ((xs.drop a).take (b - a))).toArray := by
  simp [ints, List.map_take, List.map_drop]
theorem Pp.L.x_set {p : Pp} (h : p.L) : (p.fl.drop 0).take (0 + 16 - 0) = p.set := by
  simp [Pp.fl, List.take_append, h.ls]
theorem Pp.L.x_prev {p : Pp} (h : p.L) : (p.fl.drop 19).take (19 + 4 - 19) = p.prev := by
  simp [Pp.fl, List.drop_append, List.take_append, h.ls, h.lp]
theorem Pp.L.x_vec {p : Pp} (h : p.L) : (p.fl.drop 23).take (23 + 16 - 23) = p.vec := by
  simp [Pp.fl, List.drop_append, h.ls, h.lp]
  rw [List.drop_of_length_le (by rw [h.ls]; omega), List.take_of_length_le (by simp [h.lv])]
  simp
theorem Pp.eq_iff {p q : Pp} (hp : p.L) (hq : q.L) : decide (p.fl = q.fl) = (decide (p.set = q.set) && p.cid == q.cid && p.rev == q.rev && p.top == q.top && decide (p.prev = q.prev) && decide (p.vec = q.vec)) := by
  rw [Bool.eq_iff_iff]
  simp only [decide_eq_true_iff, Bool.and_eq_true, beq_iff_eq]
  constructor
  · intro h
    have := Pp.inj hp hq h
    subst this
    simp
  · rintro ⟨⟨⟨⟨⟨h1, h2⟩, h3⟩, h4⟩, h5⟩, h6⟩
    simp [Pp.fl, h1, h2, h3, h4, h5, h6]
theorem eq_prop (d : Nat) (p q : Pp) (hp : p.L) (hq : q.L) : (Op.equalIn (d + 3) 47 (.agg (ints p.fl).toArray) (.agg (ints q.fl).toArray)).run Try.prog w = .ok (decide (p.fl = q.fl)) w := by
  rw [run_equalIn_struct w (d + 2) 47 _ _ under_prop stood_prop, eqF_eq, fields_prop]
  have l1 := hp.fl
  have l2 := hq.fl
  simp only [eqF, ne_eq, reduceCtorEq, String.reduceEq, not_false_eq_true, if_true, Sem.run_bind, Sem.run_ite, Sem.run_pure, part_row, part_id, ints_extract, hp.x_set, hq.x_set, hp.x_prev, hq.x_prev, hp.x_vec, hq.x_vec, part_i p.fl 16 (by omega), part_i q.fl 16 (by omega), part_i p.fl 17 (by omega), part_i q.fl 17 (by omega), part_i p.fl 18 (by omega), part_i q.fl 18 (by omega), Result.andThen_ok, hp.cid, hq.cid, hp.rev, hq.rev, hp.top, hq.top, eq_row d p.set q.set hp.ls hq.ls, eq_row d p.vec q.vec hp.lv hq.lv, eq_id d p.prev q.prev hp.lp hq.lp, run_equalIn_int w (d + 1) 3 .i64 .i64 _ _ Try.underlying3]
  rw [Pp.eq_iff hp hq]
  cases decide (p.set = q.set) <;> cases p.cid == q.cid <;> cases p.rev == q.rev <;> cases p.top == q.top <;> cases decide (p.prev = q.prev) <;> cases decide (p.vec = q.vec) <;> rfl
end
end Go.Proofs.Ytbdefhagpgpoiac.Mb
namespace Go.Proofs.Ytbdefhagpgpoiac.Mb
open Go.RowKit
set_option linter.unusedVariables false
set_option maxRecDepth 100000
set_option linter.unusedSimpArgs false
structure Ag where
  b : Nat
  n : Nat
  self : Nat
  own : Pp
  lat : Nat → Pp
  id : List Int
  msv : Value
  k : Nat
  ms : List Int
  chg : Bool
def Ag.at (A : Ag) (i : Nat) : Value :=
  if i = 0 then .int .i64 A.n else if i = 1 then .int .i64 A.self else if i < 41 then .int .i64 (A.own.fl.getD (i - 2) 0)
  else if i < 665 then .int .i64 ((A.lat ((i - 41) / 39)).fl.getD ((i - 41) % 39) 0) else if i < 669 then .int .i64 (A.id.getD (i - 665) 0) else if i = 669 then A.msv else .bool A.chg
structure Ag.Ok (A : Ag) (w : World) (B : Nat) (T : Int) : Prop where
  blk : Fb w A.b 53 671 A.at
  n16 : 1 ≤ A.n ∧ A.n ≤ 16 ∧ A.self < A.n
  ol : A.own.L
  ll : ∀ q, (A.lat q).L
  il : A.id.length = 4
  ge : B ≤ A.b
  mem : w.ownsRow B 92 3 A.msv A.k (ints A.ms)
  ml : A.ms.length = 3 * A.k ∧ A.k ≤ 16
  cid : 0 ≤ A.own.cid ∧ A.own.cid ≤ 4611686018427387904
  rev : 0 ≤ A.own.rev ∧ A.own.rev ≤ 4611686018427387904
  top : 0 ≤ A.own.top ∧ A.own.top ≤ T
  ep : 0 ≤ A.id.getD 0 0 ∧ A.id.getD 0 0 ≤ 4611686018427387904
  lt : ∀ q, 0 ≤ (A.lat q).top ∧ (A.lat q).top ≤ 4611686018427387903
section
variable {A A' : Ag} {w w' W : World} {B : Nat} {T : Int}
theorem Ag.Ok.c (h : A.Ok w B T) (i : Nat) (hi : i < 671) : w.cell? ⟨A.b, i, none⟩ = some (A.at i) := h.blk.cell i hi
theorem Ag.Ok.c0 (h : A.Ok w B T) : w.cell? ⟨A.b, 0, none⟩ = some (.int .i64 A.n) := h.c 0 (by omega)
theorem Ag.Ok.c1 (h : A.Ok w B T) : w.cell? ⟨A.b, 1, none⟩ = some (.int .i64 A.self) := h.c 1 (by omega)
theorem Ag.at_own (A : Ag) (j : Nat) (hj : j < 39) : A.at (2 + j) = .int .i64 (A.own.fl.getD j 0) := by
  unfold Ag.at
  rw [if_neg (by omega), if_neg (by omega), if_pos (by omega), show 2 + j - 2 = j by omega]
theorem Ag.at_lat (A : Ag) (q j : Nat) (hq : q < 16) (hj : j < 39) : A.at (41 + q * 39 + j) = .int .i64 ((A.lat q).fl.getD j 0) := by
  unfold Ag.at
  rw [if_neg (by omega), if_neg (by omega), if_neg (by omega), if_pos (by omega), show (41 + q * 39 + j - 41) / 39 = q by omega, show (41 + q * 39 + j - 41) % 39 = j by omega]
theorem Ag.at_id (A : Ag) (j : Nat) (hj : j < 4) : A.at (665 + j) = .int .i64 (A.id.getD j 0) := by
  unfold Ag.at
  rw [if_neg (by omega), if_neg (by omega), if_neg (by omega), if_neg (by omega), if_pos (by omega), show 665 + j - 665 = j by omega]
theorem Ag.Ok.c669 (h : A.Ok w B T) : w.cell? ⟨A.b, 669, none⟩ = some A.msv := h.c 669 (by omega)
theorem Ag.Ok.c670 (h : A.Ok w B T) : w.cell? ⟨A.b, 670, none⟩ = some (.bool A.chg) := h.c 670 (by omega)
theorem Ag.Ok.cid_c (h : A.Ok w B T) : w.cell? ⟨A.b, 18, none⟩ = some (.int .i64 A.own.cid) := by
  rw [h.c 18 (by omega), show (18 : Nat) = 2 + 16 from rfl, A.at_own 16 (by omega), h.ol.cid]
theorem Ag.Ok.rev_c (h : A.Ok w B T) : w.cell? ⟨A.b, 19, none⟩ = some (.int .i64 A.own.rev) := by
  rw [h.c 19 (by omega), show (19 : Nat) = 2 + 17 from rfl, A.at_own 17 (by omega), h.ol.rev]
theorem Ag.Ok.top_c (h : A.Ok w B T) : w.cell? ⟨A.b, 20, none⟩ = some (.int .i64 A.own.top) := by
  rw [h.c 20 (by omega), show (20 : Nat) = 2 + 18 from rfl, A.at_own 18 (by omega), h.ol.top]
theorem Ag.Ok.own_r (h : A.Ok w B T) : w.rangeAt A.b 2 (ints A.own.fl) := h.blk.range 2 _ fun j v hv => by
  have hj : j < A.own.fl.length := by have := (List.getElem?_eq_some_iff.1 hv).1; rwa [ints_len] at this
  have l := h.ol.fl
  rw [ints_at _ _ hj] at hv
  cases hv
  exact ⟨by omega, A.at_own j (by omega)⟩
theorem Ag.Ok.set_r (h : A.Ok w B T) : w.rangeAt A.b 2 (ints A.own.set) := h.blk.range 2 _ fun j v hv => by
  have hj : j < A.own.set.length := by have := (List.getElem?_eq_some_iff.1 hv).1; rwa [ints_len] at this
  have l := h.ol.ls
  rw [ints_at _ _ hj] at hv
  cases hv
  exact ⟨by omega, by rw [A.at_own j (by omega), h.ol.at_set j (by omega)]⟩
theorem Ag.Ok.vec_r (h : A.Ok w B T) : w.rangeAt A.b 25 (ints A.own.vec) := h.blk.range 25 _ fun j v hv => by
  have hj : j < A.own.vec.length := by have := (List.getElem?_eq_some_iff.1 hv).1; rwa [ints_len] at this
  have l := h.ol.lv
  rw [ints_at _ _ hj] at hv
  cases hv
  exact ⟨by omega, by rw [show 25 + j = 2 + (23 + j) by omega, A.at_own (23 + j) (by omega), h.ol.at_vec j (by omega)]⟩
theorem Ag.Ok.prev_r (h : A.Ok w B T) : w.rangeAt A.b 21 (ints A.own.prev) := h.blk.range 21 _ fun j v hv => by
  have hj : j < A.own.prev.length := by have := (List.getElem?_eq_some_iff.1 hv).1; rwa [ints_len] at this
  have l := h.ol.lp
  rw [ints_at _ _ hj] at hv
  cases hv
  exact ⟨by omega, by rw [show 21 + j = 2 + (19 + j) by omega, A.at_own (19 + j) (by omega), h.ol.at_prev j (by omega)]⟩
theorem Ag.Ok.id_r (h : A.Ok w B T) : w.rangeAt A.b 665 (ints A.id) := h.blk.range 665 _ fun j v hv => by
  have hj : j < A.id.length := by have := (List.getElem?_eq_some_iff.1 hv).1; rwa [ints_len] at this
  have l := h.il
  rw [ints_at _ _ hj] at hv
  cases hv
  exact ⟨by omega, A.at_id j (by omega)⟩
theorem Ag.Ok.lat_r (h : A.Ok w B T) (q : Nat) (hq : q < 16) : w.rangeAt A.b (41 + q * 39) (ints (A.lat q).fl) := h.blk.range _ _ fun j v hv => by
  have hj : j < (A.lat q).fl.length := by have := (List.getElem?_eq_some_iff.1 hv).1; rwa [ints_len] at this
  have l := (h.ll q).fl
  rw [ints_at _ _ hj] at hv
  cases hv
  exact ⟨by omega, A.at_lat q j hq (by omega)⟩
theorem Ag.Ok.lset_r (h : A.Ok w B T) (q : Nat) (hq : q < 16) : w.rangeAt A.b (41 + q * 39) (ints (A.lat q).set) := h.blk.range _ _ fun j v hv => by
  have hj : j < (A.lat q).set.length := by have := (List.getElem?_eq_some_iff.1 hv).1; rwa [ints_len] at this
  have l := (h.ll q).ls
  rw [ints_at _ _ hj] at hv
  cases hv
  exact ⟨by omega, by rw [A.at_lat q j hq (by omega), (h.ll q).at_set j (by omega)]⟩
theorem Ag.Ok.lprev_r (h : A.Ok w B T) (q : Nat) (hq : q < 16) : w.rangeAt A.b (41 + q * 39 + 19) (ints (A.lat q).prev) := h.blk.range _ _ fun j v hv => by
  have hj : j < (A.lat q).prev.length := by have := (List.getElem?_eq_some_iff.1 hv).1; rwa [ints_len] at this
  have l := (h.ll q).lp
  rw [ints_at _ _ hj] at hv
  cases hv
  exact ⟨by omega, by rw [show 41 + q * 39 + 19 + j = 41 + q * 39 + (19 + j) by omega, A.at_lat q (19 + j) hq (by omega), (h.ll q).at_prev j (by omega)]⟩
theorem Ag.Ok.lvec_r (h : A.Ok w B T) (q : Nat) (hq : q < 16) : w.rangeAt A.b (41 + q * 39 + 23) (ints (A.lat q).vec) := h.blk.range _ _ fun j v hv => by
  have hj : j < (A.lat q).vec.length := by have := (List.getElem?_eq_some_iff.1 hv).1; rwa [ints_len] at this
  have l := (h.ll q).lv
  rw [ints_at _ _ hj] at hv
  cases hv
  exact ⟨by omega, by rw [show 41 + q * 39 + 23 + j = 41 + q * 39 + (23 + j) by omega, A.at_lat q (23 + j) hq (by omega), (h.ll q).at_vec j (by omega)]⟩
theorem Ag.Ok.lat_c (h : A.Ok w B T) (q j : Nat) (hq : q < 16) (hj : j < 39) : w.cell? ⟨A.b, 41 + q * 39 + j, none⟩ = some (.int .i64 ((A.lat q).fl.getD j 0)) := by
  rw [h.c _ (by omega), A.at_lat q j hq hj]
theorem Ag.Ok.own_c (h : A.Ok w B T) (j : Nat) (hj : j < 39) : w.cell? ⟨A.b, 2 + j, none⟩ = some (.int .i64 (A.own.fl.getD j 0)) := by
  rw [h.c _ (by omega), A.at_own j hj]
theorem Ag.Ok.fz (h : A.Ok w B T) (i : Nat) : w.frozen? ⟨A.b, i, none⟩ = false := h.blk.fz i
theorem Ag.Ok.lt_b (h : A.Ok w B T) : A.b < w.heap.size := h.blk.lt
theorem Ag.Ok.mem_ne (h : A.Ok w B T) : ∀ g, A.msv.ownBlock = some g → g ≠ A.b := by
  intro g hg e
  subst e
  obtain ⟨C, h1, _⟩ := h.blk
  rcases h.mem.2 with ⟨h2, _⟩ | ⟨g', cap, cur, h2, _, h3, _⟩
  · rw [h2] at hg; cases hg
  · rw [h2] at hg
    cases hg
    rw [h1] at h3
    simp at h3
theorem Ag.Ok.keep {P : Nat → Prop} (h : A.Ok w B T) (k : Kept w w' P) (hp : ¬ P A.b) (hm : ∀ g, A.msv.ownBlock = some g → ¬ P g) : A.Ok w' B T :=
  { h with blk := h.blk.keep k hp, mem := k.owns h.mem hm }
theorem Ag.Ok.still (h : A.Ok w B T) (hb : Below w.heap.size w w') : A.Ok w' B T := h.keep (Kept.ofBelow hb (fun _ => False)) (fun hh => hh) (fun _ _ hh => hh)
theorem Ag.Ok.putOwn (h : A.Ok w B T) (p : Pp) (hp : p.L) (hc : 0 ≤ p.cid ∧ p.cid ≤ 4611686018427387904) (hr : 0 ≤ p.rev ∧ p.rev ≤ 4611686018427387904) (ht : 0 ≤ p.top ∧ p.top ≤ T) : ({ A with own := p } : Ag).Ok (w.setCells A.b 2 (ints p.fl)) B T := by
  have k := ksets (P := fun j => j = A.b) rfl (ints p.fl) 2 w
  refine { h with blk := ?_, mem := k.owns h.mem (fun g hg e => h.mem_ne g hg e), ol := hp, cid := hc, rev := hr, top := ht }
  refine (Fb.sets (ints p.fl) 2 w _ h.blk).congr fun i hi => ?_
  rw [ints_len, hp.fl]
  by_cases e : 2 ≤ i ∧ i < 2 + 39
  · rw [if_pos e]
    obtain ⟨j, rfl⟩ : ∃ j, i = 2 + j := ⟨i - 2, by omega⟩
    rw [Ag.at_own _ j (by omega), show 2 + j - 2 = j by omega]
    have := ints_at p.fl j (by rw [hp.fl]; omega)
    simp [List.getD, this]
  · rw [if_neg e]
    unfold Ag.at
    by_cases e0 : i = 0
    · rw [if_pos e0, if_pos e0]
    by_cases e1 : i = 1
    · rw [if_neg e0, if_pos e1, if_neg e0, if_pos e1]
    rw [if_neg e0, if_neg e1, if_neg (show ¬ i < 41 by omega), if_neg e0, if_neg e1, if_neg (show ¬ i < 41 by omega)]
theorem Ag.Ok.putLat (h : A.Ok w B T) (q : Nat) (hq : q < 16) (p : Pp) (hp : p.L) (ht : 0 ≤ p.top ∧ p.top ≤ 4611686018427387903) : ({ A with lat := upd A.lat q p } : Ag).Ok (w.setCells A.b (41 + q * 39) (ints p.fl)) B T := by
  have k := ksets (P := fun j => j = A.b) rfl (ints p.fl) (41 + q * 39) w
  refine { h with blk := ?_, mem := k.owns h.mem (fun g hg e => h.mem_ne g hg e), ll := fun a => ?_, lt := fun a => ?_ }
  · refine (Fb.sets (ints p.fl) (41 + q * 39) w _ h.blk).congr fun i hi => ?_
    rw [ints_len, hp.fl]
    by_cases e : 41 + q * 39 ≤ i ∧ i < 41 + q * 39 + 39
    · rw [if_pos e]
      obtain ⟨j, rfl⟩ : ∃ j, i = 41 + q * 39 + j := ⟨i - (41 + q * 39), by omega⟩
      rw [Ag.at_lat _ q j hq (by omega), show 41 + q * 39 + j - (41 + q * 39) = j by omega]
      have := ints_at p.fl j (by rw [hp.fl]; omega)
      simp [List.getD, this, upd_same]
    · rw [if_neg e]
      by_cases e2 : 41 ≤ i ∧ i < 665
      · obtain ⟨a, j, rfl, hj, ha⟩ : ∃ a j, i = 41 + a * 39 + j ∧ j < 39 ∧ a < 16 := ⟨(i - 41) / 39, (i - 41) % 39, by omega, by omega, by omega⟩
        rw [Ag.at_lat _ a j ha hj, Ag.at_lat _ a j ha hj]
        have : a ≠ q := by rintro rfl; omega
        simp [upd_ne _ _ this]
      · unfold Ag.at
        by_cases e0 : i < 41
        · rw [if_pos e0, if_pos e0]
        · rw [if_neg e0, if_neg e0, if_neg (show ¬ i < 665 by omega), if_neg (show ¬ i < 665 by omega)]
  · show (upd A.lat q p a).L
    by_cases e : a = q
    · subst e; rw [upd_same]; exact hp
    · rw [upd_ne _ _ e]; exact h.ll a
  · show 0 ≤ (upd A.lat q p a).top ∧ (upd A.lat q p a).top ≤ _
    by_cases e : a = q
    · subst e; rw [upd_same]; exact ht
    · rw [upd_ne _ _ e]; exact h.lt a
theorem Ag.Ok.putChg (h : A.Ok w B T) (c : Bool) : ({ A with chg := c } : Ag).Ok (w.setCell ⟨A.b, 670, none⟩ (.bool c)) B T := by
  have k := kset (P := fun j => j = A.b) w A.b 670 (.bool c) rfl
  refine { h with blk := ?_, mem := k.owns h.mem (fun g hg e => h.mem_ne g hg e) }
  refine (h.blk.set 670 (.bool c)).congr fun i hi => ?_
  by_cases e : i = 670
  · subst e; rfl
  · rw [if_neg e]
    unfold Ag.at
    by_cases e9 : i = 669
    · subst e9; rfl
    · repeat' split
      all_goals first | rfl | omega
end
end Go.Proofs.Ytbdefhagpgpoiac.Mb
