import Derived.Test.YtfbollifegngjaaRows
import Derived.WalkKit
import Derived.WalkLawsBesides
import Derived.WalkSpells
import Derived.Outline
import Derived.Below
import Derived.BigQuiet
import Derived.Deep.QuietTactic
import Derived.Deep.RegionHeld3
import Derived.Deep.RegionHeldLaw
import Derived.Deep.AppendLies
import Derived.ArgAppend
import Derived.Laws.OwnMore
import Derived.Laws.AppendOwnNone
import Derived.Laws.CopyOwn
namespace Go.Proofs.Ytfbollifegngjaa.Dt
open Go.RowKit
set_option linter.unusedVariables false
set_option maxRecDepth 100000
set_option linter.unusedSimpArgs false

structure Kept (w w' : World) (P : Nat → Prop) : Prop where
  os : w'.os = w.os
  tape : w'.tape = w.tape
  output : w'.output = w.output
  size : w.heap.size ≤ w'.heap.size
  block : ∀ k, k < w.heap.size → ¬ P k → w'.heap[k]? = w.heap[k]?

theorem Kept.refl (w : World) (P : Nat → Prop) : Kept w w P := ⟨rfl, rfl, rfl, Nat.le_refl _, fun _ _ _ => rfl⟩
theorem Kept.trans {a b c : World} {P : Nat → Prop} (h : Kept a b P) (k : Kept b c P) : Kept a c P :=
  ⟨k.os.trans h.os, k.tape.trans h.tape, k.output.trans h.output, Nat.le_trans h.size k.size, fun i hi hp => (k.block i (Nat.lt_of_lt_of_le hi h.size) hp).trans (h.block i hi hp)⟩
theorem Kept.step {a b c : World} {P Q : Nat → Prop} (h : Kept a b P) (k : Kept b c Q) (hq : ∀ j, Q j → P j ∨ a.heap.size ≤ j) : Kept a c P :=
  ⟨k.os.trans h.os, k.tape.trans h.tape, k.output.trans h.output, Nat.le_trans h.size k.size, fun i hi hp => (k.block i (Nat.lt_of_lt_of_le hi h.size) (fun hQ => (hq i hQ).elim hp (fun hh => by omega))).trans (h.block i hi hp)⟩
theorem Kept.mono {a b : World} {P Q : Nat → Prop} (h : Kept a b P) (hq : ∀ k, k < a.heap.size → P k → Q k) : Kept a b Q :=
  ⟨h.os, h.tape, h.output, h.size, fun i hi hp => h.block i hi (fun hP => hp (hq i hi hP))⟩
theorem Kept.ofGrown {a b : World} {r : Option Nat} (h : a.grownBy b r) : Kept a b (fun k => some k = r) := ⟨h.os, h.tape, h.output, h.size, fun i hi hp => h.block i hi hp⟩
theorem Kept.ofBelow {a b : World} (h : Below a.heap.size a b) (P : Nat → Prop) : Kept a b P := ⟨h.os, h.tape, h.output, h.size, fun i hi _ => h.block i hi⟩
theorem Kept.below {a b : World} {P : Nat → Prop} {B : Nat} (h : Kept a b P) (hB : B ≤ a.heap.size) (hp : ∀ k, k < B → ¬ P k) : Below B a b := ⟨h.os, h.tape, h.output, h.size, fun i hi => h.block i (by omega) (hp i hi)⟩
theorem Kept.owns {a b : World} {P : Nat → Prop} {base e size n : Nat} {v : Value} {xs : List Value} (h : Kept a b P) (ho : a.ownsRow base e size v n xs) (hp : ∀ k, v.ownBlock = some k → ¬ P k) : b.ownsRow base e size v n xs := by
  refine ⟨ho.1, ?_⟩
  have hlt := ho.lt
  rcases ho.2 with h1 | ⟨g, cap, cur, hv, hg, hh, hr⟩
  · exact .inl h1
  · subst hv
    exact .inr ⟨g, cap, cur, rfl, hg, (h.block g (hlt g rfl).2 (hp g rfl)).trans hh, hr⟩
theorem lt_heap {w : World} {k : Nat} {o : Obj} (h : w.heap[k]? = some o) : k < w.heap.size := by
  rcases Array.getElem?_eq_some_iff.1 h with ⟨h, _⟩; exact h
theorem Kept.obj {a b : World} {P : Nat → Prop} {k : Nat} {o : Obj} (h : Kept a b P) (ho : a.heap[k]? = some o) (hp : ¬ P k) : b.heap[k]? = some o := (h.block k (lt_heap ho) hp).trans ho
theorem kset {P : Nat → Prop} (w : World) (k i : Nat) (v : Value) (hp : P k) : Kept w (w.setCell ⟨k, i, none⟩ v) P :=
  ⟨rfl, rfl, rfl, by simp, fun j hj hq => Below.heap_setCell w ⟨k, i, none⟩ v j (fun e => hq (by cases e; exact hp))⟩
theorem bstep {w0 w w' : World} (h : Below w0.heap.size w0 w) (hb : Below w.heap.size w w') : Below w0.heap.size w0 w' := h.trans (hb.mono h.size)
theorem balloc {w0 w : World} {o : Obj} (h : Below w0.heap.size w0 w) : Below w0.heap.size w0 (w.alloc o) := h.alloc h.size o
theorem bstepA {w0 w w' : World} {o : Obj} (h : Below w0.heap.size w0 w) (hb : Below (w.alloc o).heap.size (w.alloc o) w') : Below w0.heap.size w0 w' := bstep (balloc h) hb
theorem bset {w w1 : World} {k : Nat} (h : Below w.heap.size w w1) (hk : w.heap.size ≤ k) (i : Nat) (v : Value) : Below w.heap.size w (w1.setCell ⟨k, i, none⟩ v) :=
  ⟨h.os, h.tape, h.output, by simpa using h.size, fun j hj => (Below.heap_setCell w1 ⟨k, i, none⟩ v j (by show ¬ j = k; omega)).trans (h.block j hj)⟩
theorem blk_cell {W : World} {cs : Array Value} {t : TypeId} {kb : Nat} (h : W.heap[kb]? = some (.cells cs t (0, 0))) (i : Nat) : W.cell? ⟨kb, i, none⟩ = cs[i]? := cell_of_row W kb i cs t (0, 0) h
theorem blk_alloc {W : World} {cs : Array Value} {t : TypeId} {kb : Nat} {o : Obj} (h : W.heap[kb]? = some (.cells cs t (0, 0))) : (W.alloc o).heap[kb]? = some (.cells cs t (0, 0)) :=
  (((Below.refl _ _).alloc (Nat.le_refl _) o).block _ (lt_heap h)).trans h
theorem blk_set {w : World} {t : TypeId} {k i : Nat} {cs cs' : Array Value} {v : Value} (h : w.heap[k]? = some (.cells cs t (0, 0))) (e : cs.setIfInBounds i v = cs') : (w.setCell ⟨k, i, none⟩ v).heap[k]? = some (.cells cs' t (0, 0)) := e ▸ heap_setCell_same w k i cs t v h
theorem blk_set_ne {w : World} {t : TypeId} {k k' i : Nat} {cs : Array Value} {v : Value} (h : w.heap[k]? = some (.cells cs t (0, 0))) (e : k ≠ k') : (w.setCell ⟨k', i, none⟩ v).heap[k]? = some (.cells cs t (0, 0)) := (Below.heap_setCell w ⟨k', i, none⟩ v k e).trans h
theorem own_still {W W' : World} {B e s n : Nat} {v : Value} {l : List Value} (h : W.ownsRow B e s v n l) (hb : Below W.heap.size W W') : W'.ownsRow B e s v n l := (Kept.ofBelow hb (fun _ => False)).owns h (fun _ _ => id)
theorem own_lower {w : World} {B B' t s n : Nat} {v : Value} {l : List Value} (h : w.ownsRow B t s v n l) (hB : B' ≤ B) : w.ownsRow B' t s v n l :=
  ⟨h.1, h.2.elim (fun hh => .inl hh) (fun ⟨g, cap, cur, e1, e2, e3⟩ => .inr ⟨g, cap, cur, e1, by omega, e3⟩)⟩
theorem below_at {w w' : World} {k i : Nat} {v : Value} (hb : Below w.heap.size w w') (hc : w.cell? ⟨k, i, none⟩ = some v) : w'.cell? ⟨k, i, none⟩ = some v := (hb.cell (World.block_lt_of_cell? w _ hc)).trans hc

structure Pe where
  known : Int
  last : Int
  age : Int
  wrong : Int
  ticks : Int
  heard : Bool
  both : Bool
structure De where
  b : Nat
  br : Nat
  n : Nat
  self : Nat
  inc : Int
  step : Int
  limit : Int
  tick : Int
  left : Bool
  bo : Nat → Nat
  bt : Nat → Nat
  pe : Nat → Pe
def upd {α : Type} (f : Nat → α) (p : Nat) (x : α) : Nat → α := fun a => if a = p then x else f a
theorem upd_same {α : Type} (f : Nat → α) (p : Nat) (x : α) : upd f p x p = x := by simp [upd]
theorem upd_ne {α : Type} (f : Nat → α) {p q : Nat} (x : α) (h : q ≠ p) : upd f p x q = f q := by simp [upd, h]
theorem upd_twice {α : Type} (f : Nat → α) (p : Nat) (x y : α) : upd (upd f p x) p y = upd f p y := by
  funext a; simp [upd]; split <;> rfl
theorem upd_self {α : Type} (f : Nat → α) (p : Nat) : upd f p (f p) = f := by
  funext a; simp [upd]; intro h; rw [h]
def De.cs (D : De) : Array Value := #[.int .i64 D.self, .int .i64 D.inc, .int .i64 D.tick, .bool D.left, .slice (some ⟨D.br, 0, none⟩) D.n D.n]
def ocs (t : Nat) (p : Pe) : Array Value := #[.iface 89 (.pointer (some ⟨t, 0, none⟩)), .int .i64 p.known, .int .i64 p.last, .int .i64 p.age, .int .i64 p.wrong, .bool p.heard, .bool p.both]
def De.is (D : De) (q : Nat) : Prop := q < D.n ∧ q ≠ D.self
def De.own (D : De) (j : Nat) : Prop := j = D.b ∨ j = D.br ∨ ∃ q, D.is q ∧ (j = D.bo q ∨ j = D.bt q)
def De.set (D : De) (q : Nat) (p : Pe) : De := { D with pe := upd D.pe q p }
def optr (D : De) (q : Nat) : Value := .pointer (if q = D.self then none else some ⟨D.bo q, 0, none⟩)

structure Pe.In (p : Pe) (lim : Int) (m : Nat) : Prop where
  known : 0 ≤ p.known ∧ p.known ≤ 4611686018427387904
  last : 0 ≤ p.last ∧ p.last ≤ 4611686018427387904
  age : 0 ≤ p.age ∧ p.age ≤ 65
  wrong : 0 ≤ p.wrong ∧ p.wrong ≤ m
  ticks : 1 ≤ p.ticks ∧ p.ticks ≤ lim
  heard : p.heard = true → p.age ≤ p.ticks ∧ 1 ≤ p.known
structure De.Ok (D : De) (w : World) (B m : Nat) : Prop where
  blk : w.heap[D.b]? = some (.cells D.cs 69 (0, 0))
  row : ∃ cs : Array Value, w.heap[D.br]? = some (.cells cs 70 (0, 0)) ∧ cs.size = D.n ∧ ∀ q, q < D.n → cs[q]? = some (optr D q)
  oth : ∀ q, D.is q → w.heap[D.bo q]? = some (.cells (ocs (D.bt q) (D.pe q)) 74 (0, 0))
  ris : ∀ q, D.is q → w.heap[D.bt q]? = some (.cells #[.int .i64 (D.pe q).ticks, .int .i64 D.step, .int .i64 D.limit] 91 (0, 0))
  injo : ∀ p q, D.is p → D.is q → D.bo p = D.bo q → p = q
  injt : ∀ p q, D.is p → D.is q → D.bt p = D.bt q → p = q
  ge : B ≤ D.b ∧ B ≤ D.br ∧ ∀ q, D.is q → B ≤ D.bo q ∧ B ≤ D.bt q
  n16 : 1 ≤ D.n ∧ D.n ≤ 16 ∧ D.self < D.n
  num : 1 ≤ D.inc ∧ D.inc ≤ 4611686018427387904 ∧ 1 ≤ D.step ∧ D.step ≤ 64 ∧ 1 ≤ D.limit ∧ D.limit ≤ 64 ∧ 0 ≤ D.tick ∧ D.tick ≤ 4611686018427387904
  rng : ∀ q, D.is q → (D.pe q).In D.limit m
  m62 : m ≤ 4611686018427387904
section
variable {D D' : De} {w w' W : World} {B m : Nat}
theorem De.Ok.geOwn (h : D.Ok w B m) {j : Nat} (hj : D.own j) : B ≤ j := by
  obtain ⟨h1, h2, h3⟩ := h.ge
  rcases hj with rfl | rfl | ⟨q, hq, rfl | rfl⟩
  · exact h1
  · exact h2
  · exact (h3 q hq).1
  · exact (h3 q hq).2
theorem De.Ok.ltOwn (h : D.Ok w B m) {j : Nat} (hj : D.own j) : j < w.heap.size := by
  rcases hj with rfl | rfl | ⟨q, hq, rfl | rfl⟩
  · exact lt_heap h.blk
  · obtain ⟨cs, h1, _⟩ := h.row; exact lt_heap h1
  · exact lt_heap (h.oth q hq)
  · exact lt_heap (h.ris q hq)
theorem De.Ok.keep {P : Nat → Prop} (h : D.Ok w B m) (k : Kept w w' P) (hp : ∀ j, D.own j → ¬ P j) : D.Ok w' B m := by
  obtain ⟨cs, h1, h2⟩ := h.row
  exact { h with blk := k.obj h.blk (hp _ (.inl rfl)), row := ⟨cs, k.obj h1 (hp _ (.inr (.inl rfl))), h2⟩, oth := fun q hq => k.obj (h.oth q hq) (hp _ (.inr (.inr ⟨q, hq, .inl rfl⟩))), ris := fun q hq => k.obj (h.ris q hq) (hp _ (.inr (.inr ⟨q, hq, .inr rfl⟩))) }
theorem De.Ok.still (h : D.Ok w B m) (hb : Below w.heap.size w w') : D.Ok w' B m := h.keep (Kept.ofBelow hb (fun _ => False)) (fun _ _ => id)
theorem De.Ok.mono {m' : Nat} (h : D.Ok w B m) (hm : m ≤ m') (h62 : m' ≤ 4611686018427387904) : D.Ok w B m' :=
  { h with rng := fun q hq => { h.rng q hq with wrong := ⟨(h.rng q hq).wrong.1, by have := (h.rng q hq).wrong.2; omega⟩ }, m62 := h62 }
theorem De.Ok.lower {B' : Nat} (h : D.Ok w B m) (hB : B' ≤ B) : D.Ok w B' m := by
  obtain ⟨h1, h2, h3⟩ := h.ge
  exact { h with ge := ⟨by omega, by omega, fun q hq => ⟨by have := (h3 q hq).1; omega, by have := (h3 q hq).2; omega⟩⟩ }
theorem De.Ok.c (h : D.Ok w B m) (i : Nat) {v : Value} (e : D.cs[i]? = some v) : w.cell? ⟨D.b, i, none⟩ = some v := (blk_cell h.blk i).trans e
theorem De.Ok.c0 (h : D.Ok w B m) : w.cell? ⟨D.b, 0, none⟩ = some (.int .i64 D.self) := h.c 0 rfl
theorem De.Ok.c1 (h : D.Ok w B m) : w.cell? ⟨D.b, 1, none⟩ = some (.int .i64 D.inc) := h.c 1 rfl
theorem De.Ok.c2 (h : D.Ok w B m) : w.cell? ⟨D.b, 2, none⟩ = some (.int .i64 D.tick) := h.c 2 rfl
theorem De.Ok.c3 (h : D.Ok w B m) : w.cell? ⟨D.b, 3, none⟩ = some (.bool D.left) := h.c 3 rfl
theorem De.Ok.c4 (h : D.Ok w B m) : w.cell? ⟨D.b, 4, none⟩ = some (.slice (some ⟨D.br, 0, none⟩) D.n D.n) := h.c 4 rfl
theorem De.Ok.cr (h : D.Ok w B m) {q : Nat} (hq : q < D.n) : w.cell? ⟨D.br, q, none⟩ = some (optr D q) := by
  obtain ⟨cs, h1, _, h2⟩ := h.row
  exact (blk_cell h1 q).trans (h2 q hq)
theorem De.Ok.co (h : D.Ok w B m) {q : Nat} (hq : D.is q) : w.cell? ⟨D.bo q, 0, none⟩ = some (.iface 89 (.pointer (some ⟨D.bt q, 0, none⟩))) ∧ w.cell? ⟨D.bo q, 1, none⟩ = some (.int .i64 (D.pe q).known) ∧ w.cell? ⟨D.bo q, 2, none⟩ = some (.int .i64 (D.pe q).last) ∧ w.cell? ⟨D.bo q, 3, none⟩ = some (.int .i64 (D.pe q).age) ∧ w.cell? ⟨D.bo q, 4, none⟩ = some (.int .i64 (D.pe q).wrong) ∧ w.cell? ⟨D.bo q, 5, none⟩ = some (.bool (D.pe q).heard) ∧ w.cell? ⟨D.bo q, 6, none⟩ = some (.bool (D.pe q).both) :=
  have h := h.oth q hq
  ⟨blk_cell h 0, blk_cell h 1, blk_cell h 2, blk_cell h 3, blk_cell h 4, blk_cell h 5, blk_cell h 6⟩
theorem De.Ok.ct (h : D.Ok w B m) {q : Nat} (hq : D.is q) : w.cell? ⟨D.bt q, 0, none⟩ = some (.int .i64 (D.pe q).ticks) ∧ w.cell? ⟨D.bt q, 1, none⟩ = some (.int .i64 D.step) ∧ w.cell? ⟨D.bt q, 2, none⟩ = some (.int .i64 D.limit) :=
  have h := h.ris q hq
  ⟨blk_cell h 0, blk_cell h 1, blk_cell h 2⟩
theorem De.Ok.fb (h : D.Ok w B m) (i : Nat) : w.frozen? ⟨D.b, i, none⟩ = false := frozen_of_row w _ i _ _ h.blk
theorem De.Ok.fo (h : D.Ok w B m) {q : Nat} (hq : D.is q) (i : Nat) : w.frozen? ⟨D.bo q, i, none⟩ = false := frozen_of_row w _ i _ _ (h.oth q hq)
theorem De.Ok.ft (h : D.Ok w B m) {q : Nat} (hq : D.is q) (i : Nat) : w.frozen? ⟨D.bt q, i, none⟩ = false := frozen_of_row w _ i _ _ (h.ris q hq)
theorem ty_ne {t t' : TypeId} {k k' : Nat} {cs cs' : Array Value} (h : w.heap[k]? = some (.cells cs t (0, 0))) (h' : w.heap[k']? = some (.cells cs' t' (0, 0))) (ht : t ≠ t') : k ≠ k' := by
  intro e
  rw [e, h'] at h
  simp at h
  exact ht h.2.symm
theorem De.Ok.ne_row (h : D.Ok w B m) : D.br ≠ D.b ∧ (∀ q, D.is q → D.br ≠ D.bo q ∧ D.br ≠ D.bt q) := by
  obtain ⟨cs, h1, _⟩ := h.row
  exact ⟨ty_ne h1 h.blk (by decide), fun q hq => ⟨ty_ne h1 (h.oth q hq) (by decide), ty_ne h1 (h.ris q hq) (by decide)⟩⟩
theorem De.Ok.put {q : Nat} (h : D.Ok w B m) (hq : D.is q) (P : Pe) (k : Kept w w' (fun j => j = D.bo q ∨ j = D.bt q)) (ho : w'.heap[D.bo q]? = some (.cells (ocs (D.bt q) P) 74 (0, 0))) (ht : w'.heap[D.bt q]? = some (.cells #[.int .i64 P.ticks, .int .i64 D.step, .int .i64 D.limit] 91 (0, 0))) (hP : P.In D.limit m) : (D.set q P).Ok w' B m := by
  obtain ⟨cs, h1, h2⟩ := h.row
  obtain ⟨n1, n2⟩ := h.ne_row
  refine ⟨k.obj h.blk ?_, ⟨cs, k.obj h1 (fun e => e.elim (n2 q hq).1 (n2 q hq).2), h2⟩, fun p hp => ?_, fun p hp => ?_, h.injo, h.injt, h.ge, h.n16, h.num, fun p hp => ?_, h.m62⟩
  · exact fun e => e.elim (ty_ne h.blk (h.oth q hq) (by decide)) (ty_ne h.blk (h.ris q hq) (by decide))
  · by_cases e : p = q
    · subst e; show w'.heap[D.bo p]? = some (.cells (ocs (D.bt p) (upd D.pe p P p)) _ _); rw [upd_same]; exact ho
    · show w'.heap[D.bo p]? = some (.cells (ocs (D.bt p) (upd D.pe q P p)) _ _)
      rw [upd_ne _ _ e]
      exact k.obj (h.oth p hp) (fun e2 => e2.elim (fun e3 => e (h.injo p q hp hq e3)) (ty_ne (h.oth p hp) (h.ris q hq) (by decide)))
  · by_cases e : p = q
    · subst e; show w'.heap[D.bt p]? = some (.cells #[.int .i64 (upd D.pe p P p).ticks, _, _] _ _); rw [upd_same]; exact ht
    · show w'.heap[D.bt p]? = some (.cells #[.int .i64 (upd D.pe q P p).ticks, _, _] _ _)
      rw [upd_ne _ _ e]
      exact k.obj (h.ris p hp) (fun e2 => e2.elim (ty_ne (h.ris p hp) (h.oth q hq) (by decide)) (fun e3 => e (h.injt p q hp hq e3)))
  · show (upd D.pe q P p).In D.limit m
    by_cases e : p = q
    · subst e; rw [upd_same]; exact hP
    · rw [upd_ne _ _ e]; exact h.rng p hp
theorem De.Ok.setB (h : D.Ok w B m) (i : Nat) (v : Value) (hcs : D.cs.setIfInBounds i v = D'.cs) (hD : D' = { D with tick := D'.tick, left := D'.left }) (ht : 0 ≤ D'.tick ∧ D'.tick ≤ 4611686018427387904): D'.Ok (w.setCell ⟨D.b, i, none⟩ v) B m := by
  have k := kset (P := fun j => j = D.b) w D.b i v rfl
  have hb : (w.setCell ⟨D.b, i, none⟩ v).heap[D.b]? = some (.cells D'.cs 69 (0, 0)) := blk_set h.blk hcs
  obtain ⟨cs, h1, h2⟩ := h.row
  rw [hD] at hb ⊢
  exact ⟨hb, ⟨cs, k.obj h1 (fun e => h.ne_row.1 e), h2⟩, fun q hq => k.obj (h.oth q hq) (ty_ne (h.oth q hq) h.blk (by decide)), fun q hq => k.obj (h.ris q hq) (ty_ne (h.ris q hq) h.blk (by decide)), h.injo, h.injt, h.ge, h.n16, ⟨h.num.1, h.num.2.1, h.num.2.2.1, h.num.2.2.2.1, h.num.2.2.2.2.1, h.num.2.2.2.2.2.1, ht.1, ht.2⟩, h.rng, h.m62⟩
end
end Go.Proofs.Ytfbollifegngjaa.Dt
