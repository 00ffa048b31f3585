import Derived.Test.YtnhhjelplmdloaaRows
import Derived.WalkKit
import Derived.WalkLawsBesides
import Derived.WalkSpells
import Derived.Outline
import Derived.Below
import Derived.BigQuiet
import Derived.Deep.QuietTactic
import Derived.Deep.RegionHeld3
import Derived.Deep.RegionHeldLaw
import Derived.Deep.AppendLies
import Derived.ArgAppend
import Derived.Laws.OwnMore
import Derived.Laws.AppendOwnNone
import Derived.Maps.OwnSet
import Derived.Maps.OwnOps
import Derived.DeepKeys4
namespace Go.Proofs.Ytnhhjelplmdloaa.Et
open Go.RowKit Go.Maps
set_option linter.unusedVariables false
set_option maxRecDepth 100000
set_option linter.unusedSimpArgs false
structure Kept (w w' : World) (P : Nat → Prop) : Prop where
  os : w'.os = w.os
  tape : w'.tape = w.tape
  output : w'.output = w.output
  size : w.heap.size ≤ w'.heap.size
  block : ∀ k, k < w.heap.size → ¬ P k → w'.heap[k]? = w.heap[k]?
theorem Kept.refl (w : World) (P : Nat → Prop) : Kept w w P := ⟨rfl, rfl, rfl, Nat.le_refl _, fun _ _ _ => rfl⟩
theorem Kept.trans {a b c : World} {P : Nat → Prop} (h : Kept a b P) (k : Kept b c P) : Kept a c P :=
  ⟨k.os.trans h.os, k.tape.trans h.tape, k.output.trans h.output, Nat.le_trans h.size k.size, fun i hi hp => (k.block i (Nat.lt_of_lt_of_le hi h.size) hp).trans (h.block i hi hp)⟩
theorem Kept.step {a b c : World} {P Q : Nat → Prop} (h : Kept a b P) (k : Kept b c Q) (hq : ∀ j, Q j → P j ∨ a.heap.size ≤ j) : Kept a c P :=
  ⟨k.os.trans h.os, k.tape.trans h.tape, k.output.trans h.output, Nat.le_trans h.size k.size, fun i hi hp => (k.block i (Nat.lt_of_lt_of_le hi h.size) (fun hQ => (hq i hQ).elim hp (fun hh => by omega))).trans (h.block i hi hp)⟩
theorem Kept.mono {a b : World} {P Q : Nat → Prop} (h : Kept a b P) (hq : ∀ k, k < a.heap.size → P k → Q k) : Kept a b Q :=
  ⟨h.os, h.tape, h.output, h.size, fun i hi hp => h.block i hi (fun hP => hp (hq i hi hP))⟩
theorem Kept.ofGrown {a b : World} {r : Option Nat} (h : a.grownBy b r) : Kept a b (fun k => some k = r) := ⟨h.os, h.tape, h.output, h.size, fun i hi hp => h.block i hi hp⟩
theorem Kept.ofBelow {a b : World} (h : Below a.heap.size a b) (P : Nat → Prop) : Kept a b P := ⟨h.os, h.tape, h.output, h.size, fun i hi _ => h.block i hi⟩
theorem Kept.below {a b : World} {P : Nat → Prop} {B : Nat} (h : Kept a b P) (hB : B ≤ a.heap.size) (hp : ∀ k, k < B → ¬ P k) : Below B a b := ⟨h.os, h.tape, h.output, h.size, fun i hi => h.block i (by omega) (hp i hi)⟩
theorem Kept.owns {a b : World} {P : Nat → Prop} {base e size n : Nat} {v : Value} {xs : List Value} (h : Kept a b P) (ho : a.ownsRow base e size v n xs) (hp : ∀ k, v.ownBlock = some k → ¬ P k) : b.ownsRow base e size v n xs := by
  refine ⟨ho.1, ?_⟩
  have hlt := ho.lt
  rcases ho.2 with h1 | ⟨g, cap, cur, hv, hg, hh, hr⟩
  · exact .inl h1
  · subst hv
    exact .inr ⟨g, cap, cur, rfl, hg, (h.block g (hlt g rfl).2 (hp g rfl)).trans hh, hr⟩
theorem lt_heap {w : World} {k : Nat} {o : Obj} (h : w.heap[k]? = some o) : k < w.heap.size := by
  rcases Array.getElem?_eq_some_iff.1 h with ⟨h, _⟩; exact h
theorem Kept.obj {a b : World} {P : Nat → Prop} {k : Nat} {o : Obj} (h : Kept a b P) (ho : a.heap[k]? = some o) (hp : ¬ P k) : b.heap[k]? = some o := (h.block k (lt_heap ho) hp).trans ho
theorem Kept.map {a b : World} {P : Nat → Prop} {H : Type} {Pr : Program} {k : TypeId} {R : Value → Option (DataW H × List MemPlace)} {m n : Nat} {D : DataW H} (h : Kept a b P) (ho : a.ownsMap Pr k R m n D) (hp : ¬ P m) : b.ownsMap Pr k R m n D := by
  obtain ⟨es, cl, hb, r⟩ := ho
  exact ⟨es, cl, h.obj hb hp, r⟩
theorem kset {P : Nat → Prop} (w : World) (k i : Nat) (v : Value) (hp : P k) : Kept w (w.setCell ⟨k, i, none⟩ v) P :=
  ⟨rfl, rfl, rfl, by simp, fun j hj hq => Below.heap_setCell w ⟨k, i, none⟩ v j (fun e => hq (by cases e; exact hp))⟩
theorem bstep {w0 w w' : World} (h : Below w0.heap.size w0 w) (hb : Below w.heap.size w w') : Below w0.heap.size w0 w' := h.trans (hb.mono h.size)
theorem balloc {w0 w : World} {o : Obj} (h : Below w0.heap.size w0 w) : Below w0.heap.size w0 (w.alloc o) := h.alloc h.size o
theorem bstepA {w0 w w' : World} {o : Obj} (h : Below w0.heap.size w0 w) (hb : Below (w.alloc o).heap.size (w.alloc o) w') : Below w0.heap.size w0 w' := bstep (balloc h) hb
theorem bset {w w1 : World} {k : Nat} (h : Below w.heap.size w w1) (hk : w.heap.size ≤ k) (i : Nat) (v : Value) : Below w.heap.size w (w1.setCell ⟨k, i, none⟩ v) :=
  ⟨h.os, h.tape, h.output, by simpa using h.size, fun j hj => (Below.heap_setCell w1 ⟨k, i, none⟩ v j (by show ¬ j = k; omega)).trans (h.block j hj)⟩
theorem blk_cell {W : World} {cs : Array Value} {t : TypeId} {kb : Nat} (h : W.heap[kb]? = some (.cells cs t (0, 0))) (i : Nat) : W.cell? ⟨kb, i, none⟩ = cs[i]? := cell_of_row W kb i cs t (0, 0) h
theorem blk_spill {w w' : World} {cs : Array Value} {t : TypeId} (hb : Below (w.alloc (.cells cs t)).heap.size (w.alloc (.cells cs t)) w') : w'.heap[w.heap.size]? = some (.cells cs t (0, 0)) :=
  (hb.block _ (by simp)).trans (heap_alloc_new w _)
theorem blk_alloc {W : World} {cs : Array Value} {t : TypeId} {kb : Nat} {o : Obj} (h : W.heap[kb]? = some (.cells cs t (0, 0))) : (W.alloc o).heap[kb]? = some (.cells cs t (0, 0)) :=
  (((Below.refl _ _).alloc (Nat.le_refl _) o).block _ (lt_heap h)).trans h
theorem laidOut : laidOutB Try.prog = true := by kernel_rfl
theorem rowPath : (80 : TypeId) < Try.prog.types.size := of_decide_eq_true (by kernel_rfl)
theorem widePath : (match Try.prog.underlying 80 with | some (.array _ _) | some (.struct _) => true | _ => false) = true := by rw [Try.underlying80]
theorem keyT : Try.prog.keyTypeAt 2 80 = true := by kernel_rfl
theorem klaw : WideMaps.KeyLaw Try.prog 80 := deep_law_laid laidOut (m := 2) (by omega) rowPath keyT widePath
theorem law : Keyed Try.prog 80 := Keyed.of_law klaw
def pv (p q : Int) : Value := .agg #[.int .i64 p, .int .i64 q]
def klP (P : Program) (p q : Nat) : Lit := (keyOf P 80 (pv p q)).getD (.bool false)
def klA (P : Program) : Bool := (List.range 16).all fun p => (List.range 16).all fun q => (keyOf P 80 (pv p q)).isSome
theorem klAll_true : klA Try.prog = true := by kernel_rfl
theorem kl_some (p q : Nat) (hp : p < 16) (hq : q < 16) : keyOf Try.prog 80 (pv p q) = some (klP Try.prog p q) := by
  have h := klAll_true
  unfold klA at h
  have h1 := List.all_eq_true.1 (List.all_eq_true.1 h p (List.mem_range.2 hp)) q (List.mem_range.2 hq)
  unfold klP
  cases e : keyOf Try.prog 80 (pv p q) with
  | none => rw [e] at h1; cases h1
  | some l => rfl
theorem kl_inj {p q p' q' : Nat} (hp : p < 16) (hq : q < 16) (hp' : p' < 16) (hq' : q' < 16) (h : klP Try.prog p q = klP Try.prog p' q') : p = p' ∧ q = q' := by
  have h2 := kl_some p' q' hp' hq'
  rw [← h] at h2
  have := law.inj (kl_some p q hp hq) h2
  simp [pv] at this
  omega
theorem kl_key (p q : Nat) (hp : p < 16) (hq : q < 16) : WideAt.IsKeyLit (klP Try.prog p q) := law.key (kl_some p q hp hq)
def Cut (w : World) (b m : Nat) (f : Nat → Nat → Bool) : Prop :=
  ∃ D : DataW Unit, w.ownsMap Try.prog 80 unitElem b m D ∧ ∀ p q, p < 16 → q < 16 → Maps.has D (klP Try.prog p q) = f p q
def Del (w : World) (b m : Nat) (f : Nat → Nat → Int) : Prop :=
  ∃ D : DataW Unit, w.ownsMap Try.prog 80 (plainElem Try.prog 3) b m D ∧ ∀ p q, p < 16 → q < 16 → Maps.has D (klP Try.prog p q) = decide (f p q ≠ 1) ∧ D.atKey (klP Try.prog p q) (.lit (.int .i64 1)) = .lit (.int .i64 (f p q))
def upd2 {α : Type} (f : Nat → Nat → α) (p q : Nat) (x : α) : Nat → Nat → α := fun a b => if a = p ∧ b = q then x else f a b
theorem upd2_same {α : Type} (f : Nat → Nat → α) (p q : Nat) (x : α) : upd2 f p q x p q = x := by simp [upd2]
theorem upd2_other {α : Type} (f : Nat → Nat → α) {p q a b : Nat} (x : α) (h : ¬ (a = p ∧ b = q)) : upd2 f p q x a b = f a b := by simp [upd2, h]
theorem has_put {D : DataW Unit} (hD : IsMap D) {f : Nat → Nat → Bool} (h : ∀ p q, p < 16 → q < 16 → Maps.has D (klP Try.prog p q) = f p q) (p q : Nat) (hp : p < 16) (hq : q < 16) (d : DataW Unit) :
    ∀ a b, a < 16 → b < 16 → Maps.has (D.put (klP Try.prog p q) d) (klP Try.prog a b) = upd2 f p q true a b := by
  intro a b ha hb
  by_cases e : a = p ∧ b = q
  · obtain ⟨rfl, rfl⟩ := e
    rw [upd2_same, has_put_same hD (kl_key a b ha hb)]
  · rw [upd2_other f true e, has_put_other (fun e2 => e (kl_inj ha hb hp hq e2)), h a b ha hb]
theorem has_del {D : DataW Unit} {f : Nat → Nat → Bool} (h : ∀ p q, p < 16 → q < 16 → Maps.has D (klP Try.prog p q) = f p q) (p q : Nat) (hp : p < 16) (hq : q < 16) :
    ∀ a b, a < 16 → b < 16 → Maps.has (D.del (klP Try.prog p q)) (klP Try.prog a b) = upd2 f p q false a b := by
  intro a b ha hb
  by_cases e : a = p ∧ b = q
  · obtain ⟨rfl, rfl⟩ := e
    rw [upd2_same, has_del_same]
  · rw [upd2_other f false e, has_del_other (fun e2 => e (kl_inj ha hb hp hq e2)), h a b ha hb]
end Go.Proofs.Ytnhhjelplmdloaa.Et
namespace Go.Proofs.Ytnhhjelplmdloaa.Et
open Go.RowKit Go.Maps
set_option linter.unusedVariables false
set_option linter.unusedSimpArgs false
set_option maxRecDepth 100000
structure Fx where
  id : Int
  src : Int
  dst : Int
  due : Int
  a : Option Addr
  n : Nat
  c : Nat
  bs : List Int
def Fx.v (f : Fx) : Value := .slice f.a f.n f.c
def Fx.cs (f : Fx) : Array Value := #[.int .i64 f.id, .int .i64 f.src, .int .i64 f.dst, .int .i64 f.due, .slice f.a f.n f.c]
def f0 : Fx := ⟨0, 0, 0, 0, none, 0, 0, []⟩
def flCells (fs : List Fx) : List Value := fs.flatMap fun f => f.cs.toList
theorem flCells_app (a b : List Fx) : flCells (a ++ b) = flCells a ++ flCells b := by simp [flCells]
theorem flCells_len (fs : List Fx) : (flCells fs).length = fs.length * 5 := by
  induction fs with
  | nil => rfl
  | cons f fs ih => simp only [flCells, List.flatMap_cons, List.length_append] at ih ⊢; rw [ih]; simp [Fx.cs]; omega
theorem flCells_one (fs : List Fx) : ∀ u ∈ flCells fs, u.oneCell' = true := by
  intro u hu
  simp only [flCells, List.mem_flatMap] at hu
  obtain ⟨f, _, hf⟩ := hu
  simp [Fx.cs] at hf
  rcases hf with rfl | rfl | rfl | rfl | rfl <;> rfl
theorem flCells_get (fs : List Fx) (i : Nat) (hi : i < fs.length) (j : Nat) (hj : j < 5) : (flCells fs)[i * 5 + j]? = (fs.getD i f0).cs[j]? := by
  induction fs generalizing i with
  | nil => simp at hi
  | cons f fs ih =>
    have hl : f.cs.toList.length = 5 := rfl
    cases i with
    | zero =>
      simp only [flCells, List.flatMap_cons, Nat.zero_mul, Nat.zero_add]
      rw [List.getElem?_append_left (by rw [hl]; exact hj)]
      simp
    | succ i =>
      have := ih i (by simpa using hi)
      simp only [flCells, List.flatMap_cons] at this ⊢
      rw [List.getElem?_append_right (by rw [hl]; omega), hl, show (i + 1) * 5 + j - 5 = i * 5 + j by omega, this]
      simp
def NodAt (w : World) (bn nn : Nat) (up : Nat → Bool) (inc tick : Nat → Int) : Prop :=
  ∃ cs : Array Value, w.heap[bn]? = some (.cells cs 78 (0, 0)) ∧ cs.size = nn * 3 ∧ ∀ p, p < nn → cs[p * 3]? = some (.bool (up p)) ∧ cs[p * 3 + 1]? = some (.int .i64 (inc p)) ∧ cs[p * 3 + 2]? = some (.int .i64 (tick p))
theorem NodAt.keep {w w' : World} {P : Nat → Prop} {bn nn : Nat} {up : Nat → Bool} {inc tick : Nat → Int} (h : NodAt w bn nn up inc tick) (k : Kept w w' P) (hp : ¬ P bn) : NodAt w' bn nn up inc tick := by
  obtain ⟨cs, h1, h2, h3⟩ := h
  exact ⟨cs, k.obj h1 hp, h2, h3⟩
theorem Cut.keep {w w' : World} {P : Nat → Prop} {b m : Nat} {f : Nat → Nat → Bool} (h : Cut w b m f) (k : Kept w w' P) (hp : ¬ P b) : Cut w' b m f := by
  obtain ⟨D, h1, h2⟩ := h
  exact ⟨D, k.map h1 hp, h2⟩
theorem Del.keep {w w' : World} {P : Nat → Prop} {b m : Nat} {f : Nat → Nat → Int} (h : Del w b m f) (k : Kept w w' P) (hp : ¬ P b) : Del w' b m f := by
  obtain ⟨D, h1, h2⟩ := h
  exact ⟨D, k.map h1 hp, h2⟩
theorem Cut.mono {w : World} {b m m' : Nat} {f : Nat → Nat → Bool} (h : Cut w b m f) (hm : m ≤ m') : Cut w b m' f := by
  obtain ⟨D, h1, h2⟩ := h
  exact ⟨D, h1.mono hm, h2⟩
theorem Del.mono {w : World} {b m m' : Nat} {f : Nat → Nat → Int} (h : Del w b m f) (hm : m ≤ m') : Del w b m' f := by
  obtain ⟨D, h1, h2⟩ := h
  exact ⟨D, h1.mono hm, h2⟩
theorem Cut.obj {w : World} {b m : Nat} {f : Nat → Nat → Bool} (h : Cut w b m f) : ∃ es cl, w.heap[b]? = some (.map es cl) := by
  obtain ⟨D, ⟨es, cl, h1, _⟩, _⟩ := h
  exact ⟨es, cl, h1⟩
theorem Del.obj {w : World} {b m : Nat} {f : Nat → Nat → Int} (h : Del w b m f) : ∃ es cl, w.heap[b]? = some (.map es cl) := by
  obtain ⟨D, ⟨es, cl, h1, _⟩, _⟩ := h
  exact ⟨es, cl, h1⟩
def Fx.byt (w : World) (B : Nat) (f : Fx) : Prop := w.ownsRow B 5 1 f.v f.n (f.bs.map (Value.int .u8)) ∧ ∀ i, 0 ≤ f.bs.getD i 0 ∧ f.bs.getD i 0 ≤ 255
def Fx.apart (f g : Fx) : Prop := ∀ k, f.v.ownBlock = some k → g.v.ownBlock ≠ some k
structure Fls (w : World) (B : Nat) (va : Option Addr) (vc : Nat) (fs : List Fx) : Prop where
  row : w.ownsRow B 43 5 (.slice va fs.length vc) fs.length (flCells fs)
  byt : ∀ f ∈ fs, f.byt w B
  apt : fs.Pairwise Fx.apart
theorem Fx.byt.keep {w w' : World} {P : Nat → Prop} {B : Nat} {f : Fx} (h : f.byt w B) (k : Kept w w' P) (hp : ∀ j, f.v.ownBlock = some j → ¬ P j) : f.byt w' B := ⟨k.owns h.1 hp, h.2⟩
theorem Fls.keep {w w' : World} {P : Nat → Prop} {B : Nat} {va : Option Addr} {vc : Nat} {fs : List Fx} (h : Fls w B va vc fs) (k : Kept w w' P) (hr : ∀ j, (Value.slice va fs.length vc).ownBlock = some j → ¬ P j) (hb : ∀ f ∈ fs, ∀ j, f.v.ownBlock = some j → ¬ P j) : Fls w' B va vc fs :=
  ⟨k.owns h.row hr, fun f hf => (h.byt f hf).keep k (hb f hf), h.apt⟩
structure En where
  b : Nat
  bn : Nat
  bc : Nat
  bd : Nat
  nn : Nat
  clock : Int
  room : Int
  last : Int
  up : Nat → Bool
  inc : Nat → Int
  tick : Nat → Int
  cut : Nat → Nat → Bool
  dl : Nat → Nat → Int
  va : Option Addr
  vc : Nat
  fs : List Fx
def En.cs (E : En) : Array Value := #[.int .i64 E.clock, .slice (some ⟨E.bn, 0, none⟩) E.nn E.nn, .map (some E.bc), .map (some E.bd), .int .i64 E.room, .int .i64 E.last, .slice E.va E.fs.length E.vc]
def En.own (E : En) (j : Nat) : Prop := j = E.b ∨ j = E.bn ∨ j = E.bc ∨ j = E.bd ∨ (Value.slice E.va E.fs.length E.vc).ownBlock = some j ∨ ∃ f ∈ E.fs, f.v.ownBlock = some j
structure En.Ok (E : En) (w : World) (B m : Nat) : Prop where
  blk : w.heap[E.b]? = some (.cells E.cs 76 (0, 0))
  nod : NodAt w E.bn E.nn E.up E.inc E.tick
  cut : Cut w E.bc m E.cut
  del : Del w E.bd m E.dl
  fls : Fls w B E.va E.vc E.fs
  ge : B ≤ E.b ∧ B ≤ E.bn ∧ B ≤ E.bc ∧ B ≤ E.bd
  ne : E.bc ≠ E.bd
  n16 : 1 ≤ E.nn ∧ E.nn ≤ 16
  pth : ∀ f ∈ E.fs, ∃ p q : Nat, f.src = p ∧ f.dst = q ∧ p < E.nn ∧ q < E.nn ∧ p ≠ q
  dly : ∀ p q, p < 16 → q < 16 → 1 ≤ E.dl p q ∧ E.dl p q ≤ 16
theorem row_ty {w : World} {B t s n : Nat} {v : Value} {l : List Value} (h : w.ownsRow B t s v n l) {j : Nat} (hj : v.ownBlock = some j) : ∃ cur, w.heap[j]? = some (.cells cur t (0, 0)) := by
  rcases h.2 with ⟨h1, _⟩ | ⟨g, cap, cur, hv, _, hg, _⟩
  · rw [h1] at hj; simp [Value.ownBlock] at hj
  · rw [hv] at hj
    simp [Value.ownBlock] at hj
    subst hj
    exact ⟨cur, hg⟩
section
variable {E : En} {w w' : World} {B m : Nat}
theorem En.Ok.b_bn (h : E.Ok w B m) : E.b ≠ E.bn := fun e => by
  obtain ⟨cs, h1, _⟩ := h.nod
  have := h.blk
  rw [e, h1] at this
  simp at this
theorem En.Ok.b_bc (h : E.Ok w B m) : E.b ≠ E.bc := fun e => by
  obtain ⟨es, cl, h1⟩ := h.cut.obj
  have := h.blk
  rw [e, h1] at this
  simp at this
theorem En.Ok.b_bd (h : E.Ok w B m) : E.b ≠ E.bd := fun e => by
  obtain ⟨es, cl, h1⟩ := h.del.obj
  have := h.blk
  rw [e, h1] at this
  simp at this
theorem En.Ok.bn_bc (h : E.Ok w B m) : E.bn ≠ E.bc := fun e => by
  obtain ⟨es, cl, h1⟩ := h.cut.obj
  obtain ⟨cs, h2, _⟩ := h.nod
  rw [e, h1] at h2
  simp at h2
theorem En.Ok.bn_bd (h : E.Ok w B m) : E.bn ≠ E.bd := fun e => by
  obtain ⟨es, cl, h1⟩ := h.del.obj
  obtain ⟨cs, h2, _⟩ := h.nod
  rw [e, h1] at h2
  simp at h2
theorem En.Ok.row_ne (h : E.Ok w B m) {j : Nat} (hj : (Value.slice E.va E.fs.length E.vc).ownBlock = some j) : j ≠ E.b ∧ j ≠ E.bn ∧ j ≠ E.bc ∧ j ≠ E.bd := by
  obtain ⟨cur, hc⟩ := row_ty h.fls.row hj
  refine ⟨fun e => ?_, fun e => ?_, fun e => ?_, fun e => ?_⟩ <;> subst e
  · have := h.blk; rw [hc] at this; simp at this
  · obtain ⟨cs, h2, _⟩ := h.nod; rw [hc] at h2; simp at h2
  · obtain ⟨es, cl, h1⟩ := h.cut.obj; rw [hc] at h1; simp at h1
  · obtain ⟨es, cl, h1⟩ := h.del.obj; rw [hc] at h1; simp at h1
theorem En.Ok.byt_ne (h : E.Ok w B m) {f : Fx} (hf : f ∈ E.fs) {j : Nat} (hj : f.v.ownBlock = some j) : j ≠ E.b ∧ j ≠ E.bn ∧ j ≠ E.bc ∧ j ≠ E.bd ∧ (Value.slice E.va E.fs.length E.vc).ownBlock ≠ some j := by
  obtain ⟨cur, hc⟩ := row_ty (h.fls.byt f hf).1 hj
  refine ⟨fun e => ?_, fun e => ?_, fun e => ?_, fun e => ?_, fun e => ?_⟩
  · subst e; have := h.blk; rw [hc] at this; simp at this
  · subst e; obtain ⟨cs, h2, _⟩ := h.nod; rw [hc] at h2; simp at h2
  · subst e; obtain ⟨es, cl, h1⟩ := h.cut.obj; rw [hc] at h1; simp at h1
  · subst e; obtain ⟨es, cl, h1⟩ := h.del.obj; rw [hc] at h1; simp at h1
  · obtain ⟨cur', hc'⟩ := row_ty h.fls.row e; rw [hc] at hc'; simp at hc'
theorem En.Ok.keep {P : Nat → Prop} (h : E.Ok w B m) (k : Kept w w' P) (hp : ∀ j, E.own j → ¬ P j) : E.Ok w' B m :=
  ⟨k.obj h.blk (hp _ (.inl rfl)), h.nod.keep k (hp _ (.inr (.inl rfl))), h.cut.keep k (hp _ (.inr (.inr (.inl rfl)))), h.del.keep k (hp _ (.inr (.inr (.inr (.inl rfl))))),
   h.fls.keep k (fun j hj => hp j (.inr (.inr (.inr (.inr (.inl hj)))))) (fun f hf j hj => hp j (.inr (.inr (.inr (.inr (.inr ⟨f, hf, hj⟩)))))), h.ge, h.ne, h.n16, h.pth, h.dly⟩
theorem En.Ok.still (h : E.Ok w B m) (hb : Below w.heap.size w w') : E.Ok w' B m := h.keep (Kept.ofBelow hb (fun _ => False)) (fun _ _ => id)
theorem En.Ok.mono {m' : Nat} (h : E.Ok w B m) (hm : m ≤ m') : E.Ok w B m' := ⟨h.blk, h.nod, h.cut.mono hm, h.del.mono hm, h.fls, h.ge, h.ne, h.n16, h.pth, h.dly⟩
theorem En.Ok.ltOwn (h : E.Ok w B m) {j : Nat} (hj : E.own j) : j < w.heap.size := by
  rcases hj with rfl | rfl | rfl | rfl | hj | ⟨f, hf, hj⟩
  · exact lt_heap h.blk
  · obtain ⟨cs, h1, _⟩ := h.nod; exact lt_heap h1
  · obtain ⟨es, cl, h1⟩ := h.cut.obj; exact lt_heap h1
  · obtain ⟨es, cl, h1⟩ := h.del.obj; exact lt_heap h1
  · obtain ⟨cur, hc⟩ := row_ty h.fls.row hj; exact lt_heap hc
  · obtain ⟨cur, hc⟩ := row_ty (h.fls.byt f hf).1 hj; exact lt_heap hc
theorem En.Ok.geOwn (h : E.Ok w B m) {j : Nat} (hj : E.own j) : B ≤ j := by
  rcases hj with rfl | rfl | rfl | rfl | hj | ⟨f, hf, hj⟩
  · exact h.ge.1
  · exact h.ge.2.1
  · exact h.ge.2.2.1
  · exact h.ge.2.2.2
  · exact (World.ownsRow.lt h.fls.row j hj).1
  · exact (World.ownsRow.lt (h.fls.byt f hf).1 j hj).1
theorem En.Ok.c (h : E.Ok w B m) (i : Nat) {v : Value} (hv : E.cs[i]? = some v) : w.cell? ⟨E.b, i, none⟩ = some v := (blk_cell h.blk i).trans hv
theorem En.Ok.c0 (h : E.Ok w B m) : w.cell? ⟨E.b, 0, none⟩ = some (.int .i64 E.clock) := h.c 0 rfl
theorem En.Ok.c1 (h : E.Ok w B m) : w.cell? ⟨E.b, 1, none⟩ = some (.slice (some ⟨E.bn, 0, none⟩) E.nn E.nn) := h.c 1 rfl
theorem En.Ok.c2 (h : E.Ok w B m) : w.cell? ⟨E.b, 2, none⟩ = some (.map (some E.bc)) := h.c 2 rfl
theorem En.Ok.c3 (h : E.Ok w B m) : w.cell? ⟨E.b, 3, none⟩ = some (.map (some E.bd)) := h.c 3 rfl
theorem En.Ok.c4 (h : E.Ok w B m) : w.cell? ⟨E.b, 4, none⟩ = some (.int .i64 E.room) := h.c 4 rfl
theorem En.Ok.c5 (h : E.Ok w B m) : w.cell? ⟨E.b, 5, none⟩ = some (.int .i64 E.last) := h.c 5 rfl
theorem En.Ok.c6 (h : E.Ok w B m) : w.cell? ⟨E.b, 6, none⟩ = some (.slice E.va E.fs.length E.vc) := h.c 6 rfl
theorem En.Ok.fz (h : E.Ok w B m) (i : Nat) : w.frozen? ⟨E.b, i, none⟩ = false := frozen_of_row w _ i _ _ h.blk
theorem En.Ok.setB {E' : En} (h : E.Ok w B m) (i : Nat) (v : Value) (hcs : E.cs.setIfInBounds i v = E'.cs) (hE : E' = { E with clock := E'.clock, last := E'.last }) : E'.Ok (w.setCell ⟨E.b, i, none⟩ v) B m := by
  have k := kset (P := fun j => j = E.b) w E.b i v rfl
  have hb : (w.setCell ⟨E.b, i, none⟩ v).heap[E.b]? = some (.cells E'.cs 76 (0, 0)) := hcs ▸ heap_setCell_same w E.b i E.cs 76 v h.blk
  rw [hE] at hb ⊢
  exact ⟨hb, h.nod.keep k (fun e => h.b_bn e.symm), h.cut.keep k (fun e => h.b_bc e.symm), h.del.keep k (fun e => h.b_bd e.symm), h.fls.keep k (fun j hj e => (h.row_ne hj).1 e) (fun f hf j hj e => (h.byt_ne hf hj).1 e), h.ge, h.ne, h.n16, h.pth, h.dly⟩
def upd1 {α : Type} (f : Nat → α) (p : Nat) (x : α) : Nat → α := fun a => if a = p then x else f a
theorem En.Ok.nodC (h : E.Ok w B m) {p : Nat} (hp : p < E.nn) : w.cell? ⟨E.bn, p * 3, none⟩ = some (.bool (E.up p)) ∧ w.cell? ⟨E.bn, p * 3 + 1, none⟩ = some (.int .i64 (E.inc p)) ∧ w.cell? ⟨E.bn, p * 3 + 2, none⟩ = some (.int .i64 (E.tick p)) := by
  obtain ⟨cs, h1, h2, h3⟩ := h.nod
  exact ⟨(blk_cell h1 _).trans (h3 p hp).1, (blk_cell h1 _).trans (h3 p hp).2.1, (blk_cell h1 _).trans (h3 p hp).2.2⟩
theorem En.Ok.nodF (h : E.Ok w B m) (i : Nat) : w.frozen? ⟨E.bn, i, none⟩ = false := by
  obtain ⟨cs, h1, h2, h3⟩ := h.nod
  exact frozen_of_row w _ i _ _ h1
theorem En.Ok.setN (h : E.Ok w B m) {up : Nat → Bool} {inc tick : Nat → Int} {i : Nat} {v : Value} (hn : NodAt (w.setCell ⟨E.bn, i, none⟩ v) E.bn E.nn up inc tick) : En.Ok { E with up := up, inc := inc, tick := tick } (w.setCell ⟨E.bn, i, none⟩ v) B m := by
  have k := kset (P := fun j => j = E.bn) w E.bn i v rfl
  exact ⟨k.obj h.blk h.b_bn, hn, h.cut.keep k (fun e => h.bn_bc e.symm), h.del.keep k (fun e => h.bn_bd e.symm), h.fls.keep k (fun j hj e => (h.row_ne hj).2.1 e) (fun f hf j hj e => (h.byt_ne hf hj).2.1 e), h.ge, h.ne, h.n16, h.pth, h.dly⟩
theorem NodAt.set {bn nn : Nat} {up : Nat → Bool} {inc tick : Nat → Int} (h : NodAt w bn nn up inc tick) {p : Nat} (hp : p < nn) :
    (∀ x, NodAt (w.setCell ⟨bn, p * 3, none⟩ (.bool x)) bn nn (upd1 up p x) inc tick) ∧ (∀ x, NodAt (w.setCell ⟨bn, p * 3 + 1, none⟩ (.int .i64 x)) bn nn up (upd1 inc p x) tick) ∧ (∀ x, NodAt (w.setCell ⟨bn, p * 3 + 2, none⟩ (.int .i64 x)) bn nn up inc (upd1 tick p x)) := by
  obtain ⟨cs, h1, h2, h3⟩ := h
  refine ⟨fun x => ⟨cs.setIfInBounds (p * 3) (.bool x), heap_setCell_same w bn _ cs 78 _ h1, by simpa using h2, fun q hq => ?_⟩, fun x => ⟨cs.setIfInBounds (p * 3 + 1) (.int .i64 x), heap_setCell_same w bn _ cs 78 _ h1, by simpa using h2, fun q hq => ?_⟩, fun x => ⟨cs.setIfInBounds (p * 3 + 2) (.int .i64 x), heap_setCell_same w bn _ cs 78 _ h1, by simpa using h2, fun q hq => ?_⟩⟩
  all_goals
    obtain ⟨g1, g2, g3⟩ := h3 q hq
    simp only [Array.getElem?_setIfInBounds, upd1]
    by_cases e : q = p
    · subst e
      refine ⟨?_, ?_, ?_⟩ <;> first | (rw [if_pos rfl, if_pos (by omega)]; simp) | (rw [if_neg (by omega)]; assumption)
    · refine ⟨?_, ?_, ?_⟩ <;> rw [if_neg (by omega)] <;> simp [e, g1, g2, g3]
end
end Go.Proofs.Ytnhhjelplmdloaa.Et
namespace Go.Proofs.Ytnhhjelplmdloaa.Et
open Go.RowKit Go.Maps
set_option linter.unusedVariables false
set_option linter.unusedSimpArgs false
set_option maxRecDepth 100000
section
variable {E : En} {w : World} {B m : Nat}
def isN (E : En) (p : Int) : Bool := decide (0 ≤ p ∧ p < E.nn)
theorem isN_true {p : Int} (h : isN E p = true) : 0 ≤ p ∧ p < E.nn := of_decide_eq_true h
theorem isN_nat {p : Nat} (h : p < E.nn) : isN E p = true := decide_eq_true (by omega)
set_option maxHeartbeats 400000 in
theorem isNode_any (h : E.Ok w B m) (p : Int) : Calls Try.prog 35 #[.pointer (some ⟨E.b, 0, none⟩), .int .i64 p] w fun e w' => e = .returned (.bool (isN E p)) ∧ w = w' := by
  have c1 := h.c1
  have hn := h.n16
  clear h
  go_enter Try.func35, Try.ntmps35
  go_wp2
  all_goals (go_ret; exact ⟨by simp [isN]; first | assumption | omega | skip, rfl⟩)
set_option maxHeartbeats 400000 in
theorem up_any (h : E.Ok w B m) (p : Int) : Calls Try.prog 13 #[.pointer (some ⟨E.b, 0, none⟩), .int .i64 p] w fun e w' => e = .returned (.bool (isN E p && E.up p.toNat)) ∧ w = w' := by
  have c1 := h.c1
  have hn := h.n16
  have HN := isNode_any h p
  generalize hb : isN E p = b at HN ⊢
  cases b with
  | false =>
    clear h
    go_enter Try.func13, Try.ntmps13
    go_wp2_with (first | (go_at_call 35; refine HN.mono ?_; rintro e w' ⟨rfl, rfl⟩) | fail)
    go_ret
    exact ⟨rfl, rfl⟩
  | true =>
    obtain ⟨h0, h1⟩ := isN_true hb
    obtain ⟨k, rfl⟩ : ∃ k : Nat, p = k := ⟨p.toNat, by omega⟩
    obtain ⟨d0, d1, d2⟩ := h.nodC (p := k) (by omega)
    clear h
    go_enter Try.func13, Try.ntmps13
    go_wp2_with (first | (go_at_call 35; refine HN.mono ?_; rintro e w' ⟨rfl, rfl⟩) | fail)
    go_ret
    exact ⟨rfl, rfl⟩
end
end Go.Proofs.Ytnhhjelplmdloaa.Et
namespace Go.Proofs.Ytnhhjelplmdloaa.Et
open Go.RowKit Go.Maps
set_option linter.unusedVariables false
set_option linter.unusedSimpArgs false
set_option maxRecDepth 100000
structure Step (w w' : World) (E E' : En) (B m : Nat) : Prop where
  ok : E'.Ok w' B m
  kept : Kept w w' E.own
  own : ∀ j, E'.own j → E.own j ∨ w.heap.size ≤ j
section
variable {E : En} {w : World} {B m : Nat}
theorem Step.same (h : E.Ok w B m) : Step w w E E B m := ⟨h, Kept.refl _ _, fun j hj => .inl hj⟩
theorem Step.trans {w1 w2 : World} {E1 E2 : En} {m1 : Nat} (h : Step w w1 E E1 B m) (g : Step w1 w2 E1 E2 B m1) : Step w w2 E E2 B m1 :=
  ⟨g.ok, h.kept.step g.kept (fun j hj => h.own j hj), fun j hj => (g.own j hj).elim (fun hh => h.own j hh) (fun hh => .inr (Nat.le_trans h.kept.size hh))⟩
set_option maxHeartbeats 400000 in
theorem inc_any (h : E.Ok w B m) (p : Int) : Calls Try.prog 14 #[.pointer (some ⟨E.b, 0, none⟩), .int .i64 p] w fun e w' => e = .returned (.int .i64 (if isN E p then E.inc p.toNat else 0)) ∧ w = w' := by
  have c1 := h.c1
  have hn := h.n16
  have HN := isNode_any h p
  generalize hb : isN E p = b at HN ⊢
  cases b with
  | false =>
    clear h
    go_enter Try.func14, Try.ntmps14
    go_wp2_with (first | (go_at_call 35; refine HN.mono ?_; rintro e w' ⟨rfl, rfl⟩) | fail)
    go_ret
    exact ⟨rfl, rfl⟩
  | true =>
    obtain ⟨h0, h1⟩ := isN_true hb
    obtain ⟨k, rfl⟩ : ∃ k : Nat, p = k := ⟨p.toNat, by omega⟩
    obtain ⟨d0, d1, d2⟩ := h.nodC (p := k) (by omega)
    clear h
    go_enter Try.func14, Try.ntmps14
    go_wp2_with (first | (go_at_call 35; refine HN.mono ?_; rintro e w' ⟨rfl, rfl⟩) | fail)
    go_ret
    exact ⟨rfl, rfl⟩
set_option maxHeartbeats 400000 in
theorem ticks_any (h : E.Ok w B m) (p : Int) : Calls Try.prog 40 #[.pointer (some ⟨E.b, 0, none⟩), .int .i64 p] w fun e w' => e = .returned (.int .i64 (if isN E p then E.tick p.toNat else 0)) ∧ w = w' := by
  have c1 := h.c1
  have hn := h.n16
  have HN := isNode_any h p
  generalize hb : isN E p = b at HN ⊢
  cases b with
  | false =>
    clear h
    go_enter Try.func40, Try.ntmps40
    go_wp2_with (first | (go_at_call 35; refine HN.mono ?_; rintro e w' ⟨rfl, rfl⟩) | fail)
    go_ret
    exact ⟨rfl, rfl⟩
  | true =>
    obtain ⟨h0, h1⟩ := isN_true hb
    obtain ⟨k, rfl⟩ : ∃ k : Nat, p = k := ⟨p.toNat, by omega⟩
    obtain ⟨d0, d1, d2⟩ := h.nodC (p := k) (by omega)
    clear h
    go_enter Try.func40, Try.ntmps40
    go_wp2_with (first | (go_at_call 35; refine HN.mono ?_; rintro e w' ⟨rfl, rfl⟩) | fail)
    go_ret
    exact ⟨rfl, rfl⟩
set_option maxHeartbeats 400000 in
theorem clock_any (h : E.Ok w B m) : Calls Try.prog 31 #[.pointer (some ⟨E.b, 0, none⟩)] w fun e w' => e = .returned (.int .i64 E.clock) ∧ w = w' := by
  have c0 := h.c0
  clear h
  go_enter Try.func31, Try.ntmps31
  go_wp2
  go_ret
  exact ⟨rfl, rfl⟩
def ckUp (E : En) (p : Int) : Int := if isN E p then (if E.up p.toNat then 0 else 32) else 1
theorem ckUp_zero {p : Int} (h : ckUp E p = 0) : ∃ k : Nat, p = k ∧ k < E.nn ∧ E.up k = true := by
  unfold ckUp at h
  split at h
  · rename_i h1
    obtain ⟨a, b⟩ := isN_true h1
    split at h
    · exact ⟨p.toNat, by omega, by omega, by assumption⟩
    · omega
  · omega
set_option maxHeartbeats 400000 in
theorem checkUp_any (h : E.Ok w B m) (p : Int) : Calls Try.prog 56 #[.pointer (some ⟨E.b, 0, none⟩), .int .i64 p] w fun e w' => e = .returned (.int .i64 (ckUp E p)) ∧ w = w' := by
  have c1 := h.c1
  have hn := h.n16
  have HN := isNode_any h p
  unfold ckUp
  generalize hb : isN E p = b at HN ⊢
  cases b with
  | false =>
    clear h
    go_enter Try.func56, Try.ntmps56
    go_wp2_with (first | (go_at_call 35; refine HN.mono ?_; rintro e w' ⟨rfl, rfl⟩) | fail)
    go_ret
    exact ⟨rfl, rfl⟩
  | true =>
    obtain ⟨h0, h1⟩ := isN_true hb
    obtain ⟨k, rfl⟩ : ∃ k : Nat, p = k := ⟨p.toNat, by omega⟩
    obtain ⟨d0, d1, d2⟩ := h.nodC (p := k) (by omega)
    rw [show ((k : Int).toNat) = k from rfl]
    generalize E.up k = u at d0 ⊢
    clear h
    cases u <;>
    · go_enter Try.func56, Try.ntmps56
      go_wp2_with (first | (go_at_call 35; refine HN.mono ?_; rintro e w' ⟨rfl, rfl⟩) | fail)
      go_ret
      exact ⟨rfl, rfl⟩
set_option maxHeartbeats 400000 in
theorem tick_no (h : E.Ok w B m) (p : Int) (hc : ckUp E p ≠ 0) : Calls Try.prog 37 #[.pointer (some ⟨E.b, 0, none⟩), .int .i64 p] w fun e w' => e = .returned (.tuple #[.int .i64 0, .int .i64 (ckUp E p)]) ∧ w = w' := by
  have HN := checkUp_any h p
  generalize ckUp E p = c at HN hc ⊢
  clear h
  go_enter Try.func37, Try.ntmps37
  go_wp2_with (first | (go_at_call 56; refine HN.mono ?_; rintro e w' ⟨rfl, rfl⟩) | fail)
  go_ret2
  exact ⟨rfl, rfl⟩
set_option maxHeartbeats 400000 in
theorem crash_no (h : E.Ok w B m) (p : Int) (hc : ckUp E p ≠ 0) : Calls Try.prog 38 #[.pointer (some ⟨E.b, 0, none⟩), .int .i64 p] w fun e w' => e = .returned (.int .i64 (ckUp E p)) ∧ w = w' := by
  have HN := checkUp_any h p
  generalize ckUp E p = c at HN hc ⊢
  clear h
  go_enter Try.func38, Try.ntmps38
  go_wp2_with (first | (go_at_call 56; refine HN.mono ?_; rintro e w' ⟨rfl, rfl⟩) | fail)
  go_ret
  exact ⟨rfl, rfl⟩
theorem Step.nod (h : E.Ok w B m) {up : Nat → Bool} {inc tick : Nat → Int} {i : Nat} {v : Value} (hn : NodAt (w.setCell ⟨E.bn, i, none⟩ v) E.bn E.nn up inc tick) : Step w (w.setCell ⟨E.bn, i, none⟩ v) E { E with up := up, inc := inc, tick := tick } B m :=
  ⟨h.setN hn, kset w E.bn i v (.inr (.inl rfl)), fun j hj => .inl hj⟩
set_option maxHeartbeats 400000 in
theorem crash_ok (h : E.Ok w B m) (k : Nat) (hk : k < E.nn) (hu : E.up k = true) : Calls Try.prog 38 #[.pointer (some ⟨E.b, 0, none⟩), .int .i64 k] w fun e w' => e = .returned (.int .i64 0) ∧ Step w w' E { E with up := upd1 E.up k false } B m := by
  have HN := checkUp_any h k
  rw [show ckUp E k = 0 by simp [ckUp, isN_nat hk, hu]] at HN
  have hs := Step.nod h ((h.nod.set hk).1 false)
  have hf := h.nodF (k * 3)
  have c1 := h.c1
  have hn := h.n16
  obtain ⟨d0, d1, d2⟩ := h.nodC hk
  clear h
  go_enter Try.func38, Try.ntmps38
  go_wp2_with (first | (go_at_call 56; refine HN.mono ?_; rintro e w' ⟨rfl, rfl⟩) | fail)
  go_ret
  exact ⟨rfl, hs⟩
set_option maxHeartbeats 400000 in
theorem tick_ok (h : E.Ok w B m) (k : Nat) (hk : k < E.nn) (hu : E.up k = true) : Calls Try.prog 37 #[.pointer (some ⟨E.b, 0, none⟩), .int .i64 k] w fun e w' => e = .returned (.tuple #[.int .i64 (wrap64 (E.tick k + 1)), .int .i64 0]) ∧ Step w w' E { E with tick := upd1 E.tick k (wrap64 (E.tick k + 1)) } B m := by
  have HN := checkUp_any h k
  rw [show ckUp E k = 0 by simp [ckUp, isN_nat hk, hu]] at HN
  have hs := Step.nod h ((h.nod.set hk).2.2 (wrap64 (E.tick k + 1)))
  have hf := h.nodF (k * 3 + 2)
  have c1 := h.c1
  have hn := h.n16
  obtain ⟨d0, d1, d2⟩ := h.nodC hk
  clear h
  go_enter Try.func37, Try.ntmps37
  go_wp2_with (first | (go_at_call 56; refine HN.mono ?_; rintro e w' ⟨rfl, rfl⟩) | fail)
  go_ret2
  exact ⟨rfl, hs⟩
def rstE (E : En) (p : Int) : Int := if isN E p then (if E.up p.toNat then 33 else 0) else 1
set_option maxHeartbeats 400000 in
theorem restart_no (h : E.Ok w B m) (p : Int) (hc : rstE E p ≠ 0) : Calls Try.prog 12 #[.pointer (some ⟨E.b, 0, none⟩), .int .i64 p] w fun e w' => e = .returned (.tuple #[.int .i64 0, .int .i64 (rstE E p)]) ∧ w = w' := by
  have c1 := h.c1
  have hn := h.n16
  have HN := isNode_any h p
  unfold rstE at hc ⊢
  generalize hb : isN E p = b at HN hc ⊢
  cases b with
  | false =>
    clear h
    go_enter Try.func12, Try.ntmps12
    go_wp2_with (first | (go_at_call 35; refine HN.mono ?_; rintro e w' ⟨rfl, rfl⟩) | fail)
    go_ret2
    exact ⟨rfl, rfl⟩
  | true =>
    obtain ⟨h0, h1⟩ := isN_true hb
    obtain ⟨k, rfl⟩ : ∃ k : Nat, p = k := ⟨p.toNat, by omega⟩
    obtain ⟨d0, d1, d2⟩ := h.nodC (p := k) (by omega)
    rw [show ((k : Int).toNat) = k from rfl] at hc ⊢
    have hu : E.up k = true := by
      cases hu : E.up k with
      | true => rfl
      | false => simp [hu] at hc
    rw [hu] at d0 ⊢
    clear h
    go_enter Try.func12, Try.ntmps12
    go_wp2_with (first | (go_at_call 35; refine HN.mono ?_; rintro e w' ⟨rfl, rfl⟩) | fail)
    go_ret2
    exact ⟨rfl, rfl⟩
set_option maxHeartbeats 400000 in
theorem restart_ok (h : E.Ok w B m) (k : Nat) (hk : k < E.nn) (hu : E.up k = false) : Calls Try.prog 12 #[.pointer (some ⟨E.b, 0, none⟩), .int .i64 k] w fun e w' => e = .returned (.tuple #[.int .i64 (wrap64 (E.inc k + 1)), .int .i64 0]) ∧ Step w w' E { E with up := upd1 E.up k true, inc := upd1 E.inc k (wrap64 (E.inc k + 1)), tick := upd1 E.tick k 0 } B m := by
  have HN := isNode_any h k
  rw [isN_nat hk] at HN
  have c1 := h.c1
  have hn := h.n16
  obtain ⟨d0, d1, d2⟩ := h.nodC hk
  rw [hu] at d0
  have hf := h.nodF (k * 3)
  have hf1 := h.nodF (k * 3 + 1)
  have hf2 := h.nodF (k * 3 + 2)
  have s1 := Step.nod h ((h.nod.set hk).1 true)
  have s2 := s1.trans (Step.nod s1.ok ((s1.ok.nod.set hk).2.1 (wrap64 (E.inc k + 1))))
  have s3 := s2.trans (Step.nod s2.ok ((s2.ok.nod.set hk).2.2 0))
  clear h s1 s2
  go_enter Try.func12, Try.ntmps12
  go_wp2_with (first | (go_at_call 35; refine HN.mono ?_; rintro e w' ⟨rfl, rfl⟩) | fail)
  go_ret2
  exact ⟨rfl, s3⟩
end
end Go.Proofs.Ytnhhjelplmdloaa.Et
