import Derived.Test.YtnhhjelplmdloaaRows
import Derived.WalkKit
import Derived.WalkLawsBesides
import Derived.WalkSpells
import Derived.Outline
import Derived.Below
import Derived.BigQuiet
import Derived.Deep.QuietTactic
import Derived.Deep.RegionHeld3
import Derived.Deep.RegionHeldLaw
import Derived.Deep.AppendLies
import Derived.ArgAppend
import Derived.Laws.OwnMore
import Derived.Laws.AppendOwnNone
import Derived.Maps.OwnSet
import Derived.Maps.OwnOps
import Derived.DeepKeys4
import Derived.Laws.CopyOwn
namespace Go.Proofs.Ytnhhjelplmdloaa.Et
open Go.RowKit Go.Maps
set_option linter.unusedVariables false
set_option maxRecDepth 100000
set_option linter.unusedSimpArgs false
structure Kept (w w' : World) (P : Nat → Prop) : Prop where
  os : w'.os = w.os
  tape : w'.tape = w.tape
  output : w'.output = w.output
  size : w.heap.size ≤ w'.heap.size
  block : ∀ k, k < w.heap.size → ¬ P k → w'.heap[k]? = w.heap[k]?
theorem Kept.refl (w : World) (P : Nat → Prop) : Kept w w P := ⟨rfl, rfl, rfl, Nat.le_refl _, fun _ _ _ => rfl⟩
theorem Kept.trans {a b c : World} {P : Nat → Prop} (h : Kept a b P) (k : Kept b c P) : Kept a c P :=
  ⟨k.os.trans h.os, k.tape.trans h.tape, k.output.trans h.output, Nat.le_trans h.size k.size, fun i hi hp => (k.block i (Nat.lt_of_lt_of_le hi h.size) hp).trans (h.block i hi hp)⟩
theorem Kept.step {a b c : World} {P Q : Nat → Prop} (h : Kept a b P) (k : Kept b c Q) (hq : ∀ j, Q j → P j ∨ a.heap.size ≤ j) : Kept a c P :=
  ⟨k.os.trans h.os, k.tape.trans h.tape, k.output.trans h.output, Nat.le_trans h.size k.size, fun i hi hp => (k.block i (Nat.lt_of_lt_of_le hi h.size) (fun hQ => (hq i hQ).elim hp (fun hh => by omega))).trans (h.block i hi hp)⟩
theorem Kept.mono {a b : World} {P Q : Nat → Prop} (h : Kept a b P) (hq : ∀ k, k < a.heap.size → P k → Q k) : Kept a b Q :=
  ⟨h.os, h.tape, h.output, h.size, fun i hi hp => h.block i hi (fun hP => hp (hq i hi hP))⟩
theorem Kept.ofGrown {a b : World} {r : Option Nat} (h : a.grownBy b r) : Kept a b (fun k => some k = r) := ⟨h.os, h.tape, h.output, h.size, fun i hi hp => h.block i hi hp⟩
theorem Kept.ofBelow {a b : World} (h : Below a.heap.size a b) (P : Nat → Prop) : Kept a b P := ⟨h.os, h.tape, h.output, h.size, fun i hi _ => h.block i hi⟩
theorem Kept.below {a b : World} {P : Nat → Prop} {B : Nat} (h : Kept a b P) (hB : B ≤ a.heap.size) (hp : ∀ k, k < B → ¬ P k) : Below B a b := ⟨h.os, h.tape, h.output, h.size, fun i hi => h.block i (by omega) (hp i hi)⟩
theorem Kept.owns {a b : World} {P : Nat → Prop} {base e size n : Nat} {v : Value} {xs : List Value} (h : Kept a b P) (ho : a.ownsRow base e size v n xs) (hp : ∀ k, v.ownBlock = some k → ¬ P k) : b.ownsRow base e size v n xs := by
  refine ⟨ho.1, ?_⟩
  have hlt := ho.lt
  rcases ho.2 with h1 | ⟨g, cap, cur, hv, hg, hh, hr⟩
  · exact .inl h1
  · subst hv
    exact .inr ⟨g, cap, cur, rfl, hg, (h.block g (hlt g rfl).2 (hp g rfl)).trans hh, hr⟩
theorem lt_heap {w : World} {k : Nat} {o : Obj} (h : w.heap[k]? = some o) : k < w.heap.size := by
  rcases Array.getElem?_eq_some_iff.1 h with ⟨h, _⟩; exact h
theorem Kept.obj {a b : World} {P : Nat → Prop} {k : Nat} {o : Obj} (h : Kept a b P) (ho : a.heap[k]? = some o) (hp : ¬ P k) : b.heap[k]? = some o := (h.block k (lt_heap ho) hp).trans ho
theorem Kept.map {a b : World} {P : Nat → Prop} {H : Type} {Pr : Program} {k : TypeId} {R : Value → Option (DataW H × List MemPlace)} {m n : Nat} {D : DataW H} (h : Kept a b P) (ho : a.ownsMap Pr k R m n D) (hp : ¬ P m) : b.ownsMap Pr k R m n D := by
  obtain ⟨es, cl, hb, r⟩ := ho
  exact ⟨es, cl, h.obj hb hp, r⟩
theorem kset {P : Nat → Prop} (w : World) (k i : Nat) (v : Value) (hp : P k) : Kept w (w.setCell ⟨k, i, none⟩ v) P :=
  ⟨rfl, rfl, rfl, by simp, fun j hj hq => Below.heap_setCell w ⟨k, i, none⟩ v j (fun e => hq (by cases e; exact hp))⟩
theorem bstep {w0 w w' : World} (h : Below w0.heap.size w0 w) (hb : Below w.heap.size w w') : Below w0.heap.size w0 w' := h.trans (hb.mono h.size)
theorem balloc {w0 w : World} {o : Obj} (h : Below w0.heap.size w0 w) : Below w0.heap.size w0 (w.alloc o) := h.alloc h.size o
theorem bstepA {w0 w w' : World} {o : Obj} (h : Below w0.heap.size w0 w) (hb : Below (w.alloc o).heap.size (w.alloc o) w') : Below w0.heap.size w0 w' := bstep (balloc h) hb
theorem bset {w w1 : World} {k : Nat} (h : Below w.heap.size w w1) (hk : w.heap.size ≤ k) (i : Nat) (v : Value) : Below w.heap.size w (w1.setCell ⟨k, i, none⟩ v) :=
  ⟨h.os, h.tape, h.output, by simpa using h.size, fun j hj => (Below.heap_setCell w1 ⟨k, i, none⟩ v j (by show ¬ j = k; omega)).trans (h.block j hj)⟩
theorem blk_cell {W : World} {cs : Array Value} {t : TypeId} {kb : Nat} (h : W.heap[kb]? = some (.cells cs t (0, 0))) (i : Nat) : W.cell? ⟨kb, i, none⟩ = cs[i]? := cell_of_row W kb i cs t (0, 0) h
theorem blk_spill {w w' : World} {cs : Array Value} {t : TypeId} (hb : Below (w.alloc (.cells cs t)).heap.size (w.alloc (.cells cs t)) w') : w'.heap[w.heap.size]? = some (.cells cs t (0, 0)) :=
  (hb.block _ (by simp)).trans (heap_alloc_new w _)
theorem blk_alloc {W : World} {cs : Array Value} {t : TypeId} {kb : Nat} {o : Obj} (h : W.heap[kb]? = some (.cells cs t (0, 0))) : (W.alloc o).heap[kb]? = some (.cells cs t (0, 0)) :=
  (((Below.refl _ _).alloc (Nat.le_refl _) o).block _ (lt_heap h)).trans h
theorem laidOut : laidOutB Try.prog = true := by kernel_rfl
theorem rowPath : (80 : TypeId) < Try.prog.types.size := of_decide_eq_true (by kernel_rfl)
theorem widePath : (match Try.prog.underlying 80 with | some (.array _ _) | some (.struct _) => true | _ => false) = true := by rw [Try.underlying80]
theorem keyT : Try.prog.keyTypeAt 2 80 = true := by kernel_rfl
theorem klaw : WideMaps.KeyLaw Try.prog 80 := deep_law_laid laidOut (m := 2) (by omega) rowPath keyT widePath
theorem law : Keyed Try.prog 80 := Keyed.of_law klaw
def pv (p q : Int) : Value := .agg #[.int .i64 p, .int .i64 q]
def klP (P : Program) (p q : Nat) : Lit := (keyOf P 80 (pv p q)).getD (.bool false)
def klA (P : Program) : Bool := (List.range 16).all fun p => (List.range 16).all fun q => (keyOf P 80 (pv p q)).isSome
theorem klAll_true : klA Try.prog = true := by kernel_rfl
theorem kl_some (p q : Nat) (hp : p < 16) (hq : q < 16) : keyOf Try.prog 80 (pv p q) = some (klP Try.prog p q) := by
  have h := klAll_true
  unfold klA at h
  have h1 := List.all_eq_true.1 (List.all_eq_true.1 h p (List.mem_range.2 hp)) q (List.mem_range.2 hq)
  unfold klP
  cases e : keyOf Try.prog 80 (pv p q) with
  | none => rw [e] at h1; cases h1
  | some l => rfl
theorem kl_inj {p q p' q' : Nat} (hp : p < 16) (hq : q < 16) (hp' : p' < 16) (hq' : q' < 16) (h : klP Try.prog p q = klP Try.prog p' q') : p = p' ∧ q = q' := by
  have h2 := kl_some p' q' hp' hq'
  rw [← h] at h2
  have := law.inj (kl_some p q hp hq) h2
  simp [pv] at this
  omega
theorem kl_key (p q : Nat) (hp : p < 16) (hq : q < 16) : WideAt.IsKeyLit (klP Try.prog p q) := law.key (kl_some p q hp hq)
def Cut (w : World) (b m : Nat) (f : Nat → Nat → Bool) : Prop :=
  ∃ D : DataW Unit, w.ownsMap Try.prog 80 unitElem b m D ∧ ∀ p q, p < 16 → q < 16 → Maps.has D (klP Try.prog p q) = f p q
def Del (w : World) (b m : Nat) (f : Nat → Nat → Int) : Prop :=
  ∃ D : DataW Unit, w.ownsMap Try.prog 80 (plainElem Try.prog 3) b m D ∧ ∀ p q, p < 16 → q < 16 → Maps.has D (klP Try.prog p q) = decide (f p q ≠ 1) ∧ D.atKey (klP Try.prog p q) (.lit (.int .i64 1)) = .lit (.int .i64 (f p q))
def upd2 {α : Type} (f : Nat → Nat → α) (p q : Nat) (x : α) : Nat → Nat → α := fun a b => if a = p ∧ b = q then x else f a b
theorem upd2_same {α : Type} (f : Nat → Nat → α) (p q : Nat) (x : α) : upd2 f p q x p q = x := by simp [upd2]
theorem upd2_other {α : Type} (f : Nat → Nat → α) {p q a b : Nat} (x : α) (h : ¬ (a = p ∧ b = q)) : upd2 f p q x a b = f a b := by simp [upd2, h]
theorem has_put {D : DataW Unit} (hD : IsMap D) {f : Nat → Nat → Bool} (h : ∀ p q, p < 16 → q < 16 → Maps.has D (klP Try.prog p q) = f p q) (p q : Nat) (hp : p < 16) (hq : q < 16) (d : DataW Unit) :
    ∀ a b, a < 16 → b < 16 → Maps.has (D.put (klP Try.prog p q) d) (klP Try.prog a b) = upd2 f p q true a b := by
  intro a b ha hb
  by_cases e : a = p ∧ b = q
  · obtain ⟨rfl, rfl⟩ := e
    rw [upd2_same, has_put_same hD (kl_key a b ha hb)]
  · rw [upd2_other f true e, has_put_other (fun e2 => e (kl_inj ha hb hp hq e2)), h a b ha hb]
theorem has_del {D : DataW Unit} {f : Nat → Nat → Bool} (h : ∀ p q, p < 16 → q < 16 → Maps.has D (klP Try.prog p q) = f p q) (p q : Nat) (hp : p < 16) (hq : q < 16) :
    ∀ a b, a < 16 → b < 16 → Maps.has (D.del (klP Try.prog p q)) (klP Try.prog a b) = upd2 f p q false a b := by
  intro a b ha hb
  by_cases e : a = p ∧ b = q
  · obtain ⟨rfl, rfl⟩ := e
    rw [upd2_same, has_del_same]
  · rw [upd2_other f false e, has_del_other (fun e2 => e (kl_inj ha hb hp hq e2)), h a b ha hb]
end Go.Proofs.Ytnhhjelplmdloaa.Et
namespace Go.Proofs.Ytnhhjelplmdloaa.Et
open Go.RowKit Go.Maps
set_option linter.unusedVariables false
set_option linter.unusedSimpArgs false
set_option maxRecDepth 100000
structure Fx where
  id : Int
  src : Int
  dst : Int
  due : Int
  a : Option Addr
  n : Nat
  c : Nat
  bs : List Int
def Fx.v (f : Fx) : Value := .slice f.a f.n f.c
def Fx.cs (f : Fx) : Array Value := #[.int .i64 f.id, .int .i64 f.src, .int .i64 f.dst, .int .i64 f.due, .slice f.a f.n f.c]
def f0 : Fx := ⟨0, 0, 0, 0, none, 0, 0, []⟩
def flCells (fs : List Fx) : List Value := fs.flatMap fun f => f.cs.toList
theorem flCells_nil : flCells [] = [] := rfl
theorem flCells_app (a b : List Fx) : flCells (a ++ b) = flCells a ++ flCells b := by simp [flCells]
theorem flCells_len (fs : List Fx) : (flCells fs).length = fs.length * 5 := by
  induction fs with
  | nil => rfl
  | cons f fs ih => simp only [flCells, List.flatMap_cons, List.length_append] at ih ⊢; rw [ih]; simp [Fx.cs]; omega
theorem flCells_one (fs : List Fx) : ∀ u ∈ flCells fs, u.oneCell' = true := by
  intro u hu
  simp only [flCells, List.mem_flatMap] at hu
  obtain ⟨f, _, hf⟩ := hu
  simp [Fx.cs] at hf
  rcases hf with rfl | rfl | rfl | rfl | rfl <;> rfl
theorem flCells_get (fs : List Fx) (i : Nat) (hi : i < fs.length) (j : Nat) (hj : j < 5) : (flCells fs)[i * 5 + j]? = (fs.getD i f0).cs[j]? := by
  induction fs generalizing i with
  | nil => simp at hi
  | cons f fs ih =>
    have hl : f.cs.toList.length = 5 := rfl
    cases i with
    | zero =>
      simp only [flCells, List.flatMap_cons, Nat.zero_mul, Nat.zero_add]
      rw [List.getElem?_append_left (by rw [hl]; exact hj)]
      simp
    | succ i =>
      have := ih i (by simpa using hi)
      simp only [flCells, List.flatMap_cons] at this ⊢
      rw [List.getElem?_append_right (by rw [hl]; omega), hl, show (i + 1) * 5 + j - 5 = i * 5 + j by omega, this]
      simp
def NodAt (w : World) (bn nn : Nat) (up : Nat → Bool) (inc tick : Nat → Int) : Prop :=
  ∃ cs : Array Value, w.heap[bn]? = some (.cells cs 78 (0, 0)) ∧ cs.size = nn * 3 ∧ ∀ p, p < nn → cs[p * 3]? = some (.bool (up p)) ∧ cs[p * 3 + 1]? = some (.int .i64 (inc p)) ∧ cs[p * 3 + 2]? = some (.int .i64 (tick p))
theorem NodAt.keep {w w' : World} {P : Nat → Prop} {bn nn : Nat} {up : Nat → Bool} {inc tick : Nat → Int} (h : NodAt w bn nn up inc tick) (k : Kept w w' P) (hp : ¬ P bn) : NodAt w' bn nn up inc tick := by
  obtain ⟨cs, h1, h2, h3⟩ := h
  exact ⟨cs, k.obj h1 hp, h2, h3⟩
theorem Cut.keep {w w' : World} {P : Nat → Prop} {b m : Nat} {f : Nat → Nat → Bool} (h : Cut w b m f) (k : Kept w w' P) (hp : ¬ P b) : Cut w' b m f := by
  obtain ⟨D, h1, h2⟩ := h
  exact ⟨D, k.map h1 hp, h2⟩
theorem Del.keep {w w' : World} {P : Nat → Prop} {b m : Nat} {f : Nat → Nat → Int} (h : Del w b m f) (k : Kept w w' P) (hp : ¬ P b) : Del w' b m f := by
  obtain ⟨D, h1, h2⟩ := h
  exact ⟨D, k.map h1 hp, h2⟩
theorem Cut.mono {w : World} {b m m' : Nat} {f : Nat → Nat → Bool} (h : Cut w b m f) (hm : m ≤ m') : Cut w b m' f := by
  obtain ⟨D, h1, h2⟩ := h
  exact ⟨D, h1.mono hm, h2⟩
theorem Del.mono {w : World} {b m m' : Nat} {f : Nat → Nat → Int} (h : Del w b m f) (hm : m ≤ m') : Del w b m' f := by
  obtain ⟨D, h1, h2⟩ := h
  exact ⟨D, h1.mono hm, h2⟩
theorem Cut.obj {w : World} {b m : Nat} {f : Nat → Nat → Bool} (h : Cut w b m f) : ∃ es cl, w.heap[b]? = some (.map es cl) := by
  obtain ⟨D, ⟨es, cl, h1, _⟩, _⟩ := h
  exact ⟨es, cl, h1⟩
theorem Del.obj {w : World} {b m : Nat} {f : Nat → Nat → Int} (h : Del w b m f) : ∃ es cl, w.heap[b]? = some (.map es cl) := by
  obtain ⟨D, ⟨es, cl, h1, _⟩, _⟩ := h
  exact ⟨es, cl, h1⟩
def Fx.byt (w : World) (B : Nat) (f : Fx) : Prop := w.ownsRow B 5 1 f.v f.n (f.bs.map (Value.int .u8)) ∧ ∀ i, 0 ≤ f.bs.getD i 0 ∧ f.bs.getD i 0 ≤ 255
def Fx.apart (f g : Fx) : Prop := ∀ k, f.v.ownBlock = some k → g.v.ownBlock ≠ some k
structure Fls (w : World) (B : Nat) (va : Option Addr) (vc : Nat) (fs : List Fx) : Prop where
  row : w.ownsRow B 43 5 (.slice va fs.length vc) fs.length (flCells fs)
  byt : ∀ f ∈ fs, f.byt w B
  apt : fs.Pairwise Fx.apart
theorem Fx.byt.keep {w w' : World} {P : Nat → Prop} {B : Nat} {f : Fx} (h : f.byt w B) (k : Kept w w' P) (hp : ∀ j, f.v.ownBlock = some j → ¬ P j) : f.byt w' B := ⟨k.owns h.1 hp, h.2⟩
theorem Fls.keep {w w' : World} {P : Nat → Prop} {B : Nat} {va : Option Addr} {vc : Nat} {fs : List Fx} (h : Fls w B va vc fs) (k : Kept w w' P) (hr : ∀ j, (Value.slice va fs.length vc).ownBlock = some j → ¬ P j) (hb : ∀ f ∈ fs, ∀ j, f.v.ownBlock = some j → ¬ P j) : Fls w' B va vc fs :=
  ⟨k.owns h.row hr, fun f hf => (h.byt f hf).keep k (hb f hf), h.apt⟩
structure En where
  b : Nat
  bn : Nat
  bc : Nat
  bd : Nat
  nn : Nat
  clock : Int
  room : Int
  last : Int
  up : Nat → Bool
  inc : Nat → Int
  tick : Nat → Int
  cut : Nat → Nat → Bool
  dl : Nat → Nat → Int
  va : Option Addr
  vc : Nat
  fs : List Fx
def En.cs (E : En) : Array Value := #[.int .i64 E.clock, .slice (some ⟨E.bn, 0, none⟩) E.nn E.nn, .map (some E.bc), .map (some E.bd), .int .i64 E.room, .int .i64 E.last, .slice E.va E.fs.length E.vc]
def En.own (E : En) (j : Nat) : Prop := j = E.b ∨ j = E.bn ∨ j = E.bc ∨ j = E.bd ∨ (Value.slice E.va E.fs.length E.vc).ownBlock = some j ∨ ∃ f ∈ E.fs, f.v.ownBlock = some j
structure En.Ok (E : En) (w : World) (B m : Nat) : Prop where
  blk : w.heap[E.b]? = some (.cells E.cs 76 (0, 0))
  nod : NodAt w E.bn E.nn E.up E.inc E.tick
  cut : Cut w E.bc m E.cut
  del : Del w E.bd m E.dl
  fls : Fls w B E.va E.vc E.fs
  ge : B ≤ E.b ∧ B ≤ E.bn ∧ B ≤ E.bc ∧ B ≤ E.bd
  ne : E.bc ≠ E.bd
  n16 : 1 ≤ E.nn ∧ E.nn ≤ 16
  pth : ∀ f ∈ E.fs, ∃ p q : Nat, f.src = p ∧ f.dst = q ∧ p < E.nn ∧ q < E.nn ∧ p ≠ q
  dly : ∀ p q, p < 16 → q < 16 → 1 ≤ E.dl p q ∧ E.dl p q ≤ 16
theorem row_ty {w : World} {B t s n : Nat} {v : Value} {l : List Value} (h : w.ownsRow B t s v n l) {j : Nat} (hj : v.ownBlock = some j) : ∃ cur, w.heap[j]? = some (.cells cur t (0, 0)) := by
  rcases h.2 with ⟨h1, _⟩ | ⟨g, cap, cur, hv, _, hg, _⟩
  · rw [h1] at hj; simp [Value.ownBlock] at hj
  · rw [hv] at hj
    simp [Value.ownBlock] at hj
    subst hj
    exact ⟨cur, hg⟩
section
variable {E : En} {w w' : World} {B m : Nat}
theorem En.Ok.b_bn (h : E.Ok w B m) : E.b ≠ E.bn := fun e => by
  obtain ⟨cs, h1, _⟩ := h.nod
  have := h.blk
  rw [e, h1] at this
  simp at this
theorem En.Ok.b_bc (h : E.Ok w B m) : E.b ≠ E.bc := fun e => by
  obtain ⟨es, cl, h1⟩ := h.cut.obj
  have := h.blk
  rw [e, h1] at this
  simp at this
theorem En.Ok.b_bd (h : E.Ok w B m) : E.b ≠ E.bd := fun e => by
  obtain ⟨es, cl, h1⟩ := h.del.obj
  have := h.blk
  rw [e, h1] at this
  simp at this
theorem En.Ok.bn_bc (h : E.Ok w B m) : E.bn ≠ E.bc := fun e => by
  obtain ⟨es, cl, h1⟩ := h.cut.obj
  obtain ⟨cs, h2, _⟩ := h.nod
  rw [e, h1] at h2
  simp at h2
theorem En.Ok.bn_bd (h : E.Ok w B m) : E.bn ≠ E.bd := fun e => by
  obtain ⟨es, cl, h1⟩ := h.del.obj
  obtain ⟨cs, h2, _⟩ := h.nod
  rw [e, h1] at h2
  simp at h2
theorem En.Ok.row_ne (h : E.Ok w B m) {j : Nat} (hj : (Value.slice E.va E.fs.length E.vc).ownBlock = some j) : j ≠ E.b ∧ j ≠ E.bn ∧ j ≠ E.bc ∧ j ≠ E.bd := by
  obtain ⟨cur, hc⟩ := row_ty h.fls.row hj
  refine ⟨fun e => ?_, fun e => ?_, fun e => ?_, fun e => ?_⟩ <;> subst e
  · have := h.blk; rw [hc] at this; simp at this
  · obtain ⟨cs, h2, _⟩ := h.nod; rw [hc] at h2; simp at h2
  · obtain ⟨es, cl, h1⟩ := h.cut.obj; rw [hc] at h1; simp at h1
  · obtain ⟨es, cl, h1⟩ := h.del.obj; rw [hc] at h1; simp at h1
theorem En.Ok.byt_ne (h : E.Ok w B m) {f : Fx} (hf : f ∈ E.fs) {j : Nat} (hj : f.v.ownBlock = some j) : j ≠ E.b ∧ j ≠ E.bn ∧ j ≠ E.bc ∧ j ≠ E.bd ∧ (Value.slice E.va E.fs.length E.vc).ownBlock ≠ some j := by
  obtain ⟨cur, hc⟩ := row_ty (h.fls.byt f hf).1 hj
  refine ⟨fun e => ?_, fun e => ?_, fun e => ?_, fun e => ?_, fun e => ?_⟩
  · subst e; have := h.blk; rw [hc] at this; simp at this
  · subst e; obtain ⟨cs, h2, _⟩ := h.nod; rw [hc] at h2; simp at h2
  · subst e; obtain ⟨es, cl, h1⟩ := h.cut.obj; rw [hc] at h1; simp at h1
  · subst e; obtain ⟨es, cl, h1⟩ := h.del.obj; rw [hc] at h1; simp at h1
  · obtain ⟨cur', hc'⟩ := row_ty h.fls.row e; rw [hc] at hc'; simp at hc'
theorem En.Ok.keep {P : Nat → Prop} (h : E.Ok w B m) (k : Kept w w' P) (hp : ∀ j, E.own j → ¬ P j) : E.Ok w' B m :=
  ⟨k.obj h.blk (hp _ (.inl rfl)), h.nod.keep k (hp _ (.inr (.inl rfl))), h.cut.keep k (hp _ (.inr (.inr (.inl rfl)))), h.del.keep k (hp _ (.inr (.inr (.inr (.inl rfl))))),
   h.fls.keep k (fun j hj => hp j (.inr (.inr (.inr (.inr (.inl hj)))))) (fun f hf j hj => hp j (.inr (.inr (.inr (.inr (.inr ⟨f, hf, hj⟩)))))), h.ge, h.ne, h.n16, h.pth, h.dly⟩
theorem En.Ok.still (h : E.Ok w B m) (hb : Below w.heap.size w w') : E.Ok w' B m := h.keep (Kept.ofBelow hb (fun _ => False)) (fun _ _ => id)
theorem En.Ok.mono {m' : Nat} (h : E.Ok w B m) (hm : m ≤ m') : E.Ok w B m' := ⟨h.blk, h.nod, h.cut.mono hm, h.del.mono hm, h.fls, h.ge, h.ne, h.n16, h.pth, h.dly⟩
theorem En.Ok.ltOwn (h : E.Ok w B m) {j : Nat} (hj : E.own j) : j < w.heap.size := by
  rcases hj with rfl | rfl | rfl | rfl | hj | ⟨f, hf, hj⟩
  · exact lt_heap h.blk
  · obtain ⟨cs, h1, _⟩ := h.nod; exact lt_heap h1
  · obtain ⟨es, cl, h1⟩ := h.cut.obj; exact lt_heap h1
  · obtain ⟨es, cl, h1⟩ := h.del.obj; exact lt_heap h1
  · obtain ⟨cur, hc⟩ := row_ty h.fls.row hj; exact lt_heap hc
  · obtain ⟨cur, hc⟩ := row_ty (h.fls.byt f hf).1 hj; exact lt_heap hc
theorem En.Ok.geOwn (h : E.Ok w B m) {j : Nat} (hj : E.own j) : B ≤ j := by
  rcases hj with rfl | rfl | rfl | rfl | hj | ⟨f, hf, hj⟩
  · exact h.ge.1
  · exact h.ge.2.1
  · exact h.ge.2.2.1
  · exact h.ge.2.2.2
  · exact (World.ownsRow.lt h.fls.row j hj).1
  · exact (World.ownsRow.lt (h.fls.byt f hf).1 j hj).1
theorem En.Ok.c (h : E.Ok w B m) (i : Nat) {v : Value} (hv : E.cs[i]? = some v) : w.cell? ⟨E.b, i, none⟩ = some v := (blk_cell h.blk i).trans hv
theorem En.Ok.c0 (h : E.Ok w B m) : w.cell? ⟨E.b, 0, none⟩ = some (.int .i64 E.clock) := h.c 0 rfl
theorem En.Ok.c1 (h : E.Ok w B m) : w.cell? ⟨E.b, 1, none⟩ = some (.slice (some ⟨E.bn, 0, none⟩) E.nn E.nn) := h.c 1 rfl
theorem En.Ok.c2 (h : E.Ok w B m) : w.cell? ⟨E.b, 2, none⟩ = some (.map (some E.bc)) := h.c 2 rfl
theorem En.Ok.c3 (h : E.Ok w B m) : w.cell? ⟨E.b, 3, none⟩ = some (.map (some E.bd)) := h.c 3 rfl
theorem En.Ok.c4 (h : E.Ok w B m) : w.cell? ⟨E.b, 4, none⟩ = some (.int .i64 E.room) := h.c 4 rfl
theorem En.Ok.c5 (h : E.Ok w B m) : w.cell? ⟨E.b, 5, none⟩ = some (.int .i64 E.last) := h.c 5 rfl
theorem En.Ok.c6 (h : E.Ok w B m) : w.cell? ⟨E.b, 6, none⟩ = some (.slice E.va E.fs.length E.vc) := h.c 6 rfl
theorem En.Ok.fz (h : E.Ok w B m) (i : Nat) : w.frozen? ⟨E.b, i, none⟩ = false := frozen_of_row w _ i _ _ h.blk
theorem En.Ok.setB {E' : En} (h : E.Ok w B m) (i : Nat) (v : Value) (hcs : E.cs.setIfInBounds i v = E'.cs) (hE : E' = { E with clock := E'.clock, last := E'.last }) : E'.Ok (w.setCell ⟨E.b, i, none⟩ v) B m := by
  have k := kset (P := fun j => j = E.b) w E.b i v rfl
  have hb : (w.setCell ⟨E.b, i, none⟩ v).heap[E.b]? = some (.cells E'.cs 76 (0, 0)) := hcs ▸ heap_setCell_same w E.b i E.cs 76 v h.blk
  rw [hE] at hb ⊢
  exact ⟨hb, h.nod.keep k (fun e => h.b_bn e.symm), h.cut.keep k (fun e => h.b_bc e.symm), h.del.keep k (fun e => h.b_bd e.symm), h.fls.keep k (fun j hj e => (h.row_ne hj).1 e) (fun f hf j hj e => (h.byt_ne hf hj).1 e), h.ge, h.ne, h.n16, h.pth, h.dly⟩
def upd1 {α : Type} (f : Nat → α) (p : Nat) (x : α) : Nat → α := fun a => if a = p then x else f a
theorem En.Ok.nodC (h : E.Ok w B m) {p : Nat} (hp : p < E.nn) : w.cell? ⟨E.bn, p * 3, none⟩ = some (.bool (E.up p)) ∧ w.cell? ⟨E.bn, p * 3 + 1, none⟩ = some (.int .i64 (E.inc p)) ∧ w.cell? ⟨E.bn, p * 3 + 2, none⟩ = some (.int .i64 (E.tick p)) := by
  obtain ⟨cs, h1, h2, h3⟩ := h.nod
  exact ⟨(blk_cell h1 _).trans (h3 p hp).1, (blk_cell h1 _).trans (h3 p hp).2.1, (blk_cell h1 _).trans (h3 p hp).2.2⟩
theorem En.Ok.nodF (h : E.Ok w B m) (i : Nat) : w.frozen? ⟨E.bn, i, none⟩ = false := by
  obtain ⟨cs, h1, h2, h3⟩ := h.nod
  exact frozen_of_row w _ i _ _ h1
theorem En.Ok.setN (h : E.Ok w B m) {up : Nat → Bool} {inc tick : Nat → Int} {i : Nat} {v : Value} (hn : NodAt (w.setCell ⟨E.bn, i, none⟩ v) E.bn E.nn up inc tick) : En.Ok { E with up := up, inc := inc, tick := tick } (w.setCell ⟨E.bn, i, none⟩ v) B m := by
  have k := kset (P := fun j => j = E.bn) w E.bn i v rfl
  exact ⟨k.obj h.blk h.b_bn, hn, h.cut.keep k (fun e => h.bn_bc e.symm), h.del.keep k (fun e => h.bn_bd e.symm), h.fls.keep k (fun j hj e => (h.row_ne hj).2.1 e) (fun f hf j hj e => (h.byt_ne hf hj).2.1 e), h.ge, h.ne, h.n16, h.pth, h.dly⟩
theorem NodAt.set {bn nn : Nat} {up : Nat → Bool} {inc tick : Nat → Int} (h : NodAt w bn nn up inc tick) {p : Nat} (hp : p < nn) :
    (∀ x, NodAt (w.setCell ⟨bn, p * 3, none⟩ (.bool x)) bn nn (upd1 up p x) inc tick) ∧ (∀ x, NodAt (w.setCell ⟨bn, p * 3 + 1, none⟩ (.int .i64 x)) bn nn up (upd1 inc p x) tick) ∧ (∀ x, NodAt (w.setCell ⟨bn, p * 3 + 2, none⟩ (.int .i64 x)) bn nn up inc (upd1 tick p x)) := by
  obtain ⟨cs, h1, h2, h3⟩ := h
  refine ⟨fun x => ⟨cs.setIfInBounds (p * 3) (.bool x), heap_setCell_same w bn _ cs 78 _ h1, by simpa using h2, fun q hq => ?_⟩, fun x => ⟨cs.setIfInBounds (p * 3 + 1) (.int .i64 x), heap_setCell_same w bn _ cs 78 _ h1, by simpa using h2, fun q hq => ?_⟩, fun x => ⟨cs.setIfInBounds (p * 3 + 2) (.int .i64 x), heap_setCell_same w bn _ cs 78 _ h1, by simpa using h2, fun q hq => ?_⟩⟩
  all_goals
    obtain ⟨g1, g2, g3⟩ := h3 q hq
    simp only [Array.getElem?_setIfInBounds, upd1]
    by_cases e : q = p
    · subst e
      refine ⟨?_, ?_, ?_⟩ <;> first | (rw [if_pos rfl, if_pos (by omega)]; simp) | (rw [if_neg (by omega)]; assumption)
    · refine ⟨?_, ?_, ?_⟩ <;> rw [if_neg (by omega)] <;> simp [e, g1, g2, g3]
end
end Go.Proofs.Ytnhhjelplmdloaa.Et
namespace Go.Proofs.Ytnhhjelplmdloaa.Et
open Go.RowKit Go.Maps
set_option linter.unusedVariables false
set_option linter.unusedSimpArgs false
set_option maxRecDepth 100000
section
variable {E : En} {w : World} {B m : Nat}
def isN (E : En) (p : Int) : Bool := decide (0 ≤ p ∧ p < E.nn)
theorem isN_true {p : Int} (h : isN E p = true) : 0 ≤ p ∧ p < E.nn := of_decide_eq_true h
theorem isN_false {p : Int} (h : isN E p = false) : p < 0 ∨ E.nn ≤ p := by
  have := of_decide_eq_false h
  omega
theorem isN_nat {p : Nat} (h : p < E.nn) : isN E p = true := decide_eq_true (by omega)
set_option maxHeartbeats 400000 in
theorem isNode_any (h : E.Ok w B m) (p : Int) : Calls Try.prog 35 #[.pointer (some ⟨E.b, 0, none⟩), .int .i64 p] w fun e w' => e = .returned (.bool (isN E p)) ∧ w = w' := by
  have c1 := h.c1
  have hn := h.n16
  clear h
  go_enter Try.func35, Try.ntmps35
  go_wp2
  all_goals (go_ret; exact ⟨by simp [isN]; first | assumption | omega | skip, rfl⟩)
set_option maxHeartbeats 400000 in
theorem up_any (h : E.Ok w B m) (p : Int) : Calls Try.prog 13 #[.pointer (some ⟨E.b, 0, none⟩), .int .i64 p] w fun e w' => e = .returned (.bool (isN E p && E.up p.toNat)) ∧ w = w' := by
  have c1 := h.c1
  have hn := h.n16
  have HN := isNode_any h p
  generalize hb : isN E p = b at HN ⊢
  cases b with
  | false =>
    clear h
    go_enter Try.func13, Try.ntmps13
    go_wp2_with (first | (go_at_call 35; refine HN.mono ?_; rintro e w' ⟨rfl, rfl⟩) | fail)
    go_ret
    exact ⟨rfl, rfl⟩
  | true =>
    obtain ⟨h0, h1⟩ := isN_true hb
    obtain ⟨k, rfl⟩ : ∃ k : Nat, p = k := ⟨p.toNat, by omega⟩
    obtain ⟨d0, d1, d2⟩ := h.nodC (p := k) (by omega)
    clear h
    go_enter Try.func13, Try.ntmps13
    go_wp2_with (first | (go_at_call 35; refine HN.mono ?_; rintro e w' ⟨rfl, rfl⟩) | fail)
    go_ret
    exact ⟨rfl, rfl⟩
end
end Go.Proofs.Ytnhhjelplmdloaa.Et
namespace Go.Proofs.Ytnhhjelplmdloaa.Et
open Go.RowKit Go.Maps
set_option linter.unusedVariables false
set_option linter.unusedSimpArgs false
set_option maxRecDepth 100000
structure Step (w w' : World) (E E' : En) (B m : Nat) : Prop where
  ok : E'.Ok w' B m
  kept : Kept w w' E.own
  own : ∀ j, E'.own j → E.own j ∨ w.heap.size ≤ j
section
variable {E : En} {w : World} {B m : Nat}
theorem Step.same (h : E.Ok w B m) : Step w w E E B m := ⟨h, Kept.refl _ _, fun j hj => .inl hj⟩
theorem Step.trans {w1 w2 : World} {E1 E2 : En} {m1 : Nat} (h : Step w w1 E E1 B m) (g : Step w1 w2 E1 E2 B m1) : Step w w2 E E2 B m1 :=
  ⟨g.ok, h.kept.step g.kept (fun j hj => h.own j hj), fun j hj => (g.own j hj).elim (fun hh => h.own j hh) (fun hh => .inr (Nat.le_trans h.kept.size hh))⟩
set_option maxHeartbeats 400000 in
theorem inc_any (h : E.Ok w B m) (p : Int) : Calls Try.prog 14 #[.pointer (some ⟨E.b, 0, none⟩), .int .i64 p] w fun e w' => e = .returned (.int .i64 (if isN E p then E.inc p.toNat else 0)) ∧ w = w' := by
  have c1 := h.c1
  have hn := h.n16
  have HN := isNode_any h p
  generalize hb : isN E p = b at HN ⊢
  cases b with
  | false =>
    clear h
    go_enter Try.func14, Try.ntmps14
    go_wp2_with (first | (go_at_call 35; refine HN.mono ?_; rintro e w' ⟨rfl, rfl⟩) | fail)
    go_ret
    exact ⟨rfl, rfl⟩
  | true =>
    obtain ⟨h0, h1⟩ := isN_true hb
    obtain ⟨k, rfl⟩ : ∃ k : Nat, p = k := ⟨p.toNat, by omega⟩
    obtain ⟨d0, d1, d2⟩ := h.nodC (p := k) (by omega)
    clear h
    go_enter Try.func14, Try.ntmps14
    go_wp2_with (first | (go_at_call 35; refine HN.mono ?_; rintro e w' ⟨rfl, rfl⟩) | fail)
    go_ret
    exact ⟨rfl, rfl⟩
set_option maxHeartbeats 400000 in
theorem ticks_any (h : E.Ok w B m) (p : Int) : Calls Try.prog 40 #[.pointer (some ⟨E.b, 0, none⟩), .int .i64 p] w fun e w' => e = .returned (.int .i64 (if isN E p then E.tick p.toNat else 0)) ∧ w = w' := by
  have c1 := h.c1
  have hn := h.n16
  have HN := isNode_any h p
  generalize hb : isN E p = b at HN ⊢
  cases b with
  | false =>
    clear h
    go_enter Try.func40, Try.ntmps40
    go_wp2_with (first | (go_at_call 35; refine HN.mono ?_; rintro e w' ⟨rfl, rfl⟩) | fail)
    go_ret
    exact ⟨rfl, rfl⟩
  | true =>
    obtain ⟨h0, h1⟩ := isN_true hb
    obtain ⟨k, rfl⟩ : ∃ k : Nat, p = k := ⟨p.toNat, by omega⟩
    obtain ⟨d0, d1, d2⟩ := h.nodC (p := k) (by omega)
    clear h
    go_enter Try.func40, Try.ntmps40
    go_wp2_with (first | (go_at_call 35; refine HN.mono ?_; rintro e w' ⟨rfl, rfl⟩) | fail)
    go_ret
    exact ⟨rfl, rfl⟩
set_option maxHeartbeats 400000 in
theorem clock_any (h : E.Ok w B m) : Calls Try.prog 31 #[.pointer (some ⟨E.b, 0, none⟩)] w fun e w' => e = .returned (.int .i64 E.clock) ∧ w = w' := by
  have c0 := h.c0
  clear h
  go_enter Try.func31, Try.ntmps31
  go_wp2
  go_ret
  exact ⟨rfl, rfl⟩
def ckUp (E : En) (p : Int) : Int := if isN E p then (if E.up p.toNat then 0 else 32) else 1
theorem ckUp_zero {p : Int} (h : ckUp E p = 0) : ∃ k : Nat, p = k ∧ k < E.nn ∧ E.up k = true := by
  unfold ckUp at h
  split at h
  · rename_i h1
    obtain ⟨a, b⟩ := isN_true h1
    split at h
    · exact ⟨p.toNat, by omega, by omega, by assumption⟩
    · omega
  · omega
set_option maxHeartbeats 400000 in
theorem checkUp_any (h : E.Ok w B m) (p : Int) : Calls Try.prog 56 #[.pointer (some ⟨E.b, 0, none⟩), .int .i64 p] w fun e w' => e = .returned (.int .i64 (ckUp E p)) ∧ w = w' := by
  have c1 := h.c1
  have hn := h.n16
  have HN := isNode_any h p
  unfold ckUp
  generalize hb : isN E p = b at HN ⊢
  cases b with
  | false =>
    clear h
    go_enter Try.func56, Try.ntmps56
    go_wp2_with (first | (go_at_call 35; refine HN.mono ?_; rintro e w' ⟨rfl, rfl⟩) | fail)
    go_ret
    exact ⟨rfl, rfl⟩
  | true =>
    obtain ⟨h0, h1⟩ := isN_true hb
    obtain ⟨k, rfl⟩ : ∃ k : Nat, p = k := ⟨p.toNat, by omega⟩
    obtain ⟨d0, d1, d2⟩ := h.nodC (p := k) (by omega)
    rw [show ((k : Int).toNat) = k from rfl]
    generalize E.up k = u at d0 ⊢
    clear h
    cases u <;>
    · go_enter Try.func56, Try.ntmps56
      go_wp2_with (first | (go_at_call 35; refine HN.mono ?_; rintro e w' ⟨rfl, rfl⟩) | fail)
      go_ret
      exact ⟨rfl, rfl⟩
set_option maxHeartbeats 400000 in
theorem tick_no (h : E.Ok w B m) (p : Int) (hc : ckUp E p ≠ 0) : Calls Try.prog 37 #[.pointer (some ⟨E.b, 0, none⟩), .int .i64 p] w fun e w' => e = .returned (.tuple #[.int .i64 0, .int .i64 (ckUp E p)]) ∧ w = w' := by
  have HN := checkUp_any h p
  generalize ckUp E p = c at HN hc ⊢
  clear h
  go_enter Try.func37, Try.ntmps37
  go_wp2_with (first | (go_at_call 56; refine HN.mono ?_; rintro e w' ⟨rfl, rfl⟩) | fail)
  go_ret2
  exact ⟨rfl, rfl⟩
set_option maxHeartbeats 400000 in
theorem crash_no (h : E.Ok w B m) (p : Int) (hc : ckUp E p ≠ 0) : Calls Try.prog 38 #[.pointer (some ⟨E.b, 0, none⟩), .int .i64 p] w fun e w' => e = .returned (.int .i64 (ckUp E p)) ∧ w = w' := by
  have HN := checkUp_any h p
  generalize ckUp E p = c at HN hc ⊢
  clear h
  go_enter Try.func38, Try.ntmps38
  go_wp2_with (first | (go_at_call 56; refine HN.mono ?_; rintro e w' ⟨rfl, rfl⟩) | fail)
  go_ret
  exact ⟨rfl, rfl⟩
theorem Step.nod (h : E.Ok w B m) {up : Nat → Bool} {inc tick : Nat → Int} {i : Nat} {v : Value} (hn : NodAt (w.setCell ⟨E.bn, i, none⟩ v) E.bn E.nn up inc tick) : Step w (w.setCell ⟨E.bn, i, none⟩ v) E { E with up := up, inc := inc, tick := tick } B m :=
  ⟨h.setN hn, kset w E.bn i v (.inr (.inl rfl)), fun j hj => .inl hj⟩
set_option maxHeartbeats 400000 in
theorem crash_ok (h : E.Ok w B m) (k : Nat) (hk : k < E.nn) (hu : E.up k = true) : Calls Try.prog 38 #[.pointer (some ⟨E.b, 0, none⟩), .int .i64 k] w fun e w' => e = .returned (.int .i64 0) ∧ Step w w' E { E with up := upd1 E.up k false } B m := by
  have HN := checkUp_any h k
  rw [show ckUp E k = 0 by simp [ckUp, isN_nat hk, hu]] at HN
  have hs := Step.nod h ((h.nod.set hk).1 false)
  have hf := h.nodF (k * 3)
  have c1 := h.c1
  have hn := h.n16
  obtain ⟨d0, d1, d2⟩ := h.nodC hk
  clear h
  go_enter Try.func38, Try.ntmps38
  go_wp2_with (first | (go_at_call 56; refine HN.mono ?_; rintro e w' ⟨rfl, rfl⟩) | fail)
  go_ret
  exact ⟨rfl, hs⟩
set_option maxHeartbeats 400000 in
theorem tick_ok (h : E.Ok w B m) (k : Nat) (hk : k < E.nn) (hu : E.up k = true) : Calls Try.prog 37 #[.pointer (some ⟨E.b, 0, none⟩), .int .i64 k] w fun e w' => e = .returned (.tuple #[.int .i64 (wrap64 (E.tick k + 1)), .int .i64 0]) ∧ Step w w' E { E with tick := upd1 E.tick k (wrap64 (E.tick k + 1)) } B m := by
  have HN := checkUp_any h k
  rw [show ckUp E k = 0 by simp [ckUp, isN_nat hk, hu]] at HN
  have hs := Step.nod h ((h.nod.set hk).2.2 (wrap64 (E.tick k + 1)))
  have hf := h.nodF (k * 3 + 2)
  have c1 := h.c1
  have hn := h.n16
  obtain ⟨d0, d1, d2⟩ := h.nodC hk
  clear h
  go_enter Try.func37, Try.ntmps37
  go_wp2_with (first | (go_at_call 56; refine HN.mono ?_; rintro e w' ⟨rfl, rfl⟩) | fail)
  go_ret2
  exact ⟨rfl, hs⟩
def rstE (E : En) (p : Int) : Int := if isN E p then (if E.up p.toNat then 33 else 0) else 1
set_option maxHeartbeats 400000 in
theorem restart_no (h : E.Ok w B m) (p : Int) (hc : rstE E p ≠ 0) : Calls Try.prog 12 #[.pointer (some ⟨E.b, 0, none⟩), .int .i64 p] w fun e w' => e = .returned (.tuple #[.int .i64 0, .int .i64 (rstE E p)]) ∧ w = w' := by
  have c1 := h.c1
  have hn := h.n16
  have HN := isNode_any h p
  unfold rstE at hc ⊢
  generalize hb : isN E p = b at HN hc ⊢
  cases b with
  | false =>
    clear h
    go_enter Try.func12, Try.ntmps12
    go_wp2_with (first | (go_at_call 35; refine HN.mono ?_; rintro e w' ⟨rfl, rfl⟩) | fail)
    go_ret2
    exact ⟨rfl, rfl⟩
  | true =>
    obtain ⟨h0, h1⟩ := isN_true hb
    obtain ⟨k, rfl⟩ : ∃ k : Nat, p = k := ⟨p.toNat, by omega⟩
    obtain ⟨d0, d1, d2⟩ := h.nodC (p := k) (by omega)
    rw [show ((k : Int).toNat) = k from rfl] at hc ⊢
    have hu : E.up k = true := by
      cases hu : E.up k with
      | true => rfl
      | false => simp [hu] at hc
    rw [hu] at d0 ⊢
    clear h
    go_enter Try.func12, Try.ntmps12
    go_wp2_with (first | (go_at_call 35; refine HN.mono ?_; rintro e w' ⟨rfl, rfl⟩) | fail)
    go_ret2
    exact ⟨rfl, rfl⟩
set_option maxHeartbeats 400000 in
theorem restart_ok (h : E.Ok w B m) (k : Nat) (hk : k < E.nn) (hu : E.up k = false) : Calls Try.prog 12 #[.pointer (some ⟨E.b, 0, none⟩), .int .i64 k] w fun e w' => e = .returned (.tuple #[.int .i64 (wrap64 (E.inc k + 1)), .int .i64 0]) ∧ Step w w' E { E with up := upd1 E.up k true, inc := upd1 E.inc k (wrap64 (E.inc k + 1)), tick := upd1 E.tick k 0 } B m := by
  have HN := isNode_any h k
  rw [isN_nat hk] at HN
  have c1 := h.c1
  have hn := h.n16
  obtain ⟨d0, d1, d2⟩ := h.nodC hk
  rw [hu] at d0
  have hf := h.nodF (k * 3)
  have hf1 := h.nodF (k * 3 + 1)
  have hf2 := h.nodF (k * 3 + 2)
  have s1 := Step.nod h ((h.nod.set hk).1 true)
  have s2 := s1.trans (Step.nod s1.ok ((s1.ok.nod.set hk).2.1 (wrap64 (E.inc k + 1))))
  have s3 := s2.trans (Step.nod s2.ok ((s2.ok.nod.set hk).2.2 0))
  clear h s1 s2
  go_enter Try.func12, Try.ntmps12
  go_wp2_with (first | (go_at_call 35; refine HN.mono ?_; rintro e w' ⟨rfl, rfl⟩) | fail)
  go_ret2
  exact ⟨rfl, s3⟩
end
end Go.Proofs.Ytnhhjelplmdloaa.Et
namespace Go.Proofs.Ytnhhjelplmdloaa.Et
open Go.RowKit Go.Maps
set_option linter.unusedVariables false
set_option linter.unusedSimpArgs false
set_option maxRecDepth 100000
section
variable {E : En} {w : World} {B m : Nat}
def isP (E : En) (p q : Int) : Bool := isN E p && isN E q && decide (p ≠ q)
theorem isP_true {p q : Int} (h : isP E p q = true) : ∃ a b : Nat, p = a ∧ q = b ∧ a < E.nn ∧ b < E.nn ∧ a ≠ b := by
  unfold isP at h
  simp only [Bool.and_eq_true, decide_eq_true_eq] at h
  obtain ⟨a0, a1⟩ := isN_true h.1.1
  obtain ⟨b0, b1⟩ := isN_true h.1.2
  exact ⟨p.toNat, q.toNat, by omega, by omega, by omega, by omega, by omega⟩
theorem isP_nat {a b : Nat} (ha : a < E.nn) (hb : b < E.nn) (h : a ≠ b) : isP E a b = true := by
  simp only [isP, isN_nat ha, isN_nat hb, Bool.and_self, Bool.true_and, decide_eq_true_eq]
  omega
theorem isNode_is (h : E.Ok w B m) {p : Int} {a : Bool} (ha : isN E p = a) : ∀ x, x = p → Calls Try.prog 35 #[.pointer (some ⟨E.b, 0, none⟩), .int .i64 x] w fun e w' => e = .returned (.bool a) ∧ w = w' := by
  rintro x rfl
  rw [← ha]
  exact isNode_any h x
set_option maxHeartbeats 400000 in
theorem isPath_any (h : E.Ok w B m) (p q : Int) : Calls Try.prog 45 #[.pointer (some ⟨E.b, 0, none⟩), .agg #[.int .i64 p, .int .i64 q]] w fun e w' => e = .returned (.bool (isP E p q)) ∧ Below w.heap.size w w' := by
  have h1 := h.still ((Below.refl _ w).alloc (Nat.le_refl _) (.cells #[.int .i64 p, .int .i64 q] 80))
  have hb : Hid (Below w.heap.size w (w.alloc (.cells #[.int .i64 p, .int .i64 q] 80))) := (Below.refl _ w).alloc (Nat.le_refl _) _
  unfold isP
  generalize hp : isN E p = a
  generalize hq : isN E q = b
  have HN := isNode_is h1 hp
  have HM := isNode_is h1 hq
  clear h h1
  cases a with
  | false =>
    go_enter Try.func45, Try.ntmps45
    go_wp2_with (first | (go_at_call 35; refine (HN _ (by rfl)).mono ?_; rintro e w' ⟨rfl, rfl⟩) | (go_at_call 35; refine (HM _ (by rfl)).mono ?_; rintro e w' ⟨rfl, rfl⟩) | fail)
    go_ret
    exact ⟨rfl, hb⟩
  | true =>
    cases b with
    | false =>
      go_enter Try.func45, Try.ntmps45
      go_wp2_with (first | (go_at_call 35; refine (HN _ (by rfl)).mono ?_; rintro e w' ⟨rfl, rfl⟩) | (go_at_call 35; refine (HM _ (by rfl)).mono ?_; rintro e w' ⟨rfl, rfl⟩) | fail)
      all_goals (go_ret; exact ⟨rfl, hb⟩)
    | true =>
      go_enter Try.func45, Try.ntmps45
      go_wp2_with (first | (go_at_call 35; refine (HN _ (by rfl)).mono ?_; rintro e w' ⟨rfl, rfl⟩) | (go_at_call 35; refine (HM _ (by rfl)).mono ?_; rintro e w' ⟨rfl, rfl⟩) | fail)
      all_goals (go_ret; exact ⟨by by_cases e : p = q <;> simp [e], hb⟩)
theorem zeroU (w : World) : (zeroValue 107).run Try.prog w = .ok (.agg #[]) w := by kernel_rfl
theorem zeroI (w : World) : (zeroValue 3).run Try.prog w = .ok (.int .i64 0) w := by kernel_rfl
theorem new_cells {w w' : World} {cs : Array Value} {t : TypeId} (hb : Below (w.alloc (.cells cs t)).heap.size (w.alloc (.cells cs t)) w') (i : Nat) {v : Value} (hv : cs[i]? = some v) : w'.cell? ⟨w.heap.size, i, none⟩ = some v := (blk_cell (blk_spill hb) i).trans hv
set_option maxHeartbeats 400000 in
theorem isCut_any (h : E.Ok w B m) (p q : Nat) (hp : p < 16) (hq : q < 16) : Calls Try.prog 46 #[.pointer (some ⟨E.b, 0, none⟩), .agg #[.int .i64 p, .int .i64 q]] w fun e w' => e = .returned (.bool (E.cut p q)) ∧ Below w.heap.size w w' := by
  generalize hW : w.alloc (.cells #[.int .i64 p, .int .i64 q] 80) = W
  have hbW : Below w.heap.size w W := by rw [← hW]; exact (Below.refl _ w).alloc (Nat.le_refl _) _
  have h1 := h.still hbW
  obtain ⟨D, hown, hD⟩ := h1.cut
  have hk := kl_some p q hp hq
  unfold pv at hk
  rw [← hD p q hp hq]
  have hS : ∀ w', Below W.heap.size W w' → w'.cell? ⟨E.b, 2, none⟩ = some (.map (some E.bc)) ∧ w'.cell? ⟨w.heap.size, 0, none⟩ = some (.int .i64 p) ∧ w'.cell? ⟨w.heap.size, 1, none⟩ = some (.int .i64 q) ∧ (Instr.lookup 73 (.map (some E.bc)) (.agg #[.int .i64 p, .int .i64 q]) true).run Try.prog w' = .ok (.tuple #[.agg #[], .bool (Maps.has D (klP Try.prog p q))]) w' ∧ Below W.heap.size W w' := by
    intro w' hb
    refine ⟨(h1.still hb).c2, ?_, ?_, ?_, hb⟩
    · subst hW; exact new_cells hb 0 rfl
    · subst hW; exact new_cells hb 1 rfl
    · obtain ⟨v, ps, hrun, hv⟩ := ((Kept.ofBelow hb (fun _ => False)).map hown id).look_ok law Try.underlying73 (zeroU _) (zd := .agg []) (zp := []) unitElem_mk hk
      obtain ⟨rfl, _⟩ := unitElem_inv hv
      exact hrun
  have hs0 := hS W (Below.refl _ _)
  have hb0 : Hid (Below w.heap.size w W) := hbW
  clear h h1 hD hown hbW
  go_enter Try.func46, Try.ntmps46
  go_wp2
  go_region_held3 (fun w' => w'.cell? ⟨E.b, 2, none⟩ = some (.map (some E.bc)) ∧ w'.cell? ⟨w.heap.size, 0, none⟩ = some (.int .i64 p) ∧ w'.cell? ⟨w.heap.size, 1, none⟩ = some (.int .i64 q) ∧ (Instr.lookup 73 (.map (some E.bc)) (.agg #[.int .i64 p, .int .i64 q]) true).run Try.prog w' = .ok (.tuple #[.agg #[], .bool (Maps.has D (klP Try.prog p q))]) w' ∧ Below W.heap.size W w')
    (first | (go_split_ands; apply hS; repeat (first | assumption | apply Below.drew | apply balloc))) (fail)
  all_goals (go_wp2; go_ret; rename_i hHeld; exact ⟨rfl, bstep hb0.out hHeld.2.2.2.2⟩)
theorem atKey_has {D : DataW Unit} {k : Lit} (h : Maps.has D k = true) (z z' : DataW Unit) : D.atKey k z = D.atKey k z' := by
  cases D with
  | map es =>
    rw [Maps.has_eq] at h
    obtain ⟨x, hx, hs⟩ := List.any_eq_true.1 h
    cases hf : es.find? (fun p => p.1.sameKey k) with
    | none => exact absurd hs (by simpa using List.find?_eq_none.1 hf x hx)
    | some y => simp [DataW.atKey, hf]
  | _ => simp [Maps.has] at h
set_option maxHeartbeats 400000 in
theorem delay_any (h : E.Ok w B m) (p q : Nat) (hp : p < 16) (hq : q < 16) : Calls Try.prog 48 #[.pointer (some ⟨E.b, 0, none⟩), .agg #[.int .i64 p, .int .i64 q]] w fun e w' => e = .returned (.int .i64 (E.dl p q)) ∧ Below w.heap.size w w' := by
  generalize hW : w.alloc (.cells #[.int .i64 p, .int .i64 q] 80) = W
  have hbW : Below w.heap.size w W := by rw [← hW]; exact (Below.refl _ w).alloc (Nat.le_refl _) _
  have h1 := h.still hbW
  obtain ⟨D, hown, hD⟩ := h1.del
  have hk := kl_some p q hp hq
  unfold pv at hk
  obtain ⟨hh, ha⟩ := hD p q hp hq
  obtain ⟨c, hc, hat⟩ : ∃ c, (∀ w', Below W.heap.size W w' → (Instr.lookup 74 (.map (some E.bd)) (.agg #[.int .i64 p, .int .i64 q]) true).run Try.prog w' = .ok (.tuple #[.int .i64 c, .bool (Maps.has D (klP Try.prog p q))]) w') ∧ (Maps.has D (klP Try.prog p q) = true → c = E.dl p q) := by
    obtain ⟨v, ps, hrun, hv⟩ := hown.look_ok law Try.underlying74 (zeroI _) (zd := .lit (.int .i64 0)) (zp := []) (plainElem_int Try.underlying3 (by decide)) hk
    obtain ⟨c, rfl, hc, hwc⟩ := plainElem_int_inv Try.underlying3 hv
    have hc : D.atKey (klP Try.prog p q) (.lit (.int .i64 0)) = .lit (.int .i64 c) := congrArg Prod.fst hc
    refine ⟨c, fun w' hb => ?_, fun hh => ?_⟩
    · obtain ⟨v', ps', hrun', hv'⟩ := ((Kept.ofBelow hb (fun _ => False)).map hown id).look_ok law Try.underlying74 (zeroI _) (zd := .lit (.int .i64 0)) (zp := []) (plainElem_int Try.underlying3 (by decide)) hk
      obtain ⟨c', rfl, hc', hwc'⟩ := plainElem_int_inv Try.underlying3 hv'
      have hc' : D.atKey (klP Try.prog p q) (.lit (.int .i64 0)) = .lit (.int .i64 c') := congrArg Prod.fst hc'
      rw [hc] at hc'
      obtain rfl : c = c' := by simpa using hc'
      exact hrun'
    · have : D.atKey (klP Try.prog p q) (.lit (.int .i64 0)) = D.atKey (klP Try.prog p q) (.lit (.int .i64 1)) := atKey_has hh _ _
      rw [this, ha] at hc
      simpa using hc.symm
  generalize hhb : Maps.has D (klP Try.prog p q) = u at hc hat hh
  have hS : ∀ w', Below W.heap.size W w' → w'.cell? ⟨E.b, 3, none⟩ = some (.map (some E.bd)) ∧ w'.cell? ⟨w.heap.size, 0, none⟩ = some (.int .i64 p) ∧ w'.cell? ⟨w.heap.size, 1, none⟩ = some (.int .i64 q) ∧ (Instr.lookup 74 (.map (some E.bd)) (.agg #[.int .i64 p, .int .i64 q]) true).run Try.prog w' = .ok (.tuple #[.int .i64 c, .bool u]) w' ∧ Below W.heap.size W w' := by
    intro w' hb
    refine ⟨(h1.still hb).c3, ?_, ?_, hc w' hb, hb⟩
    · subst hW; exact new_cells hb 0 rfl
    · subst hW; exact new_cells hb 1 rfl
  have hs0 := hS W (Below.refl _ _)
  have hb0 : Hid (Below w.heap.size w W) := hbW
  have hres : (if u then c else 1) = E.dl p q := by
    cases u with
    | true => exact hat rfl
    | false => simp at hh; simp [hh]
  clear h h1 hD hown hbW hc hat hh
  cases u with
  | true =>
    simp at hres
    subst hres
    go_enter Try.func48, Try.ntmps48
    go_wp2
    go_region_held3 (fun w' => w'.cell? ⟨E.b, 3, none⟩ = some (.map (some E.bd)) ∧ w'.cell? ⟨w.heap.size, 0, none⟩ = some (.int .i64 p) ∧ w'.cell? ⟨w.heap.size, 1, none⟩ = some (.int .i64 q) ∧ (Instr.lookup 74 (.map (some E.bd)) (.agg #[.int .i64 p, .int .i64 q]) true).run Try.prog w' = .ok (.tuple #[.int .i64 (E.dl p q), .bool true]) w' ∧ Below W.heap.size W w')
      (first | (go_split_ands; apply hS; repeat (first | assumption | apply Below.drew | apply balloc))) (fail)
    all_goals (go_wp2; go_ret; rename_i hHeld; exact ⟨rfl, bstep hb0.out hHeld.2.2.2.2⟩)
  | false =>
    simp at hres
    rw [← hres]
    go_enter Try.func48, Try.ntmps48
    go_wp2
    go_region_held3 (fun w' => w'.cell? ⟨E.b, 3, none⟩ = some (.map (some E.bd)) ∧ w'.cell? ⟨w.heap.size, 0, none⟩ = some (.int .i64 p) ∧ w'.cell? ⟨w.heap.size, 1, none⟩ = some (.int .i64 q) ∧ (Instr.lookup 74 (.map (some E.bd)) (.agg #[.int .i64 p, .int .i64 q]) true).run Try.prog w' = .ok (.tuple #[.int .i64 c, .bool false]) w' ∧ Below W.heap.size W w')
      (first | (go_split_ands; apply hS; repeat (first | assumption | apply Below.drew | apply balloc))) (fail)
    all_goals (go_wp2; go_ret; rename_i hHeld; exact ⟨rfl, bstep hb0.out hHeld.2.2.2.2⟩)
end
end Go.Proofs.Ytnhhjelplmdloaa.Et
namespace Go.Proofs.Ytnhhjelplmdloaa.Et
open Go.RowKit Go.Maps
set_option linter.unusedVariables false
set_option linter.unusedSimpArgs false
set_option maxRecDepth 100000
section
variable {E : En} {w : World} {B m : Nat}
theorem isPath_is (h : E.Ok w B m) {p q : Int} {c : Bool} (hc : isP E p q = c) : ∀ w', Below w.heap.size w w' → Calls Try.prog 45 #[.pointer (some ⟨E.b, 0, none⟩), .agg #[.int .i64 p, .int .i64 q]] w' fun e w2 => e = .returned (.bool c) ∧ Below w'.heap.size w' w2 :=
  fun w' hb => (isPath_any (h.still hb) p q).mono fun e w2 ⟨h1, h2⟩ => ⟨by rw [h1, hc], h2⟩
theorem isCut_is (h : E.Ok w B m) {p q : Nat} (hp : p < 16) (hq : q < 16) {c : Bool} (hc : E.cut p q = c) : ∀ w', Below w.heap.size w w' → Calls Try.prog 46 #[.pointer (some ⟨E.b, 0, none⟩), .agg #[.int .i64 p, .int .i64 q]] w' fun e w2 => e = .returned (.bool c) ∧ Below w'.heap.size w' w2 :=
  fun w' hb => (isCut_any (h.still hb) p q hp hq).mono fun e w2 ⟨h1, h2⟩ => ⟨by rw [h1, hc], h2⟩
theorem delay_is (h : E.Ok w B m) {p q : Nat} (hp : p < 16) (hq : q < 16) : ∀ w', Below w.heap.size w w' → Calls Try.prog 48 #[.pointer (some ⟨E.b, 0, none⟩), .agg #[.int .i64 p, .int .i64 q]] w' fun e w2 => e = .returned (.int .i64 (E.dl p q)) ∧ Below w'.heap.size w' w2 :=
  fun w' hb => (delay_any (h.still hb) p q hp hq).mono fun e w2 ⟨h1, h2⟩ => ⟨h1, h2⟩
set_option maxHeartbeats 400000 in
theorem open_any (h : E.Ok w B m) (p q : Int) : Calls Try.prog 30 #[.pointer (some ⟨E.b, 0, none⟩), .int .i64 p, .int .i64 q] w fun e w' => e = .returned (.bool (isP E p q && !E.cut p.toNat q.toNat)) ∧ Below w.heap.size w w' := by
  generalize hc : isP E p q = c
  have HP := isPath_is h hc
  have b0 : Below w.heap.size w (w.alloc (.cells #[.int .i64 p, .int .i64 q] 80)) := balloc (Below.refl _ w)
  cases c with
  | false =>
    clear h
    go_enter Try.func30, Try.ntmps30
    go_wp2_with (first | (go_at_call 45; refine (HP _ b0).mono ?_; rintro e w1 ⟨rfl, hb1⟩) | fail)
    go_ret
    exact ⟨rfl, bstep b0 hb1⟩
  | true =>
    obtain ⟨a, b, rfl, rfl, ha, hb, hne⟩ := isP_true hc
    have hn := h.n16
    rw [show ((a : Int).toNat) = a from rfl, show ((b : Int).toNat) = b from rfl]
    generalize hd : E.cut a b = d
    have HC := isCut_is h (by omega) (by omega) hd
    clear h
    cases d <;>
    · go_enter Try.func30, Try.ntmps30
      go_wp2_with (first | (go_at_call 45; refine (HP _ b0).mono ?_; rintro e w1 ⟨rfl, hb1⟩; have q0 := new_cells hb1 0 (v := .int .i64 a) rfl; have q1 := new_cells hb1 1 (v := .int .i64 b) rfl; have r1 := bstep b0 hb1; clear hb1) | (go_at_call 46; refine (HC _ r1).mono ?_; rintro e w2 ⟨rfl, hb2⟩) | fail)
      go_ret
      exact ⟨rfl, bstep r1 hb2⟩
set_option maxHeartbeats 400000 in
theorem delayOf_any (h : E.Ok w B m) (p q : Int) : Calls Try.prog 41 #[.pointer (some ⟨E.b, 0, none⟩), .int .i64 p, .int .i64 q] w fun e w' => e = .returned (.int .i64 (if isP E p q then E.dl p.toNat q.toNat else 0)) ∧ Below w.heap.size w w' := by
  generalize hc : isP E p q = c
  have HP := isPath_is h hc
  have b0 : Below w.heap.size w (w.alloc (.cells #[.int .i64 p, .int .i64 q] 80)) := balloc (Below.refl _ w)
  cases c with
  | false =>
    clear h
    go_enter Try.func41, Try.ntmps41
    go_wp2_with (first | (go_at_call 45; refine (HP _ b0).mono ?_; rintro e w1 ⟨rfl, hb1⟩) | fail)
    go_ret
    exact ⟨rfl, bstep b0 hb1⟩
  | true =>
    obtain ⟨a, b, rfl, rfl, ha, hb, hne⟩ := isP_true hc
    have hn := h.n16
    rw [show ((a : Int).toNat) = a from rfl, show ((b : Int).toNat) = b from rfl]
    have HC := delay_is h (p := a) (q := b) (by omega) (by omega)
    clear h
    go_enter Try.func41, Try.ntmps41
    go_wp2_with (first | (go_at_call 45; refine (HP _ b0).mono ?_; rintro e w1 ⟨rfl, hb1⟩; have q0 := new_cells hb1 0 (v := .int .i64 a) rfl; have q1 := new_cells hb1 1 (v := .int .i64 b) rfl; have r1 := bstep b0 hb1; clear hb1) | (go_at_call 48; refine (HC _ r1).mono ?_; rintro e w2 ⟨rfl, hb2⟩) | fail)
    go_ret
    exact ⟨rfl, bstep r1 hb2⟩
end
end Go.Proofs.Ytnhhjelplmdloaa.Et
namespace Go.Proofs.Ytnhhjelplmdloaa.Et
open Go.RowKit Go.Maps
set_option linter.unusedVariables false
set_option linter.unusedSimpArgs false
set_option maxRecDepth 100000
section
variable {E E' : En} {w w' W : World} {B m : Nat}
theorem Step.pre (hb : Below w.heap.size w W) (s : Step W w' E E' B m) : Step w w' E E' B m :=
  ⟨s.ok, (Kept.ofBelow hb _).trans s.kept, fun j hj => (s.own j hj).elim (fun hh => .inl hh) (fun hh => .inr (Nat.le_trans hb.size hh))⟩
theorem Step.post (s : Step w W E E' B m) (hb : Below W.heap.size W w') : Step w w' E E' B m :=
  ⟨s.ok.still hb, s.kept.trans (Kept.ofBelow hb _), s.own⟩
theorem Step.setCut (h : E.Ok W B m) {f : Nat → Nat → Bool} {m' : Nat} (hm : m ≤ m') (k : W.mapTurned w' E.bc) (hc : Cut w' E.bc m' f) : Step W w' E { E with cut := f } B m' := by
  have k := Kept.ofGrown k.grown
  refine ⟨⟨k.obj h.blk (fun e => h.b_bc (by simpa using e)), h.nod.keep k (fun e => h.bn_bc (by simpa using e)), hc, (h.del.keep k (fun e => h.ne (by simpa using e.symm))).mono hm, h.fls.keep k (fun j hj e => (h.row_ne hj).2.2.1 (by simpa using e)) (fun f hf j hj e => (h.byt_ne hf hj).2.2.1 (by simpa using e)), h.ge, h.ne, h.n16, h.pth, h.dly⟩, k.mono (fun j _ e => .inr (.inr (.inl (by simpa using e)))), fun j hj => .inl hj⟩
theorem Step.setDel (h : E.Ok W B m) {f : Nat → Nat → Int} {m' : Nat} (hm : m ≤ m') (k : W.mapTurned w' E.bd) (hc : Del w' E.bd m' f) (hf : ∀ p q, p < 16 → q < 16 → 1 ≤ f p q ∧ f p q ≤ 16) : Step W w' E { E with dl := f } B m' := by
  have k := Kept.ofGrown k.grown
  refine ⟨⟨k.obj h.blk (fun e => h.b_bd (by simpa using e)), h.nod.keep k (fun e => h.bn_bd (by simpa using e)), (h.cut.keep k (fun e => h.ne (by simpa using e))).mono hm, hc, h.fls.keep k (fun j hj e => (h.row_ne hj).2.2.2 (by simpa using e)) (fun f hf j hj e => (h.byt_ne hf hj).2.2.2.1 (by simpa using e)), h.ge, h.ne, h.n16, h.pth, hf⟩, k.mono (fun j _ e => .inr (.inr (.inr (.inl (by simpa using e))))), fun j hj => .inl hj⟩
set_option maxHeartbeats 400000 in
theorem setOpen_any (h : E.Ok w B m) (p q : Nat) (hp : p < 16) (hq : q < 16) (o : Bool) (hm : m < maxLen) : Calls Try.prog 59 #[.pointer (some ⟨E.b, 0, none⟩), .agg #[.int .i64 p, .int .i64 q], .bool o] w fun e w' => e = .returned (.tuple #[]) ∧ Step w w' E { E with cut := upd2 E.cut p q (!o) } B (m + 1) := by
  generalize hW : w.alloc (.cells #[.int .i64 p, .int .i64 q] 80) = W
  have hbW : Below w.heap.size w W := by rw [← hW]; exact (Below.refl _ w).alloc (Nat.le_refl _) _
  have h1 := h.still hbW
  obtain ⟨D0, hown0, _⟩ := h.cut
  obtain ⟨D, hown, hD⟩ := h1.cut
  have hk := kl_some p q hp hq
  unfold pv at hk
  have c2 := h1.c2
  have d0 : W.cell? ⟨w.heap.size, 0, none⟩ = some (.int .i64 p) := by subst hW; exact new_cells (Below.refl _ _) 0 rfl
  have d1 : W.cell? ⟨w.heap.size, 1, none⟩ = some (.int .i64 q) := by subst hW; exact new_cells (Below.refl _ _) 1 rfl
  have H1 : Hid (E.Ok W B m) := h1
  have hlt : w.heap.size < W.heap.size := by rw [← hW]; simp
  have hneb : some w.heap.size ≠ some E.bc := fun e => by have := hown0.lt; simp at e; omega
  have hb0 : Hid (Below w.heap.size w W) := hbW
  have HD : Hid (∀ p q, p < 16 → q < 16 → Maps.has D (klP Try.prog p q) = E.cut p q) := hD
  clear h h1 hbW hD
  cases o with
  | true =>
    obtain ⟨w1, hrun, hown1, hturn1⟩ := hown.drew.drop law Try.underlying73 hk 0
    have hres : Hid (Step W.drew w1 E { E with cut := upd2 E.cut p q false } B (m + 1)) := Step.setCut (H1.out.still ((Below.refl _ _).drew)) (Nat.le_succ m) hturn1 ⟨_, hown1.mono (Nat.le_succ m), has_del HD.out p q hp hq⟩
    have k0 : w1.cell? ⟨E.b, 2, none⟩ = some (.map (some E.bc)) := hres.out.ok.c2
    have k1 : w1.cell? ⟨w.heap.size, 0, none⟩ = some (.int .i64 p) := (World.cell?_of_block (w := W.drew) (hturn1.grown.block w.heap.size hlt hneb)).trans d0
    have k2 : w1.cell? ⟨w.heap.size, 1, none⟩ = some (.int .i64 q) := (World.cell?_of_block (w := W.drew) (hturn1.grown.block w.heap.size hlt hneb)).trans d1
    clear hown hown1 hturn1
    go_enter Try.func59, Try.ntmps59
    go_wp2
    go_region_held3 (fun w' => w'.cell? ⟨E.b, 2, none⟩ = some (.map (some E.bc)) ∧ w'.cell? ⟨w.heap.size, 0, none⟩ = some (.int .i64 p) ∧ w'.cell? ⟨w.heap.size, 1, none⟩ = some (.int .i64 q)) (first | go_keep | exact ⟨k0, k1, k2⟩) (fail)
    all_goals (go_wp2; (first | go_end0 | ((try simp only [Exit.inBlock, Exit.then]); refine bodyPost_ret (results_none rfl _ _ _) rfl ?_)); exact ⟨rfl, Step.pre hb0.out (Step.pre (Below.refl _ _).drew hres.out)⟩)
  | false =>
    obtain ⟨w1, hrun, hown1, hturn1⟩ := hown.drew.store law Try.underlying73 hm hk unitElem_mk
    have hres : Hid (Step W.drew w1 E { E with cut := upd2 E.cut p q true } B (m + 1)) := Step.setCut (H1.out.still ((Below.refl _ _).drew)) (Nat.le_succ m) hturn1 ⟨_, hown1, has_put hown.isMap HD.out p q hp hq _⟩
    have k0 : w1.cell? ⟨E.b, 2, none⟩ = some (.map (some E.bc)) := hres.out.ok.c2
    have k1 : w1.cell? ⟨w.heap.size, 0, none⟩ = some (.int .i64 p) := (World.cell?_of_block (w := W.drew) (hturn1.grown.block w.heap.size hlt hneb)).trans d0
    have k2 : w1.cell? ⟨w.heap.size, 1, none⟩ = some (.int .i64 q) := (World.cell?_of_block (w := W.drew) (hturn1.grown.block w.heap.size hlt hneb)).trans d1
    clear hown hown1 hturn1
    go_enter Try.func59, Try.ntmps59
    go_wp2
    go_region_held3 (fun w' => w'.cell? ⟨E.b, 2, none⟩ = some (.map (some E.bc)) ∧ w'.cell? ⟨w.heap.size, 0, none⟩ = some (.int .i64 p) ∧ w'.cell? ⟨w.heap.size, 1, none⟩ = some (.int .i64 q)) (first | go_keep | exact ⟨k0, k1, k2⟩) (fail)
    all_goals (go_wp2; (first | go_end0 | ((try simp only [Exit.inBlock, Exit.then]); refine bodyPost_ret (results_none rfl _ _ _) rfl ?_)); exact ⟨rfl, Step.pre hb0.out (Step.pre (Below.refl _ _).drew hres.out)⟩)
theorem del_put {D : DataW Unit} (hD : IsMap D) {f : Nat → Nat → Int} (h : ∀ p q, p < 16 → q < 16 → Maps.has D (klP Try.prog p q) = decide (f p q ≠ 1) ∧ D.atKey (klP Try.prog p q) (.lit (.int .i64 1)) = .lit (.int .i64 (f p q))) (p q : Nat) (hp : p < 16) (hq : q < 16) (x : Int) (hx : x ≠ 1) :
    ∀ a b, a < 16 → b < 16 → Maps.has (D.put (klP Try.prog p q) (.lit (.int .i64 x))) (klP Try.prog a b) = decide (upd2 f p q x a b ≠ 1) ∧ (D.put (klP Try.prog p q) (.lit (.int .i64 x))).atKey (klP Try.prog a b) (.lit (.int .i64 1)) = .lit (.int .i64 (upd2 f p q x a b)) := by
  intro a b ha hb
  by_cases e : a = p ∧ b = q
  · obtain ⟨rfl, rfl⟩ := e
    rw [upd2_same, has_put_same hD (kl_key a b ha hb), atKey_put_same hD (kl_key a b ha hb)]
    exact ⟨by simp [hx], rfl⟩
  · have hne : klP Try.prog a b ≠ klP Try.prog p q := fun e2 => e (kl_inj ha hb hp hq e2)
    rw [upd2_other f x e, has_put_other hne, atKey_put_other hne]
    exact h a b ha hb
theorem del_del {D : DataW Unit} {f : Nat → Nat → Int} (h : ∀ p q, p < 16 → q < 16 → Maps.has D (klP Try.prog p q) = decide (f p q ≠ 1) ∧ D.atKey (klP Try.prog p q) (.lit (.int .i64 1)) = .lit (.int .i64 (f p q))) (p q : Nat) (hp : p < 16) (hq : q < 16) :
    ∀ a b, a < 16 → b < 16 → Maps.has (D.del (klP Try.prog p q)) (klP Try.prog a b) = decide (upd2 f p q 1 a b ≠ 1) ∧ (D.del (klP Try.prog p q)).atKey (klP Try.prog a b) (.lit (.int .i64 1)) = .lit (.int .i64 (upd2 f p q 1 a b)) := by
  intro a b ha hb
  by_cases e : a = p ∧ b = q
  · obtain ⟨rfl, rfl⟩ := e
    rw [upd2_same, has_del_same, atKey_del_same]
    exact ⟨by simp, rfl⟩
  · have hne : klP Try.prog a b ≠ klP Try.prog p q := fun e2 => e (kl_inj ha hb hp hq e2)
    rw [upd2_other f 1 e, has_del_other hne, atKey_del_other hne]
    exact h a b ha hb
theorem dly_upd {f : Nat → Nat → Int} (h : ∀ p q, p < 16 → q < 16 → 1 ≤ f p q ∧ f p q ≤ 16) (p q : Nat) (x : Int) (h1 : 1 ≤ x) (h2 : x ≤ 16) : ∀ a b, a < 16 → b < 16 → 1 ≤ upd2 f p q x a b ∧ upd2 f p q x a b ≤ 16 := by
  intro a b ha hb
  unfold upd2
  split
  · omega
  · exact h a b ha hb
set_option maxHeartbeats 400000 in
theorem setDelay_no (h : E.Ok w B m) (p q : Int) (x : Int) (hx : x < 1 ∨ 16 < x) : Calls Try.prog 58 #[.pointer (some ⟨E.b, 0, none⟩), .agg #[.int .i64 p, .int .i64 q], .int .i64 x] w fun e w' => e = .returned (.int .i64 1) ∧ Below w.heap.size w w' := by
  have b0 : Below w.heap.size w (w.alloc (.cells #[.int .i64 p, .int .i64 q] 80)) := balloc (Below.refl _ w)
  clear h
  go_enter Try.func58, Try.ntmps58
  go_wp2
  all_goals first | (exfalso; omega) | (go_ret; exact ⟨rfl, b0⟩)
set_option maxHeartbeats 400000 in
theorem setDelay_ok (h : E.Ok w B m) (p q : Nat) (hp : p < 16) (hq : q < 16) (x : Int) (h1 : 1 ≤ x) (h2 : x ≤ 16) (hm : m < maxLen) : Calls Try.prog 58 #[.pointer (some ⟨E.b, 0, none⟩), .agg #[.int .i64 p, .int .i64 q], .int .i64 x] w fun e w' => e = .returned (.int .i64 0) ∧ Step w w' E { E with dl := upd2 E.dl p q x } B (m + 1) := by
  generalize hW : w.alloc (.cells #[.int .i64 p, .int .i64 q] 80) = W
  have hbW : Below w.heap.size w W := by rw [← hW]; exact (Below.refl _ w).alloc (Nat.le_refl _) _
  have h1' := h.still hbW
  obtain ⟨D0, hown0, _⟩ := h.del
  obtain ⟨D, hown, hD⟩ := h1'.del
  have hk := kl_some p q hp hq
  unfold pv at hk
  have c3 := h1'.c3
  have d0 : W.cell? ⟨w.heap.size, 0, none⟩ = some (.int .i64 p) := by subst hW; exact new_cells (Below.refl _ _) 0 rfl
  have d1 : W.cell? ⟨w.heap.size, 1, none⟩ = some (.int .i64 q) := by subst hW; exact new_cells (Below.refl _ _) 1 rfl
  have H1 : Hid (E.Ok W B m) := h1'
  have hlt : w.heap.size < W.heap.size := by rw [← hW]; simp
  have hneb : some w.heap.size ≠ some E.bd := fun e => by have := hown0.lt; simp at e; omega
  have hb0 : Hid (Below w.heap.size w W) := hbW
  have HD : Hid (∀ p q, p < 16 → q < 16 → Maps.has D (klP Try.prog p q) = decide (E.dl p q ≠ 1) ∧ D.atKey (klP Try.prog p q) (.lit (.int .i64 1)) = .lit (.int .i64 (E.dl p q))) := hD
  have hdl := dly_upd h.dly p q x h1 h2
  clear h h1' hbW hD hown0
  by_cases e1 : x = 1
  · subst e1
    obtain ⟨w1, hrun, hown1, hturn1⟩ := hown.drew.drop law Try.underlying74 hk 0
    have hres : Hid (Step W.drew w1 E { E with dl := upd2 E.dl p q 1 } B (m + 1)) := Step.setDel (H1.out.still ((Below.refl _ _).drew)) (Nat.le_succ m) hturn1 ⟨_, hown1.mono (Nat.le_succ m), del_del HD.out p q hp hq⟩ hdl
    have k0 : w1.cell? ⟨E.b, 3, none⟩ = some (.map (some E.bd)) := hres.out.ok.c3
    have k1 : w1.cell? ⟨w.heap.size, 0, none⟩ = some (.int .i64 p) := (World.cell?_of_block (w := W.drew) (hturn1.grown.block w.heap.size hlt hneb)).trans d0
    have k2 : w1.cell? ⟨w.heap.size, 1, none⟩ = some (.int .i64 q) := (World.cell?_of_block (w := W.drew) (hturn1.grown.block w.heap.size hlt hneb)).trans d1
    clear hown hown1 hturn1 hdl
    go_enter Try.func58, Try.ntmps58
    go_wp2
    go_region_held3 (fun w' => w'.cell? ⟨E.b, 3, none⟩ = some (.map (some E.bd)) ∧ w'.cell? ⟨w.heap.size, 0, none⟩ = some (.int .i64 p) ∧ w'.cell? ⟨w.heap.size, 1, none⟩ = some (.int .i64 q)) (first | go_keep | exact ⟨k0, k1, k2⟩) (fail)
    all_goals (go_wp2; go_ret; exact ⟨rfl, Step.pre hb0.out (Step.pre (Below.refl _ _).drew hres.out)⟩)
  · obtain ⟨w1, hrun, hown1, hturn1⟩ := hown.drew.store law Try.underlying74 hm hk (plainElem_int Try.underlying3 (WalkArith.wf_i64 (n := x) (by omega)))
    have hres : Hid (Step W.drew w1 E { E with dl := upd2 E.dl p q x } B (m + 1)) := Step.setDel (H1.out.still ((Below.refl _ _).drew)) (Nat.le_succ m) hturn1 ⟨_, hown1, del_put hown.isMap HD.out p q hp hq x e1⟩ hdl
    have k0 : w1.cell? ⟨E.b, 3, none⟩ = some (.map (some E.bd)) := hres.out.ok.c3
    have k1 : w1.cell? ⟨w.heap.size, 0, none⟩ = some (.int .i64 p) := (World.cell?_of_block (w := W.drew) (hturn1.grown.block w.heap.size hlt hneb)).trans d0
    have k2 : w1.cell? ⟨w.heap.size, 1, none⟩ = some (.int .i64 q) := (World.cell?_of_block (w := W.drew) (hturn1.grown.block w.heap.size hlt hneb)).trans d1
    clear hown hown1 hturn1 hdl
    go_enter Try.func58, Try.ntmps58
    go_wp2
    go_region_held3 (fun w' => w'.cell? ⟨E.b, 3, none⟩ = some (.map (some E.bd)) ∧ w'.cell? ⟨w.heap.size, 0, none⟩ = some (.int .i64 p) ∧ w'.cell? ⟨w.heap.size, 1, none⟩ = some (.int .i64 q)) (first | go_keep | exact ⟨k0, k1, k2⟩) (fail)
    all_goals (go_wp2; go_ret; exact ⟨rfl, Step.pre hb0.out (Step.pre (Below.refl _ _).drew hres.out)⟩)
end
end Go.Proofs.Ytnhhjelplmdloaa.Et
namespace Go.Proofs.Ytnhhjelplmdloaa.Et
open Go.RowKit Go.Maps
set_option linter.unusedVariables false
set_option linter.unusedSimpArgs false
set_option maxRecDepth 100000
section
variable {E E' : En} {w w' W : World} {B m : Nat}
set_option maxHeartbeats 400000 in
theorem split_len (h : E.Ok w B m) (ao : Option Addr) (n c : Nat) (hn : n ≠ E.nn) : Calls Try.prog 51 #[.pointer (some ⟨E.b, 0, none⟩), .slice ao n c] w fun e w' => e = .returned (.int .i64 1) ∧ w = w' := by
  have c1 := h.c1
  have hne : ¬ (n : Int) = (E.nn : Int) := by omega
  clear h
  go_enter Try.func51, Try.ntmps51
  go_wp2
  go_ret
  exact ⟨rfl, rfl⟩
def okSide (x : Int) : Prop := 0 ≤ x ∧ x < 16
set_option maxHeartbeats 1000000 in
theorem split_bad (h : E.Ok w B m) (sb off c : Nat) (xs : List Int) (hn : xs.length = E.nn) (hs : ∀ i, i < E.nn → w.cell? ⟨sb, off + i, none⟩ = some (.int .i64 (xs.getD i 0))) (i0 : Nat) (hi0 : i0 < E.nn) (hbad : ¬ okSide (xs.getD i0 0)) : Calls Try.prog 51 #[.pointer (some ⟨E.b, 0, none⟩), .slice (some ⟨sb, off, none⟩) E.nn c] w fun e w' => e = .returned (.int .i64 1) ∧ w = w' := by
  have c1 := h.c1
  have hn16 := h.n16
  have Hs : Hid (∀ i, i < E.nn → w.cell? ⟨sb, off + i, none⟩ = some (.int .i64 (xs.getD i 0))) := hs
  clear h hs
  go_enter Try.func51, Try.ntmps51
  go_wp2
  go_loopw [21] (fun i wr => ∃ k : Nat, k ≤ E.nn ∧ i = .int .i64 k ∧ w = wr ∧ ∀ j, j < k → okSide (xs.getD j 0)) (fun i _ => E.nn - (intOf i).toNat)
  case atStart => exact ⟨0, Nat.zero_le _, rfl, rfl, fun j hj => by omega⟩
  case round =>
    obtain ⟨k, hk, rfl, rfl, hok⟩ := hrel
    by_cases hlt : k < E.nn
    · have hck := Hs.out k hlt
      by_cases hx : okSide (xs.getD k 0)
      · have hok1 : Hid (∀ j, j < k + 1 → okSide (xs.getD j 0)) := fun j hj => by
          by_cases e : j = k
          · subst e; exact hx
          · exact hok j (by omega)
        obtain ⟨x0, x1⟩ := hx
        generalize xs.getD k 0 = X at hck x0 x1
        clear hok hbad
        go_wp2
        go_roundw
        case rel => exact ⟨k + 1, by omega, by go_num, by first | rfl | trivial, hok1.out⟩
        case measure => simp [intOf]; omega
      · have hx : xs.getD k 0 < 0 ∨ 16 ≤ xs.getD k 0 := by unfold okSide at hx; omega
        generalize xs.getD k 0 = X at hck hx
        clear hok hbad
        go_wp2
        all_goals first | (exfalso; omega) | (go_ret; exact ⟨rfl, rfl⟩)
    · exfalso
      exact hbad (hok i0 (by omega))
def spl (f : Nat → Nat → Bool) (xs : List Int) (nn i j : Nat) : Nat → Nat → Bool := fun a b => if (a < i ∨ (a = i ∧ b < j)) ∧ b < nn ∧ a ≠ b then decide (xs.getD a 0 ≠ xs.getD b 0) else f a b
theorem spl_start (f : Nat → Nat → Bool) (xs : List Int) (nn : Nat) : spl f xs nn 0 0 = f := by
  funext a b
  simp [spl]
theorem spl_row (f : Nat → Nat → Bool) (xs : List Int) (nn i : Nat) : spl f xs nn i nn = spl f xs nn (i + 1) 0 := by
  funext a b
  unfold spl
  by_cases e : (a < i ∨ (a = i ∧ b < nn)) ∧ b < nn ∧ a ≠ b
  · rw [if_pos e, if_pos (by omega)]
  · rw [if_neg e, if_neg (by omega)]
theorem spl_diag (f : Nat → Nat → Bool) (xs : List Int) (nn i : Nat) : spl f xs nn i (i + 1) = spl f xs nn i i := by
  funext a b
  unfold spl
  by_cases e : (a < i ∨ (a = i ∧ b < i)) ∧ b < nn ∧ a ≠ b
  · rw [if_pos e, if_pos (by omega)]
  · rw [if_neg e, if_neg (by omega)]
theorem spl_next (f : Nat → Nat → Bool) (xs : List Int) (nn i j : Nat) (hne : i ≠ j) (hj : j < nn) : upd2 (spl f xs nn i j) i j (!decide (xs.getD i 0 = xs.getD j 0)) = spl f xs nn i (j + 1) := by
  funext a b
  unfold upd2
  by_cases e : a = i ∧ b = j
  · obtain ⟨rfl, rfl⟩ := e
    rw [if_pos ⟨rfl, rfl⟩]
    unfold spl
    rw [if_pos (by omega)]
    simp
  · rw [if_neg e]
    unfold spl
    by_cases e2 : (a < i ∨ (a = i ∧ b < j)) ∧ b < nn ∧ a ≠ b
    · rw [if_pos e2, if_pos (by omega)]
    · rw [if_neg e2, if_neg (by omega)]
theorem own_cut {E : En} {f : Nat → Nat → Bool} {j : Nat} : ({ E with cut := f } : En).own j ↔ E.own j := Iff.rfl
theorem Step.cell {w w' : World} {E E' : En} {B m : Nat} (s : Step w w' E E' B m) {k i : Nat} {v : Value} (hk : ¬ E.own k) (hc : w.cell? ⟨k, i, none⟩ = some v) : w'.cell? ⟨k, i, none⟩ = some v :=
  (World.cell?_of_block (w := w) (s.kept.block k (World.block_lt_of_cell? w _ hc) hk)).trans hc
set_option maxHeartbeats 4000000 in
theorem split_ok (h : E.Ok w B m) (sb off c : Nat) (xs : List Int) (hn : xs.length = E.nn) (hs : ∀ i, i < E.nn → w.cell? ⟨sb, off + i, none⟩ = some (.int .i64 (xs.getD i 0))) (hsb : ¬ E.own sb) (hok : ∀ i, i < E.nn → okSide (xs.getD i 0)) (hm : m + 256 < maxLen) : Calls Try.prog 51 #[.pointer (some ⟨E.b, 0, none⟩), .slice (some ⟨sb, off, none⟩) E.nn c] w fun e w' => e = .returned (.int .i64 0) ∧ Step w w' E { E with cut := spl E.cut xs E.nn E.nn 0 } B (m + 256) := by
  have c1 := h.c1
  have hn16 := h.n16
  have Hs : Hid (∀ i, i < E.nn → w.cell? ⟨sb, off + i, none⟩ = some (.int .i64 (xs.getD i 0))) := hs
  have Hok : Hid (∀ i, i < E.nn → okSide (xs.getD i 0)) := hok
  have H0 : Hid (Step w w E { E with cut := spl E.cut xs E.nn 0 0 } B m) := by
    rw [spl_start]
    exact Step.same h
  clear h hs hok
  go_enter Try.func51, Try.ntmps51
  go_wp2
  go_loopw [21] (fun i wr => ∃ k : Nat, k ≤ E.nn ∧ i = .int .i64 k ∧ w = wr) (fun i _ => E.nn - (intOf i).toNat)
  case atStart => exact ⟨0, Nat.zero_le _, rfl, rfl⟩
  case round =>
    obtain ⟨k, hk, rfl, rfl⟩ := hrel
    by_cases hlt : k < E.nn
    · have hck := Hs.out k hlt
      obtain ⟨x0, x1⟩ := Hok.out k hlt
      generalize xs.getD k 0 = X at hck x0 x1
      go_wp2
      go_roundw
      case rel => exact ⟨k + 1, by omega, by go_num, by first | rfl | trivial⟩
      case measure => simp [intOf]; omega
    · obtain rfl : k = E.nn := by omega
      go_wp2
      clear Hok
      go_loopw [34] (fun i wr => ∃ k : Nat, k ≤ E.nn ∧ i = .int .i64 k ∧ Step w wr E { E with cut := spl E.cut xs E.nn k 0 } B (m + 16 * k)) (fun i _ => E.nn - (intOf i).toNat)
      case atStart => exact ⟨0, Nat.zero_le _, rfl, H0.out⟩
      case round =>
        obtain ⟨k, hk, rfl, hst⟩ := hrel
        have HS : Hid (Step w wr E { E with cut := spl E.cut xs E.nn k 0 } B (m + 16 * k)) := hst
        clear hst
        by_cases hlt : k < E.nn
        · have hck := HS.out.cell hsb (Hs.out k hlt)
          generalize hX : xs.getD k 0 = X at hck
          go_wp2
          go_loopw [41] (fun i wr => ∃ j : Nat, j ≤ E.nn ∧ i = .int .i64 j ∧ Step w wr E { E with cut := spl E.cut xs E.nn k j } B (m + 16 * k + j)) (fun i _ => E.nn - (intOf i).toNat)
          case atStart => exact ⟨0, Nat.zero_le _, rfl, HS.out⟩
          case round =>
            obtain ⟨j, hj, rfl, hst2⟩ := hrel
            clear HS hck
            have HS2 : Hid (Step w wr E { E with cut := spl E.cut xs E.nn k j } B (m + 16 * k + j)) := hst2
            clear hst2
            by_cases hjlt : j < E.nn
            · have hcj := HS2.out.cell hsb (Hs.out j hjlt)
              generalize hY : xs.getD j 0 = Y at hcj
              by_cases hkj : k = j
              · have HS3 : Hid (Step w wr E { E with cut := spl E.cut xs E.nn k (j + 1) } B (m + 16 * k + (j + 1))) := by
                  have := HS2.out
                  subst hkj
                  rw [← spl_diag] at this
                  exact ⟨this.ok.mono (by omega), this.kept, this.own⟩
                clear HS2
                have hkj' : (k : Int) = (j : Int) := by omega
                go_wp2
                go_roundw
                case rel => exact ⟨j + 1, by omega, by go_num, HS3.out⟩
                case measure => simp [intOf]; omega
              · have hkj' : ¬ (k : Int) = (j : Int) := by omega
                have HO := fun o => setOpen_any HS2.out.ok k j (by omega) (by omega) o (by omega)
                go_wp2_with (first | (go_at_call 59; refine (HO _).mono ?_; rintro e w3 ⟨rfl, hs3⟩) | fail)
                have HS3 : Hid (Step w w3 E { E with cut := spl E.cut xs E.nn k (j + 1) } B (m + 16 * k + (j + 1))) := by
                  have := HS2.out.trans hs3
                  rw [← spl_next E.cut xs E.nn k j hkj hjlt, hX, hY]
                  have e1 : (X == Y) = decide (X = Y) := by by_cases e : X = Y <;> simp [e]
                  rw [← e1]
                  exact this
                clear hs3 HO HS2
                go_roundw
                case rel => exact ⟨j + 1, by omega, by go_num, HS3.out⟩
                case measure => simp [intOf]; omega
            · obtain rfl : j = E.nn := by omega
              have HS3 : Hid (Step w wr E { E with cut := spl E.cut xs E.nn (k + 1) 0 } B (m + 16 * (k + 1))) := by
                have := HS2.out
                rw [spl_row] at this
                exact ⟨this.ok.mono (by omega), this.kept, this.own⟩
              clear HS2
              go_wp2
              go_roundw
              case rel => exact ⟨k + 1, by omega, by go_num, HS3.out⟩
              case measure => simp [intOf]; omega
        · obtain rfl : k = E.nn := by omega
          go_wp2
          go_ret
          exact ⟨rfl, HS.out.ok.mono (by omega), HS.out.kept, HS.out.own⟩
end
end Go.Proofs.Ytnhhjelplmdloaa.Et
namespace Go.Proofs.Ytnhhjelplmdloaa.Et
open Go.RowKit Go.Maps
set_option linter.unusedVariables false
set_option linter.unusedSimpArgs false
set_option maxRecDepth 100000
section
variable {E E' : En} {w w' W : World} {B m : Nat}
def Rd (w : World) (ao : Option Addr) (len cap : Nat) (bs : List Int) : Prop :=
  bs.length = len ∧ (ao = none → len = 0 ∧ cap = 0) ∧ (len = 0 ∨ ∃ b off, ao = some ⟨b, off, none⟩ ∧ ∀ i, i < len → w.cell? ⟨b, off + i, none⟩ = some (.int .u8 (bs.getD i 0))) ∧ ∀ i, 0 ≤ bs.getD i 0 ∧ bs.getD i 0 ≤ 255
theorem info_u8 : (Try.prog.info? 5).map (fun i => (i.zero, i.size, i.bytes)) = some (some (.int .u8 0), 1, 1) := by kernel_rfl
theorem size_u8 : (Try.prog.info? 5).map (·.size) = some 1 := by kernel_rfl
theorem bytes_one (bs : List Int) : ∀ u ∈ bs.map (Value.int .u8), u.oneCell' = true := by
  intro u hu
  obtain ⟨_, _, rfl⟩ := List.mem_map.1 hu
  rfl
theorem Rd.still {ao : Option Addr} {len cap : Nat} {bs : List Int} (h : Rd w ao len cap bs) (hb : Below w.heap.size w w') : Rd w' ao len cap bs := by
  obtain ⟨h1, h2, h3, h4⟩ := h
  refine ⟨h1, h2, h3.elim (fun hh => .inl hh) (fun hh => .inr ?_), h4⟩
  obtain ⟨b, off, rfl, hc⟩ := hh
  exact ⟨b, off, rfl, fun i hi => (hb.cell (World.block_lt_of_cell? w _ (hc i hi))).trans (hc i hi)⟩
theorem Rd.cells {ao : Option Addr} {len cap : Nat} {bs : List Int} (h : Rd w ao len cap bs) (a : Addr) (ha : ao = some a) : ∀ j v, (bs.map (Value.int .u8))[j]? = some v → w.cell? (a.add j) = some v := by
  intro j v hv
  obtain ⟨hl, _, hc, _⟩ := h
  have hj : j < len := by have := (List.getElem?_eq_some_iff.1 hv).1; simpa [hl] using this
  rcases hc with h | ⟨b, off, hao, hc⟩
  · omega
  · rw [ha] at hao
    obtain rfl := Option.some.inj hao
    rw [Addr.add_lit, hc j hj]
    have e : (bs.map (Value.int .u8))[j]? = some (.int .u8 (bs.getD j 0)) := by simp [List.getD, show j < bs.length by omega]
    rw [e] at hv
    exact hv
theorem row_rd {ao : Option Addr} {n c : Nat} {bs : List Int} (h : w.ownsRow B 5 1 (.slice ao n c) n (bs.map (Value.int .u8))) (hr : ∀ i, 0 ≤ bs.getD i 0 ∧ bs.getD i 0 ≤ 255) : Rd w ao n c bs := by
  have hl : bs.length = n := by simpa using h.1
  refine ⟨hl, fun e => ?_, ?_, hr⟩
  · rcases h.2 with ⟨h1, h2⟩ | ⟨g, cap, cur, hv, _⟩
    · simp at h1; omega
    · subst e; simp at hv
  · by_cases h0 : n = 0
    · exact .inl h0
    · rcases h.2 with ⟨h1, h2⟩ | ⟨g, cap, cur, hv, hB, hg, hnc, hcm, hcs, htk⟩
      · omega
      · simp at hv
        refine .inr ⟨g, 0, hv.1, fun i hi => ?_⟩
        rw [Nat.zero_add, blk_cell hg i]
        have e1 : (cur.toList.take (n * 1))[i]? = (bs.map (Value.int .u8))[i]? := by rw [htk]
        rw [List.getElem?_take_of_lt (by omega)] at e1
        rw [← Array.getElem?_toList, e1]
        simp [List.getD, show i < bs.length by omega]
theorem Fx.byt.rd {f : Fx} (h : f.byt w B) : Rd w f.a f.n f.c f.bs := row_rd h.1 h.2
theorem cur_of_full {g n : Nat} {L : List Value} {cap' : Nat} (h : w.ownsRow B 5 1 (.slice (some ⟨g, 0, none⟩) n n) n L) : w.heap[g]? = some (.cells L.toArray 5 (0, 0)) := by
  rcases h.2 with ⟨h1, h2⟩ | ⟨g', cap, cur, hv, hB, hg, hnc, hcm, hcs, htk⟩
  · simp at h1
  · simp at hv
    obtain ⟨rfl, rfl⟩ := hv
    rw [List.take_of_length_le (by simp; omega)] at htk
    rw [hg, ← htk]
theorem full_of_cur {g : Nat} {bs : List Int} {n : Nat} (hn : bs.length = n) (hg : w.heap[g]? = some (.cells (bs.map (Value.int .u8)).toArray 5 (0, 0))) (hB : B ≤ g) (hm : n ≤ maxLen) : w.ownsRow B 5 1 (.slice (some ⟨g, 0, none⟩) n n) n (bs.map (Value.int .u8)) :=
  ⟨by simp [hn], .inr ⟨g, n, _, rfl, hB, hg, Nat.le_refl _, hm, by simp [hn], by rw [List.take_of_length_le (by simp [hn])]⟩⟩
set_option maxHeartbeats 1000000 in
theorem copyBytes_any (ao : Option Addr) (n c : Nat) (bs : List Int) (hr : Rd w ao n c bs) (hlen : n ≤ 140737488355328) : Calls Try.prog 55 #[.slice ao n c] w fun e w' => e = .returned (.slice (some ⟨w.heap.size, 0, none⟩) n n) ∧ w'.ownsRow w.heap.size 5 1 (.slice (some ⟨w.heap.size, 0, none⟩) n n) n (bs.map (Value.int .u8)) ∧ Below w.heap.size w w' := by
  obtain ⟨i0, hi, hz0, hz1, hz2⟩ := info_parts info_u8
  have hlb := hr.1
  have Hr : Hid (Rd w ao n c bs) := hr
  clear hr
  go_enter Try.func55, Try.ntmps55
  go_wp2_with (first
    | (at_make; refine wpList_make_full _ rfl _ _ 35 rfl w.heap.size 5 i0 (.int .u8 0) 1 Try.underlying35 hi hz0 hz1 .i64 .i64 _ _ n rfl rfl rfl rfl ?b2 ?b3 (Nat.le_refl _) ?_)
    | fail)
  case b2 => rw [hz2]; omega
  case b3 => unfold maxLen; omega
  intro w1 hown hgrow
  have hb1 : Hid (Below w.heap.size w w1) := (Below.refl _ w).grown hgrow (Nat.le_refl _) (fun k hk => by cases hk)
  obtain ⟨L, hown⟩ : ∃ L, w1.ownsRow w.heap.size 5 1 (.slice (some ⟨w.heap.size, 0, none⟩) n n) n L := ⟨_, hown⟩
  have hcur := cur_of_full (cap' := 0) hown
  have hLl : L.length = n := by simpa using hown.1
  have HR1 := Hr.out.still hb1.out
  clear hown hgrow Hr
  obtain ⟨X, hX⟩ : ∃ X, X = bs.map (Value.int .u8) := ⟨_, rfl⟩
  have hXl : X.length = n := by rw [hX]; simp [hlb]
  have Hsrc : Hid (0 < X.length → (some (⟨w.heap.size, 0, none⟩ : Addr)) = some ⟨w.heap.size, 0, none⟩ ∧ ∃ ad, ao = some ad ∧ ∀ j v, X[j]? = some v → w1.cell? (ad.add j) = some v) := by
    intro hp
    refine ⟨rfl, ?_⟩
    cases ao with
    | none => have := (HR1.2.1 rfl).1; omega
    | some ad => exact ⟨ad, rfl, by rw [hX]; exact HR1.cells ad rfl⟩
  have H1 : Hid (∀ v ∈ X, v.oneCell' = true) := by rw [hX]; exact bytes_one bs
  have HX : Hid (X = bs.map (Value.int .u8)) := hX
  clear HR1 hX
  go_wp2_with (first
    | (refine wpList_copy_splice rfl _ _ 35 35 rfl 5 Try.underlying35 size_u8 _ _ n n n c rfl rfl w.heap.size 0 L 5 hcur X (by rw [hXl]; exact (Nat.min_self n).symm) Hsrc.out (by omega) H1.out w.heap.size w hb1.out (Nat.le_refl _) ?_; intro w2 hg2 hb2)
    | fail)
  go_ret
  refine ⟨rfl, ?_, hb2⟩
  have hg2 := hg2.out
  have e : splice L 0 X = bs.map (Value.int .u8) := by
    rw [← HX.out]
    simp [splice]
    omega
  rw [e] at hg2
  exact full_of_cur hlb hg2 (Nat.le_refl _) (by unfold maxLen; omega)
end
end Go.Proofs.Ytnhhjelplmdloaa.Et
namespace Go.Proofs.Ytnhhjelplmdloaa.Et
open Go.RowKit Go.Maps
set_option linter.unusedVariables false
set_option linter.unusedSimpArgs false
set_option maxRecDepth 100000
section
variable {E E' : En} {w w' W : World} {B m : Nat}
theorem blk_set {t : TypeId} {k i : Nat} {cs cs' : Array Value} {v : Value} (h : w.heap[k]? = some (.cells cs t (0, 0))) (e : cs.setIfInBounds i v = cs') : (w.setCell ⟨k, i, none⟩ v).heap[k]? = some (.cells cs' t (0, 0)) := e ▸ heap_setCell_same w k i cs t v h
theorem blk_set_ne {t : TypeId} {k k' i : Nat} {cs : Array Value} {v : Value} (h : w.heap[k]? = some (.cells cs t (0, 0))) (e : k ≠ k') : (w.setCell ⟨k', i, none⟩ v).heap[k]? = some (.cells cs t (0, 0)) := (Below.heap_setCell w ⟨k', i, none⟩ v k e).trans h
theorem own_set {t s n : Nat} {v u : Value} {l : List Value} {k i : Nat} (h : w.ownsRow B t s v n l) (hk : v.ownBlock ≠ some k) : (w.setCell ⟨k, i, none⟩ u).ownsRow B t s v n l :=
  (kset (P := fun j => j = k) w k i u rfl).owns h (fun q hq e => hk (by rw [hq, e]))
theorem own_lower {B' t s n : Nat} {v : Value} {l : List Value} (h : w.ownsRow B t s v n l) (hB : B' ≤ B) : w.ownsRow B' t s v n l :=
  ⟨h.1, h.2.elim (fun hh => .inl hh) (fun ⟨g, cap, cur, e1, e2, e3⟩ => .inr ⟨g, cap, cur, e1, by omega, e3⟩)⟩
theorem fl_cells {t : TypeId} {k : Nat} {v0 v1 v2 v3 v4 : Value} (h : w.heap[k]? = some (.cells #[v0, v1, v2, v3, v4] t (0, 0))) : w.cell? ⟨k, 0, none⟩ = some v0 ∧ w.cell? ⟨k, 1, none⟩ = some v1 ∧ w.cell? ⟨k, 2, none⟩ = some v2 ∧ w.cell? ⟨k, 3, none⟩ = some v3 ∧ w.cell? ⟨k, 4, none⟩ = some v4 :=
  ⟨blk_cell h 0, blk_cell h 1, blk_cell h 2, blk_cell h 3, blk_cell h 4⟩
theorem fl_frz {t : TypeId} {k : Nat} {cs : Array Value} (h : w.heap[k]? = some (.cells cs t (0, 0))) : w.frozen? ⟨k, 0, none⟩ = false ∧ w.frozen? ⟨k, 1, none⟩ = false ∧ w.frozen? ⟨k, 2, none⟩ = false ∧ w.frozen? ⟨k, 3, none⟩ = false ∧ w.frozen? ⟨k, 4, none⟩ = false :=
  ⟨frozen_of_row w _ 0 _ _ h, frozen_of_row w _ 1 _ _ h, frozen_of_row w _ 2 _ _ h, frozen_of_row w _ 3 _ _ h, frozen_of_row w _ 4 _ _ h⟩
set_option maxHeartbeats 1000000 in
theorem copyFlight_any (id src dst due : Int) (ao : Option Addr) (n c : Nat) (bs : List Int) (hr : Rd w ao n c bs) (hlen : n ≤ 140737488355328) : Calls Try.prog 36 #[.agg #[.int .i64 id, .int .i64 src, .int .i64 dst, .int .i64 due, .slice ao n c]] w fun e w' => ∃ g, e = .returned (.agg #[.int .i64 id, .int .i64 src, .int .i64 dst, .int .i64 due, .slice (some ⟨g, 0, none⟩) n n]) ∧ w'.ownsRow w.heap.size 5 1 (.slice (some ⟨g, 0, none⟩) n n) n (bs.map (Value.int .u8)) ∧ Below w.heap.size w w' := by
  generalize hW : (w.alloc (.cells #[.int .i64 id, .int .i64 src, .int .i64 dst, .int .i64 due, .slice ao n c] 43)).alloc (.cells #[.int .i64 0, .int .i64 0, .int .i64 0, .int .i64 0, .slice none 0 0] 43) = W
  have hbW : Below w.heap.size w W := by rw [← hW]; exact balloc (balloc (Below.refl _ w))
  have hWs : W.heap.size = w.heap.size + 1 + 1 := by rw [← hW]; simp
  have hblk : W.heap[w.heap.size]? = some (.cells #[.int .i64 id, .int .i64 src, .int .i64 dst, .int .i64 due, .slice ao n c] 43 (0, 0)) := by rw [← hW]; exact blk_alloc (heap_alloc_new w _)
  have hblk2 : W.heap[w.heap.size + 1]? = some (.cells #[.int .i64 0, .int .i64 0, .int .i64 0, .int .i64 0, .slice none 0 0] 43 (0, 0)) := by
    rw [← hW]
    have := heap_alloc_new (w.alloc (.cells #[.int .i64 id, .int .i64 src, .int .i64 dst, .int .i64 due, .slice ao n c] 43)) (.cells #[.int .i64 0, .int .i64 0, .int .i64 0, .int .i64 0, .slice none 0 0] 43)
    simpa using this
  have HC := copyBytes_any (w := W) ao n c bs (hr.still hbW) hlen
  have d4 := blk_cell hblk 4
  simp at d4
  have Hb : Hid (Below w.heap.size w W) := hbW
  have HB : Hid (W.heap[w.heap.size]? = some (.cells #[.int .i64 id, .int .i64 src, .int .i64 dst, .int .i64 due, .slice ao n c] 43 (0, 0))) := hblk
  have HB2 : Hid (W.heap[w.heap.size + 1]? = some (.cells #[.int .i64 0, .int .i64 0, .int .i64 0, .int .i64 0, .slice none 0 0] 43 (0, 0))) := hblk2
  clear hr hbW hblk hblk2
  go_enter Try.func36, Try.ntmps36
  go_wp2_with (first | (go_at_call 55; refine HC.mono ?_; rintro e w1 ⟨rfl, ho, hb1⟩; have Ho : Hid (w1.ownsRow W.heap.size 5 1 (.slice (some ⟨W.heap.size, 0, none⟩) n n) n (bs.map (Value.int .u8))) := ho; have hB1 : Hid (w1.heap[w.heap.size]? = some (.cells #[.int .i64 id, .int .i64 src, .int .i64 dst, .int .i64 due, .slice ao n c] 43 (0, 0))) := (hb1.block _ (by omega)).trans HB.out; have hB2 : Hid (w1.heap[w.heap.size + 1]? = some (.cells #[.int .i64 0, .int .i64 0, .int .i64 0, .int .i64 0, .slice none 0 0] 43 (0, 0))) := (hb1.block _ (by omega)).trans HB2.out; obtain ⟨e0, e1, e2, e3, e4⟩ := fl_cells hB1.out; obtain ⟨g0, g1, g2, g3, g4⟩ := fl_frz hB1.out; obtain ⟨i0, i1, i2, i3, i4⟩ := fl_frz hB2.out; obtain ⟨z0, z1, z2, z3, z4⟩ := fl_cells hB2.out; have Hb1 : Hid (Below w.heap.size w w1) := bstep Hb.out hb1; clear ho hb1) | fail)
  have b1 := blk_set_ne (k' := w.heap.size) (i := 4) (v := .slice (some ⟨w.heap.size + 1 + 1, 0, none⟩) n n) hB2.out (by omega)
  have b2 := blk_set (i := 0) (v := .int .i64 id) b1 rfl
  have b3 := blk_set (i := 1) (v := .int .i64 src) b2 rfl
  have b4 := blk_set (i := 2) (v := .int .i64 dst) b3 rfl
  have b5 := blk_set (i := 3) (v := .int .i64 due) b4 rfl
  have b6 := blk_set (i := 4) (v := .slice (some ⟨w.heap.size + 1 + 1, 0, none⟩) n n) b5 rfl
  have hbF := bset (bset (bset (bset (bset (bset Hb1.out (Nat.le_refl w.heap.size) 4 (.slice (some ⟨w.heap.size + 1 + 1, 0, none⟩) n n)) (Nat.le_succ w.heap.size) 0 (.int .i64 id)) (Nat.le_succ w.heap.size) 1 (.int .i64 src)) (Nat.le_succ w.heap.size) 2 (.int .i64 dst)) (Nat.le_succ w.heap.size) 3 (.int .i64 due)) (Nat.le_succ w.heap.size) 4 (.slice (some ⟨w.heap.size + 1 + 1, 0, none⟩) n n)
  have ho1 := own_lower (B' := w.heap.size) Ho.out (by omega)
  rw [hWs] at ho1
  have hne : (Value.slice (some (⟨w.heap.size + 1 + 1, 0, none⟩ : Addr)) n n).ownBlock ≠ some w.heap.size := by simp [Value.ownBlock]; omega
  have hne2 : (Value.slice (some (⟨w.heap.size + 1 + 1, 0, none⟩ : Addr)) n n).ownBlock ≠ some (w.heap.size + 1) := by simp [Value.ownBlock]
  have hoF := own_set (i := 4) (u := .slice (some ⟨w.heap.size + 1 + 1, 0, none⟩) n n) (own_set (i := 3) (u := .int .i64 due) (own_set (i := 2) (u := .int .i64 dst) (own_set (i := 1) (u := .int .i64 src) (own_set (i := 0) (u := .int .i64 id) (own_set (i := 4) (u := .slice (some ⟨w.heap.size + 1 + 1, 0, none⟩) n n) ho1 hne) hne2) hne2) hne2) hne2) hne2
  clear b1 b2 b3 b4 b5 ho1
  revert b6 hbF hoF
  generalize (World.setCell _ _ _) = WF
  intro b6 hbF hoF
  obtain ⟨q0, q1, q2, q3, q4⟩ := fl_cells b6
  exact bodyPost_ret (v := .agg #[.int .i64 id, .int .i64 src, .int .i64 dst, .int .i64 due, .slice (some ⟨w.heap.size + 1 + 1, 0, none⟩) n n]) (by simp [results, Try.results36, go_sem, q0, q1, q2, q3, q4]) rfl ⟨_, rfl, hoF, hbF⟩
end
end Go.Proofs.Ytnhhjelplmdloaa.Et
