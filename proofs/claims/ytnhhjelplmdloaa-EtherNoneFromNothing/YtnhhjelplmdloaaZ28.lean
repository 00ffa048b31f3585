import Derived.Test.YtnhhjelplmdloaaZ26
import Derived.Test.YtnhhjelplmdloaaZ27
import Derived.ChangeKeysEq
import Derived.Laws.Tables
namespace Go.Proofs.Ytnhhjelplmdloaa.Et
open Go.RowKit Go.Maps
set_option linter.unusedVariables false
set_option linter.unusedSimpArgs false
set_option maxRecDepth 100000
section
variable {E E1 E' : En} {w w' w1 w2 w3 : World} {B K m : Nat}
def Res (w w1 : World) (E : En) (B K : Nat) (y : Int) (add : Bool) : Prop :=
  (y ≠ 0 ∧ Below w.heap.size w w1) ∨ (y = 0 ∧ ∃ E1 m1, Step w w1 E E1 B m1 ∧ m1 ≤ 256 * (K + 1) ∧ Nx E E1 K ∧ (add = true → E1.last = E.last + 1 ∧ ∃ f, E1.fs = E.fs ++ [f] ∧ f.id = E.last + 1) ∧ (add = false → E1.last = E.last))
theorem Res.no {y : Int} {add : Bool} (hy : y ≠ 0) (hb : Below w.heap.size w w1) : Res w w1 E B K y add := .inl ⟨hy, hb⟩
theorem Res.pre {y : Int} {add : Bool} (hb : Below w.heap.size w w1) (r : Res w1 w2 E B K y add) : Res w w2 E B K y add := by
  rcases r with ⟨hy, h⟩ | ⟨hy, E1, m1, st, hm, hx, h1, h2⟩
  · exact .inl ⟨hy, bstep hb h⟩
  · exact .inr ⟨hy, E1, m1, st.pre hb, hm, hx, h1, h2⟩
theorem Res.post {y : Int} {add : Bool} (r : Res w w1 E B K y add) (hb : Below w1.heap.size w1 w2) : Res w w2 E B K y add := by
  rcases r with ⟨hy, h⟩ | ⟨hy, E1, m1, st, hm, hx, h1, h2⟩
  · exact .inl ⟨hy, bstep h hb⟩
  · exact .inr ⟨hy, E1, m1, st.post hb, hm, hx, h1, h2⟩
theorem Res.yes {m1 : Nat} (st : Step w w1 E E1 B m1) (hm : m1 ≤ 256 * (K + 1)) (hx : Nx E E1 K) (hl : E1.last = E.last) : Res w w1 E B K 0 false := .inr ⟨rfl, E1, m1, st, hm, hx, fun h => (by cases h), fun _ => hl⟩
end
end Go.Proofs.Ytnhhjelplmdloaa.Et
namespace Go.Proofs.Ytnhhjelplmdloaa.Et
open Go.RowKit Go.Maps
set_option linter.unusedVariables false
set_option linter.unusedSimpArgs false
set_option maxRecDepth 100000
section
variable {E E1 E' : En} {w w' w1 w2 w3 : World} {B K m : Nat}
theorem run_allocZ {t : TypeId} {Z : Array Value} (hz : (Try.prog.info? t).map (·.zero) = some (some (.agg Z))) : (Instr.alloc t true (.tuple #[])).run Try.prog w = .ok (.pointer (some ⟨w.heap.size, 0, none⟩)) (w.alloc (.cells Z t)) := by
  cases hi : Try.prog.info? t with
  | none => rw [hi] at hz; cases hz
  | some i =>
    rw [hi] at hz
    simp only [Option.map_some, Option.some.injEq] at hz
    simp [Instr.alloc, zeroValue, typeInfo, hi, hz, go_sem, newVar, newRow, Value.cells]
theorem wl_allocZ {ops : Array Oper} {rest : List Oper} {o : Oper} {a : Act} {Q : Exit → Act → World → Prop} {Z : Array Value} (hgd : o.guard = none) (t : TypeId) (ho : o.op = .alloc t) (hz : (Try.prog.info? t).map (·.zero) = some (some (.agg Z)))
    (h : ∀ W : World, W.heap[w.heap.size]? = some (.cells Z t (0, 0)) → Below w.heap.size w W → w.heap.size < W.heap.size → wpList Try.prog ops Q rest (a.put o.dst (.pointer (some ⟨w.heap.size, 0, none⟩))) W) : wpList Try.prog ops Q (o :: rest) a w :=
  wpList_plain hgd fun K hK => by
    unfold Oper.wp execOp
    simp only [ho, Sem.run_bind, run_allocZ hz, Result.andThen_ok, Sem.run_pure]
    exact hK _ _ (h _ (heap_alloc_new w _) ((Below.refl _ _).alloc (Nat.le_refl _) _) (by simp))
theorem wl_storeZ {ops : Array Oper} {rest : List Oper} {o : Oper} {a : Act} {Q : Exit → Act → World → Prop} (hgd : o.guard = none) (ty : TypeId) (x y : Operand) (ho : o.op = .store ty x y) {g : Nat} {L : List Value} {t : TypeId} {old : Array Value} (hx : a.eval x = .pointer (some ⟨g, 0, none⟩)) (hy : a.eval y = .agg L.toArray) (hg : w.heap[g]? = some (.cells old t (0, 0))) (hi : (Try.prog.info? ty).map (·.size) = some L.length) (hold : old.size = L.length) (h1 : ∀ u ∈ L, u.oneCell' = true)
    (h : ∀ W : World, W.heap[g]? = some (.cells L.toArray t (0, 0)) → Mb.Kept w W (fun j => j = g) → wpList Try.prog ops Q rest (a.put o.dst undef) W) : wpList Try.prog ops Q (o :: rest) a w :=
  Ln.wl_storeL hgd ty x y ho hx hy (Ln.blk_there hg hold) hi h1 (h _ (Ln.sets_whole hg hold) (Mb.ksets (P := fun j => j = g) rfl _ _ _))
def rv (n : Nat) (f : Nat → Value) : List Value := (List.range n).map f
def upv (f : Nat → Value) (i : Nat) (v : Value) : Nat → Value := fun j => if j = i then v else f j
theorem rv_set {n : Nat} (f : Nat → Value) (i : Nat) (v : Value) : (rv n f).set i v = rv n (upv f i v) := by
  apply List.ext_getElem
  · simp [rv]
  · intro j h1 h2
    simp [rv] at h1 h2 ⊢
    rw [List.getElem_set]
    by_cases e : i = j
    · subst e; simp [upv]
    · simp [e, upv, show ¬ j = i from fun h => e h.symm]
theorem size_of {t : TypeId} {n : Nat} (h : (Try.prog.info? t).map (·.size) = some n) : (sizeOf t).run Try.prog w = .ok n w := by
  cases hq : Try.prog.info? t with
  | none => simp [hq] at h
  | some i => simp [hq] at h; simp [sizeOf, typeInfo, hq, h]
def sg (E : En) (v : Value) (i : Nat) : Value :=
  if i = 0 then .int .i64 E.clock
  else if i < 18 then .bool (isN E ((i - 1 : Nat) : Int) && E.up (i - 1))
  else if i < 35 then .int .i64 (if isN E ((i - 18 : Nat) : Int) then E.inc (i - 18) else 0)
  else if i < 52 then .int .i64 (if isN E ((i - 35 : Nat) : Int) then E.tick (i - 35) else 0)
  else if i < 341 then .bool (isP E (((i - 52) / 17 : Nat) : Int) (((i - 52) % 17 : Nat) : Int) && !E.cut ((i - 52) / 17) ((i - 52) % 17))
  else if i < 630 then .int .i64 (if isP E (((i - 341) / 17 : Nat) : Int) (((i - 341) % 17 : Nat) : Int) then E.dl ((i - 341) / 17) ((i - 341) % 17) else 0)
  else v
end
end Go.Proofs.Ytnhhjelplmdloaa.Et
