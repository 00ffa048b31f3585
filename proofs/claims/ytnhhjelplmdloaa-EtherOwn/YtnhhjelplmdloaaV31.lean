import Derived.Test.YtnhhjelplmdloaaV29
import Derived.Test.YtnhhjelplmdloaaV30
import Derived.ChangeKeysEq
import Derived.Laws.Tables
namespace Go.Proofs.Ytnhhjelplmdloaa.Et
open Go.RowKit Go.Maps
set_option linter.unusedVariables false
set_option linter.unusedSimpArgs false
set_option maxRecDepth 100000
section
variable {E E1 E' : En} {w w' w1 w2 w3 : World} {B K m : Nat}
def Res (w w1 : World) (E : En) (B K : Nat) (y : Int) (add : Bool) : Prop :=
  (y ≠ 0 ∧ Below w.heap.size w w1) ∨ (y = 0 ∧ ∃ E1 m1, Step w w1 E E1 B m1 ∧ m1 ≤ 256 * (K + 1) ∧ Nx E E1 K ∧ (add = true → E1.last = E.last + 1 ∧ ∃ f, E1.fs = E.fs ++ [f] ∧ f.id = E.last + 1) ∧ (add = false → E1.last = E.last))
theorem Res.no {y : Int} {add : Bool} (hy : y ≠ 0) (hb : Below w.heap.size w w1) : Res w w1 E B K y add := .inl ⟨hy, hb⟩
theorem Res.goes {y : Int} {add : Bool} (he : E.Ok w B (256 * K)) (h : Inv E K) (r : Res w w1 E B K y add) : Goes w w1 E B K := by
  rcases r with ⟨_, hb⟩ | ⟨_, E1, m1, st, hm, hx, _, _⟩
  · exact goes_none he h hb
  · exact ⟨E1, m1, st, hm, hx⟩
theorem Res.pre {y : Int} {add : Bool} (hb : Below w.heap.size w w1) (r : Res w1 w2 E B K y add) : Res w w2 E B K y add := by
  rcases r with ⟨hy, h⟩ | ⟨hy, E1, m1, st, hm, hx, h1, h2⟩
  · exact .inl ⟨hy, bstep hb h⟩
  · exact .inr ⟨hy, E1, m1, st.pre hb, hm, hx, h1, h2⟩
theorem Res.post {y : Int} {add : Bool} (r : Res w w1 E B K y add) (hb : Below w1.heap.size w1 w2) : Res w w2 E B K y add := by
  rcases r with ⟨hy, h⟩ | ⟨hy, E1, m1, st, hm, hx, h1, h2⟩
  · exact .inl ⟨hy, bstep h hb⟩
  · exact .inr ⟨hy, E1, m1, st.post hb, hm, hx, h1, h2⟩
end
end Go.Proofs.Ytnhhjelplmdloaa.Et
namespace Go.Proofs.Ytnhhjelplmdloaa.Et
open Go.RowKit Go.Maps
set_option linter.unusedVariables false
set_option linter.unusedSimpArgs false
set_option maxRecDepth 100000
section
variable {E E1 E' : En} {w w' w1 w2 w3 : World} {B K m : Nat}
theorem run_allocZ {t : TypeId} {Z : Array Value} (hz : (Try.prog.info? t).map (·.zero) = some (some (.agg Z))) : (Instr.alloc t true (.tuple #[])).run Try.prog w = .ok (.pointer (some ⟨w.heap.size, 0, none⟩)) (w.alloc (.cells Z t)) := by
  cases hi : Try.prog.info? t with
  | none => rw [hi] at hz; cases hz
  | some i =>
    rw [hi] at hz
    simp only [Option.map_some, Option.some.injEq] at hz
    simp [Instr.alloc, zeroValue, typeInfo, hi, hz, go_sem, newVar, newRow, Value.cells]
theorem wl_allocZ {ops : Array Oper} {rest : List Oper} {o : Oper} {a : Act} {Q : Exit → Act → World → Prop} {Z : Array Value} (hgd : o.guard = none) (t : TypeId) (ho : o.op = .alloc t) (hz : (Try.prog.info? t).map (·.zero) = some (some (.agg Z)))
    (h : ∀ W : World, W.heap[w.heap.size]? = some (.cells Z t (0, 0)) → Below w.heap.size w W → w.heap.size < W.heap.size → wpList Try.prog ops Q rest (a.put o.dst (.pointer (some ⟨w.heap.size, 0, none⟩))) W) : wpList Try.prog ops Q (o :: rest) a w :=
  wpList_plain hgd fun K hK => by
    unfold Oper.wp execOp
    simp only [ho, Sem.run_bind, run_allocZ hz, Result.andThen_ok, Sem.run_pure]
    exact hK _ _ (h _ (heap_alloc_new w _) ((Below.refl _ _).alloc (Nat.le_refl _) _) (by simp))
theorem wl_buildZ {ops : Array Oper} {rest : List Oper} {o : Oper} {a : Act} {Q : Exit → Act → World → Prop} {cs : Array Value} (hgd : o.guard = none) (t : TypeId) (parts : Array (Nat × Operand)) (ho : o.op = .build t parts) (hf : Try.prog.built t (parts.map fun (i, x) => (i, a.eval x)).toList = some cs)
    (h : wpList Try.prog ops Q rest (a.put o.dst (.agg cs)) w) : wpList Try.prog ops Q (o :: rest) a w :=
  wpList_build hgd t parts ho (by rw [hf]; rfl) (by rw [hf]; exact h)
theorem built_eq {t : TypeId} {l l' : List (Nat × Value)} {c : Array Value} (e : l = l') (h : Try.prog.built t l' = some c) : Try.prog.built t l = some c := e ▸ h
theorem wl_storeZ {ops : Array Oper} {rest : List Oper} {o : Oper} {a : Act} {Q : Exit → Act → World → Prop} (hgd : o.guard = none) (ty : TypeId) (x y : Operand) (ho : o.op = .store ty x y) {g : Nat} {L : List Value} {t : TypeId} {old : Array Value} (hx : a.eval x = .pointer (some ⟨g, 0, none⟩)) (hy : a.eval y = .agg L.toArray) (hg : w.heap[g]? = some (.cells old t (0, 0))) (hi : (Try.prog.info? ty).map (·.size) = some L.length) (hold : old.size = L.length) (h1 : ∀ u ∈ L, u.oneCell' = true)
    (h : ∀ W : World, W.heap[g]? = some (.cells L.toArray t (0, 0)) → Mb.Kept w W (fun j => j = g) → wpList Try.prog ops Q rest (a.put o.dst undef) W) : wpList Try.prog ops Q (o :: rest) a w :=
  Ln.wl_storeL hgd ty x y ho hx hy (Ln.blk_there hg hold) hi h1 (h _ (Ln.sets_whole hg hold) (Mb.ksets (P := fun j => j = g) rfl _ _ _))
theorem res_cell {fn : Func} {p : Tmp} {t : TypeId} {d : TypeDesc} (h : fn.results = #[.cell p t]) (tmps : Array Value) (w : World) (g : Nat) (L : List Value) (hu : Try.prog.underlying t = some d) (hd : d.isRow = true) (hi : (Try.prog.info? t).map (·.size) = some L.length)
    (hp : tmps.getD p undef = .pointer (some ⟨g, 0, none⟩)) (hg : w.rangeAt g 0 L) :
    (results fn tmps).run Try.prog w = .ok (.agg L.toArray) w := by
  have e : (results fn tmps).run Try.prog w = ((asAddr (tmps.getD p undef)).run Try.prog w).andThen fun a w₁ => (loadVar t a).run Try.prog w₁ := by
    simp only [results, h]
    simp [Sem.run_bind, Result.andThen]
  rw [e, hp]
  simp [asAddr, run_loadVar_mid w g 0 t L _ hg hu hd hi]
def rv (n : Nat) (f : Nat → Value) : List Value := (List.range n).map f
theorem rv_len (n : Nat) (f : Nat → Value) : (rv n f).length = n := by simp [rv]
theorem rv_get {n : Nat} (f : Nat → Value) {i : Nat} (h : i < n) : (rv n f)[i]? = some (f i) := by simp [rv, h]
theorem rv_congr {n : Nat} {f g : Nat → Value} (h : ∀ i, i < n → f i = g i) : rv n f = rv n g := by
  apply List.ext_getElem
  · simp [rv]
  · intro i h1 h2
    simp [rv] at h1 ⊢
    exact h i h1
def upv (f : Nat → Value) (i : Nat) (v : Value) : Nat → Value := fun j => if j = i then v else f j
theorem rv_set {n : Nat} (f : Nat → Value) (i : Nat) (v : Value) : (rv n f).set i v = rv n (upv f i v) := by
  apply List.ext_getElem
  · simp [rv]
  · intro j h1 h2
    simp [rv] at h1 h2 ⊢
    rw [List.getElem_set]
    by_cases e : i = j
    · subst e; simp [upv]
    · simp [e, upv, show ¬ j = i from fun h => e h.symm]
theorem rv_one {n : Nat} {f : Nat → Value} (h : ∀ i, i < n → (f i).oneCell' = true) : ∀ u ∈ rv n f, u.oneCell' = true := by
  intro u hu
  obtain ⟨i, hi, rfl⟩ := List.mem_map.1 hu
  exact h i (List.mem_range.1 hi)
theorem size_of {t : TypeId} {n : Nat} (h : (Try.prog.info? t).map (·.size) = some n) : (sizeOf t).run Try.prog w = .ok n w := by
  cases hq : Try.prog.info? t with
  | none => simp [hq] at h
  | some i => simp [hq] at h; simp [sizeOf, typeInfo, hq, h]
def sg (E : En) (v : Value) (i : Nat) : Value :=
  if i = 0 then .int .i64 E.clock
  else if i < 18 then .bool (isN E ((i - 1 : Nat) : Int) && E.up (i - 1))
  else if i < 35 then .int .i64 (if isN E ((i - 18 : Nat) : Int) then E.inc (i - 18) else 0)
  else if i < 52 then .int .i64 (if isN E ((i - 35 : Nat) : Int) then E.tick (i - 35) else 0)
  else if i < 341 then .bool (isP E (((i - 52) / 17 : Nat) : Int) (((i - 52) % 17 : Nat) : Int) && !E.cut ((i - 52) / 17) ((i - 52) % 17))
  else if i < 630 then .int .i64 (if isP E (((i - 341) / 17 : Nat) : Int) (((i - 341) % 17 : Nat) : Int) then E.dl ((i - 341) / 17) ((i - 341) % 17) else 0)
  else v
theorem sg_one (E : En) (a : Option Addr) (n c i : Nat) : (sg E (.slice a n c) i).oneCell' = true := by
  unfold sg
  repeat' split
  all_goals rfl
theorem iSi : (Try.prog.info? 58).map (·.size) = some 631 := by kernel_rfl
end
end Go.Proofs.Ytnhhjelplmdloaa.Et
