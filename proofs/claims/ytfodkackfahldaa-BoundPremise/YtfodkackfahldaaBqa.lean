import Derived.Test.YtfodkackfahldaaBpg
import Derived.Test.YtfodkackfahldaaLka
import Derived.Laws.Rows
import Derived.Laws.Tables
namespace Go.Proofs.Ytfodkackfahldaa.Lo
open Go.RowKit
set_option linter.unusedVariables false
set_option linter.unusedSimpArgs false
section
variable {w w' W : World}
theorem run_allocZ {t : TypeId} {Z : Array Value} (hz : (Try.prog.info? t).map (·.zero) = some (some (.agg Z))) : (Instr.alloc t true (.tuple #[])).run Try.prog w = .ok (.pointer (some ⟨w.heap.size, 0, none⟩)) (w.alloc (.cells Z t)) := by
  cases hi : Try.prog.info? t with
  | none => rw [hi] at hz; cases hz
  | some i =>
    rw [hi] at hz
    simp only [Option.map_some, Option.some.injEq] at hz
    simp [Instr.alloc, zeroValue, typeInfo, hi, hz, go_sem, newVar, newRow, Value.cells]
theorem wl_allocZ {ops : Array Oper} {rest : List Oper} {o : Oper} {a : Act} {Q : Exit → Act → World → Prop} {Z : Array Value} (hgd : o.guard = none) (t : TypeId) (ho : o.op = .alloc t) (hz : (Try.prog.info? t).map (·.zero) = some (some (.agg Z)))
    (h : ∀ W : World, W.heap[w.heap.size]? = some (.cells Z t (0, 0)) → Below w.heap.size w W → w.heap.size < W.heap.size → wpList Try.prog ops Q rest (a.put o.dst (.pointer (some ⟨w.heap.size, 0, none⟩))) W) : wpList Try.prog ops Q (o :: rest) a w :=
  wpList_plain hgd fun K hK => by
    unfold Oper.wp execOp
    simp only [ho, Sem.run_bind, run_allocZ hz, Result.andThen_ok, Sem.run_pure]
    exact hK _ _ (h _ (heap_alloc_new w _) ((Below.refl _ _).alloc (Nat.le_refl _) _) (by simp))
theorem wl_buildZ {ops : Array Oper} {rest : List Oper} {o : Oper} {a : Act} {Q : Exit → Act → World → Prop} {cs : Array Value} (hgd : o.guard = none) (t : TypeId) (parts : Array (Nat × Operand)) (ho : o.op = .build t parts) (hf : Try.prog.built t (parts.map fun (i, x) => (i, a.eval x)).toList = some cs)
    (h : wpList Try.prog ops Q rest (a.put o.dst (.agg cs)) w) : wpList Try.prog ops Q (o :: rest) a w :=
  wpList_build hgd t parts ho (by rw [hf]; rfl) (by rw [hf]; exact h)
theorem built_eq {t : TypeId} {l l' : List (Nat × Value)} {c : Array Value} (e : l = l') (h : Try.prog.built t l' = some c) : Try.prog.built t l = some c := e ▸ h
theorem wl_storeZ {ops : Array Oper} {rest : List Oper} {o : Oper} {a : Act} {Q : Exit → Act → World → Prop} (hgd : o.guard = none) (ty : TypeId) (x y : Operand) (ho : o.op = .store ty x y) {g : Nat} {L : List Value} {t : TypeId} {old : Array Value} (hx : a.eval x = .pointer (some ⟨g, 0, none⟩)) (hy : a.eval y = .agg L.toArray) (hg : w.heap[g]? = some (.cells old t (0, 0))) (hi : (Try.prog.info? ty).map (·.size) = some L.length) (hold : old.size = L.length) (h1 : ∀ u ∈ L, u.oneCell' = true)
    (h : ∀ W : World, W.heap[g]? = some (.cells L.toArray t (0, 0)) → Mb.Kept w W (fun j => j = g) → wpList Try.prog ops Q rest (a.put o.dst undef) W) : wpList Try.prog ops Q (o :: rest) a w :=
  Ln.wl_storeL hgd ty x y ho hx hy (Ln.blk_there hg hold) hi h1 (h _ (Ln.sets_whole hg hold) (Mb.ksets (P := fun j => j = g) rfl _ _ _))
def rl (n : Nat) (f : Nat → Int) : List Int := (List.range n).map f
theorem rl_len (n : Nat) (f : Nat → Int) : (rl n f).length = n := by simp [rl]
theorem rl_get {n : Nat} (f : Nat → Int) {i : Nat} (h : i < n) : (rl n f).getD i 0 = f i := by simp [rl, List.getD, h]
theorem rl_congr {n : Nat} {f g : Nat → Int} (h : ∀ i, i < n → f i = g i) : rl n f = rl n g := by
  apply List.ext_getElem
  · simp [rl]
  · intro i h1 h2
    simp [rl] at h1 ⊢
    exact h i h1
theorem rl_set {n : Nat} (f : Nat → Int) (i : Nat) (v : Int) : (rl n f).set i v = rl n (upF f i v) := by
  apply List.ext_getElem
  · simp [rl]
  · intro j h1 h2
    simp [rl] at h1 h2 ⊢
    rw [List.getElem_set]
    by_cases e : i = j
    · subst e; simp [upF]
    · simp [e, upF, show ¬ j = i from fun h => e h.symm]
def nwG (N s k i : Nat) : Int := if i = 0 then (N : Int) else if i < 17 then (if i ≤ s then 1 else 0) else if i - 17 < k ∧ (i - 17) % 16 < N then 1 else 0
theorem nwG_st {N s k : Nat} (hs : s < 16) : ∀ i, i < 273 → upF (nwG N s k) (1 + s) 1 i = nwG N (s + 1) k i := by
  intro i hi
  unfold upF nwG
  by_cases e : i = 1 + s
  · subst e
    rw [if_pos rfl, if_neg (by omega), if_pos (by omega), if_pos (by omega)]
  · rw [if_neg e]
    by_cases e0 : i = 0
    · rw [if_pos e0, if_pos e0]
    · rw [if_neg e0, if_neg e0]
      by_cases e1 : i < 17
      · rw [if_pos e1, if_pos e1]
        by_cases e2 : i ≤ s
        · rw [if_pos e2, if_pos (by omega)]
        · rw [if_neg e2, if_neg (by omega)]
      · rw [if_neg e1, if_neg e1]
theorem nwG_pa {N s j k : Nat} (hj : j < 16) (hk : k < N) (hN : N ≤ 16) : ∀ i, i < 273 → upF (nwG N s (j * 16 + k)) (17 + j * 16 + k) 1 i = nwG N s (j * 16 + (k + 1)) i := by
  intro i hi
  unfold upF nwG
  by_cases e : i = 17 + j * 16 + k
  · subst e
    rw [if_pos rfl, if_neg (by omega), if_neg (by omega), if_pos (by omega)]
  · rw [if_neg e]
    by_cases e0 : i = 0
    · rw [if_pos e0, if_pos e0]
    · rw [if_neg e0, if_neg e0]
      by_cases e1 : i < 17
      · rw [if_pos e1, if_pos e1]
      · rw [if_neg e1, if_neg e1]
        by_cases e2 : i - 17 < j * 16 + k ∧ (i - 17) % 16 < N
        · rw [if_pos e2, if_pos (by omega)]
        · rw [if_neg e2, if_neg (by omega)]
theorem nwG_row {N s j : Nat} (hN : N ≤ 16) : ∀ i, i < 273 → nwG N s (j * 16 + N) i = nwG N s ((j + 1) * 16) i := by
  intro i hi
  unfold nwG
  by_cases e0 : i = 0
  · rw [if_pos e0, if_pos e0]
  · rw [if_neg e0, if_neg e0]
    by_cases e1 : i < 17
    · rw [if_pos e1, if_pos e1]
    · rw [if_neg e1, if_neg e1]
      by_cases e2 : i - 17 < j * 16 + N ∧ (i - 17) % 16 < N
      · rw [if_pos e2, if_pos (by omega)]
      · rw [if_neg e2, if_neg (by omega)]
def nwF (N : Nat) : Nat → Int := nwG N N (N * 16)
theorem zNet : (Try.prog.info? 57).map (·.zero) = some (some (.agg (Mb.ints (List.replicate 273 0)).toArray)) := by kernel_rfl
theorem iNet : (Try.prog.info? 57).map (·.size) = some 273 := by kernel_rfl
theorem bNet (N : Int) : Try.prog.built 57 [(0, .int .i64 N)] = some (Mb.ints (rl 273 (fun i => if i = 0 then N else 0))).toArray := by kernel_rfl
end
end Go.Proofs.Ytfodkackfahldaa.Lo
