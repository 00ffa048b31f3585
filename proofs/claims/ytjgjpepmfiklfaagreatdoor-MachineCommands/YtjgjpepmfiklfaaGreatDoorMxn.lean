import Derived.Test.YtjgjpepmfiklfaaGreatDoorMxm
import Derived.Defers
import Derived.Recover
import Derived.Laws.Pointers
namespace Go.Proofs.YtjgjpepmfiklfaaGreatDoor.Mx
open Go.RowKit Mb Mh Lo
set_option linter.unusedVariables false
set_option maxRecDepth 100000
set_option linter.unusedSimpArgs false
structure Ie (w w' : World) (ib : Nat) (cs : Array Value) (eb : Nat) (es : Array Value) : Prop where
  i : w'.heap[ib]? = some (.cells cs 23 (0, 0))
  e : w'.heap[eb]? = some (.cells es 25 (0, 0))
  k : Kept w w' (fun j => j = ib ∨ j = eb)
  n : ib ≠ eb
theorem Ie.setI {w w' : World} {ib eb : Nat} {cs es : Array Value} (h : Ie w w' ib cs eb es) (i : Nat) (v : Value) : Ie w (w'.setCell ⟨ib, i, none⟩ v) ib (cs.setIfInBounds i v) eb es :=
  ⟨heap_setCell_same w' ib i cs 23 v h.i, (Below.heap_setCell w' ⟨ib, i, none⟩ v eb (fun e => h.n e.symm)).trans h.e, h.k.trans (kset (P := fun j => j = ib ∨ j = eb) w' ib i v (.inl rfl)), h.n⟩
theorem Ie.setE {w w' : World} {ib eb : Nat} {cs es : Array Value} (h : Ie w w' ib cs eb es) (i : Nat) (v : Value) : Ie w (w'.setCell ⟨eb, i, none⟩ v) ib cs eb (es.setIfInBounds i v) :=
  ⟨(Below.heap_setCell w' ⟨eb, i, none⟩ v ib (fun e => h.n e)).trans h.i, heap_setCell_same w' eb i es 25 v h.e, h.k.trans (kset (P := fun j => j = ib ∨ j = eb) w' eb i v (.inr rfl)), h.n⟩
theorem Ie.cellI {w w' : World} {ib eb : Nat} {cs es : Array Value} (h : Ie w w' ib cs eb es) (i : Nat) : w'.cell? ⟨ib, i, none⟩ = cs[i]? := blk_cell h.i i
theorem Ie.cellE {w w' : World} {ib eb : Nat} {cs es : Array Value} (h : Ie w w' ib cs eb es) (i : Nat) : w'.cell? ⟨eb, i, none⟩ = es[i]? := blk_cell h.e i
theorem Ie.fzI {w w' : World} {ib eb : Nat} {cs es : Array Value} (h : Ie w w' ib cs eb es) (i : Nat) : w'.frozen? ⟨ib, i, none⟩ = false := frozen_of_row w' ib i cs 23 h.i
theorem Ie.fzE {w w' : World} {ib eb : Nat} {cs es : Array Value} (h : Ie w w' ib cs eb es) (i : Nat) : w'.frozen? ⟨eb, i, none⟩ = false := frozen_of_row w' eb i es 25 h.e
theorem Ie.call {w w' w'' : World} {ib eb rb : Nat} {cs es : Array Value} (h : Ie w w' ib cs eb es) (hk : Kept w' w'' (fun j => j = rb)) (hr : w.heap.size ≤ rb) (n1 : rb ≠ ib) (n2 : rb ≠ eb) : Ie w w'' ib cs eb es :=
  ⟨(hk.block ib (lt_heap h.i) (fun e => n1 e.symm)).trans h.i, (hk.block eb (lt_heap h.e) (fun e => n2 e.symm)).trans h.e, ⟨hk.os.trans h.k.os, hk.tape.trans h.k.tape, hk.output.trans h.k.output, Nat.le_trans h.k.size hk.size, fun j hj hq => (hk.block j (Nat.lt_of_lt_of_le hj h.k.size) (fun e => by omega)).trans (h.k.block j hj hq)⟩, h.n⟩
theorem Ie.still {w w' w'' : World} {ib eb : Nat} {cs es : Array Value} (h : Ie w w' ib cs eb es) (hb : Below w'.heap.size w' w'') : Ie w w'' ib cs eb es :=
  ⟨(hb.block ib (lt_heap h.i)).trans h.i, (hb.block eb (lt_heap h.e)).trans h.e, h.k.trans (Kept.ofBelow hb _), h.n⟩
theorem Ie.below {w w' : World} {ib eb : Nat} {cs es : Array Value} (h : Ie w w' ib cs eb es) (h1 : w.heap.size ≤ ib) (h2 : w.heap.size ≤ eb) : Below w.heap.size w w' :=
  h.k.below (Nat.le_refl _) (fun j hj e => by omega)
theorem alloc2 (w : World) (o : Obj) (cs : Array Value) (t : TypeId) : ((w.alloc o).alloc (.cells cs t)).heap[w.heap.size + 1]? = some (.cells cs t (0, 0)) := by
  have h := heap_alloc_new (w.alloc o) (.cells cs t)
  have e : (w.alloc o).heap.size = w.heap.size + 1 := by simp
  rw [e] at h
  exact h
theorem Ie.new (w : World) (cs es : Array Value) : Ie w ((w.alloc (.cells cs 23)).alloc (.cells es 25)) w.heap.size cs (w.heap.size + 1) es :=
  ⟨blk_alloc (heap_alloc_new w _), alloc2 w _ es _, Kept.ofBelow (balloc (balloc (Below.refl _ _))) _, by omega⟩

theorem catch_idle (p q : Addr) (w : World) :
    CallsD Tryz.prog 22 #[.pointer (some p), .pointer (some q)] .returning w fun e u' w' => e = .returned (.tuple #[]) ∧ u' = .returning ∧ w' = w := by
  refine callsD_of_wpS Tryz.func22 rfl fun c₀ cs hu => ?_
  apply wpS_seq
  apply wpS_region
  simp [wpOpsS, go_sem, recoverD, hu, Tryz.ntmps22, Exit.thenS]
  refine wpS_of_wp ?_
  have hc : c₀ = { c₀ with mode := .returning } := by rw [← hu]
  have HC : Hid (c₀ = { c₀ with mode := .returning }) := hc
  clear hc hu
  simp only [Array.replicate_succ, Array.replicate_zero, List.push_toArray, List.nil_append, List.cons_append, Array.setIfInBounds, List.size_toArray, List.length_cons, List.length_nil, Nat.reduceAdd, List.set_toArray]
  go_wp2_with fail
  exact ⟨rfl, .returning, congrArg (fun c => c :: cs) HC.out, .tuple #[], (by simp [results, Tryz.results22]), rfl, rfl, rfl⟩

set_option maxHeartbeats 1000000 in
theorem catch_panicking (ib eb : Nat) (v0 v1 v2 v3 v4 v5 v6 ve : Value) (x : Int) (older : List PanicEntry) (w : World) (hi : w.heap[ib]? = some (.cells #[v0, v1, v2, v3, v4, v5, v6] 23 (0, 0))) (he : w.heap[eb]? = some (.cells #[ve] 25 (0, 0))) (hne : ib ≠ eb) :
    CallsD Tryz.prog 22 #[.pointer (some ⟨ib, 0, none⟩), .pointer (some ⟨eb, 0, none⟩)] (.panicking ({ v := .iface 25 (.int .i64 x), recovered := false } :: older)) w fun e u' w' =>
      e = .returned (.tuple #[]) ∧ u' = .panicking ({ v := .iface 25 (.int .i64 x), recovered := true } :: older) ∧ w'.heap[ib]? = some (.cells #[.int .i64 0, .int .i64 0, .int .i64 0, .int .i64 0, .string ⟨#[]⟩, .string ⟨#[]⟩, .string ⟨#[]⟩] 23 (0, 0)) ∧ w'.heap[eb]? = some (.cells #[.int .i64 130] 25 (0, 0)) ∧ Kept w w' (fun j => j = ib ∨ j = eb) := by
  refine callsD_of_wpS Tryz.func22 rfl fun c₀ cs hu => ?_
  apply wpS_seq
  apply wpS_region
  simp [wpOpsS, go_sem, recoverD, hu, Tryz.ntmps22, Exit.thenS]
  refine wpS_of_wp ?_
  have B0 : Hid (Ie w w ib #[v0, v1, v2, v3, v4, v5, v6] eb #[ve]) := ⟨hi, he, Kept.refl _ _, hne⟩
  clear hi he hu
  simp only [Array.replicate_succ, Array.replicate_zero, List.push_toArray, List.nil_append, List.cons_append, Array.setIfInBounds, List.size_toArray, List.length_cons, List.length_nil, Nat.reduceAdd, List.set_toArray]
  go_upto_region 1 with (fail)
  have f0 := B0.out.fzI 0
  have q0 : w.cell? ⟨ib, 0, none⟩ = some v0 := B0.out.cellI 0
  obtain ⟨W1, hW1⟩ : ∃ X, w.setCell ⟨ib, 0, none⟩ (.int .i64 0) = X := ⟨_, rfl⟩
  have B1 : Hid (Ie w W1 ib #[.int .i64 0, v1, v2, v3, v4, v5, v6] eb #[ve]) := by rw [← hW1]; exact B0.out.setI 0 (.int .i64 0)
  have f1 := B1.out.fzI 1
  have q1 : W1.cell? ⟨ib, 1, none⟩ = some v1 := B1.out.cellI 1
  obtain ⟨W2, hW2⟩ : ∃ X, W1.setCell ⟨ib, 1, none⟩ (.int .i64 0) = X := ⟨_, rfl⟩
  have B2 : Hid (Ie w W2 ib #[.int .i64 0, .int .i64 0, v2, v3, v4, v5, v6] eb #[ve]) := by rw [← hW2]; exact B1.out.setI 1 (.int .i64 0)
  have f2 := B2.out.fzI 2
  have q2 : W2.cell? ⟨ib, 2, none⟩ = some v2 := B2.out.cellI 2
  obtain ⟨W3, hW3⟩ : ∃ X, W2.setCell ⟨ib, 2, none⟩ (.int .i64 0) = X := ⟨_, rfl⟩
  have B3 : Hid (Ie w W3 ib #[.int .i64 0, .int .i64 0, .int .i64 0, v3, v4, v5, v6] eb #[ve]) := by rw [← hW3]; exact B2.out.setI 2 (.int .i64 0)
  have f3 := B3.out.fzI 3
  have q3 : W3.cell? ⟨ib, 3, none⟩ = some v3 := B3.out.cellI 3
  obtain ⟨W4, hW4⟩ : ∃ X, W3.setCell ⟨ib, 3, none⟩ (.int .i64 0) = X := ⟨_, rfl⟩
  have B4 : Hid (Ie w W4 ib #[.int .i64 0, .int .i64 0, .int .i64 0, .int .i64 0, v4, v5, v6] eb #[ve]) := by rw [← hW4]; exact B3.out.setI 3 (.int .i64 0)
  have f4 := B4.out.fzI 4
  have q4 : W4.cell? ⟨ib, 4, none⟩ = some v4 := B4.out.cellI 4
  obtain ⟨W5, hW5⟩ : ∃ X, W4.setCell ⟨ib, 4, none⟩ (.string ⟨#[]⟩) = X := ⟨_, rfl⟩
  have B5 : Hid (Ie w W5 ib #[.int .i64 0, .int .i64 0, .int .i64 0, .int .i64 0, .string ⟨#[]⟩, v5, v6] eb #[ve]) := by rw [← hW5]; exact B4.out.setI 4 (.string ⟨#[]⟩)
  have f5 := B5.out.fzI 5
  have q5 : W5.cell? ⟨ib, 5, none⟩ = some v5 := B5.out.cellI 5
  obtain ⟨W6, hW6⟩ : ∃ X, W5.setCell ⟨ib, 5, none⟩ (.string ⟨#[]⟩) = X := ⟨_, rfl⟩
  have B6 : Hid (Ie w W6 ib #[.int .i64 0, .int .i64 0, .int .i64 0, .int .i64 0, .string ⟨#[]⟩, .string ⟨#[]⟩, v6] eb #[ve]) := by rw [← hW6]; exact B5.out.setI 5 (.string ⟨#[]⟩)
  have f6 := B6.out.fzI 6
  have q6 : W6.cell? ⟨ib, 6, none⟩ = some v6 := B6.out.cellI 6
  obtain ⟨W7, hW7⟩ : ∃ X, W6.setCell ⟨ib, 6, none⟩ (.string ⟨#[]⟩) = X := ⟨_, rfl⟩
  have B7 : Hid (Ie w W7 ib #[.int .i64 0, .int .i64 0, .int .i64 0, .int .i64 0, .string ⟨#[]⟩, .string ⟨#[]⟩, .string ⟨#[]⟩] eb #[ve]) := by rw [← hW7]; exact B6.out.setI 6 (.string ⟨#[]⟩)
  have f7 := B7.out.fzE 0
  have q7 : W7.cell? ⟨eb, 0, none⟩ = some ve := B7.out.cellE 0
  obtain ⟨W8, hW8⟩ : ∃ X, W7.setCell ⟨eb, 0, none⟩ (.int .i64 130) = X := ⟨_, rfl⟩
  have FF : Hid (Ie w W8 ib #[.int .i64 0, .int .i64 0, .int .i64 0, .int .i64 0, .string ⟨#[]⟩, .string ⟨#[]⟩, .string ⟨#[]⟩] eb #[.int .i64 130]) := by rw [← hW8]; exact B7.out.setE 0 (.int .i64 130)
  clear B0 B1 B2 B3 B4 B5 B6 B7
  go_wp2_with fail
  exact ⟨rfl, _, rfl, .tuple #[], (by simp [results, Tryz.results22]), rfl, rfl, FF.out.i, FF.out.e, FF.out.k⟩
end Go.Proofs.YtjgjpepmfiklfaaGreatDoor.Mx
