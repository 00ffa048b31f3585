import Derived.Test.YtbjpbcanmpimnabRdr3
import Derived.Defers
import Derived.Recover
import Derived.Laws.Pointers
namespace Go.Proofs.Ytbjpbcanmpimnab.Lo
open Go.RowKit Bk
set_option linter.unusedVariables false

theorem as_errno (v : Value) (w : World) : (Instr.typeAssert (.iface 30 v) 20 30 true).run Try.prog w = .ok (.tuple #[v, .bool true]) w := by kernel_rfl

set_option maxRecDepth 100000 in
theorem reason_errno (x : Int) (w : World) : Calls Try.prog 34 #[.iface 30 (.int .i64 x)] w fun e w' => e = .returned (.int .i64 x) ∧ w = w' := by
  go_enter Try.func34, Try.ntmps34
  have has := as_errno
  go_wp2_with fail
  go_ret
  exact ⟨rfl, rfl⟩

theorem wrap64_small {k : Int} (h1 : -9223372036854775808 ≤ k) (h2 : k ≤ 9223372036854775807) : wrap64 k = k := by
  unfold wrap64
  omega

theorem open_long (ao : Option Addr) (n c : Nat) (w : World) (h : 300 < n) : Calls Try.prog 35 #[.slice ao n c] w fun e w' => e = boom 17 ∧ Below w.heap.size w w' := by
  have h' : (300 : Int) < (n : Int) := by omega
  go_enter Try.func35, Try.ntmps35
  go_wp2_with fail
  exact ⟨rfl, rfl, Below.refl _ _⟩

theorem open_short (ao : Option Addr) (c : Nat) (w : World) : Calls Try.prog 35 #[.slice ao 0 c] w fun e w' => e = boom 10 ∧ Below w.heap.size w w' := by
  go_enter Try.func35, Try.ntmps35
  go_wp2_with fail
  exact ⟨rfl, rfl, Below.refl _ _⟩

theorem open_kind (ao : Option Addr) (n c : Nat) (bs : List Int) (w : World) (hr : Rd w ao n c bs) (h0 : n ≠ 0) (h1 : n ≤ 300) (hk : inR (bs.getD 0 0) 1 2 = false) : Calls Try.prog 35 #[.slice ao n c] w fun e w' => e = boom 12 ∧ Below w.heap.size w w' := by
  obtain ⟨b, off, rfl, hc⟩ : ∃ b off, ao = some ⟨b, off, none⟩ ∧ w.cell? ⟨b, off, none⟩ = some (.int .u8 (bs.getD 0 0)) := by
    rcases hr.2.2.1 with h | ⟨b, off, rfl, hc⟩
    · omega
    · exact ⟨b, off, rfl, hc 0 (by omega)⟩
  have h1' : ¬ (300 : Int) < (n : Int) := by omega
  have h0' : ¬ (n : Int) = 0 := by omega
  have hp : 0 < n := by omega
  have hk0 := hr.2.2.2 0
  generalize bs.getD 0 0 = k at *
  have hwk : wrap64 k = k := wrap64_small (by omega) (by omega)
  clear hr hk0
  go_enter Try.func35, Try.ntmps35
  go_wp2_with (first | (go_at_call 64; refine (within_any _ _ _ _).mono ?_; rintro e w' ⟨rfl, rfl⟩) | fail)
  go_wp2_with fail
  exact ⟨rfl, rfl, Below.refl _ _⟩

theorem open_ok (ao : Option Addr) (n c : Nat) (bs : List Int) (w : World) (hr : Rd w ao n c bs) (h0 : n ≠ 0) (h1 : n ≤ 300) (hk : inR (bs.getD 0 0) 1 2 = true) : Calls Try.prog 35 #[.slice ao n c] w fun e w' => e = .returned (.pointer (some ⟨w.heap.size, 0, none⟩)) ∧ Rb w' w.heap.size ao n c 1 ∧ Below w.heap.size w w' := by
  obtain ⟨b, off, rfl, hc⟩ : ∃ b off, ao = some ⟨b, off, none⟩ ∧ w.cell? ⟨b, off, none⟩ = some (.int .u8 (bs.getD 0 0)) := by
    rcases hr.2.2.1 with h | ⟨b, off, rfl, hc⟩
    · omega
    · exact ⟨b, off, rfl, hc 0 (by omega)⟩
  have h1' : ¬ (300 : Int) < (n : Int) := by omega
  have h0' : ¬ (n : Int) = 0 := by omega
  have hp : 0 < n := by omega
  have hk0 := hr.2.2.2 0
  generalize bs.getD 0 0 = k at *
  have hwk : wrap64 k = k := wrap64_small (by omega) (by omega)
  clear hr hk0
  go_enter Try.func35, Try.ntmps35
  go_wp2_with (first | (go_at_call 64; refine (within_any _ _ _ _).mono ?_; rintro e w' ⟨rfl, rfl⟩) | fail)
  go_ret
  exact ⟨rfl, heap_alloc_new w _, balloc (Below.refl _ _)⟩

theorem kset {P : Nat → Prop} (w : World) (k i : Nat) (v : Value) (hp : P k) : Kept w (w.setCell ⟨k, i, none⟩ v) P :=
  ⟨rfl, rfl, rfl, by simp, fun j hj hq => Below.heap_setCell w ⟨k, i, none⟩ v j (fun e => hq (by have e' : j = k := e; rw [e']; exact hp))⟩

structure Ie (w w' : World) (ib : Nat) (cs : Array Value) (eb : Nat) (es : Array Value) : Prop where
  i : w'.heap[ib]? = some (.cells cs 28 (0, 0))
  e : w'.heap[eb]? = some (.cells es 30 (0, 0))
  k : Kept w w' (fun j => j = ib ∨ j = eb)
  n : ib ≠ eb

theorem Ie.setI {w w' : World} {ib eb : Nat} {cs es : Array Value} (h : Ie w w' ib cs eb es) (i : Nat) (v : Value) : Ie w (w'.setCell ⟨ib, i, none⟩ v) ib (cs.setIfInBounds i v) eb es :=
  ⟨heap_setCell_same w' ib i cs 28 v h.i, (Below.heap_setCell w' ⟨ib, i, none⟩ v eb (fun e => h.n e.symm)).trans h.e, h.k.trans (kset w' ib i v (.inl rfl)), h.n⟩
theorem Ie.setE {w w' : World} {ib eb : Nat} {cs es : Array Value} (h : Ie w w' ib cs eb es) (i : Nat) (v : Value) : Ie w (w'.setCell ⟨eb, i, none⟩ v) ib cs eb (es.setIfInBounds i v) :=
  ⟨(Below.heap_setCell w' ⟨eb, i, none⟩ v ib (fun e => h.n e)).trans h.i, heap_setCell_same w' eb i es 30 v h.e, h.k.trans (kset w' eb i v (.inr rfl)), h.n⟩
theorem Ie.cellI {w w' : World} {ib eb : Nat} {cs es : Array Value} (h : Ie w w' ib cs eb es) (i : Nat) : w'.cell? ⟨ib, i, none⟩ = cs[i]? := blk_cell h.i i
theorem Ie.cellE {w w' : World} {ib eb : Nat} {cs es : Array Value} (h : Ie w w' ib cs eb es) (i : Nat) : w'.cell? ⟨eb, i, none⟩ = es[i]? := blk_cell h.e i
theorem Ie.fzI {w w' : World} {ib eb : Nat} {cs es : Array Value} (h : Ie w w' ib cs eb es) (i : Nat) : w'.frozen? ⟨ib, i, none⟩ = false := frozen_of_row w' ib i cs 28 h.i
theorem Ie.fzE {w w' : World} {ib eb : Nat} {cs es : Array Value} (h : Ie w w' ib cs eb es) (i : Nat) : w'.frozen? ⟨eb, i, none⟩ = false := frozen_of_row w' eb i es 30 h.e

set_option maxRecDepth 100000 in
theorem catch_idle (p q : Addr) (w : World) :
    CallsD Try.prog 33 #[.pointer (some p), .pointer (some q)] .returning w fun e u' w' => e = .returned (.tuple #[]) ∧ u' = .returning ∧ w' = w := by
  refine callsD_of_wpS Try.func33 rfl fun c₀ cs hu => ?_
  apply wpS_seq
  apply wpS_region
  simp [wpOpsS, go_sem, recoverD, hu, Try.ntmps33, Exit.thenS]
  refine wpS_of_wp ?_
  have hc : c₀ = { c₀ with mode := .returning } := by rw [← hu]
  have HC : Hid (c₀ = { c₀ with mode := .returning }) := hc
  clear hc hu
  simp only [Array.replicate_succ, Array.replicate_zero, List.push_toArray, List.nil_append, List.cons_append, Array.setIfInBounds, List.size_toArray, List.length_cons, List.length_nil, Nat.reduceAdd, List.set_toArray]
  go_wp2_with fail
  exact ⟨rfl, .returning, congrArg (fun c => c :: cs) HC.out, .tuple #[], (by simp [results, Try.results33]), rfl, rfl, rfl⟩

set_option maxRecDepth 100000 in
set_option maxHeartbeats 4000000 in
theorem catch_panicking (ib eb : Nat) (v0 v1 v2 v3 v4 v5 v6 v7 v8 ve : Value) (x : Int) (older : List PanicEntry) (w : World) (hi : w.heap[ib]? = some (.cells #[v0, v1, v2, v3, v4, v5, v6, v7, v8] 28 (0, 0))) (he : w.heap[eb]? = some (.cells #[ve] 30 (0, 0))) (hne : ib ≠ eb) :
    CallsD Try.prog 33 #[.pointer (some ⟨ib, 0, none⟩), .pointer (some ⟨eb, 0, none⟩)] (.panicking ({ v := .iface 30 (.int .i64 x), recovered := false } :: older)) w fun e u' w' =>
      e = .returned (.tuple #[]) ∧ u' = .panicking ({ v := .iface 30 (.int .i64 x), recovered := true } :: older) ∧ w'.heap[ib]? = some (.cells #[.int .i64 0, .int .i64 0, .int .i64 0, .int .i64 0, .slice none 0 0, .int .i64 0, .int .i64 0, .int .i64 0, .int .i64 0] 28 (0, 0)) ∧ w'.heap[eb]? = some (.cells #[.int .i64 x] 30 (0, 0)) ∧ Kept w w' (fun j => j = ib ∨ j = eb) := by
  refine callsD_of_wpS Try.func33 rfl fun c₀ cs hu => ?_
  apply wpS_seq
  apply wpS_region
  simp [wpOpsS, go_sem, recoverD, hu, Try.ntmps33, Exit.thenS]
  refine wpS_of_wp ?_
  have B0 : Hid (Ie w w ib #[v0, v1, v2, v3, v4, v5, v6, v7, v8] eb #[ve]) := ⟨hi, he, Kept.refl _ _, hne⟩
  clear hi he hu
  simp only [Array.replicate_succ, Array.replicate_zero, List.push_toArray, List.nil_append, List.cons_append, Array.setIfInBounds, List.size_toArray, List.length_cons, List.length_nil, Nat.reduceAdd, List.set_toArray]
  go_wp2_with fail
  refine (reason_errno x w).mono ?_
  rintro e w' ⟨rfl, rfl⟩
  have f0 := B0.out.fzI 0
  have q0 := fun i => B0.out.cellI i
  have B1 : Hid (Ie w (w.setCell ⟨ib, 0, none⟩ (.int .i64 0)) ib #[.int .i64 0, v1, v2, v3, v4, v5, v6, v7, v8] eb #[ve]) := B0.out.setI 0 (.int .i64 0)
  have f1 := B1.out.fzI 1
  have q1 := fun i => B1.out.cellI i
  have B2 : Hid (Ie w ((w.setCell ⟨ib, 0, none⟩ (.int .i64 0)).setCell ⟨ib, 1, none⟩ (.int .i64 0)) ib #[.int .i64 0, .int .i64 0, v2, v3, v4, v5, v6, v7, v8] eb #[ve]) := B1.out.setI 1 (.int .i64 0)
  have f2 := B2.out.fzI 2
  have q2 := fun i => B2.out.cellI i
  have B3 : Hid (Ie w (((w.setCell ⟨ib, 0, none⟩ (.int .i64 0)).setCell ⟨ib, 1, none⟩ (.int .i64 0)).setCell ⟨ib, 2, none⟩ (.int .i64 0)) ib #[.int .i64 0, .int .i64 0, .int .i64 0, v3, v4, v5, v6, v7, v8] eb #[ve]) := B2.out.setI 2 (.int .i64 0)
  have f3 := B3.out.fzI 3
  have q3 := fun i => B3.out.cellI i
  have B4 : Hid (Ie w ((((w.setCell ⟨ib, 0, none⟩ (.int .i64 0)).setCell ⟨ib, 1, none⟩ (.int .i64 0)).setCell ⟨ib, 2, none⟩ (.int .i64 0)).setCell ⟨ib, 3, none⟩ (.int .i64 0)) ib #[.int .i64 0, .int .i64 0, .int .i64 0, .int .i64 0, v4, v5, v6, v7, v8] eb #[ve]) := B3.out.setI 3 (.int .i64 0)
  have f4 := B4.out.fzI 4
  have q4 := fun i => B4.out.cellI i
  have B5 : Hid (Ie w (((((w.setCell ⟨ib, 0, none⟩ (.int .i64 0)).setCell ⟨ib, 1, none⟩ (.int .i64 0)).setCell ⟨ib, 2, none⟩ (.int .i64 0)).setCell ⟨ib, 3, none⟩ (.int .i64 0)).setCell ⟨ib, 4, none⟩ (.slice none 0 0)) ib #[.int .i64 0, .int .i64 0, .int .i64 0, .int .i64 0, .slice none 0 0, v5, v6, v7, v8] eb #[ve]) := B4.out.setI 4 (.slice none 0 0)
  have f5 := B5.out.fzI 5
  have q5 := fun i => B5.out.cellI i
  have B6 : Hid (Ie w ((((((w.setCell ⟨ib, 0, none⟩ (.int .i64 0)).setCell ⟨ib, 1, none⟩ (.int .i64 0)).setCell ⟨ib, 2, none⟩ (.int .i64 0)).setCell ⟨ib, 3, none⟩ (.int .i64 0)).setCell ⟨ib, 4, none⟩ (.slice none 0 0)).setCell ⟨ib, 5, none⟩ (.int .i64 0)) ib #[.int .i64 0, .int .i64 0, .int .i64 0, .int .i64 0, .slice none 0 0, .int .i64 0, v6, v7, v8] eb #[ve]) := B5.out.setI 5 (.int .i64 0)
  have f6 := B6.out.fzI 6
  have q6 := fun i => B6.out.cellI i
  have B7 : Hid (Ie w (((((((w.setCell ⟨ib, 0, none⟩ (.int .i64 0)).setCell ⟨ib, 1, none⟩ (.int .i64 0)).setCell ⟨ib, 2, none⟩ (.int .i64 0)).setCell ⟨ib, 3, none⟩ (.int .i64 0)).setCell ⟨ib, 4, none⟩ (.slice none 0 0)).setCell ⟨ib, 5, none⟩ (.int .i64 0)).setCell ⟨ib, 6, none⟩ (.int .i64 0)) ib #[.int .i64 0, .int .i64 0, .int .i64 0, .int .i64 0, .slice none 0 0, .int .i64 0, .int .i64 0, v7, v8] eb #[ve]) := B6.out.setI 6 (.int .i64 0)
  have f7 := B7.out.fzI 7
  have q7 := fun i => B7.out.cellI i
  have B8 : Hid (Ie w ((((((((w.setCell ⟨ib, 0, none⟩ (.int .i64 0)).setCell ⟨ib, 1, none⟩ (.int .i64 0)).setCell ⟨ib, 2, none⟩ (.int .i64 0)).setCell ⟨ib, 3, none⟩ (.int .i64 0)).setCell ⟨ib, 4, none⟩ (.slice none 0 0)).setCell ⟨ib, 5, none⟩ (.int .i64 0)).setCell ⟨ib, 6, none⟩ (.int .i64 0)).setCell ⟨ib, 7, none⟩ (.int .i64 0)) ib #[.int .i64 0, .int .i64 0, .int .i64 0, .int .i64 0, .slice none 0 0, .int .i64 0, .int .i64 0, .int .i64 0, v8] eb #[ve]) := B7.out.setI 7 (.int .i64 0)
  have f8 := B8.out.fzI 8
  have q8 := fun i => B8.out.cellI i
  have B9 : Hid (Ie w (((((((((w.setCell ⟨ib, 0, none⟩ (.int .i64 0)).setCell ⟨ib, 1, none⟩ (.int .i64 0)).setCell ⟨ib, 2, none⟩ (.int .i64 0)).setCell ⟨ib, 3, none⟩ (.int .i64 0)).setCell ⟨ib, 4, none⟩ (.slice none 0 0)).setCell ⟨ib, 5, none⟩ (.int .i64 0)).setCell ⟨ib, 6, none⟩ (.int .i64 0)).setCell ⟨ib, 7, none⟩ (.int .i64 0)).setCell ⟨ib, 8, none⟩ (.int .i64 0)) ib #[.int .i64 0, .int .i64 0, .int .i64 0, .int .i64 0, .slice none 0 0, .int .i64 0, .int .i64 0, .int .i64 0, .int .i64 0] eb #[ve]) := B8.out.setI 8 (.int .i64 0)
  have f9 := B9.out.fzE 0
  have q9 := fun i => B9.out.cellE i
  have FF : Hid (Ie w ((((((((((w.setCell ⟨ib, 0, none⟩ (.int .i64 0)).setCell ⟨ib, 1, none⟩ (.int .i64 0)).setCell ⟨ib, 2, none⟩ (.int .i64 0)).setCell ⟨ib, 3, none⟩ (.int .i64 0)).setCell ⟨ib, 4, none⟩ (.slice none 0 0)).setCell ⟨ib, 5, none⟩ (.int .i64 0)).setCell ⟨ib, 6, none⟩ (.int .i64 0)).setCell ⟨ib, 7, none⟩ (.int .i64 0)).setCell ⟨ib, 8, none⟩ (.int .i64 0)).setCell ⟨eb, 0, none⟩ (.int .i64 x)) ib #[.int .i64 0, .int .i64 0, .int .i64 0, .int .i64 0, .slice none 0 0, .int .i64 0, .int .i64 0, .int .i64 0, .int .i64 0] eb #[.int .i64 x]) := B9.out.setE 0 (.int .i64 x)
  go_wp2_with fail
  exact ⟨rfl, _, rfl, .tuple #[], (by simp [results, Try.results33]), rfl, rfl, FF.out.i, FF.out.e, FF.out.k⟩

end Go.Proofs.Ytbjpbcanmpimnab.Lo
