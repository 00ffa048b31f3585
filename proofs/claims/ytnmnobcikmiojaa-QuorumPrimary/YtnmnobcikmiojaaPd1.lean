import Derived.Test.YtnmnobcikmiojaaPc1
namespace Go.Proofs.Ytnmnobcikmiojaa.Qm
open Go.RowKit Mb
set_option linter.unusedVariables false
set_option maxRecDepth 100000
set_option linter.unusedSimpArgs false
section
variable {w w' : World} {B : Nat} {A : Wa}
def w0 (b : Nat) (v : List Nat) : Wa := ⟨b, v, 0, false, 0, 0, 0, 0, 0, 0⟩
theorem list19 {l : List Int} (h : l.length = 19) : ∃ x0 x1 x2 x3 x4 x5 x6 x7 x8 x9 x10 x11 x12 x13 x14 x15 x16 x17 x18, l = [x0, x1, x2, x3, x4, x5, x6, x7, x8, x9, x10, x11, x12, x13, x14, x15, x16, x17, x18] := by
  match l, h with
  | [x0, x1, x2, x3, x4, x5, x6, x7, x8, x9, x10, x11, x12, x13, x14, x15, x16, x17, x18], _ => exact ⟨x0, x1, x2, x3, x4, x5, x6, x7, x8, x9, x10, x11, x12, x13, x14, x15, x16, x17, x18, rfl⟩
theorem run_buildop {o : Oper} {ρ : Operand → Value} {w : World} (t : TypeId) (parts : Array (Nat × Operand)) (ho : o.op = .build t parts) (cells : Array Value) (h : Try.prog.built t (parts.map fun (i, x) => (i, ρ x)).toList = some cells) : (execOp ρ o).run Try.prog w = .ok (.value (.agg cells)) w := by
  unfold execOp
  simp only [ho, Sem.run_bind, run_build w t _ cells h, Result.andThen_ok, Sem.run_pure]
theorem build_step {ops : Array Oper} {rest : List Oper} {o : Oper} {a : Act} {w : World} {Q : Exit → Act → World → Prop} (t : TypeId) (parts : Array (Nat × Operand)) (ho : o.op = .build t parts) (cells : Array Value) (h : Try.prog.built t (parts.map fun (i, x) => (i, a.eval x)).toList = some cells) (hw : Region.wanted o (yielded ops a.tmps) = true) (hn : wpList Try.prog ops Q rest (a.put o.dst (.agg cells)) w) : wpList Try.prog ops Q (o :: rest) a w :=
  wpList_step fun K hK => by
    rw [if_pos hw]
    unfold Oper.wp
    rw [run_buildop t parts ho cells h]
    exact hK _ _ hn
set_option maxHeartbeats 4000000 in
theorem new_yes {ao : Option Addr} {n c : Nat} {xs : List Int} (hr : RdI w ao n c xs) (hok : okI xs = true) : Calls Try.prog 27 #[.slice ao n c] w fun e w' => ∃ b, e = .returned (.tuple #[.pointer (some ⟨b, 0, none⟩), .int .i64 0]) ∧ (w0 b (nv xs)).Ok w' ∧ w.heap.size ≤ b ∧ Below w.heap.size w w' := by
  have ho := okI_ok hok
  have HC := counted_any hr
  rw [hok] at HC
  obtain ⟨x0, x1, x2, x3, x4, x5, x6, x7, x8, x9, x10, x11, x12, x13, x14, x15, x16, x17, x18, hbl⟩ := list19 (bl_len (nv xs))
  have HC2 : Hid (Calls Try.prog 33 #[.slice ao n c] w fun e w' => e = .returned (.tuple #[.agg (ints [x0, x1, x2, x3, x4, x5, x6, x7, x8, x9, x10, x11, x12, x13, x14, x15, x16, x17, x18]).toArray, .bool true]) ∧ Below w.heap.size w w') := HC.mono fun e w' ⟨r, e1, e2, e3, e4⟩ => ⟨by rw [← hbl, ← e3 rfl]; exact e1, e4⟩
  have HOk : Hid (Ok (nv xs)) := ho
  have HBL : Hid (bl (nv xs) = [x0, x1, x2, x3, x4, x5, x6, x7, x8, x9, x10, x11, x12, x13, x14, x15, x16, x17, x18]) := hbl
  clear HC hr hok ho hbl
  go_enter Try.func27, Try.ntmps27
  go_wp2_with (first
    | (go_at_call 33; refine HC2.out.mono ?_; rintro e w1 ⟨rfl, hb1⟩; obtain ⟨A1, V, hA1, HA1, hV, HV, HBV⟩ := newbal w1 [x0, x1, x2, x3, x4, x5, x6, x7, x8, x9, x10, x11, x12, x13, x14, x15, x16, x17, x18] rfl)
    | (refine at_store 72 (.tmp 4) (.tmp 9) rfl ?_; refine store_mid 72 (.tmp 4) (.tmp 9) (xs := [x0, x1, x2, x3, x4, x5, x6, x7, x8, x9, x10, x11, x12, x13, x14, x15, x16, x17, x18]) HA1.out info_bal rfl rfl rfl rfl ?_; rw [hV]; have HBW : Hid (Below w.heap.size w V) := bstep hb1 HBV.out; have HRg : Hid (V.rangeAt w1.heap.size 0 (ints [x0, x1, x2, x3, x4, x5, x6, x7, x8, x9, x10, x11, x12, x13, x14, x15, x16, x17, x18])) := HV.out.all; clear hV HA1 hA1 hb1 HV HBV)
    | (refine at_load 72 (.tmp 4) rfl ?_; refine load_mid 72 (.tmp 4) HRg.out _ Try.underlying72 rfl info_bal rfl rfl rfl ?_)
    | (refine build_step 88 #[(0, .tmp 13)] rfl #[.int .i64 x0, .int .i64 x1, .int .i64 x2, .int .i64 x3, .int .i64 x4, .int .i64 x5, .int .i64 x6, .int .i64 x7, .int .i64 x8, .int .i64 x9, .int .i64 x10, .int .i64 x11, .int .i64 x12, .int .i64 x13, .int .i64 x14, .int .i64 x15, .int .i64 x16, .int .i64 x17, .int .i64 x18, .int .i64 0, .bool false, .int .i64 0, .int .i64 0, .int .i64 0, .int .i64 0, .int .i64 0, .int .i64 0] (by kernel_rfl) rfl ?_)
    | fail)
  (try simp only [Exit.inBlock, Exit.then])
  refine bodyPost_ret (results_tmp2 rfl _ _ _) rfl ?_
  refine ⟨V.heap.size, rfl, ⟨?_, HOk.out⟩, HBW.out.size, balloc HBW.out⟩
  have e : (w0 V.heap.size (nv xs)).cs = ([x0, x1, x2, x3, x4, x5, x6, x7, x8, x9, x10, x11, x12, x13, x14, x15, x16, x17, x18] : List Int).map (Value.int .i64) ++ [.int .i64 0, .bool false, .int .i64 0, .int .i64 0, .int .i64 0, .int .i64 0, .int .i64 0, .int .i64 0] := by
    show ints (bl (nv xs)) ++ _ = _
    rw [HBL.out]
    rfl
  rw [e]
  exact heap_alloc_new V _
end
end Go.Proofs.Ytnmnobcikmiojaa.Qm
