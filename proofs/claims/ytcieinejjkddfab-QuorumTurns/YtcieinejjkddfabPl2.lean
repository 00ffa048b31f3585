import Derived.Test.YtcieinejjkddfabPi2
namespace Go.Proofs.Ytcieinejjkddfab.Qm
open Go.RowKit Mb
set_option linter.unusedVariables false
set_option maxRecDepth 100000
set_option linter.unusedSimpArgs false
section
variable {w w' : World} {B : Nat} {R : Rq}
theorem fields_mb : (Try.prog.fieldsOf 115).toList.map (fun f => (f.name, f.type, f.offset)) = [("Pid", 3, 0), ("Inc", 3, 1), ("Cid", 3, 2)] := by kernel_rfl
theorem under_mb : Try.prog.underlying 115 = some (.struct (Try.prog.fieldsOf 115)) := by
  unfold Program.fieldsOf
  rw [Try.underlying115]
theorem stood_mb : Try.prog.stoodInHeld 115 = false := by kernel_rfl
theorem eq_mb (d : Nat) (xs ys : List Int) (hx : xs.length = 3) (hy : ys.length = 3) : (Op.equalIn (d + 2) 115 (.agg (ints xs).toArray) (.agg (ints ys).toArray)).run Try.prog w = .ok (decide (xs = ys)) w := by
  rw [run_equalIn_struct w (d + 1) 115 _ _ under_mb stood_mb, eqF_eq, fields_mb]
  simp only [eqF, ne_eq, reduceCtorEq, String.reduceEq, not_false_eq_true, if_true, Sem.run_bind, Sem.run_ite, Sem.run_pure, part_i xs 0 (by omega), part_i ys 0 (by omega), part_i xs 1 (by omega), part_i ys 1 (by omega), part_i xs 2 (by omega), part_i ys 2 (by omega), Result.andThen_ok, run_equalIn_int w d 3 .i64 .i64 _ _ Try.underlying3]
  have e : decide (xs = ys) = (xs.getD 0 0 == ys.getD 0 0 && xs.getD 1 0 == ys.getD 1 0 && xs.getD 2 0 == ys.getD 2 0) := by
    match xs, ys, hx, hy with
    | [a, b, c], [e, f, g], _, _ =>
      rw [Bool.eq_iff_iff]
      simp [and_assoc]
  rw [e]
  cases xs.getD 0 0 == ys.getD 0 0 <;> cases xs.getD 1 0 == ys.getD 1 0 <;> cases xs.getD 2 0 == ys.getD 2 0 <;> rfl
theorem neq_step {ops : Array Oper} {rest : List Oper} {o : Oper} {a : Act} {w : World} {Q : Exit → Act → World → Prop} (t : TypeId) (x y : Operand) (t' : TypeId) (ho : o.op = .binOp .neq t x y t') {xs ys : Array Value} {r : Bool} (h : (Op.equalIn 10000 t (.agg xs) (.agg ys)).run Try.prog w = .ok r w) (hg : Try.prog.eqGuardType Try.prog.depth t = false)
    (hx : a.eval x = .agg xs) (hy : a.eval y = .agg ys) (hw : Region.wanted o (yielded ops a.tmps) = true) (hn : wpList Try.prog ops Q rest (a.put o.dst (.bool (!r))) w) : wpList Try.prog ops Q (o :: rest) a w :=
  wpList_step fun K hK => by
    rw [if_pos hw]
    unfold Oper.wp
    rw [run_neqop t x y t' ho xs ys hx hy hg r h]
    exact hK _ _ hn
set_option maxHeartbeats 4000000 in
theorem sameView_yes {v : Vw} {m1 m2 : Option Addr} {n c d : Nat} (h1 : Rd3 w m1 n c v.ms) (h2 : Rd3 w m2 n d v.ms) (hn : n ≤ 17592186044416) : Calls Try.prog 70 #[.agg #[.int .i64 v.ep, .int .i64 v.ld, .int .i64 v.ic, .int .i64 v.cd, .slice m1 n c], .agg #[.int .i64 v.ep, .int .i64 v.ld, .int .i64 v.ic, .int .i64 v.cd, .slice m2 n d]] w fun e w' => e = .returned (.bool true) ∧ Below w.heap.size w w' := by
  generalize hW1 : w.alloc (.cells #[.int .i64 v.ep, .int .i64 v.ld, .int .i64 v.ic, .int .i64 v.cd, .slice m1 n c] 52) = W1
  generalize hW2 : W1.alloc (.cells #[.int .i64 v.ep, .int .i64 v.ld, .int .i64 v.ic, .int .i64 v.cd, .slice m2 n d] 52) = W2
  have b1 : Below w.heap.size w W1 := hW1 ▸ balloc (Below.refl _ _)
  have b2 : Below W1.heap.size W1 W2 := hW2 ▸ balloc (Below.refl _ _)
  have s1 : W1.heap.size = w.heap.size + 1 := by rw [← hW1]; simp
  have k1 : W1.heap[w.heap.size]? = some (.cells #[.int .i64 v.ep, .int .i64 v.ld, .int .i64 v.ic, .int .i64 v.cd, .slice m1 n c] 52 (0, 0)) := by rw [← hW1]; exact heap_alloc_new w _
  have k2 : W2.heap[W1.heap.size]? = some (.cells #[.int .i64 v.ep, .int .i64 v.ld, .int .i64 v.ic, .int .i64 v.cd, .slice m2 n d] 52 (0, 0)) := by rw [← hW2]; exact heap_alloc_new W1 _
  rw [s1] at k2
  have k1' : W2.heap[w.heap.size]? = some (.cells #[.int .i64 v.ep, .int .i64 v.ld, .int .i64 v.ic, .int .i64 v.cd, .slice m1 n c] 52 (0, 0)) := (b2.block _ (by omega)).trans k1
  have p4 : W2.cell? ⟨w.heap.size, 4, none⟩ = some (.slice m1 n c) := blk_cell k1' 4
  have q4 : W2.cell? ⟨w.heap.size + 1, 4, none⟩ = some (.slice m2 n d) := blk_cell k2 4
  have HI1 : Hid (W2.rangeAt w.heap.size 0 (ints v.id)) := fun j u hu => by
    rw [blk_cell k1', Nat.zero_add]
    match j, hu with
    | 0, hu => exact hu
    | 1, hu => exact hu
    | 2, hu => exact hu
    | 3, hu => exact hu
    | j + 4, hu => simp [ints, Vw.id] at hu
  have HI2 : Hid (W2.rangeAt (w.heap.size + 1) 0 (ints v.id)) := fun j u hu => by
    rw [blk_cell k2, Nat.zero_add]
    match j, hu with
    | 0, hu => exact hu
    | 1, hu => exact hu
    | 2, hu => exact hu
    | 3, hu => exact hu
    | j + 4, hu => simp [ints, Vw.id] at hu
  have HB : Hid (Below w.heap.size w W2) := bstep b1 b2
  have HR1 : Hid (Rd3 W2 m1 n c v.ms) := h1.still (bstep b1 b2)
  have HR2 : Hid (Rd3 W2 m2 n d v.ms) := h2.still (bstep b1 b2)
  clear h1 h2 b1 b2 k1 k1' k2
  go_enter Try.func70, Try.ntmps70
  go_wp2_with (first
    | (refine at_load 49 (.tmp 6) rfl ?_; refine load_mid 49 (.tmp 6) HI1.out _ Try.underlying49 rfl info_vid rfl rfl rfl ?_)
    | (refine at_load 49 (.tmp 8) rfl ?_; refine load_mid 49 (.tmp 8) HI2.out _ Try.underlying49 rfl info_vid rfl rfl rfl ?_)
    | (refine neq_step 49 (.tmp 7) (.tmp 9) 49 rfl (eq_vid 9998 v.id v.id rfl rfl) (by kernel_rfl) rfl rfl rfl ?_; rw [decide_eq_true rfl, Bool.not_true])
    | fail)
  clear s1
  go_loopw [5] (fun i wr => ∃ k : Nat, k ≤ n ∧ i = .int .i64 (k : Int) ∧ Hid (Below W2.heap.size W2 wr)) (fun i _ => n - (intOf i).toNat)
  case atStart => exact ⟨0, Nat.zero_le _, rfl, Below.refl _ _⟩
  case round =>
    obtain ⟨k, hk, rfl, HBk⟩ := hrel
    replace p4 := below_at HBk.out p4
    replace q4 := below_at HBk.out q4
    by_cases hlt : k < n
    · obtain ⟨b1, o1, g1, r1⟩ := (HR1.out.still HBk.out).at hlt
      obtain ⟨b2, o2, g2, r2⟩ := (HR2.out.still HBk.out).at hlt
      have i1 : (0 : Int) ≤ (k : Int) := Int.natCast_nonneg _
      have i2 : (k : Int) < (n : Int) := by omega
      rw [g1] at p4
      rw [g2] at q4
      generalize v.ms.getD k z3 = x at *
      have H1 : Hid (wr.rangeAt b1 (o1 + k * 3) (ints x.li)) := r1
      have H2 : Hid (wr.rangeAt b2 (o2 + k * 3) (ints x.li)) := r2
      clear g1 g2 r1 r2
      go_wp2
      refine wp_region_held_drew (S := (fun w' => w'.cell? ⟨w.heap.size, 4, none⟩ = some (.slice (some ⟨b1, o1, none⟩) n c) ∧ w'.cell? ⟨w.heap.size + 1, 4, none⟩ = some (.slice (some ⟨b2, o2, none⟩) n d) ∧ w'.rangeAt b1 (o1 + k * 3) (ints x.li) ∧ w'.rangeAt b2 (o2 + k * 3) (ints x.li))) (by kernel_rfl) ⟨below_at (Below.refl _ _).drew p4, below_at (Below.refl _ _).drew q4, below_range (Below.refl _ _).drew H1.out, below_range (Below.refl _ _).drew H2.out⟩ (fun hHeld => ?_)
      simp only [Act.put, List.size_toArray, List.length_cons, List.length_nil, Nat.zero_add]
      refine wpAnyH_take (i := 0) (v := .pointer (some ⟨w.heap.size, 4, none⟩)) rfl (by kernel_rfl) (by kernel_rfl) (by kernel_rfl) (fun _ _ _ h => h) (Or.inl ⟨by rfl, fun w' hS => by go_simp⟩) hHeld ?_
      simp only [Act.put, List.getElem_toArray, List.getElem_cons_zero, List.getElem_cons_succ, List.setIfInBounds_toArray, List.set_cons_zero, List.set_cons_succ]
      refine wpAnyH_take (i := 1) (v := .slice (some ⟨b1, o1, none⟩) n c) rfl (by kernel_rfl) (by kernel_rfl) (by kernel_rfl) (fun _ _ _ h => h) (Or.inl ⟨by rfl, fun w' hS => by (obtain ⟨s0, s1, s2, s3⟩ := hS; go_simp)⟩) hHeld ?_
      simp only [Act.put, List.getElem_toArray, List.getElem_cons_zero, List.getElem_cons_succ, List.setIfInBounds_toArray, List.set_cons_zero, List.set_cons_succ]
      refine wpAnyH_take (i := 2) (v := .int .i64 (k : Int)) rfl (by kernel_rfl) (by kernel_rfl) (by kernel_rfl) (fun _ _ _ h => h) (Or.inl ⟨by rfl, fun w' hS => by go_simp⟩) hHeld ?_
      simp only [Act.put, List.getElem_toArray, List.getElem_cons_zero, List.getElem_cons_succ, List.setIfInBounds_toArray, List.set_cons_zero, List.set_cons_succ]
      refine wpAnyH_take (i := 3) (v := .pointer (some ⟨b1, o1 + k * 3, none⟩)) rfl (by kernel_rfl) (by kernel_rfl) (by kernel_rfl) (fun _ _ _ h => h) (Or.inl ⟨by rfl, fun w' hS => by go_simp⟩) hHeld ?_
      simp only [Act.put, List.getElem_toArray, List.getElem_cons_zero, List.getElem_cons_succ, List.setIfInBounds_toArray, List.set_cons_zero, List.set_cons_succ]
      refine wpAnyH_take (i := 4) (v := .agg (ints x.li).toArray) rfl (by kernel_rfl) (by kernel_rfl) (by kernel_rfl) (fun _ _ _ h => h) (yieldsIf_load_mid (by rfl) 115 (.tmp 30) rfl b1 (o1 + k * 3) (by rfl) (ints x.li) _ (fun w' hS => hS.2.2.1) Try.underlying115 rfl (by rw [ints_len, St.li_len]; exact info_mb)) hHeld ?_
      simp only [Act.put, List.getElem_toArray, List.getElem_cons_zero, List.getElem_cons_succ, List.setIfInBounds_toArray, List.set_cons_zero, List.set_cons_succ]
      refine wpAnyH_take (i := 5) (v := .pointer (some ⟨w.heap.size + 1, 4, none⟩)) rfl (by kernel_rfl) (by kernel_rfl) (by kernel_rfl) (fun _ _ _ h => h) (Or.inl ⟨by rfl, fun w' hS => by go_simp⟩) hHeld ?_
      simp only [Act.put, List.getElem_toArray, List.getElem_cons_zero, List.getElem_cons_succ, List.setIfInBounds_toArray, List.set_cons_zero, List.set_cons_succ]
      refine wpAnyH_take (i := 6) (v := .slice (some ⟨b2, o2, none⟩) n d) rfl (by kernel_rfl) (by kernel_rfl) (by kernel_rfl) (fun _ _ _ h => h) (Or.inl ⟨by rfl, fun w' hS => by (obtain ⟨s0, s1, s2, s3⟩ := hS; go_simp)⟩) hHeld ?_
      simp only [Act.put, List.getElem_toArray, List.getElem_cons_zero, List.getElem_cons_succ, List.setIfInBounds_toArray, List.set_cons_zero, List.set_cons_succ]
      refine wpAnyH_take (i := 7) (v := .int .i64 (k : Int)) rfl (by kernel_rfl) (by kernel_rfl) (by kernel_rfl) (fun _ _ _ h => h) (Or.inl ⟨by rfl, fun w' hS => by go_simp⟩) hHeld ?_
      simp only [Act.put, List.getElem_toArray, List.getElem_cons_zero, List.getElem_cons_succ, List.setIfInBounds_toArray, List.set_cons_zero, List.set_cons_succ]
      refine wpAnyH_take (i := 8) (v := .pointer (some ⟨b2, o2 + k * 3, none⟩)) rfl (by kernel_rfl) (by kernel_rfl) (by kernel_rfl) (fun _ _ _ h => h) (Or.inl ⟨by rfl, fun w' hS => by go_simp⟩) hHeld ?_
      simp only [Act.put, List.getElem_toArray, List.getElem_cons_zero, List.getElem_cons_succ, List.setIfInBounds_toArray, List.set_cons_zero, List.set_cons_succ]
      refine wpAnyH_take (i := 9) (v := .agg (ints x.li).toArray) rfl (by kernel_rfl) (by kernel_rfl) (by kernel_rfl) (fun _ _ _ h => h) (yieldsIf_load_mid (by rfl) 115 (.tmp 35) rfl b2 (o2 + k * 3) (by rfl) (ints x.li) _ (fun w' hS => hS.2.2.2) Try.underlying115 rfl (by rw [ints_len, St.li_len]; exact info_mb)) hHeld ?_
      simp only [Act.put, List.getElem_toArray, List.getElem_cons_zero, List.getElem_cons_succ, List.setIfInBounds_toArray, List.set_cons_zero, List.set_cons_succ]
      refine wpAnyH_take (i := 10) (v := .bool (!(decide (x.li = x.li)))) rfl (by kernel_rfl) (by kernel_rfl) (by kernel_rfl) (fun _ _ _ h => h) (Or.inl ⟨by rfl, fun w' hS => run_neqop 115 (.tmp 31) (.tmp 36) 115 rfl _ _ (by rfl) (by rfl) (by kernel_rfl) _ (eq_mb 9998 x.li x.li rfl rfl)⟩) hHeld ?_
      simp only [Act.put, List.getElem_toArray, List.getElem_cons_zero, List.getElem_cons_succ, List.setIfInBounds_toArray, List.set_cons_zero, List.set_cons_succ]
      refine wpAnyH_done (by kernel_rfl) ?_ _
      clear hHeld
      go_wp2
      exact ⟨⟨k + 1, by omega, by go_num, bstep HBk.out (Below.refl _ _).drew⟩, by simp [intOf]; omega⟩
    · obtain rfl : k = n := by omega
      go_wp2
      go_ret
      exact ⟨rfl, bstep HB.out HBk.out⟩
end
end Go.Proofs.Ytcieinejjkddfab.Qm
