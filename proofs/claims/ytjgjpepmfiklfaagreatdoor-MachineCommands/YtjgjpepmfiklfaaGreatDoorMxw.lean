import Derived.Test.YtjgjpepmfiklfaaGreatDoorMxv
import Derived.Test.YtjgjpepmfiklfaaGreatDoorMxu
namespace Go.Proofs.YtjgjpepmfiklfaaGreatDoor.Mx
open Go.RowKit Mb Mh Lo
set_option linter.unusedVariables false
set_option maxRecDepth 100000
set_option linter.unusedSimpArgs false
section
variable {w w' W : World} {B : Nat}
theorem rng_app {a b : List Int} (h1 : rng a) (h2 : rng b) : rng (a ++ b) := getD_range (fun x hx => by
  rcases List.mem_append.1 hx with h | h
  · exact mem_range h1 x h
  · exact mem_range h2 x h)
theorem rng_put {n : Int} (h0 : 0 ≤ n) (h1 : n ≤ 4611686018427387904) : rng (Wm.put 8 n) := getD_range (put_range 8 n h0 (by simp; omega))
theorem put9 (n : Int) : (Wm.put 8 n).length ≤ 9 := put_len 8 n
theorem txt_len (s : ByteArray) : (txt s).length ≤ 9 + s.size := by
  unfold txt
  rw [List.length_append, bt_len]
  have := put9 (s.size : Int)
  omega
theorem encC_eq (cl inc req op : Int) (ky v old : ByteArray) : encC cl inc req op ky v old = ((((((([] ++ Wm.put 8 cl) ++ Wm.put 8 inc) ++ Wm.put 8 req) ++ Wm.put 8 op) ++ txt ky) ++ txt v) ++ txt old) := by
  simp [encC, puts, txts]
theorem ownN (w : World) (b : Nat) : Own w b (.slice none 0 0) [] := ⟨rfl, .inl ⟨rfl, rfl⟩⟩
set_option maxHeartbeats 4000000 in
theorem qenc_ok {cl inc req op : Int} (ky v old : ByteArray) (hok : okC cl inc req op ky v old = true) : Calls Tryz.prog 12 #[.agg #[.int .i64 cl, .int .i64 inc, .int .i64 req, .int .i64 op, .string ky, .string v, .string old]] w fun e w' => ∃ x, e = .returned (.tuple #[x, .int .i64 0]) ∧ Own w' w.heap.size x (encC cl inc req op ky v old) ∧ Below w.heap.size w w' := by
  obtain ⟨r1, r2, r3, r4, r5, r6, r7⟩ := okC_rng hok
  rw [encC_eq]
  obtain ⟨W, hW⟩ : ∃ X, w.alloc (.cells #[.int .i64 cl, .int .i64 inc, .int .i64 req, .int .i64 op, .string ky, .string v, .string old] 23) = X := ⟨_, rfl⟩
  have HbW : Hid (Below w.heap.size w W) := by rw [← hW]; exact balloc (Below.refl _ _)
  have HcW : Hid (W.heap[w.heap.size]? = some (.cells #[.int .i64 cl, .int .i64 inc, .int .i64 req, .int .i64 op, .string ky, .string v, .string old] 23 (0, 0))) := by rw [← hW]; exact heap_alloc_new w _
  have HRg : Hid (W.rangeAt w.heap.size 0 [.int .i64 cl, .int .i64 inc, .int .i64 req, .int .i64 op, .string ky, .string v, .string old]) := blk_range HcW.out
  have HCk : Hid (Calls Tryz.prog 11 #[.agg #[.int .i64 cl, .int .i64 inc, .int .i64 req, .int .i64 op, .string ky, .string v, .string old]] W fun e w' => e = .returned (.int .i64 0) ∧ Below W.heap.size W w') := by
    have h1 := qcheck_any (w := W) (cl := cl) (inc := inc) (req := req) (op := op) ky v old
    rw [if_pos hok] at h1
    exact h1
  obtain ⟨b0, hb0⟩ : ∃ b, W.heap.size = b := ⟨_, rfl⟩
  clear hok
  go_enter Tryz.func12, Tryz.ntmps12
  go_wp2_with (first
    | (refine load_mid 23 (.tmp 1) HRg.out _ Tryz.underlying23 rfl cmd_info rfl rfl rfl ?_)
    | fail)
  refine HCk.out.mono ?_
  rintro e X0 ⟨rfl, hb1⟩
  have L0 : Hid (Below W.heap.size W X0) := hb1
  have O0 : Hid (Own X0 W.heap.size (.slice none 0 0) []) := ownN _ _
  obtain ⟨l0, hl0, hg0, hn0⟩ : ∃ l : List Int, l = [] ∧ Hid (rng l) ∧ l.length ≤ 0 := ⟨[], rfl, (fun i => by simp [List.getD]), by simp⟩
  rw [← hl0] at O0
  have Hl0 : Hid (l0 = []) := hl0
  clear hb1 HCk hl0
  have c0 := blk_cell ((L0.out.block _ (lt_heap HcW.out)).trans HcW.out) 0
  simp only [List.getElem?_toArray, List.getElem?_cons_succ, List.getElem?_cons_zero] at c0
  go_wp2_with (fail)
  refine (qputc O0.out hg0.out (by omega) (by omega) (by omega)).mono ?_
  rintro e X1 ⟨v1, rfl, ho, hb⟩
  have O1' : Own X1 W.heap.size v1 (l0 ++ Wm.put 8 cl) := ho.mono L0.out.size
  have L1 : Hid (Below W.heap.size W X1) := bstep L0.out hb
  obtain ⟨l1, hl1, hg1, hn1⟩ : ∃ l : List Int, l = l0 ++ Wm.put 8 cl ∧ Hid (rng l) ∧ l.length ≤ 9 := ⟨_, rfl, rng_app hg0.out (rng_put (by omega) (by omega)), by rw [List.length_append]; have := put9 cl; omega⟩
  have O1 : Hid (Own X1 W.heap.size v1 l1) := by rw [hl1]; exact O1'
  have Hl1 : Hid (l1 = l0 ++ Wm.put 8 cl) := hl1
  clear ho hb O0 O1' c0 hl1 L0
  have c1 := blk_cell ((L1.out.block _ (lt_heap HcW.out)).trans HcW.out) 1
  simp only [List.getElem?_toArray, List.getElem?_cons_succ, List.getElem?_cons_zero] at c1
  go_wp2_with (fail)
  refine (qputc O1.out hg1.out (by omega) (by omega) (by omega)).mono ?_
  rintro e X2 ⟨v2, rfl, ho, hb⟩
  have O2' : Own X2 W.heap.size v2 (l1 ++ Wm.put 8 inc) := ho.mono L1.out.size
  have L2 : Hid (Below W.heap.size W X2) := bstep L1.out hb
  obtain ⟨l2, hl2, hg2, hn2⟩ : ∃ l : List Int, l = l1 ++ Wm.put 8 inc ∧ Hid (rng l) ∧ l.length ≤ 18 := ⟨_, rfl, rng_app hg1.out (rng_put (by omega) (by omega)), by rw [List.length_append]; have := put9 inc; omega⟩
  have O2 : Hid (Own X2 W.heap.size v2 l2) := by rw [hl2]; exact O2'
  have Hl2 : Hid (l2 = l1 ++ Wm.put 8 inc) := hl2
  clear ho hb O1 O2' c1 hl2 L1
  have c2 := blk_cell ((L2.out.block _ (lt_heap HcW.out)).trans HcW.out) 2
  simp only [List.getElem?_toArray, List.getElem?_cons_succ, List.getElem?_cons_zero] at c2
  go_wp2_with (fail)
  refine (qputc O2.out hg2.out (by omega) (by omega) (by omega)).mono ?_
  rintro e X3 ⟨v3, rfl, ho, hb⟩
  have O3' : Own X3 W.heap.size v3 (l2 ++ Wm.put 8 req) := ho.mono L2.out.size
  have L3 : Hid (Below W.heap.size W X3) := bstep L2.out hb
  obtain ⟨l3, hl3, hg3, hn3⟩ : ∃ l : List Int, l = l2 ++ Wm.put 8 req ∧ Hid (rng l) ∧ l.length ≤ 27 := ⟨_, rfl, rng_app hg2.out (rng_put (by omega) (by omega)), by rw [List.length_append]; have := put9 req; omega⟩
  have O3 : Hid (Own X3 W.heap.size v3 l3) := by rw [hl3]; exact O3'
  have Hl3 : Hid (l3 = l2 ++ Wm.put 8 req) := hl3
  clear ho hb O2 O3' c2 hl3 L2
  have c3 := blk_cell ((L3.out.block _ (lt_heap HcW.out)).trans HcW.out) 3
  simp only [List.getElem?_toArray, List.getElem?_cons_succ, List.getElem?_cons_zero] at c3
  go_wp2_with (fail)
  refine (qputc O3.out hg3.out (by omega) (by omega) (by omega)).mono ?_
  rintro e X4 ⟨v4, rfl, ho, hb⟩
  have O4' : Own X4 W.heap.size v4 (l3 ++ Wm.put 8 op) := ho.mono L3.out.size
  have L4 : Hid (Below W.heap.size W X4) := bstep L3.out hb
  obtain ⟨l4, hl4, hg4, hn4⟩ : ∃ l : List Int, l = l3 ++ Wm.put 8 op ∧ Hid (rng l) ∧ l.length ≤ 36 := ⟨_, rfl, rng_app hg3.out (rng_put (by omega) (by omega)), by rw [List.length_append]; have := put9 op; omega⟩
  have O4 : Hid (Own X4 W.heap.size v4 l4) := by rw [hl4]; exact O4'
  have Hl4 : Hid (l4 = l3 ++ Wm.put 8 op) := hl4
  clear ho hb O3 O4' c3 hl4 L3
  have c4 := blk_cell ((L4.out.block _ (lt_heap HcW.out)).trans HcW.out) 4
  simp only [List.getElem?_toArray, List.getElem?_cons_succ, List.getElem?_cons_zero] at c4
  go_wp2_with (fail)
  refine (qputt O4.out L4.out.size (by omega)).mono ?_
  rintro e X5 ⟨v5, rfl, ho, hb⟩
  have O5' : Own X5 W.heap.size v5 (l4 ++ txt ky) := ho
  have L5 : Hid (Below W.heap.size W X5) := L4.out.trans hb
  obtain ⟨l5, hl5, hn5⟩ : ∃ l : List Int, l = l4 ++ txt ky ∧ l.length ≤ 53 := ⟨_, rfl, by rw [List.length_append]; have := txt_len ky; omega⟩
  have O5 : Hid (Own X5 W.heap.size v5 l5) := by rw [hl5]; exact O5'
  have Hl5 : Hid (l5 = l4 ++ txt ky) := hl5
  clear ho hb O4 O5' c4 hl5 L4
  have c5 := blk_cell ((L5.out.block _ (lt_heap HcW.out)).trans HcW.out) 5
  simp only [List.getElem?_toArray, List.getElem?_cons_succ, List.getElem?_cons_zero] at c5
  go_wp2_with (fail)
  refine (qputt O5.out L5.out.size (by omega)).mono ?_
  rintro e X6 ⟨v6, rfl, ho, hb⟩
  have O6' : Own X6 W.heap.size v6 (l5 ++ txt v) := ho
  have L6 : Hid (Below W.heap.size W X6) := L5.out.trans hb
  obtain ⟨l6, hl6, hn6⟩ : ∃ l : List Int, l = l5 ++ txt v ∧ l.length ≤ 70 := ⟨_, rfl, by rw [List.length_append]; have := txt_len v; omega⟩
  have O6 : Hid (Own X6 W.heap.size v6 l6) := by rw [hl6]; exact O6'
  have Hl6 : Hid (l6 = l5 ++ txt v) := hl6
  clear ho hb O5 O6' c5 hl6 L5
  have c6 := blk_cell ((L6.out.block _ (lt_heap HcW.out)).trans HcW.out) 6
  simp only [List.getElem?_toArray, List.getElem?_cons_succ, List.getElem?_cons_zero] at c6
  go_wp2_with (fail)
  refine (qputt O6.out L6.out.size (by omega)).mono ?_
  rintro e X7 ⟨v7, rfl, ho, hb⟩
  have O7' : Own X7 W.heap.size v7 (l6 ++ txt old) := ho
  have L7 : Hid (Below W.heap.size W X7) := L6.out.trans hb
  obtain ⟨l7, hl7, hn7⟩ : ∃ l : List Int, l = l6 ++ txt old ∧ l.length ≤ 87 := ⟨_, rfl, by rw [List.length_append]; have := txt_len old; omega⟩
  have O7 : Hid (Own X7 W.heap.size v7 l7) := by rw [hl7]; exact O7'
  have Hl7 : Hid (l7 = l6 ++ txt old) := hl7
  clear ho hb O6 O7' c6 hl7 L6
  go_wp2_with (fail)
  (try simp only [Exit.inBlock, Exit.then])
  have hE : Hid (l7 = ((((((Wm.put 8 cl) ++ Wm.put 8 inc) ++ Wm.put 8 req) ++ Wm.put 8 op) ++ txt ky) ++ txt v) ++ txt old) := by
    show l7 = _
    rw [Hl7.out, Hl6.out, Hl5.out, Hl4.out, Hl3.out, Hl2.out, Hl1.out, Hl0.out, List.nil_append]
  refine bodyPost_ret (results_tmp2 Tryz.results12 _ _ _) rfl ⟨v7, rfl, ?_, bstep HbW.out L7.out⟩
  rw [← hE.out]
  exact O7.out.mono HbW.out.size
theorem qenc_no {cl inc req op : Int} (ky v old : ByteArray) (hok : okC cl inc req op ky v old = false) : Calls Tryz.prog 12 #[.agg #[.int .i64 cl, .int .i64 inc, .int .i64 req, .int .i64 op, .string ky, .string v, .string old]] w fun e w' => e = .returned (.tuple #[.slice none 0 0, .int .i64 130]) ∧ Below w.heap.size w w' := by
  obtain ⟨W, hW⟩ : ∃ X, w.alloc (.cells #[.int .i64 cl, .int .i64 inc, .int .i64 req, .int .i64 op, .string ky, .string v, .string old] 23) = X := ⟨_, rfl⟩
  have HbW : Hid (Below w.heap.size w W) := by rw [← hW]; exact balloc (Below.refl _ _)
  have HcW : Hid (W.heap[w.heap.size]? = some (.cells #[.int .i64 cl, .int .i64 inc, .int .i64 req, .int .i64 op, .string ky, .string v, .string old] 23 (0, 0))) := by rw [← hW]; exact heap_alloc_new w _
  have HRg : Hid (W.rangeAt w.heap.size 0 [.int .i64 cl, .int .i64 inc, .int .i64 req, .int .i64 op, .string ky, .string v, .string old]) := blk_range HcW.out
  have HCk : Hid (Calls Tryz.prog 11 #[.agg #[.int .i64 cl, .int .i64 inc, .int .i64 req, .int .i64 op, .string ky, .string v, .string old]] W fun e w' => e = .returned (.int .i64 130) ∧ Below W.heap.size W w') := by
    have h1 := qcheck_any (w := W) (cl := cl) (inc := inc) (req := req) (op := op) ky v old
    rw [hok] at h1
    exact h1
  clear hok
  go_enter Tryz.func12, Tryz.ntmps12
  go_wp2_with (first
    | (refine load_mid 23 (.tmp 1) HRg.out _ Tryz.underlying23 rfl cmd_info rfl rfl rfl ?_)
    | (go_at_call 11; refine HCk.out.mono ?_; rintro e X1 ⟨rfl, hb1⟩)
    | fail)
  (try simp only [Exit.inBlock, Exit.then])
  refine bodyPost_ret (results_tmp2 Tryz.results12 _ _ _) rfl ⟨rfl, bstep HbW.out hb1⟩
end
end Go.Proofs.YtjgjpepmfiklfaaGreatDoor.Mx
