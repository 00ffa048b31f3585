import Derived.Test.YtjgjpepmfiklfaaGreatDoorMxg
import Derived.Test.YtjgjpepmfiklfaaGreatDoorMxd
namespace Go.Proofs.YtjgjpepmfiklfaaGreatDoor.Mx
open Go.RowKit Mb Mh Lo
set_option linter.unusedVariables false
set_option maxRecDepth 100000
set_option linter.unusedSimpArgs false
theorem numF_size {s : ByteArray} (h : (numF s).isSome = true) : s.size ≤ 8 := by
  unfold numF at h
  split at h
  · assumption
  · cases h
theorem keyB_size {s : ByteArray} (h : keyB s = true) : s.size ≤ 8 := by
  unfold keyB at h
  have := of_decide_eq_true h
  omega
theorem valB_size {s : ByteArray} (h : valB s = true) : s.size ≤ 8 := by
  unfold valB at h
  have := of_decide_eq_true h
  omega
theorem empB_size {s : ByteArray} (h : empB s = true) : s.size ≤ 8 := by
  unfold empB at h
  have h1 : s.toList = [] := by simpa using h
  rw [ByteArray.toList_eq] at h1
  have h2 : s.data.toList.length = s.size := Array.length_toList
  rw [h1] at h2
  simp at h2
  omega
theorem nmB_size {s : ByteArray} (h : nmB s = true) : s.size ≤ 8 := numF_size h
theorem tkB_size {s : ByteArray} (h : tkB s = true) : s.size ≤ 8 := by
  unfold tkB at h
  simp only [Bool.and_eq_true] at h
  exact numF_size h.1
theorem ctB_size {s : ByteArray} (h : ctB s = true) : s.size ≤ 8 := by
  unfold ctB at h
  simp only [Bool.and_eq_true] at h
  exact numF_size h.1
structure Rng (cl inc req op : Int) (ky v old : ByteArray) : Prop where
  c : 0 ≤ cl ∧ cl ≤ 15
  i : 1 ≤ inc ∧ inc ≤ 4611686018427387904
  r : 1 ≤ req ∧ req ≤ 4611686018427387904
  o : 1 ≤ op ∧ op ≤ 9
  k : ky.size ≤ 8
  v : v.size ≤ 8
  d : old.size ≤ 8
theorem okC_rng {cl inc req op : Int} {ky v old : ByteArray} (h : okC cl inc req op ky v old = true) : Rng cl inc req op ky v old := by
  unfold okC at h
  simp only [Bool.and_eq_true] at h
  obtain ⟨ha, hf⟩ := h
  unfold askB at ha
  simp only [Bool.and_eq_true] at ha
  obtain ⟨⟨h1, h2⟩, h3⟩ := ha
  unfold cliB at h1
  have h1' := of_decide_eq_true h1
  have h2' := of_decide_eq_true h2
  have h3' := of_decide_eq_true h3
  unfold fitB at hf
  have key : (1 ≤ op ∧ op ≤ 9) ∧ ky.size ≤ 8 ∧ v.size ≤ 8 ∧ old.size ≤ 8 := by
    split at hf
    · simp only [Bool.and_eq_true] at hf; exact ⟨by omega, keyB_size hf.1.1, valB_size hf.1.2, empB_size hf.2⟩
    · split at hf
      · simp only [Bool.and_eq_true] at hf; exact ⟨by omega, keyB_size hf.1.1, empB_size hf.1.2, empB_size hf.2⟩
      · split at hf
        · simp only [Bool.and_eq_true] at hf; exact ⟨by omega, keyB_size hf.1.1, valB_size hf.1.2, valB_size hf.2⟩
        · split at hf
          · simp only [Bool.and_eq_true] at hf; exact ⟨by omega, keyB_size hf.1.1, empB_size hf.1.2, empB_size hf.2⟩
          · split at hf
            · simp only [Bool.and_eq_true] at hf; exact ⟨by omega, keyB_size hf.1.1, nmB_size hf.1.2, empB_size hf.2⟩
            · split at hf
              · simp only [Bool.and_eq_true] at hf; exact ⟨by omega, keyB_size hf.1.1, empB_size hf.1.2, empB_size hf.2⟩
              · split at hf
                · simp only [Bool.and_eq_true] at hf; exact ⟨by omega, keyB_size hf.1.1, empB_size hf.1.2, empB_size hf.2⟩
                · split at hf
                  · simp only [Bool.and_eq_true] at hf; exact ⟨by omega, keyB_size hf.1.1, tkB_size hf.1.2, empB_size hf.2⟩
                  · split at hf
                    · simp only [Bool.and_eq_true] at hf; exact ⟨by omega, empB_size hf.1.1, ctB_size hf.1.2, empB_size hf.2⟩
                    · cases hf
  exact ⟨h1', h2', h3', key.1, key.2.1, key.2.2.1, key.2.2.2⟩
def encC (cl inc req op : Int) (ky v old : ByteArray) : List Int := puts [cl, inc, req, op] ++ txts [ky, v, old]
section
variable {w w' W : World} {B : Nat}
theorem cmd_info : (Tryz.prog.info? 23).map (·.size) = some 7 := by kernel_rfl
theorem cmd_one (cl inc req op : Int) (k v old : ByteArray) : ∀ u ∈ [Value.int .i64 cl, .int .i64 inc, .int .i64 req, .int .i64 op, .string k, .string v, .string old], u.oneCell' = true := by
  intro u hu
  simp only [List.mem_cons, List.not_mem_nil, or_false] at hu
  rcases hu with rfl | rfl | rfl | rfl | rfl | rfl | rfl <;> rfl
set_option maxHeartbeats 4000000 in
theorem enc_ok (hg : Gl w) {cl inc req op : Int} (ky v old : ByteArray) (hok : okC cl inc req op ky v old = true) : Calls Tryz.prog 5 #[.agg #[.int .i64 cl, .int .i64 inc, .int .i64 req, .int .i64 op, .string ky, .string v, .string old]] w fun e w' => ∃ x, e = .returned (.tuple #[x, .int .i64 0]) ∧ Own w' w.heap.size x (encC cl inc req op ky v old) ∧ Below w.heap.size w w' := by
  have hR := okC_rng hok
  obtain ⟨W, hW⟩ : ∃ X, w.alloc (.cells #[.int .i64 cl, .int .i64 inc, .int .i64 req, .int .i64 op, .string ky, .string v, .string old] 23) = X := ⟨_, rfl⟩
  have HbW : Hid (Below w.heap.size w W) := by rw [← hW]; exact balloc (Below.refl _ _)
  have HcW : Hid (W.heap[w.heap.size]? = some (.cells #[.int .i64 cl, .int .i64 inc, .int .i64 req, .int .i64 op, .string ky, .string v, .string old] 23 (0, 0))) := by rw [← hW]; exact heap_alloc_new w _
  have HRg : Hid (W.rangeAt w.heap.size 0 [.int .i64 cl, .int .i64 inc, .int .i64 req, .int .i64 op, .string ky, .string v, .string old]) := blk_range HcW.out
  have HCk : Hid (Calls Tryz.prog 8 #[.agg #[.int .i64 cl, .int .i64 inc, .int .i64 req, .int .i64 op, .string ky, .string v, .string old]] W fun e w' => e = .returned (.int .i64 0) ∧ Below W.heap.size W w') := by
    have h1 := check_any (hg.still HbW.out) (cl := cl) (inc := inc) (req := req) (op := op) ky v old
    rw [if_pos hok] at h1
    exact h1
  have HR : Hid (Rng cl inc req op ky v old) := hR
  clear hok hg hR
  go_enter Tryz.func5, Tryz.ntmps5
  go_wp2_with (first
    | (refine load_mid 23 (.tmp 1) HRg.out _ Tryz.underlying23 rfl cmd_info rfl rfl rfl ?_)
    | (go_at_call 8; refine HCk.out.mono ?_; rintro e X1 ⟨rfl, hb1⟩; have HB1 : Hid (Below W.heap.size W X1) := hb1; clear hb1; have HcX : Hid (X1.heap[w.heap.size]? = some (.cells #[.int .i64 cl, .int .i64 inc, .int .i64 req, .int .i64 op, .string ky, .string v, .string old] 23 (0, 0))) := (HB1.out.block _ (lt_heap HcW.out)).trans HcW.out; have HA : Hid (∀ i, (X1.alloc (.cells #[.slice none 0 0] 48)).cell? ⟨w.heap.size, i, none⟩ = (#[.int .i64 cl, .int .i64 inc, .int .i64 req, .int .i64 op, .string ky, .string v, .string old] : Array Value)[i]?) := (fun i => blk_cell (blk_alloc HcX.out) i); have s0 := HA.out 0; have s1 := HA.out 1; have s2 := HA.out 2; have s3 := HA.out 3; simp only [List.getElem?_toArray, List.getElem?_cons_succ, List.getElem?_cons_zero] at s0 s1 s2 s3)
    | fail)
  obtain ⟨Y1, hY1⟩ : ∃ X, X1.alloc (.cells #[.slice none 0 0] 48) = X := ⟨_, rfl⟩
  obtain ⟨Y2, hY2⟩ : ∃ X, Y1.alloc (.cells #[.int .i64 cl, .int .i64 inc, .int .i64 req, .int .i64 op] 3) = X := ⟨_, rfl⟩
  have b1 : Below X1.heap.size X1 Y1 := by rw [← hY1]; exact balloc (Below.refl _ _)
  have b2 : Below Y1.heap.size Y1 Y2 := by rw [← hY2]; exact balloc (Below.refl _ _)
  have z1 : Y1.heap.size = X1.heap.size + 1 := by rw [← hY1]; simp
  have HwY : Hid (Wr Y2 (X1.heap.size + 1) X1.heap.size []) := by
    have h1 : Y1.heap[X1.heap.size]? = some (.cells #[.slice none 0 0] 48 (0, 0)) := by rw [← hY1]; exact heap_alloc_new X1 _
    exact ⟨_, (b2.block _ (lt_heap h1)).trans h1, rfl, .inl ⟨rfl, rfl⟩⟩
  have HiY : Hid (Y2.heap[X1.heap.size + 1]? = some (.cells (ints [cl, inc, req, op]).toArray 3 (0, 0))) := by rw [← z1, ← hY2]; exact heap_alloc_new Y1 _
  have HcY : Hid (Y2.heap[w.heap.size]? = some (.cells #[.int .i64 cl, .int .i64 inc, .int .i64 req, .int .i64 op, .string ky, .string v, .string old] 23 (0, 0))) := by
    have h1 := (b1.block _ (lt_heap HcX.out)).trans HcX.out
    exact (b2.block _ (lt_heap h1)).trans h1
  have HbY : Hid (Below W.heap.size W Y2) := bstep HB1.out (bstep b1 b2)
  have HXs : Hid (w.heap.size < X1.heap.size) := lt_heap HcX.out
  have HC1 : Hid (Calls Tryz.prog 20 #[.pointer (some ⟨X1.heap.size, 0, none⟩), .slice (some ⟨X1.heap.size + 1, 0, none⟩) 4 4] Y2 fun e w' => e = .returned (.tuple #[]) ∧ Wr w' (X1.heap.size + 1) X1.heap.size (puts [cl, inc, req, op]) ∧ Fr (X1.heap.size + 1) X1.heap.size Y2 w') := by
    refine (wcounts_any (n := 4) (c := 4) (ns := [cl, inc, req, op]) HwY.out (by rw [← z1]; exact b2.size) rfl HiY.out ?_ (by simp)).mono ?_
    · intro x hx
      have h9 := HR.out
      simp only [List.mem_cons, List.not_mem_nil, or_false] at hx
      have c9 := h9.c; have i9 := h9.i; have r9 := h9.r; have o9 := h9.o
      rcases hx with rfl | rfl | rfl | rfl <;> omega
    · rintro e w' ⟨e1, e2, e3⟩
      exact ⟨e1, by simpa using e2, e3⟩
  rw [hY1, hY2]
  refine HC1.out.mono ?_
  rintro e w2 ⟨rfl, hw2, hf2⟩
  have HcV : Hid (w2.heap[w.heap.size]? = some (.cells #[.int .i64 cl, .int .i64 inc, .int .i64 req, .int .i64 op, .string ky, .string v, .string old] 23 (0, 0))) := hf2.keep HcY.out (by have := HXs.out; omega) (by decide)
  have u4 := blk_cell HcV.out 4
  have u5 := blk_cell HcV.out 5
  have u6 := blk_cell HcV.out 6
  simp only [List.getElem?_toArray, List.getElem?_cons_succ, List.getElem?_cons_zero] at u4 u5 u6
  obtain ⟨Z, hZ⟩ : ∃ X, w2.alloc (.cells #[.string ky, .string v, .string old] 9) = X := ⟨_, rfl⟩
  have b3 : Below w2.heap.size w2 Z := by rw [← hZ]; exact balloc (Below.refl _ _)
  have HwZ : Hid (Wr Z (X1.heap.size + 1) X1.heap.size (puts [cl, inc, req, op])) := by
    obtain ⟨x, h1, h2⟩ := hw2
    exact ⟨x, (b3.block _ (lt_heap h1)).trans h1, own_still h2 b3⟩
  have HsZ : Hid (Z.heap[w2.heap.size]? = some (.cells (strs [ky, v, old]).toArray 9 (0, 0))) := by rw [← hZ]; exact heap_alloc_new w2 _
  have HfZ : Hid (Below W.heap.size W Z) := by
    have h1 := hf2.to (B := W.heap.size) HbY.out.size (HB1.out.size) (by have := HB1.out.size; omega)
    exact bstep (HbY.out.trans h1) b3
  have HC2 : Hid (Calls Tryz.prog 21 #[.pointer (some ⟨X1.heap.size, 0, none⟩), .slice (some ⟨w2.heap.size, 0, none⟩) 3 3] Z fun e w' => e = .returned (.tuple #[]) ∧ Wr w' (X1.heap.size + 1) X1.heap.size (encC cl inc req op ky v old) ∧ Fr (X1.heap.size + 1) X1.heap.size Z w') := by
    refine wtexts_any (n := 3) (c := 3) (ss := [ky, v, old]) HwZ.out ?_ rfl HsZ.out ?_ ?_
    · have h1 := hf2.size
      have h2 := b2.size
      have h3 := b3.size
      omega
    · intro x hx
      have h9 := HR.out
      simp only [List.mem_cons, List.not_mem_nil, or_false] at hx
      have k9 := h9.k; have v9 := h9.v; have d9 := h9.d
      rcases hx with rfl | rfl | rfl <;> omega
    · have := puts_len_le [cl, inc, req, op]
      simp at this
      omega
  clear hw2 hf2 b1 b2 b3 s0 s1 s2 s3 HA HcX HwY HiY HcY HbY HC1 HwZ HsZ HcV
  go_wp2_with (fail)
  (try rw [hZ])
  refine HC2.out.mono ?_
  rintro e w4 ⟨rfl, ⟨x, hx1, hx2⟩, hf4⟩
  have hxc := blk_cell hx1 0
  simp only [List.getElem?_toArray, List.getElem?_cons_zero] at hxc
  have HO : Hid (Own w4 w.heap.size x (encC cl inc req op ky v old)) := own_lower hx2 (by have := HXs.out; omega)
  have HBf : Hid (Below w.heap.size w w4) := by
    have h1 := hf4.to (B := W.heap.size) HfZ.out.size (HB1.out.size) (by have := HB1.out.size; omega)
    exact bstep HbW.out (HfZ.out.trans h1)
  clear hx1 hx2 hf4
  go_wp2_with (fail)
  (try simp only [Exit.inBlock, Exit.then])
  refine bodyPost_ret (results_tmp2 Tryz.results5 _ _ _) rfl ⟨x, rfl, HO.out, HBf.out⟩
set_option maxHeartbeats 4000000 in
theorem enc_no (hg : Gl w) {cl inc req op : Int} (ky v old : ByteArray) (hok : okC cl inc req op ky v old = false) : Calls Tryz.prog 5 #[.agg #[.int .i64 cl, .int .i64 inc, .int .i64 req, .int .i64 op, .string ky, .string v, .string old]] w fun e w' => e = .returned (.tuple #[.slice none 0 0, .int .i64 130]) ∧ Below w.heap.size w w' := by
  obtain ⟨W, hW⟩ : ∃ X, w.alloc (.cells #[.int .i64 cl, .int .i64 inc, .int .i64 req, .int .i64 op, .string ky, .string v, .string old] 23) = X := ⟨_, rfl⟩
  have HbW : Hid (Below w.heap.size w W) := by rw [← hW]; exact balloc (Below.refl _ _)
  have HcW : Hid (W.heap[w.heap.size]? = some (.cells #[.int .i64 cl, .int .i64 inc, .int .i64 req, .int .i64 op, .string ky, .string v, .string old] 23 (0, 0))) := by rw [← hW]; exact heap_alloc_new w _
  have HRg : Hid (W.rangeAt w.heap.size 0 [.int .i64 cl, .int .i64 inc, .int .i64 req, .int .i64 op, .string ky, .string v, .string old]) := blk_range HcW.out
  have HCk : Hid (Calls Tryz.prog 8 #[.agg #[.int .i64 cl, .int .i64 inc, .int .i64 req, .int .i64 op, .string ky, .string v, .string old]] W fun e w' => e = .returned (.int .i64 130) ∧ Below W.heap.size W w') := by
    have h1 := check_any (hg.still HbW.out) (cl := cl) (inc := inc) (req := req) (op := op) ky v old
    rw [hok] at h1
    exact h1
  clear hok hg
  go_enter Tryz.func5, Tryz.ntmps5
  go_wp2_with (first
    | (refine load_mid 23 (.tmp 1) HRg.out _ Tryz.underlying23 rfl cmd_info rfl rfl rfl ?_)
    | (go_at_call 8; refine HCk.out.mono ?_; rintro e X1 ⟨rfl, hb1⟩)
    | fail)
  (try simp only [Exit.inBlock, Exit.then])
  refine bodyPost_ret (results_tmp2 Tryz.results5 _ _ _) rfl ⟨rfl, bstep HbW.out hb1⟩
end
end Go.Proofs.YtjgjpepmfiklfaaGreatDoor.Mx
