import Derived.Test.YtnmnobcikmiojaaPa1
namespace Go.Proofs.Ytnmnobcikmiojaa.Qm
open Go.RowKit Mb
set_option linter.unusedVariables false
set_option maxRecDepth 100000
set_option linter.unusedSimpArgs false
structure Wa where
  b : Nat
  v : List Nat
  ep : Int
  inn : Bool
  l0 : Int
  l1 : Int
  l2 : Int
  l3 : Int
  en : Nat
  qu : Nat
def Wa.tl (A : Wa) : List Value := [.int .i64 A.ep, .bool A.inn, .int .i64 A.l0, .int .i64 A.l1, .int .i64 A.l2, .int .i64 A.l3, .int .i64 (A.en : Int), .int .i64 (A.qu : Int)]
def Wa.cs (A : Wa) : List Value := ints (bl A.v) ++ A.tl
theorem Wa.cs_at (A : Wa) (j : Nat) : A.cs[19 + j]? = A.tl[j]? := by
  unfold Wa.cs
  rw [List.getElem?_append_right (by rw [ints_len, bl_len]; omega), ints_len, bl_len]
  congr 1
  omega
theorem Wa.cs_set (A : Wa) (j : Nat) (x : Value) : A.cs.set (19 + j) x = ints (bl A.v) ++ A.tl.set j x := by
  unfold Wa.cs
  rw [List.set_append_right _ _ (by rw [ints_len, bl_len]; omega), ints_len, bl_len]
  congr 2
  omega
section
variable {w w' : World} {B : Nat} {A : Wa}
structure Wa.Ok (A : Wa) (w : World) : Prop where
  blk : w.heap[A.b]? = some (.cells A.cs.toArray 88 (0, 0))
  ok : Qm.Ok A.v
theorem Wa.Ok.cell (h : A.Ok w) (j : Nat) : w.cell? ⟨A.b, 19 + j, none⟩ = A.tl[j]? := by
  rw [blk_cell h.blk, List.getElem?_toArray, A.cs_at]
theorem Wa.Ok.fz (h : A.Ok w) (j : Nat) : w.frozen? ⟨A.b, j, none⟩ = false := frozen_of_row w _ j _ _ h.blk
theorem Wa.Ok.keep {P : Nat → Prop} (h : A.Ok w) (k : Kept w w' P) (hp : ¬ P A.b) : A.Ok w' := ⟨k.obj h.blk hp, h.ok⟩
theorem Wa.Ok.still (h : A.Ok w) (hb : Below w.heap.size w w') : A.Ok w' := h.keep (Kept.ofBelow hb (fun _ => False)) id
theorem Wa.Ok.bal (h : A.Ok w) : Bal w A.b A.v := by
  have hc : ∀ j, j < 19 → w.cell? ⟨A.b, j, none⟩ = some (.int .i64 (bf A.v.length A.v A.v.length j)) := fun j hj => by
    rw [blk_cell h.blk, List.getElem?_toArray]
    unfold Wa.cs
    rw [List.getElem?_append_left (by rw [ints_len, bl_len]; exact hj), ints_at _ _ (by rw [bl_len]; exact hj)]
    unfold bl
    rw [bk_at _ _ _ _ hj]
  refine ⟨hc 0 (by omega), fun i hi => ?_, hc 17 (by omega), hc 18 (by omega)⟩
  rw [hc (1 + i) (by omega)]
  unfold bf
  simp only [show ¬ 1 + i = 0 by omega, if_false, show 1 + i < 17 by omega, if_true, show 1 + i - 1 = i by omega]
  by_cases h : i < A.v.length
  · simp [h]
  · simp [h, List.getD, List.getElem?_eq_none (show A.v.length ≤ i by omega)]
theorem Wa.Ok.put (h : A.Ok w) (A' : Wa) (j : Nat) (x : Value) (hb : A'.b = A.b) (hv : A'.v = A.v) (ht : A.tl.set j x = A'.tl) : A'.Ok (w.setCell ⟨A.b, 19 + j, none⟩ x) := by
  refine ⟨?_, hv ▸ h.ok⟩
  rw [hb]
  refine blk_set h.blk ?_
  rw [List.setIfInBounds_toArray, A.cs_set, ht]
  unfold Wa.cs
  rw [hv]
theorem Wa.Ok.p0 (h : A.Ok w) (x : Int) : ({ A with ep := x } : Wa).Ok (w.setCell ⟨A.b, 19, none⟩ (.int .i64 x)) := h.put _ 0 _ rfl rfl rfl
theorem Wa.Ok.p1 (h : A.Ok w) (x : Bool) : ({ A with inn := x } : Wa).Ok (w.setCell ⟨A.b, 20, none⟩ (.bool x)) := h.put _ 1 _ rfl rfl rfl
theorem Wa.Ok.p6 (h : A.Ok w) (x : Nat) : ({ A with en := x } : Wa).Ok (w.setCell ⟨A.b, 25, none⟩ (.int .i64 (x : Int))) := h.put _ 6 _ rfl rfl rfl
theorem Wa.Ok.p7 (h : A.Ok w) (x : Nat) : ({ A with qu := x } : Wa).Ok (w.setCell ⟨A.b, 26, none⟩ (.int .i64 (x : Int))) := h.put _ 7 _ rfl rfl rfl
theorem Wa.Ok.pl (h : A.Ok w) (a b c d : Int) : ({ A with l0 := a, l1 := b, l2 := c, l3 := d } : Wa).Ok (w.setCells A.b 21 (ints [a, b, c, d])) := by
  have h1 : ({ A with l0 := a } : Wa).Ok (w.setCell ⟨A.b, 21, none⟩ (.int .i64 a)) := h.put _ 2 _ rfl rfl rfl
  have h2 : ({ A with l0 := a, l1 := b } : Wa).Ok ((w.setCell ⟨A.b, 21, none⟩ (.int .i64 a)).setCell ⟨A.b, 22, none⟩ (.int .i64 b)) := h1.put _ 3 _ rfl rfl rfl
  have h3 : ({ A with l0 := a, l1 := b, l2 := c } : Wa).Ok (((w.setCell ⟨A.b, 21, none⟩ (.int .i64 a)).setCell ⟨A.b, 22, none⟩ (.int .i64 b)).setCell ⟨A.b, 23, none⟩ (.int .i64 c)) := h2.put _ 4 _ rfl rfl rfl
  exact h3.put _ 5 _ rfl rfl rfl
theorem Wa.Ok.there (h : A.Ok w) : w.there A.b 21 4 := fun j hj => ⟨by
  have := h.cell (2 + j)
  rw [← Nat.add_assoc] at this
  rw [this]
  match j, hj with
  | 0, _ => rfl
  | 1, _ => rfl
  | 2, _ => rfl
  | 3, _ => rfl, h.fz _⟩
theorem info_view : (Try.prog.info? 62).map (·.size) = some 5 := by kernel_rfl
theorem in_w (h : A.Ok w) : Calls Try.prog 30 #[.pointer (some ⟨A.b, 0, none⟩)] w fun e w' => e = .returned (.bool A.inn) ∧ w = w' := by
  have c : w.cell? ⟨A.b, 20, none⟩ = some (.bool A.inn) := h.cell 1
  clear h
  go_enter Try.func30, Try.ntmps30
  go_wp2
  go_ret
  exact ⟨rfl, rfl⟩
set_option maxHeartbeats 2000000 in
theorem count_w (h : A.Ok w) : Calls Try.prog 32 #[.pointer (some ⟨A.b, 0, none⟩)] w fun e w' => e = .returned (.tuple #[.int .i64 (A.en : Int), .int .i64 (A.qu : Int)]) ∧ Below w.heap.size w w' := by
  have c6 : w.cell? ⟨A.b, 25, none⟩ = some (.int .i64 (A.en : Int)) := h.cell 6
  have c7 : w.cell? ⟨A.b, 26, none⟩ = some (.int .i64 (A.qu : Int)) := h.cell 7
  clear h
  go_enter Try.func32, Try.ntmps32
  go_wp2
  refine wp_region_held_drew (S := (fun w' => w'.cell? ⟨A.b, 25, none⟩ = some (.int .i64 (A.en : Int)) ∧ w'.cell? ⟨A.b, 26, none⟩ = some (.int .i64 (A.qu : Int)))) (by kernel_rfl) ⟨below_at (Below.refl _ _).drew c6, below_at (Below.refl _ _).drew c7⟩ (fun hHeld => ?_)
  simp only [Act.put, List.size_toArray, List.length_cons, List.length_nil, Nat.zero_add]
  refine wpAnyH_take (i := 0) (v := .pointer (some ⟨A.b, 0, none⟩)) rfl (by kernel_rfl) (by kernel_rfl) (by kernel_rfl) (fun _ _ _ h => h) (Or.inl ⟨by rfl, fun w' hS => by go_simp⟩) hHeld ?_
  simp only [Act.put, List.getElem_toArray, List.getElem_cons_zero, List.getElem_cons_succ, List.setIfInBounds_toArray, List.set_cons_zero, List.set_cons_succ]
  refine wpAnyH_take (i := 1) (v := .pointer (some ⟨A.b, 0, none⟩)) rfl (by kernel_rfl) (by kernel_rfl) (by kernel_rfl) (fun _ _ _ h => h) (Or.inl ⟨by rfl, fun w' hS => by go_simp⟩) hHeld ?_
  simp only [Act.put, List.getElem_toArray, List.getElem_cons_zero, List.getElem_cons_succ, List.setIfInBounds_toArray, List.set_cons_zero, List.set_cons_succ]
  refine wpAnyH_take (i := 2) (v := .pointer (some ⟨A.b, 25, none⟩)) rfl (by kernel_rfl) (by kernel_rfl) (by kernel_rfl) (fun _ _ _ h => h) (Or.inl ⟨by rfl, fun w' hS => by go_simp⟩) hHeld ?_
  simp only [Act.put, List.getElem_toArray, List.getElem_cons_zero, List.getElem_cons_succ, List.setIfInBounds_toArray, List.set_cons_zero, List.set_cons_succ]
  refine wpAnyH_take (i := 3) (v := .int .i64 (A.en : Int)) rfl (by kernel_rfl) (by kernel_rfl) (by kernel_rfl) (fun _ _ _ h => h) (Or.inl ⟨by rfl, fun w' hS => by (obtain ⟨s0, s1⟩ := hS; go_simp)⟩) hHeld ?_
  simp only [Act.put, List.getElem_toArray, List.getElem_cons_zero, List.getElem_cons_succ, List.setIfInBounds_toArray, List.set_cons_zero, List.set_cons_succ]
  refine wpAnyH_take (i := 4) (v := .pointer (some ⟨A.b, 0, none⟩)) rfl (by kernel_rfl) (by kernel_rfl) (by kernel_rfl) (fun _ _ _ h => h) (Or.inl ⟨by rfl, fun w' hS => by go_simp⟩) hHeld ?_
  simp only [Act.put, List.getElem_toArray, List.getElem_cons_zero, List.getElem_cons_succ, List.setIfInBounds_toArray, List.set_cons_zero, List.set_cons_succ]
  refine wpAnyH_take (i := 5) (v := .pointer (some ⟨A.b, 0, none⟩)) rfl (by kernel_rfl) (by kernel_rfl) (by kernel_rfl) (fun _ _ _ h => h) (Or.inl ⟨by rfl, fun w' hS => by go_simp⟩) hHeld ?_
  simp only [Act.put, List.getElem_toArray, List.getElem_cons_zero, List.getElem_cons_succ, List.setIfInBounds_toArray, List.set_cons_zero, List.set_cons_succ]
  refine wpAnyH_take (i := 6) (v := .pointer (some ⟨A.b, 26, none⟩)) rfl (by kernel_rfl) (by kernel_rfl) (by kernel_rfl) (fun _ _ _ h => h) (Or.inl ⟨by rfl, fun w' hS => by go_simp⟩) hHeld ?_
  simp only [Act.put, List.getElem_toArray, List.getElem_cons_zero, List.getElem_cons_succ, List.setIfInBounds_toArray, List.set_cons_zero, List.set_cons_succ]
  refine wpAnyH_take (i := 7) (v := .int .i64 (A.qu : Int)) rfl (by kernel_rfl) (by kernel_rfl) (by kernel_rfl) (fun _ _ _ h => h) (Or.inl ⟨by rfl, fun w' hS => by (obtain ⟨s0, s1⟩ := hS; go_simp)⟩) hHeld ?_
  simp only [Act.put, List.getElem_toArray, List.getElem_cons_zero, List.getElem_cons_succ, List.setIfInBounds_toArray, List.set_cons_zero, List.set_cons_succ]
  refine wpAnyH_take (i := 8) (v := .int .i64 (A.en : Int)) rfl (by kernel_rfl) (by kernel_rfl) (by kernel_rfl) (fun _ _ _ h => h) (Or.inl ⟨by rfl, fun w' hS => by go_simp⟩) hHeld ?_
  simp only [Act.put, List.getElem_toArray, List.getElem_cons_zero, List.getElem_cons_succ, List.setIfInBounds_toArray, List.set_cons_zero, List.set_cons_succ]
  refine wpAnyH_take (i := 9) (v := .int .i64 (A.qu : Int)) rfl (by kernel_rfl) (by kernel_rfl) (by kernel_rfl) (fun _ _ _ h => h) (Or.inl ⟨by rfl, fun w' hS => by go_simp⟩) hHeld ?_
  simp only [Act.put, List.getElem_toArray, List.getElem_cons_zero, List.getElem_cons_succ, List.setIfInBounds_toArray, List.set_cons_zero, List.set_cons_succ]
  refine wpAnyH_done (by kernel_rfl) ?_ _
  clear hHeld
  go_wp2
  (try simp only [Exit.inBlock, Exit.then])
  refine bodyPost_ret (results_tmp2 rfl _ _ _) rfl ?_
  exact ⟨rfl, (Below.refl _ _).drew⟩
set_option maxHeartbeats 2000000 in
theorem last_w (h : A.Ok w) : Calls Try.prog 31 #[.pointer (some ⟨A.b, 0, none⟩)] w fun e w' => e = .returned (.agg (ints [A.l0, A.l1, A.l2, A.l3]).toArray) ∧ Below w.heap.size w w' := by
  generalize hW : w.alloc (.cells #[.int .i64 0, .int .i64 0, .int .i64 0, .int .i64 0] 59) = W
  have hbW : Below w.heap.size w W := by rw [← hW]; exact balloc (Below.refl _ w)
  have k1 : Rw W w.heap.size 59 [0, 0, 0, 0] := by unfold Rw; rw [← hW]; exact heap_alloc_new w _
  have HK : Hid (Rw W w.heap.size 59 [0, 0, 0, 0]) := k1
  have HBW : Hid (Below w.heap.size w W) := hbW
  have HRg : Hid (W.rangeAt A.b 21 (ints [A.l0, A.l1, A.l2, A.l3])) := fun j u hu => by
    have hc := (h.still hbW).cell (2 + j)
    rw [← Nat.add_assoc] at hc
    rw [hc]
    match j, hu with
    | 0, hu => exact hu
    | 1, hu => exact hu
    | 2, hu => exact hu
    | 3, hu => exact hu
    | j + 4, hu => simp [ints] at hu
  clear h k1 hbW
  go_enter Try.func31, Try.ntmps31
  go_wp2_with (first
    | (refine load_mid 59 (.tmp 5) HRg.out _ Try.underlying59 rfl info_vid rfl rfl rfl ?_)
    | (refine store_mid 59 (.tmp 2) (.tmp 6) (xs := [A.l0, A.l1, A.l2, A.l3]) (HK.out.there 0 4 (by show 0 + 4 ≤ 4; omega)) info_vid rfl rfl rfl rfl ?_)
    | fail)
  (try simp only [Exit.inBlock, Exit.then])
  refine bodyPost_ret (v := .agg (ints [A.l0, A.l1, A.l2, A.l3]).toArray) ?_ ?_ ?_
  · exact results_cell_row rfl _ _ w.heap.size 59 _ (0, 0) _ rfl (Rw.whole HK.out rfl) Try.underlying59 rfl info_vid
  · rfl
  · exact ⟨rfl, bsets (Nat.le_refl _) _ _ HBW.out⟩
def Wa.enE (A : Wa) (v : Vw) : Int := match viewP A.v.length v with
  | none => 74
  | some s => if v.ep ≤ A.ep then 111 else 0
def Wa.enB (A : Wa) (v : Vw) : Bool := match viewP A.v.length v with
  | none => false
  | some s => if v.ep ≤ A.ep then false else wins A.v s
def Wa.enA (A : Wa) (v : Vw) : Wa := match viewP A.v.length v with
  | none => A
  | some s => if v.ep ≤ A.ep then A else if wins A.v s then { A with ep := v.ep, inn := true, en := A.en + 1, qu := A.qu + 1, l0 := v.ep, l1 := v.ld, l2 := v.ic, l3 := v.cd } else { A with ep := v.ep, inn := false, en := A.en + 1 }
end
end Go.Proofs.Ytnmnobcikmiojaa.Qm
