import Derived.Test.YtfbollifegngjaaWe
namespace Go.Proofs.Ytfbollifegngjaa.Dt
open Go.RowKit
set_option linter.unusedVariables false
set_option maxRecDepth 100000
set_option linter.unusedSimpArgs false
section
variable {R R' : Rf} {w w' W V : World} {B m : Nat}
set_option maxHeartbeats 1000000 in
theorem rheard_arg (h : R.Ok w B) (q inc t : Int) {ao : Option Addr} {n c : Nat} {xs : List Int} (hr : RdI w ao n xs) (hno : R.okArg q inc t xs = false) : Calls Try.prog 42 #[.pointer (some ⟨R.b, 0, none⟩), .int .i64 q, .int .i64 inc, .agg #[.int .i64 t, .slice ao n c]] w fun e w' => e = .returned (.int .i64 1) ∧ Below w.heap.size w w' := by
  generalize hW : w.alloc (.cells #[.int .i64 t, .slice ao n c] 38) = W
  have hbW : Below w.heap.size w W := by rw [← hW]; exact balloc (Below.refl _ w)
  have hblk : W.heap[w.heap.size]? = some (.cells #[.int .i64 t, .slice ao n c] 38 (0, 0)) := by rw [← hW]; exact heap_alloc_new w _
  have q0 : W.cell? ⟨w.heap.size, 0, none⟩ = some (.int .i64 t) := blk_cell hblk 0
  have q1 : W.cell? ⟨w.heap.size, 1, none⟩ = some (.slice ao n c) := blk_cell hblk 1
  have HF := fits_any (c := c) (h.still hbW) q inc t (hr.still hbW)
  rw [hno] at HF
  have Hb : Hid (Below w.heap.size w W) := hbW
  clear h hr hblk hbW
  go_enter Try.func42, Try.ntmps42
  go_wp2_with (first | (go_at_call 52; refine HF.mono ?_; rintro e w1 ⟨rfl, hb1⟩) | fail)
  go_ret
  exact ⟨rfl, bstep Hb.out hb1⟩
set_option maxHeartbeats 1000000 in
theorem rheard_err (h : R.Ok w B) (hA : R.all.length ≤ 2513169434916) (q inc t : Int) {ao : Option Addr} {n c : Nat} {xs : List Int} (hr : RdI w ao n xs) (hyes : R.okArg q inc t xs = true) (x : Int) (hx : (inc < (R.of q).known ∧ x = 50) ∨ (inc = (R.of q).known ∧ t ≤ (R.of q).last ∧ x = 51)) : Calls Try.prog 42 #[.pointer (some ⟨R.b, 0, none⟩), .int .i64 q, .int .i64 inc, .agg #[.int .i64 t, .slice ao n c]] w fun e w' => e = .returned (.int .i64 x) ∧ Below w.heap.size w w' := by
  generalize hW : w.alloc (.cells #[.int .i64 t, .slice ao n c] 38) = W
  have hbW : Below w.heap.size w W := by rw [← hW]; exact balloc (Below.refl _ w)
  have hblk : W.heap[w.heap.size]? = some (.cells #[.int .i64 t, .slice ao n c] 38 (0, 0)) := by rw [← hW]; exact heap_alloc_new w _
  have q0 : W.cell? ⟨w.heap.size, 0, none⟩ = some (.int .i64 t) := blk_cell hblk 0
  have q1 : W.cell? ⟨w.heap.size, 1, none⟩ = some (.slice ao n c) := blk_cell hblk 1
  have HF := fits_any (c := c) (h.still hbW) q inc t (hr.still hbW)
  rw [hyes] at HF
  have HOf : Hid (∀ w', Below W.heap.size W w' → Calls Try.prog 51 #[.pointer (some ⟨R.b, 0, none⟩), .int .i64 q] w' fun e w2 => e = .returned (.agg (R.of q).cs) ∧ Below w'.heap.size w' w2) := fun w' hb => of_any ((h.still hbW).still hb) q (by omega)
  have Hb : Hid (Below w.heap.size w W) := hbW
  generalize R.of q = p at *
  unfold Py.cs at HOf
  clear h hr hblk hbW
  rcases hx with ⟨hx, rfl⟩ | ⟨rfl, hx, rfl⟩
  · go_enter Try.func42, Try.ntmps42
    go_wp2_with (first | (go_at_call 52; refine HF.mono ?_; rintro e w1 ⟨rfl, hb1⟩; have R1 : Hid (Below W.heap.size W w1) := hb1; clear hb1) | (go_at_call 51; refine (HOf.out _ R1.out).mono ?_; rintro e w2 ⟨rfl, hb2⟩; have R2 : Hid (Below W.heap.size W w2) := (bstep R1.out hb2); clear hb2) | fail)
    go_ret
    exact ⟨rfl, balloc (bstep Hb.out R2.out)⟩
  · go_enter Try.func42, Try.ntmps42
    go_wp2_with (first | (go_at_call 52; refine HF.mono ?_; rintro e w1 ⟨rfl, hb1⟩; have R1 : Hid (Below W.heap.size W w1) := hb1; clear hb1) | (go_at_call 51; refine (HOf.out _ R1.out).mono ?_; rintro e w2 ⟨rfl, hb2⟩; have R2 : Hid (Below W.heap.size W w2) := (bstep R1.out hb2); have x0 := below_at (balloc (o := .cells #[.int .i64 p.known, .int .i64 p.last, .int .i64 p.age, .int .i64 p.ticks, .int .i64 p.wrong, .bool p.heard, .bool p.both, .bool p.left] 96) R2.out) q0; clear hb2) | fail)
    go_ret
    exact ⟨rfl, balloc (bstep Hb.out R2.out)⟩
set_option maxHeartbeats 2000000 in
theorem rheard_ok (h : R.Ok w B) (hA : R.all.length ≤ 2513169434916) (q inc t : Int) {ao : Option Addr} {n c : Nat} {xs : List Int} (hr : RdI w ao n xs) (hyes : R.okArg q inc t xs = true) (h1 : ¬ inc < (R.of q).known) (h2 : ¬ (inc = (R.of q).known ∧ t ≤ (R.of q).last)) (hap : ∀ g, (∃ o, ao = some ⟨g, o, none⟩) → ¬ R.own g) : Calls Try.prog 42 #[.pointer (some ⟨R.b, 0, none⟩), .int .i64 q, .int .i64 inc, .agg #[.int .i64 t, .slice ao n c]] w fun e w' => e = .returned (.int .i64 0) ∧ ∃ g cc, Rtep w w' R (R.push ⟨2, q, inc, t, decide (xs.getD R.s 0 = R.inc)⟩ g cc) B := by
  obtain ⟨i0, hi, hz0, hz1, hz2⟩ := info_parts info_past
  have hB : B ≤ w.heap.size := Nat.le_trans h.ge (Nat.le_of_lt (lt_heap h.blk))
  have hnn : n = R.n := by
    have hy := hyes
    unfold Rf.okArg at hy
    simp only [Bool.and_eq_true] at hy
    rw [← hr.1]
    exact of_decide_eq_true hy.2.2.2.1
  subst hnn
  have hnum := h.num
  obtain ⟨ga, oa, hga, hgc⟩ := hr.at (i := R.s) hnum.2.2.1
  have Hap : Hid (¬ R.own ga) := hap ga ⟨oa, hga⟩
  clear hap
  subst hga
  generalize hW : w.alloc (.cells #[.int .i64 t, .slice (some ⟨ga, oa, none⟩) R.n c] 38) = W
  have hbW : Below w.heap.size w W := by rw [← hW]; exact balloc (Below.refl _ w)
  have hblk : W.heap[w.heap.size]? = some (.cells #[.int .i64 t, .slice (some ⟨ga, oa, none⟩) R.n c] 38 (0, 0)) := by rw [← hW]; exact heap_alloc_new w _
  have q0 : W.cell? ⟨w.heap.size, 0, none⟩ = some (.int .i64 t) := blk_cell hblk 0
  have q1 : W.cell? ⟨w.heap.size, 1, none⟩ = some (.slice (some ⟨ga, oa, none⟩) R.n c) := blk_cell hblk 1
  have qx := below_at hbW hgc
  have HF := fits_any (c := c) (h.still hbW) q inc t (hr.still hbW)
  rw [hyes] at HF
  have HOf : Hid (∀ w', Below W.heap.size W w' → Calls Try.prog 51 #[.pointer (some ⟨R.b, 0, none⟩), .int .i64 q] w' fun e w2 => e = .returned (.agg (R.of q).cs) ∧ Below w'.heap.size w' w2) := fun w' hb => of_any ((h.still hbW).still hb) q (by omega)
  have Hb : Hid (Below w.heap.size w W) := hbW
  have Hh : Hid (R.Ok w B) := h
  have i1 : (0 : Int) ≤ (R.s : Int) := Int.natCast_nonneg _
  have i2 : (R.s : Int) < (R.n : Int) := by omega
  generalize R.of q = p at *
  generalize xs.getD R.s 0 = z at *
  unfold Py.cs at HOf
  clear h hr hblk hbW hgc hyes
  have hcase : Hid (inc = p.known ∨ ¬ inc = p.known) := Decidable.em _
  have H2 : Hid (¬ (inc = p.known ∧ t ≤ p.last)) := h2
  clear h2
  go_enter Try.func42, Try.ntmps42
  go_wp2_with (fail)
  refine HF.mono ?_
  rintro e w1 ⟨rfl, hb1⟩
  have R1 : Hid (Below W.heap.size W w1) := hb1
  clear hb1
  go_wp2_with (fail)
  refine (HOf.out _ R1.out).mono ?_
  rintro e w2 ⟨rfl, hb2⟩
  generalize hV : w2.alloc (.cells #[.int .i64 p.known, .int .i64 p.last, .int .i64 p.age, .int .i64 p.ticks, .int .i64 p.wrong, .bool p.heard, .bool p.both, .bool p.left] 96) = V
  have RV : Hid (Below W.heap.size W V) := by rw [← hV]; exact balloc (bstep R1.out hb2)
  have hkV : V.heap[w2.heap.size]? = some (.cells #[.int .i64 p.known, .int .i64 p.last, .int .i64 p.age, .int .i64 p.ticks, .int .i64 p.wrong, .bool p.heard, .bool p.both, .bool p.left] 96 (0, 0)) := by rw [← hV]; exact heap_alloc_new w2 _
  have p0 : V.cell? ⟨w2.heap.size, 0, none⟩ = some (.int .i64 p.known) := blk_cell hkV 0
  have p1 : V.cell? ⟨w2.heap.size, 1, none⟩ = some (.int .i64 p.last) := blk_cell hkV 1
  have x0 := below_at RV.out q0
  have x1 := below_at RV.out q1
  have xx := below_at RV.out qx
  have hRV := Hh.out.still (bstep Hb.out RV.out)
  obtain ⟨c0, c1, c2, c3, c4, c5, c6⟩ := hRV.cells
  have HRV : Hid (R.Ok V B) := hRV
  have HbV : Hid (Below w.heap.size w V) := bstep Hb.out RV.out
  have hBV : B ≤ V.heap.size := Nat.le_trans hB HbV.out.size
  clear hb2 hkV hRV HOf HF q0 q1 qx
  by_cases hk : inc = p.known
  · have hdl : decide (t ≤ p.last) = false := decide_eq_false (by have := H2.out; omega)
    have hd1 : (inc == p.known) = true := by simp [hk]
    clear hk
    go_wp2
    refine wp_region_held_drew (S := (fun w' => w'.cell? ⟨w.heap.size, 0, none⟩ = some (.int .i64 t) ∧ w'.cell? ⟨w.heap.size, 1, none⟩ = some (.slice (some ⟨ga, oa, none⟩) R.n c) ∧ w'.cell? ⟨R.b, 1, none⟩ = some (.int .i64 (R.s : Int)) ∧ w'.cell? ⟨ga, oa + R.s, none⟩ = some (.int .i64 z) ∧ w'.cell? ⟨R.b, 2, none⟩ = some (.int .i64 R.inc))) (by kernel_rfl) ⟨cell_drew x0, cell_drew x1, cell_drew c1, cell_drew xx, cell_drew c2⟩ (fun hHeld => ?_)
    simp only [Act.put, List.size_toArray, List.length_cons, List.length_nil, Nat.zero_add]
    refine wpAnyH_take (i := 0) (v := .pointer (some ⟨R.b, 0, none⟩)) rfl (by kernel_rfl) (by kernel_rfl) (by kernel_rfl) (fun _ _ _ h => h) (Or.inl ⟨by rfl, fun w' hS => by go_simp⟩) hHeld ?_
    simp only [Act.put, List.getElem_toArray, List.getElem_cons_zero, List.getElem_cons_succ, List.setIfInBounds_toArray, List.set_cons_zero, List.set_cons_succ]
    refine wpAnyH_take (i := 1) (v := .pointer (some ⟨R.b, 0, none⟩)) rfl (by kernel_rfl) (by kernel_rfl) (by kernel_rfl) (fun _ _ _ h => h) (Or.inl ⟨by rfl, fun w' hS => by go_simp⟩) hHeld ?_
    simp only [Act.put, List.getElem_toArray, List.getElem_cons_zero, List.getElem_cons_succ, List.setIfInBounds_toArray, List.set_cons_zero, List.set_cons_succ]
    refine wpAnyH_take (i := 2) (v := .pointer (some ⟨R.b, 0, none⟩)) rfl (by kernel_rfl) (by kernel_rfl) (by kernel_rfl) (fun _ _ _ h => h) (Or.inl ⟨by rfl, fun w' hS => by go_simp⟩) hHeld ?_
    simp only [Act.put, List.getElem_toArray, List.getElem_cons_zero, List.getElem_cons_succ, List.setIfInBounds_toArray, List.set_cons_zero, List.set_cons_succ]
    refine wpAnyH_take (i := 3) (v := .pointer (some ⟨R.b, 6, none⟩)) rfl (by kernel_rfl) (by kernel_rfl) (by kernel_rfl) (fun _ _ _ h => h) (Or.inl ⟨by rfl, fun w' hS => by go_simp⟩) hHeld ?_
    simp only [Act.put, List.getElem_toArray, List.getElem_cons_zero, List.getElem_cons_succ, List.setIfInBounds_toArray, List.set_cons_zero, List.set_cons_succ]
    refine wpAnyH_take (i := 5) (v := .int .i64 q) rfl (by kernel_rfl) (by kernel_rfl) (by kernel_rfl) (fun _ _ _ h => h) (Or.inl ⟨by rfl, fun w' hS => by go_simp⟩) hHeld ?_
    simp only [Act.put, List.getElem_toArray, List.getElem_cons_zero, List.getElem_cons_succ, List.setIfInBounds_toArray, List.set_cons_zero, List.set_cons_succ]
    refine wpAnyH_take (i := 6) (v := .int .i64 inc) rfl (by kernel_rfl) (by kernel_rfl) (by kernel_rfl) (fun _ _ _ h => h) (Or.inl ⟨by rfl, fun w' hS => by go_simp⟩) hHeld ?_
    simp only [Act.put, List.getElem_toArray, List.getElem_cons_zero, List.getElem_cons_succ, List.setIfInBounds_toArray, List.set_cons_zero, List.set_cons_succ]
    refine wpAnyH_take (i := 7) (v := .pointer (some ⟨w.heap.size, 0, none⟩)) rfl (by kernel_rfl) (by kernel_rfl) (by kernel_rfl) (fun _ _ _ h => h) (Or.inl ⟨by rfl, fun w' hS => by go_simp⟩) hHeld ?_
    simp only [Act.put, List.getElem_toArray, List.getElem_cons_zero, List.getElem_cons_succ, List.setIfInBounds_toArray, List.set_cons_zero, List.set_cons_succ]
    refine wpAnyH_take (i := 8) (v := .int .i64 t) rfl (by kernel_rfl) (by kernel_rfl) (by kernel_rfl) (fun _ _ _ h => h) (Or.inl ⟨by rfl, fun w' hS => by (obtain ⟨s1, s2, s3, s4, s5⟩ := hS; go_simp)⟩) hHeld ?_
    simp only [Act.put, List.getElem_toArray, List.getElem_cons_zero, List.getElem_cons_succ, List.setIfInBounds_toArray, List.set_cons_zero, List.set_cons_succ]
    refine wpAnyH_take (i := 9) (v := .pointer (some ⟨w.heap.size, 1, none⟩)) rfl (by kernel_rfl) (by kernel_rfl) (by kernel_rfl) (fun _ _ _ h => h) (Or.inl ⟨by rfl, fun w' hS => by go_simp⟩) hHeld ?_
    simp only [Act.put, List.getElem_toArray, List.getElem_cons_zero, List.getElem_cons_succ, List.setIfInBounds_toArray, List.set_cons_zero, List.set_cons_succ]
    refine wpAnyH_take (i := 10) (v := .slice (some ⟨ga, oa, none⟩) R.n c) rfl (by kernel_rfl) (by kernel_rfl) (by kernel_rfl) (fun _ _ _ h => h) (Or.inl ⟨by rfl, fun w' hS => by (obtain ⟨s1, s2, s3, s4, s5⟩ := hS; go_simp)⟩) hHeld ?_
    simp only [Act.put, List.getElem_toArray, List.getElem_cons_zero, List.getElem_cons_succ, List.setIfInBounds_toArray, List.set_cons_zero, List.set_cons_succ]
    refine wpAnyH_take (i := 11) (v := .pointer (some ⟨R.b, 0, none⟩)) rfl (by kernel_rfl) (by kernel_rfl) (by kernel_rfl) (fun _ _ _ h => h) (Or.inl ⟨by rfl, fun w' hS => by go_simp⟩) hHeld ?_
    simp only [Act.put, List.getElem_toArray, List.getElem_cons_zero, List.getElem_cons_succ, List.setIfInBounds_toArray, List.set_cons_zero, List.set_cons_succ]
    refine wpAnyH_take (i := 12) (v := .pointer (some ⟨R.b, 0, none⟩)) rfl (by kernel_rfl) (by kernel_rfl) (by kernel_rfl) (fun _ _ _ h => h) (Or.inl ⟨by rfl, fun w' hS => by go_simp⟩) hHeld ?_
    simp only [Act.put, List.getElem_toArray, List.getElem_cons_zero, List.getElem_cons_succ, List.setIfInBounds_toArray, List.set_cons_zero, List.set_cons_succ]
    refine wpAnyH_take (i := 13) (v := .pointer (some ⟨R.b, 1, none⟩)) rfl (by kernel_rfl) (by kernel_rfl) (by kernel_rfl) (fun _ _ _ h => h) (Or.inl ⟨by rfl, fun w' hS => by go_simp⟩) hHeld ?_
    simp only [Act.put, List.getElem_toArray, List.getElem_cons_zero, List.getElem_cons_succ, List.setIfInBounds_toArray, List.set_cons_zero, List.set_cons_succ]
    refine wpAnyH_take (i := 14) (v := .int .i64 (R.s : Int)) rfl (by kernel_rfl) (by kernel_rfl) (by kernel_rfl) (fun _ _ _ h => h) (Or.inl ⟨by rfl, fun w' hS => by (obtain ⟨s1, s2, s3, s4, s5⟩ := hS; go_simp)⟩) hHeld ?_
    simp only [Act.put, List.getElem_toArray, List.getElem_cons_zero, List.getElem_cons_succ, List.setIfInBounds_toArray, List.set_cons_zero, List.set_cons_succ]
    refine wpAnyH_take (i := 15) (v := .pointer (some ⟨ga, oa + R.s, none⟩)) rfl (by kernel_rfl) (by kernel_rfl) (by kernel_rfl) (fun _ _ _ h => h) (Or.inl ⟨by rfl, fun w' hS => by go_simp⟩) hHeld ?_
    simp only [Act.put, List.getElem_toArray, List.getElem_cons_zero, List.getElem_cons_succ, List.setIfInBounds_toArray, List.set_cons_zero, List.set_cons_succ]
    refine wpAnyH_take (i := 16) (v := .int .i64 z) rfl (by kernel_rfl) (by kernel_rfl) (by kernel_rfl) (fun _ _ _ h => h) (Or.inl ⟨by rfl, fun w' hS => by (obtain ⟨s1, s2, s3, s4, s5⟩ := hS; go_simp)⟩) hHeld ?_
    simp only [Act.put, List.getElem_toArray, List.getElem_cons_zero, List.getElem_cons_succ, List.setIfInBounds_toArray, List.set_cons_zero, List.set_cons_succ]
    refine wpAnyH_take (i := 17) (v := .pointer (some ⟨R.b, 0, none⟩)) rfl (by kernel_rfl) (by kernel_rfl) (by kernel_rfl) (fun _ _ _ h => h) (Or.inl ⟨by rfl, fun w' hS => by go_simp⟩) hHeld ?_
    simp only [Act.put, List.getElem_toArray, List.getElem_cons_zero, List.getElem_cons_succ, List.setIfInBounds_toArray, List.set_cons_zero, List.set_cons_succ]
    refine wpAnyH_take (i := 18) (v := .pointer (some ⟨R.b, 0, none⟩)) rfl (by kernel_rfl) (by kernel_rfl) (by kernel_rfl) (fun _ _ _ h => h) (Or.inl ⟨by rfl, fun w' hS => by go_simp⟩) hHeld ?_
    simp only [Act.put, List.getElem_toArray, List.getElem_cons_zero, List.getElem_cons_succ, List.setIfInBounds_toArray, List.set_cons_zero, List.set_cons_succ]
    refine wpAnyH_take (i := 19) (v := .pointer (some ⟨R.b, 2, none⟩)) rfl (by kernel_rfl) (by kernel_rfl) (by kernel_rfl) (fun _ _ _ h => h) (Or.inl ⟨by rfl, fun w' hS => by go_simp⟩) hHeld ?_
    simp only [Act.put, List.getElem_toArray, List.getElem_cons_zero, List.getElem_cons_succ, List.setIfInBounds_toArray, List.set_cons_zero, List.set_cons_succ]
    refine wpAnyH_take (i := 20) (v := .int .i64 R.inc) rfl (by kernel_rfl) (by kernel_rfl) (by kernel_rfl) (fun _ _ _ h => h) (Or.inl ⟨by rfl, fun w' hS => by (obtain ⟨s1, s2, s3, s4, s5⟩ := hS; go_simp)⟩) hHeld ?_
    simp only [Act.put, List.getElem_toArray, List.getElem_cons_zero, List.getElem_cons_succ, List.setIfInBounds_toArray, List.set_cons_zero, List.set_cons_succ]
    refine wpAnyH_take (i := 21) (v := .bool (decide (z = R.inc))) rfl (by kernel_rfl) (by kernel_rfl) (by kernel_rfl) (fun _ _ _ h => h) (Or.inl ⟨by rfl, fun w' hS => by (go_simp; rfl)⟩) hHeld ?_
    simp only [Act.put, List.getElem_toArray, List.getElem_cons_zero, List.getElem_cons_succ, List.setIfInBounds_toArray, List.set_cons_zero, List.set_cons_succ]
    refine wpAnyH_take (i := 22) (v := .agg #[.int .i64 2, .int .i64 q, .int .i64 inc, .int .i64 t, .bool (decide (z = R.inc))]) rfl (by kernel_rfl) (by kernel_rfl) (by kernel_rfl) (fun _ _ _ h => h) (Or.inl ⟨by rfl, fun w' hS => by go_simp⟩) hHeld ?_
    simp only [Act.put, List.getElem_toArray, List.getElem_cons_zero, List.getElem_cons_succ, List.setIfInBounds_toArray, List.set_cons_zero, List.set_cons_succ]
    refine wpAnyH_ready (rs := [4, 23]) (by kernel_rfl) (by simp) ?_
    refine AllReadyH.cons rfl (fun K hK => ?_) (AllReadyH.cons rfl (fun K hK => ?_) AllReadyH.nil)
    · go_simp
      refine hK.out _ _ ⟨below_at (Below.refl _ V).drew x0, below_at (Below.refl _ V).drew x1, below_at (Below.refl _ V).drew c1, below_at (Below.refl _ V).drew xx, below_at (Below.refl _ V).drew c2⟩ (fun hHeld => ?_)
      clear hK K
      refine wpAnyH_ready (rs := [23]) (by kernel_rfl) (by simp) ?_
      refine AllReadyH.cons rfl (fun K hK => ?_) AllReadyH.nil
      go_simp
      refine hK.out _ _ ⟨below_at (balloc (Below.refl _ V).drew) x0, below_at (balloc (Below.refl _ V).drew) x1, below_at (balloc (Below.refl _ V).drew) c1, below_at (balloc (Below.refl _ V).drew) xx, below_at (balloc (Below.refl _ V).drew) c2⟩ (fun hHeld => ?_)
      clear hK K
      refine wpAnyH_ready (rs := [24]) (by kernel_rfl) (by simp) ?_
      refine AllReadyH.cons rfl (fun K hK => ?_) AllReadyH.nil
      refine step_append_lies _ (by rfl) _ _ 86 (by rfl) B 100 i0 (.agg #[.int .i64 0, .int .i64 0, .int .i64 0, .int .i64 0, .bool false]) 5 40 Try.underlying86 hi hz0 hz1 hz2 (by rfl) (by omega) (.slice R.va R.all.length R.vc) R.all.length (psCells R.all) (by rfl) (own_still HRV.out.row (balloc (Below.refl _ V).drew)) _ 1 1 _ (by rfl) (by rfl) (World.news_of_block (heap_alloc_new _ _)) (by simp [Value.oneCell']) (by omega) (by unfold maxLen; omega) (by first | (simp; omega) | omega) (by first | (simp; omega) | omega) _ (by rfl) ?_
      intro g3 cap3 w3 hown3 hgrow3 hat3 hlt3
      obtain ⟨t6, tz, tb⟩ := rfar HRV.out (balloc (Below.refl _ V).drew) hgrow3
      have P3 : Hid (Rtep V (w3.setCell ⟨R.b, 6, none⟩ (.slice (some ⟨g3, 0, none⟩) (R.all.length + 1) cap3)) R (R.push ⟨2, q, inc, t, decide (z = R.inc)⟩ g3 cap3) B) := Rtep.push HRV.out (balloc (Below.refl _ V).drew) ⟨2, q, inc, t, decide (z = R.inc)⟩ g3 cap3 hown3 hgrow3 hat3
      have kg := Kept.ofGrown hgrow3
      have n1 : ¬ some w.heap.size = (Value.slice R.va R.all.length R.vc).ownBlock := fun e => by have := Hh.out.ltOwn (.inr e.symm); omega
      have n2 : ¬ some ga = (Value.slice R.va R.all.length R.vc).ownBlock := fun e => Hap.out (.inr e.symm)
      have u0 : w3.cell? ⟨w.heap.size, 0, none⟩ = some (.int .i64 t) := cell_keep kg n1 (below_at (balloc (Below.refl _ V).drew) x0)
      have u1 : w3.cell? ⟨w.heap.size, 1, none⟩ = some (.slice (some ⟨ga, oa, none⟩) R.n c) := cell_keep kg n1 (below_at (balloc (Below.refl _ V).drew) x1)
      have u2 : w3.cell? ⟨ga, oa + R.s, none⟩ = some (.int .i64 z) := cell_keep kg n2 (below_at (balloc (Below.refl _ V).drew) xx)
      have u3 : w3.cell? ⟨R.b, 1, none⟩ = some (.int .i64 (R.s : Int)) := blk_cell tb 1
      have u4 : w3.cell? ⟨R.b, 2, none⟩ = some (.int .i64 R.inc) := blk_cell tb 2
      have hwb : w.heap.size ≠ R.b := by have := lt_heap Hh.out.blk; omega
      have hgb : ga ≠ R.b := fun e => Hap.out (.inl e)
      have v3 : (w3.setCell ⟨R.b, 6, none⟩ (.slice (some ⟨g3, 0, none⟩) (R.all.length + 1) cap3)).cell? ⟨R.b, 1, none⟩ = some (.int .i64 (R.s : Int)) := cell_of (blkset tb) 1 rfl
      have v4 : (w3.setCell ⟨R.b, 6, none⟩ (.slice (some ⟨g3, 0, none⟩) (R.all.length + 1) cap3)).cell? ⟨R.b, 2, none⟩ = some (.int .i64 R.inc) := cell_of (blkset tb) 2 rfl
      refine hK.out _ _ ⟨u0, u1, u3, u2, u4⟩ (fun hHeld => ?_)
      clear hK K hown3 hgrow3 hat3 kg
      refine wpAnyH_take (i := 25) (v := .pointer (some ⟨R.b, 0, none⟩)) rfl (by kernel_rfl) (by kernel_rfl) (by kernel_rfl) (fun _ _ _ h => h) (Or.inl ⟨by rfl, fun w' hS => by go_simp⟩) hHeld ?_
      simp only [Act.put, List.getElem_toArray, List.getElem_cons_zero, List.getElem_cons_succ, List.setIfInBounds_toArray, List.set_cons_zero, List.set_cons_succ]
      refine wpAnyH_take (i := 26) (v := .pointer (some ⟨R.b, 6, none⟩)) rfl (by kernel_rfl) (by kernel_rfl) (by kernel_rfl) (fun _ _ _ h => h) (Or.inl ⟨by rfl, fun w' hS => by go_simp⟩) hHeld ?_
      simp only [Act.put, List.getElem_toArray, List.getElem_cons_zero, List.getElem_cons_succ, List.setIfInBounds_toArray, List.set_cons_zero, List.set_cons_succ]
      refine wpAnyH_ready (rs := [27]) (by kernel_rfl) (by simp) ?_
      refine AllReadyH.cons rfl (fun K hK => ?_) AllReadyH.nil
      go_simp
      refine hK.out _ _ ⟨cell_set_ne u0 hwb, cell_set_ne u1 hwb, v3, cell_set_ne u2 hgb, v4⟩ (fun hHeld => ?_)
      clear hK K
      refine wpAnyH_done (by kernel_rfl) ?_ _
      clear hHeld
      go_wp2
      go_ret
      exact ⟨rfl, g3, cap3, Rtep.pre HbV.out P3.out⟩
    · go_simp
      refine hK.out _ _ ⟨below_at (balloc (Below.refl _ V).drew) x0, below_at (balloc (Below.refl _ V).drew) x1, below_at (balloc (Below.refl _ V).drew) c1, below_at (balloc (Below.refl _ V).drew) xx, below_at (balloc (Below.refl _ V).drew) c2⟩ (fun hHeld => ?_)
      clear hK K
      have d6 : ∀ o, (V.drew.alloc o).cell? ⟨R.b, 6, none⟩ = some (.slice R.va R.all.length R.vc) := fun o => below_at (balloc (Below.refl _ V).drew) c6
      have d6' : ∀ o, (V.alloc o).cell? ⟨R.b, 6, none⟩ = some (.slice R.va R.all.length R.vc) := fun o => below_at (balloc (Below.refl _ V)) c6
      refine wpAnyH_ready (rs := [4]) (by kernel_rfl) (by simp) ?_
      refine AllReadyH.cons rfl (fun K hK => ?_) AllReadyH.nil
      go_simp
      refine hK.out _ _ ⟨below_at (balloc (Below.refl _ V).drew) x0, below_at (balloc (Below.refl _ V).drew) x1, below_at (balloc (Below.refl _ V).drew) c1, below_at (balloc (Below.refl _ V).drew) xx, below_at (balloc (Below.refl _ V).drew) c2⟩ (fun hHeld => ?_)
      clear hK K
      refine wpAnyH_ready (rs := [24]) (by kernel_rfl) (by simp) ?_
      refine AllReadyH.cons rfl (fun K hK => ?_) AllReadyH.nil
      refine step_append_lies _ (by rfl) _ _ 86 (by rfl) B 100 i0 (.agg #[.int .i64 0, .int .i64 0, .int .i64 0, .int .i64 0, .bool false]) 5 40 Try.underlying86 hi hz0 hz1 hz2 (by rfl) (by omega) (.slice R.va R.all.length R.vc) R.all.length (psCells R.all) (by rfl) (own_still HRV.out.row (balloc (Below.refl _ V).drew)) _ 1 1 _ (by rfl) (by rfl) (World.news_of_block (heap_alloc_new _ _)) (by simp [Value.oneCell']) (by omega) (by unfold maxLen; omega) (by first | (simp; omega) | omega) (by first | (simp; omega) | omega) _ (by rfl) ?_
      intro g3 cap3 w3 hown3 hgrow3 hat3 hlt3
      obtain ⟨t6, tz, tb⟩ := rfar HRV.out (balloc (Below.refl _ V).drew) hgrow3
      have P3 : Hid (Rtep V (w3.setCell ⟨R.b, 6, none⟩ (.slice (some ⟨g3, 0, none⟩) (R.all.length + 1) cap3)) R (R.push ⟨2, q, inc, t, decide (z = R.inc)⟩ g3 cap3) B) := Rtep.push HRV.out (balloc (Below.refl _ V).drew) ⟨2, q, inc, t, decide (z = R.inc)⟩ g3 cap3 hown3 hgrow3 hat3
      have kg := Kept.ofGrown hgrow3
      have n1 : ¬ some w.heap.size = (Value.slice R.va R.all.length R.vc).ownBlock := fun e => by have := Hh.out.ltOwn (.inr e.symm); omega
      have n2 : ¬ some ga = (Value.slice R.va R.all.length R.vc).ownBlock := fun e => Hap.out (.inr e.symm)
      have u0 : w3.cell? ⟨w.heap.size, 0, none⟩ = some (.int .i64 t) := cell_keep kg n1 (below_at (balloc (Below.refl _ V).drew) x0)
      have u1 : w3.cell? ⟨w.heap.size, 1, none⟩ = some (.slice (some ⟨ga, oa, none⟩) R.n c) := cell_keep kg n1 (below_at (balloc (Below.refl _ V).drew) x1)
      have u2 : w3.cell? ⟨ga, oa + R.s, none⟩ = some (.int .i64 z) := cell_keep kg n2 (below_at (balloc (Below.refl _ V).drew) xx)
      have u3 : w3.cell? ⟨R.b, 1, none⟩ = some (.int .i64 (R.s : Int)) := blk_cell tb 1
      have u4 : w3.cell? ⟨R.b, 2, none⟩ = some (.int .i64 R.inc) := blk_cell tb 2
      have hwb : w.heap.size ≠ R.b := by have := lt_heap Hh.out.blk; omega
      have hgb : ga ≠ R.b := fun e => Hap.out (.inl e)
      have v3 : (w3.setCell ⟨R.b, 6, none⟩ (.slice (some ⟨g3, 0, none⟩) (R.all.length + 1) cap3)).cell? ⟨R.b, 1, none⟩ = some (.int .i64 (R.s : Int)) := cell_of (blkset tb) 1 rfl
      have v4 : (w3.setCell ⟨R.b, 6, none⟩ (.slice (some ⟨g3, 0, none⟩) (R.all.length + 1) cap3)).cell? ⟨R.b, 2, none⟩ = some (.int .i64 R.inc) := cell_of (blkset tb) 2 rfl
      refine hK.out _ _ ⟨u0, u1, u3, u2, u4⟩ (fun hHeld => ?_)
      clear hK K hown3 hgrow3 hat3 kg
      refine wpAnyH_take (i := 25) (v := .pointer (some ⟨R.b, 0, none⟩)) rfl (by kernel_rfl) (by kernel_rfl) (by kernel_rfl) (fun _ _ _ h => h) (Or.inl ⟨by rfl, fun w' hS => by go_simp⟩) hHeld ?_
      simp only [Act.put, List.getElem_toArray, List.getElem_cons_zero, List.getElem_cons_succ, List.setIfInBounds_toArray, List.set_cons_zero, List.set_cons_succ]
      refine wpAnyH_take (i := 26) (v := .pointer (some ⟨R.b, 6, none⟩)) rfl (by kernel_rfl) (by kernel_rfl) (by kernel_rfl) (fun _ _ _ h => h) (Or.inl ⟨by rfl, fun w' hS => by go_simp⟩) hHeld ?_
      simp only [Act.put, List.getElem_toArray, List.getElem_cons_zero, List.getElem_cons_succ, List.setIfInBounds_toArray, List.set_cons_zero, List.set_cons_succ]
      refine wpAnyH_ready (rs := [27]) (by kernel_rfl) (by simp) ?_
      refine AllReadyH.cons rfl (fun K hK => ?_) AllReadyH.nil
      go_simp
      refine hK.out _ _ ⟨cell_set_ne u0 hwb, cell_set_ne u1 hwb, v3, cell_set_ne u2 hgb, v4⟩ (fun hHeld => ?_)
      clear hK K
      refine wpAnyH_done (by kernel_rfl) ?_ _
      clear hHeld
      go_wp2
      go_ret
      exact ⟨rfl, g3, cap3, Rtep.pre HbV.out P3.out⟩
  · have hd1 : (inc == p.known) = false := by simp [hk]
    clear hk
    go_wp2
    refine wp_region_held_drew (S := (fun w' => w'.cell? ⟨w.heap.size, 0, none⟩ = some (.int .i64 t) ∧ w'.cell? ⟨w.heap.size, 1, none⟩ = some (.slice (some ⟨ga, oa, none⟩) R.n c) ∧ w'.cell? ⟨R.b, 1, none⟩ = some (.int .i64 (R.s : Int)) ∧ w'.cell? ⟨ga, oa + R.s, none⟩ = some (.int .i64 z) ∧ w'.cell? ⟨R.b, 2, none⟩ = some (.int .i64 R.inc))) (by kernel_rfl) ⟨cell_drew x0, cell_drew x1, cell_drew c1, cell_drew xx, cell_drew c2⟩ (fun hHeld => ?_)
    simp only [Act.put, List.size_toArray, List.length_cons, List.length_nil, Nat.zero_add]
    refine wpAnyH_take (i := 0) (v := .pointer (some ⟨R.b, 0, none⟩)) rfl (by kernel_rfl) (by kernel_rfl) (by kernel_rfl) (fun _ _ _ h => h) (Or.inl ⟨by rfl, fun w' hS => by go_simp⟩) hHeld ?_
    simp only [Act.put, List.getElem_toArray, List.getElem_cons_zero, List.getElem_cons_succ, List.setIfInBounds_toArray, List.set_cons_zero, List.set_cons_succ]
    refine wpAnyH_take (i := 1) (v := .pointer (some ⟨R.b, 0, none⟩)) rfl (by kernel_rfl) (by kernel_rfl) (by kernel_rfl) (fun _ _ _ h => h) (Or.inl ⟨by rfl, fun w' hS => by go_simp⟩) hHeld ?_
    simp only [Act.put, List.getElem_toArray, List.getElem_cons_zero, List.getElem_cons_succ, List.setIfInBounds_toArray, List.set_cons_zero, List.set_cons_succ]
    refine wpAnyH_take (i := 2) (v := .pointer (some ⟨R.b, 0, none⟩)) rfl (by kernel_rfl) (by kernel_rfl) (by kernel_rfl) (fun _ _ _ h => h) (Or.inl ⟨by rfl, fun w' hS => by go_simp⟩) hHeld ?_
    simp only [Act.put, List.getElem_toArray, List.getElem_cons_zero, List.getElem_cons_succ, List.setIfInBounds_toArray, List.set_cons_zero, List.set_cons_succ]
    refine wpAnyH_take (i := 3) (v := .pointer (some ⟨R.b, 6, none⟩)) rfl (by kernel_rfl) (by kernel_rfl) (by kernel_rfl) (fun _ _ _ h => h) (Or.inl ⟨by rfl, fun w' hS => by go_simp⟩) hHeld ?_
    simp only [Act.put, List.getElem_toArray, List.getElem_cons_zero, List.getElem_cons_succ, List.setIfInBounds_toArray, List.set_cons_zero, List.set_cons_succ]
    refine wpAnyH_take (i := 5) (v := .int .i64 q) rfl (by kernel_rfl) (by kernel_rfl) (by kernel_rfl) (fun _ _ _ h => h) (Or.inl ⟨by rfl, fun w' hS => by go_simp⟩) hHeld ?_
    simp only [Act.put, List.getElem_toArray, List.getElem_cons_zero, List.getElem_cons_succ, List.setIfInBounds_toArray, List.set_cons_zero, List.set_cons_succ]
    refine wpAnyH_take (i := 6) (v := .int .i64 inc) rfl (by kernel_rfl) (by kernel_rfl) (by kernel_rfl) (fun _ _ _ h => h) (Or.inl ⟨by rfl, fun w' hS => by go_simp⟩) hHeld ?_
    simp only [Act.put, List.getElem_toArray, List.getElem_cons_zero, List.getElem_cons_succ, List.setIfInBounds_toArray, List.set_cons_zero, List.set_cons_succ]
    refine wpAnyH_take (i := 7) (v := .pointer (some ⟨w.heap.size, 0, none⟩)) rfl (by kernel_rfl) (by kernel_rfl) (by kernel_rfl) (fun _ _ _ h => h) (Or.inl ⟨by rfl, fun w' hS => by go_simp⟩) hHeld ?_
    simp only [Act.put, List.getElem_toArray, List.getElem_cons_zero, List.getElem_cons_succ, List.setIfInBounds_toArray, List.set_cons_zero, List.set_cons_succ]
    refine wpAnyH_take (i := 8) (v := .int .i64 t) rfl (by kernel_rfl) (by kernel_rfl) (by kernel_rfl) (fun _ _ _ h => h) (Or.inl ⟨by rfl, fun w' hS => by (obtain ⟨s1, s2, s3, s4, s5⟩ := hS; go_simp)⟩) hHeld ?_
    simp only [Act.put, List.getElem_toArray, List.getElem_cons_zero, List.getElem_cons_succ, List.setIfInBounds_toArray, List.set_cons_zero, List.set_cons_succ]
    refine wpAnyH_take (i := 9) (v := .pointer (some ⟨w.heap.size, 1, none⟩)) rfl (by kernel_rfl) (by kernel_rfl) (by kernel_rfl) (fun _ _ _ h => h) (Or.inl ⟨by rfl, fun w' hS => by go_simp⟩) hHeld ?_
    simp only [Act.put, List.getElem_toArray, List.getElem_cons_zero, List.getElem_cons_succ, List.setIfInBounds_toArray, List.set_cons_zero, List.set_cons_succ]
    refine wpAnyH_take (i := 10) (v := .slice (some ⟨ga, oa, none⟩) R.n c) rfl (by kernel_rfl) (by kernel_rfl) (by kernel_rfl) (fun _ _ _ h => h) (Or.inl ⟨by rfl, fun w' hS => by (obtain ⟨s1, s2, s3, s4, s5⟩ := hS; go_simp)⟩) hHeld ?_
    simp only [Act.put, List.getElem_toArray, List.getElem_cons_zero, List.getElem_cons_succ, List.setIfInBounds_toArray, List.set_cons_zero, List.set_cons_succ]
    refine wpAnyH_take (i := 11) (v := .pointer (some ⟨R.b, 0, none⟩)) rfl (by kernel_rfl) (by kernel_rfl) (by kernel_rfl) (fun _ _ _ h => h) (Or.inl ⟨by rfl, fun w' hS => by go_simp⟩) hHeld ?_
    simp only [Act.put, List.getElem_toArray, List.getElem_cons_zero, List.getElem_cons_succ, List.setIfInBounds_toArray, List.set_cons_zero, List.set_cons_succ]
    refine wpAnyH_take (i := 12) (v := .pointer (some ⟨R.b, 0, none⟩)) rfl (by kernel_rfl) (by kernel_rfl) (by kernel_rfl) (fun _ _ _ h => h) (Or.inl ⟨by rfl, fun w' hS => by go_simp⟩) hHeld ?_
    simp only [Act.put, List.getElem_toArray, List.getElem_cons_zero, List.getElem_cons_succ, List.setIfInBounds_toArray, List.set_cons_zero, List.set_cons_succ]
    refine wpAnyH_take (i := 13) (v := .pointer (some ⟨R.b, 1, none⟩)) rfl (by kernel_rfl) (by kernel_rfl) (by kernel_rfl) (fun _ _ _ h => h) (Or.inl ⟨by rfl, fun w' hS => by go_simp⟩) hHeld ?_
    simp only [Act.put, List.getElem_toArray, List.getElem_cons_zero, List.getElem_cons_succ, List.setIfInBounds_toArray, List.set_cons_zero, List.set_cons_succ]
    refine wpAnyH_take (i := 14) (v := .int .i64 (R.s : Int)) rfl (by kernel_rfl) (by kernel_rfl) (by kernel_rfl) (fun _ _ _ h => h) (Or.inl ⟨by rfl, fun w' hS => by (obtain ⟨s1, s2, s3, s4, s5⟩ := hS; go_simp)⟩) hHeld ?_
    simp only [Act.put, List.getElem_toArray, List.getElem_cons_zero, List.getElem_cons_succ, List.setIfInBounds_toArray, List.set_cons_zero, List.set_cons_succ]
    refine wpAnyH_take (i := 15) (v := .pointer (some ⟨ga, oa + R.s, none⟩)) rfl (by kernel_rfl) (by kernel_rfl) (by kernel_rfl) (fun _ _ _ h => h) (Or.inl ⟨by rfl, fun w' hS => by go_simp⟩) hHeld ?_
    simp only [Act.put, List.getElem_toArray, List.getElem_cons_zero, List.getElem_cons_succ, List.setIfInBounds_toArray, List.set_cons_zero, List.set_cons_succ]
    refine wpAnyH_take (i := 16) (v := .int .i64 z) rfl (by kernel_rfl) (by kernel_rfl) (by kernel_rfl) (fun _ _ _ h => h) (Or.inl ⟨by rfl, fun w' hS => by (obtain ⟨s1, s2, s3, s4, s5⟩ := hS; go_simp)⟩) hHeld ?_
    simp only [Act.put, List.getElem_toArray, List.getElem_cons_zero, List.getElem_cons_succ, List.setIfInBounds_toArray, List.set_cons_zero, List.set_cons_succ]
    refine wpAnyH_take (i := 17) (v := .pointer (some ⟨R.b, 0, none⟩)) rfl (by kernel_rfl) (by kernel_rfl) (by kernel_rfl) (fun _ _ _ h => h) (Or.inl ⟨by rfl, fun w' hS => by go_simp⟩) hHeld ?_
    simp only [Act.put, List.getElem_toArray, List.getElem_cons_zero, List.getElem_cons_succ, List.setIfInBounds_toArray, List.set_cons_zero, List.set_cons_succ]
    refine wpAnyH_take (i := 18) (v := .pointer (some ⟨R.b, 0, none⟩)) rfl (by kernel_rfl) (by kernel_rfl) (by kernel_rfl) (fun _ _ _ h => h) (Or.inl ⟨by rfl, fun w' hS => by go_simp⟩) hHeld ?_
    simp only [Act.put, List.getElem_toArray, List.getElem_cons_zero, List.getElem_cons_succ, List.setIfInBounds_toArray, List.set_cons_zero, List.set_cons_succ]
    refine wpAnyH_take (i := 19) (v := .pointer (some ⟨R.b, 2, none⟩)) rfl (by kernel_rfl) (by kernel_rfl) (by kernel_rfl) (fun _ _ _ h => h) (Or.inl ⟨by rfl, fun w' hS => by go_simp⟩) hHeld ?_
    simp only [Act.put, List.getElem_toArray, List.getElem_cons_zero, List.getElem_cons_succ, List.setIfInBounds_toArray, List.set_cons_zero, List.set_cons_succ]
    refine wpAnyH_take (i := 20) (v := .int .i64 R.inc) rfl (by kernel_rfl) (by kernel_rfl) (by kernel_rfl) (fun _ _ _ h => h) (Or.inl ⟨by rfl, fun w' hS => by (obtain ⟨s1, s2, s3, s4, s5⟩ := hS; go_simp)⟩) hHeld ?_
    simp only [Act.put, List.getElem_toArray, List.getElem_cons_zero, List.getElem_cons_succ, List.setIfInBounds_toArray, List.set_cons_zero, List.set_cons_succ]
    refine wpAnyH_take (i := 21) (v := .bool (decide (z = R.inc))) rfl (by kernel_rfl) (by kernel_rfl) (by kernel_rfl) (fun _ _ _ h => h) (Or.inl ⟨by rfl, fun w' hS => by (go_simp; rfl)⟩) hHeld ?_
    simp only [Act.put, List.getElem_toArray, List.getElem_cons_zero, List.getElem_cons_succ, List.setIfInBounds_toArray, List.set_cons_zero, List.set_cons_succ]
    refine wpAnyH_take (i := 22) (v := .agg #[.int .i64 2, .int .i64 q, .int .i64 inc, .int .i64 t, .bool (decide (z = R.inc))]) rfl (by kernel_rfl) (by kernel_rfl) (by kernel_rfl) (fun _ _ _ h => h) (Or.inl ⟨by rfl, fun w' hS => by go_simp⟩) hHeld ?_
    simp only [Act.put, List.getElem_toArray, List.getElem_cons_zero, List.getElem_cons_succ, List.setIfInBounds_toArray, List.set_cons_zero, List.set_cons_succ]
    refine wpAnyH_ready (rs := [4, 23]) (by kernel_rfl) (by simp) ?_
    refine AllReadyH.cons rfl (fun K hK => ?_) (AllReadyH.cons rfl (fun K hK => ?_) AllReadyH.nil)
    · go_simp
      refine hK.out _ _ ⟨below_at (Below.refl _ V).drew x0, below_at (Below.refl _ V).drew x1, below_at (Below.refl _ V).drew c1, below_at (Below.refl _ V).drew xx, below_at (Below.refl _ V).drew c2⟩ (fun hHeld => ?_)
      clear hK K
      refine wpAnyH_ready (rs := [23]) (by kernel_rfl) (by simp) ?_
      refine AllReadyH.cons rfl (fun K hK => ?_) AllReadyH.nil
      go_simp
      refine hK.out _ _ ⟨below_at (balloc (Below.refl _ V).drew) x0, below_at (balloc (Below.refl _ V).drew) x1, below_at (balloc (Below.refl _ V).drew) c1, below_at (balloc (Below.refl _ V).drew) xx, below_at (balloc (Below.refl _ V).drew) c2⟩ (fun hHeld => ?_)
      clear hK K
      refine wpAnyH_ready (rs := [24]) (by kernel_rfl) (by simp) ?_
      refine AllReadyH.cons rfl (fun K hK => ?_) AllReadyH.nil
      refine step_append_lies _ (by rfl) _ _ 86 (by rfl) B 100 i0 (.agg #[.int .i64 0, .int .i64 0, .int .i64 0, .int .i64 0, .bool false]) 5 40 Try.underlying86 hi hz0 hz1 hz2 (by rfl) (by omega) (.slice R.va R.all.length R.vc) R.all.length (psCells R.all) (by rfl) (own_still HRV.out.row (balloc (Below.refl _ V).drew)) _ 1 1 _ (by rfl) (by rfl) (World.news_of_block (heap_alloc_new _ _)) (by simp [Value.oneCell']) (by omega) (by unfold maxLen; omega) (by first | (simp; omega) | omega) (by first | (simp; omega) | omega) _ (by rfl) ?_
      intro g3 cap3 w3 hown3 hgrow3 hat3 hlt3
      obtain ⟨t6, tz, tb⟩ := rfar HRV.out (balloc (Below.refl _ V).drew) hgrow3
      have P3 : Hid (Rtep V (w3.setCell ⟨R.b, 6, none⟩ (.slice (some ⟨g3, 0, none⟩) (R.all.length + 1) cap3)) R (R.push ⟨2, q, inc, t, decide (z = R.inc)⟩ g3 cap3) B) := Rtep.push HRV.out (balloc (Below.refl _ V).drew) ⟨2, q, inc, t, decide (z = R.inc)⟩ g3 cap3 hown3 hgrow3 hat3
      have kg := Kept.ofGrown hgrow3
      have n1 : ¬ some w.heap.size = (Value.slice R.va R.all.length R.vc).ownBlock := fun e => by have := Hh.out.ltOwn (.inr e.symm); omega
      have n2 : ¬ some ga = (Value.slice R.va R.all.length R.vc).ownBlock := fun e => Hap.out (.inr e.symm)
      have u0 : w3.cell? ⟨w.heap.size, 0, none⟩ = some (.int .i64 t) := cell_keep kg n1 (below_at (balloc (Below.refl _ V).drew) x0)
      have u1 : w3.cell? ⟨w.heap.size, 1, none⟩ = some (.slice (some ⟨ga, oa, none⟩) R.n c) := cell_keep kg n1 (below_at (balloc (Below.refl _ V).drew) x1)
      have u2 : w3.cell? ⟨ga, oa + R.s, none⟩ = some (.int .i64 z) := cell_keep kg n2 (below_at (balloc (Below.refl _ V).drew) xx)
      have u3 : w3.cell? ⟨R.b, 1, none⟩ = some (.int .i64 (R.s : Int)) := blk_cell tb 1
      have u4 : w3.cell? ⟨R.b, 2, none⟩ = some (.int .i64 R.inc) := blk_cell tb 2
      have hwb : w.heap.size ≠ R.b := by have := lt_heap Hh.out.blk; omega
      have hgb : ga ≠ R.b := fun e => Hap.out (.inl e)
      have v3 : (w3.setCell ⟨R.b, 6, none⟩ (.slice (some ⟨g3, 0, none⟩) (R.all.length + 1) cap3)).cell? ⟨R.b, 1, none⟩ = some (.int .i64 (R.s : Int)) := cell_of (blkset tb) 1 rfl
      have v4 : (w3.setCell ⟨R.b, 6, none⟩ (.slice (some ⟨g3, 0, none⟩) (R.all.length + 1) cap3)).cell? ⟨R.b, 2, none⟩ = some (.int .i64 R.inc) := cell_of (blkset tb) 2 rfl
      refine hK.out _ _ ⟨u0, u1, u3, u2, u4⟩ (fun hHeld => ?_)
      clear hK K hown3 hgrow3 hat3 kg
      refine wpAnyH_take (i := 25) (v := .pointer (some ⟨R.b, 0, none⟩)) rfl (by kernel_rfl) (by kernel_rfl) (by kernel_rfl) (fun _ _ _ h => h) (Or.inl ⟨by rfl, fun w' hS => by go_simp⟩) hHeld ?_
      simp only [Act.put, List.getElem_toArray, List.getElem_cons_zero, List.getElem_cons_succ, List.setIfInBounds_toArray, List.set_cons_zero, List.set_cons_succ]
      refine wpAnyH_take (i := 26) (v := .pointer (some ⟨R.b, 6, none⟩)) rfl (by kernel_rfl) (by kernel_rfl) (by kernel_rfl) (fun _ _ _ h => h) (Or.inl ⟨by rfl, fun w' hS => by go_simp⟩) hHeld ?_
      simp only [Act.put, List.getElem_toArray, List.getElem_cons_zero, List.getElem_cons_succ, List.setIfInBounds_toArray, List.set_cons_zero, List.set_cons_succ]
      refine wpAnyH_ready (rs := [27]) (by kernel_rfl) (by simp) ?_
      refine AllReadyH.cons rfl (fun K hK => ?_) AllReadyH.nil
      go_simp
      refine hK.out _ _ ⟨cell_set_ne u0 hwb, cell_set_ne u1 hwb, v3, cell_set_ne u2 hgb, v4⟩ (fun hHeld => ?_)
      clear hK K
      refine wpAnyH_done (by kernel_rfl) ?_ _
      clear hHeld
      go_wp2
      go_ret
      exact ⟨rfl, g3, cap3, Rtep.pre HbV.out P3.out⟩
    · go_simp
      refine hK.out _ _ ⟨below_at (balloc (Below.refl _ V).drew) x0, below_at (balloc (Below.refl _ V).drew) x1, below_at (balloc (Below.refl _ V).drew) c1, below_at (balloc (Below.refl _ V).drew) xx, below_at (balloc (Below.refl _ V).drew) c2⟩ (fun hHeld => ?_)
      clear hK K
      have d6 : ∀ o, (V.drew.alloc o).cell? ⟨R.b, 6, none⟩ = some (.slice R.va R.all.length R.vc) := fun o => below_at (balloc (Below.refl _ V).drew) c6
      have d6' : ∀ o, (V.alloc o).cell? ⟨R.b, 6, none⟩ = some (.slice R.va R.all.length R.vc) := fun o => below_at (balloc (Below.refl _ V)) c6
      refine wpAnyH_ready (rs := [4]) (by kernel_rfl) (by simp) ?_
      refine AllReadyH.cons rfl (fun K hK => ?_) AllReadyH.nil
      go_simp
      refine hK.out _ _ ⟨below_at (balloc (Below.refl _ V).drew) x0, below_at (balloc (Below.refl _ V).drew) x1, below_at (balloc (Below.refl _ V).drew) c1, below_at (balloc (Below.refl _ V).drew) xx, below_at (balloc (Below.refl _ V).drew) c2⟩ (fun hHeld => ?_)
      clear hK K
      refine wpAnyH_ready (rs := [24]) (by kernel_rfl) (by simp) ?_
      refine AllReadyH.cons rfl (fun K hK => ?_) AllReadyH.nil
      refine step_append_lies _ (by rfl) _ _ 86 (by rfl) B 100 i0 (.agg #[.int .i64 0, .int .i64 0, .int .i64 0, .int .i64 0, .bool false]) 5 40 Try.underlying86 hi hz0 hz1 hz2 (by rfl) (by omega) (.slice R.va R.all.length R.vc) R.all.length (psCells R.all) (by rfl) (own_still HRV.out.row (balloc (Below.refl _ V).drew)) _ 1 1 _ (by rfl) (by rfl) (World.news_of_block (heap_alloc_new _ _)) (by simp [Value.oneCell']) (by omega) (by unfold maxLen; omega) (by first | (simp; omega) | omega) (by first | (simp; omega) | omega) _ (by rfl) ?_
      intro g3 cap3 w3 hown3 hgrow3 hat3 hlt3
      obtain ⟨t6, tz, tb⟩ := rfar HRV.out (balloc (Below.refl _ V).drew) hgrow3
      have P3 : Hid (Rtep V (w3.setCell ⟨R.b, 6, none⟩ (.slice (some ⟨g3, 0, none⟩) (R.all.length + 1) cap3)) R (R.push ⟨2, q, inc, t, decide (z = R.inc)⟩ g3 cap3) B) := Rtep.push HRV.out (balloc (Below.refl _ V).drew) ⟨2, q, inc, t, decide (z = R.inc)⟩ g3 cap3 hown3 hgrow3 hat3
      have kg := Kept.ofGrown hgrow3
      have n1 : ¬ some w.heap.size = (Value.slice R.va R.all.length R.vc).ownBlock := fun e => by have := Hh.out.ltOwn (.inr e.symm); omega
      have n2 : ¬ some ga = (Value.slice R.va R.all.length R.vc).ownBlock := fun e => Hap.out (.inr e.symm)
      have u0 : w3.cell? ⟨w.heap.size, 0, none⟩ = some (.int .i64 t) := cell_keep kg n1 (below_at (balloc (Below.refl _ V).drew) x0)
      have u1 : w3.cell? ⟨w.heap.size, 1, none⟩ = some (.slice (some ⟨ga, oa, none⟩) R.n c) := cell_keep kg n1 (below_at (balloc (Below.refl _ V).drew) x1)
      have u2 : w3.cell? ⟨ga, oa + R.s, none⟩ = some (.int .i64 z) := cell_keep kg n2 (below_at (balloc (Below.refl _ V).drew) xx)
      have u3 : w3.cell? ⟨R.b, 1, none⟩ = some (.int .i64 (R.s : Int)) := blk_cell tb 1
      have u4 : w3.cell? ⟨R.b, 2, none⟩ = some (.int .i64 R.inc) := blk_cell tb 2
      have hwb : w.heap.size ≠ R.b := by have := lt_heap Hh.out.blk; omega
      have hgb : ga ≠ R.b := fun e => Hap.out (.inl e)
      have v3 : (w3.setCell ⟨R.b, 6, none⟩ (.slice (some ⟨g3, 0, none⟩) (R.all.length + 1) cap3)).cell? ⟨R.b, 1, none⟩ = some (.int .i64 (R.s : Int)) := cell_of (blkset tb) 1 rfl
      have v4 : (w3.setCell ⟨R.b, 6, none⟩ (.slice (some ⟨g3, 0, none⟩) (R.all.length + 1) cap3)).cell? ⟨R.b, 2, none⟩ = some (.int .i64 R.inc) := cell_of (blkset tb) 2 rfl
      refine hK.out _ _ ⟨u0, u1, u3, u2, u4⟩ (fun hHeld => ?_)
      clear hK K hown3 hgrow3 hat3 kg
      refine wpAnyH_take (i := 25) (v := .pointer (some ⟨R.b, 0, none⟩)) rfl (by kernel_rfl) (by kernel_rfl) (by kernel_rfl) (fun _ _ _ h => h) (Or.inl ⟨by rfl, fun w' hS => by go_simp⟩) hHeld ?_
      simp only [Act.put, List.getElem_toArray, List.getElem_cons_zero, List.getElem_cons_succ, List.setIfInBounds_toArray, List.set_cons_zero, List.set_cons_succ]
      refine wpAnyH_take (i := 26) (v := .pointer (some ⟨R.b, 6, none⟩)) rfl (by kernel_rfl) (by kernel_rfl) (by kernel_rfl) (fun _ _ _ h => h) (Or.inl ⟨by rfl, fun w' hS => by go_simp⟩) hHeld ?_
      simp only [Act.put, List.getElem_toArray, List.getElem_cons_zero, List.getElem_cons_succ, List.setIfInBounds_toArray, List.set_cons_zero, List.set_cons_succ]
      refine wpAnyH_ready (rs := [27]) (by kernel_rfl) (by simp) ?_
      refine AllReadyH.cons rfl (fun K hK => ?_) AllReadyH.nil
      go_simp
      refine hK.out _ _ ⟨cell_set_ne u0 hwb, cell_set_ne u1 hwb, v3, cell_set_ne u2 hgb, v4⟩ (fun hHeld => ?_)
      clear hK K
      refine wpAnyH_done (by kernel_rfl) ?_ _
      clear hHeld
      go_wp2
      go_ret
      exact ⟨rfl, g3, cap3, Rtep.pre HbV.out P3.out⟩
end
end Go.Proofs.Ytfbollifegngjaa.Dt
