import Derived.Test.YthanifbimndhaaaM11
namespace Go.Proofs.Ythanifbimndhaaa.Ln
set_option maxHeartbeats 40000000
open Go.RowKit Mb
set_option linter.unusedVariables false
set_option maxRecDepth 100000
set_option linter.unusedSimpArgs false
section
variable {w w' W : World} {B T : Nat} {R R' : Rx} {r r' : Rn}
theorem rtake_no (h : R.Ok w B T) {q : Int} (hq : R.at q = none) (t : Tg) (u : Int) {ao : Option Addr} {n c : Nat} : Calls Try.prog 40 #[.pointer (some ⟨R.b, 0, none⟩), .int .i64 q, .agg #[.int .i64 t.e, .int .i64 t.l, .int .i64 t.i, .int .i64 t.c, .int .i64 u, .slice ao n c]] w fun e w' => e = .returned (.tuple #[.slice none 0 0, .int .i64 41]) /\ Below w.heap.size w w' := by
 generalize hW : w.alloc (.cells #[.int .i64 t.e, .int .i64 t.l, .int .i64 t.i, .int .i64 t.c, .int .i64 u, .slice ao n c] 55) = W
 have hbW := bW0 hW
 have hblk := hQ0 hW
 have a0 : W.cell? ⟨w.heap.size, 0, none⟩ = some (.int .i64 t.e) := bC hblk 0
 have a1 : W.cell? ⟨w.heap.size, 1, none⟩ = some (.int .i64 t.l) := bC hblk 1
 have a2 : W.cell? ⟨w.heap.size, 2, none⟩ = some (.int .i64 t.i) := bC hblk 2
 have a3 : W.cell? ⟨w.heap.size, 3, none⟩ = some (.int .i64 t.c) := bC hblk 3
 have a4 : W.cell? ⟨w.heap.size, 4, none⟩ = some (.int .i64 u) := bC hblk 4
 have a5 : W.cell? ⟨w.heap.size, 5, none⟩ = some (.slice ao n c) := bC hblk 5
 have hRW := h.still hbW
 have HbW : Hid (Below w.heap.size w W) := hbW
 have HI : Hid (Calls Try.prog 63 #[.pointer (some ⟨R.b, 0, none⟩), .int .i64 q] W fun e w' => e = .returned (.bool false) /\ W = w') := is_no hRW hq
 clear h hq hblk hbW hRW
 go_enter Try.func40, Try.ntmps40
 go_wp2_with (first | (go_at_call 63; refine HI.out.mono ?_; rintro e w' ⟨rfl, rfl⟩) | fail)
 exact bodyPost_ret (v := .tuple #[.slice none 0 0, .int .i64 41]) (by simp [results, Try.results40, go_sem]) rfl ⟨rfl, HbW.out⟩
theorem rtake_arg (h : R.Ok w B T) {q : Int} (hq : R.at q = some r) (t : Tg) (u : Int) {ao : Option Addr} {n c : Nat} (hu : (inR 1 4611686018427387904 u && inR 1 300 (n : Int)) = false) : Calls Try.prog 40 #[.pointer (some ⟨R.b, 0, none⟩), .int .i64 q, .agg #[.int .i64 t.e, .int .i64 t.l, .int .i64 t.i, .int .i64 t.c, .int .i64 u, .slice ao n c]] w fun e w' => e = .returned (.tuple #[.slice none 0 0, .int .i64 1]) /\ Below w.heap.size w w' := by
 generalize hW : w.alloc (.cells #[.int .i64 t.e, .int .i64 t.l, .int .i64 t.i, .int .i64 t.c, .int .i64 u, .slice ao n c] 55) = W
 have hbW := bW0 hW
 have hblk := hQ0 hW
 have a0 : W.cell? ⟨w.heap.size, 0, none⟩ = some (.int .i64 t.e) := bC hblk 0
 have a1 : W.cell? ⟨w.heap.size, 1, none⟩ = some (.int .i64 t.l) := bC hblk 1
 have a2 : W.cell? ⟨w.heap.size, 2, none⟩ = some (.int .i64 t.i) := bC hblk 2
 have a3 : W.cell? ⟨w.heap.size, 3, none⟩ = some (.int .i64 t.c) := bC hblk 3
 have a4 : W.cell? ⟨w.heap.size, 4, none⟩ = some (.int .i64 u) := bC hblk 4
 have a5 : W.cell? ⟨w.heap.size, 5, none⟩ = some (.slice ao n c) := bC hblk 5
 have hRW := h.still hbW
 have HbW : Hid (Below w.heap.size w W) := hbW
 have HI : Hid (Calls Try.prog 63 #[.pointer (some ⟨R.b, 0, none⟩), .int .i64 q] W fun e w' => e = .returned (.bool true) /\ W = w') := is_yes hRW hq
 clear h hq hblk hbW hRW
 by_cases h0 : u < 1
 ·clear hu
  go_enter Try.func40, Try.ntmps40
  go_wp2_with (first | (go_at_call 63; refine HI.out.mono ?_; rintro e w' ⟨rfl, rfl⟩) | fail)
  exact bodyPost_ret (v := .tuple #[.slice none 0 0, .int .i64 1]) (by simp [results, Try.results40, go_sem]) rfl ⟨rfl, HbW.out⟩
 by_cases h1 : u > 4611686018427387904
 ·clear hu
  go_enter Try.func40, Try.ntmps40
  go_wp2_with (first | (go_at_call 63; refine HI.out.mono ?_; rintro e w' ⟨rfl, rfl⟩) | fail)
  exact bodyPost_ret (v := .tuple #[.slice none 0 0, .int .i64 1]) (by simp [results, Try.results40, go_sem]) rfl ⟨rfl, HbW.out⟩
 by_cases hn0 : n = 0
 ·have h2 : ((n : Int) == 0) = true := by rw [beq_iff_eq]; omega
  clear hu hn0
  go_enter Try.func40, Try.ntmps40
  go_wp2_with (first | (go_at_call 63; refine HI.out.mono ?_; rintro e w' ⟨rfl, rfl⟩) | fail)
  exact bodyPost_ret (v := .tuple #[.slice none 0 0, .int .i64 1]) (by simp [results, Try.results40, go_sem]) rfl ⟨rfl, HbW.out⟩
 have h2 : ((n : Int) == 0) = false := by rw [beq_eq_false_iff_ne]; omega
 have h3 : (n : Int) > 300 := by simp [inR] at hu; omega
 clear hu hn0
 go_enter Try.func40, Try.ntmps40
 go_wp2_with (first | (go_at_call 63; refine HI.out.mono ?_; rintro e w' ⟨rfl, rfl⟩) | fail)
 exact bodyPost_ret (v := .tuple #[.slice none 0 0, .int .i64 1]) (by simp [results, Try.results40, go_sem]) rfl ⟨rfl, HbW.out⟩
theorem rtake_tag (h : R.Ok w B T) {q : Int} (hq : R.at q = some r) (t : Tg) {u : Nat} {ao : Option Addr} {n c : Nat} (hu1 : 1 ≤ u) (hu : u ≤ 4611686018427387904) (hn : inR 1 300 (n : Int) = true) (ht : ¬ t = R.tag) : Calls Try.prog 40 #[.pointer (some ⟨R.b, 0, none⟩), .int .i64 q, .agg #[.int .i64 t.e, .int .i64 t.l, .int .i64 t.i, .int .i64 t.c, .int .i64 (u : Int), .slice ao n c]] w fun e w' => e = .returned (.tuple #[.slice none 0 0, .int .i64 40]) /\ Below w.heap.size w w' := by
 generalize hW : w.alloc (.cells #[.int .i64 t.e, .int .i64 t.l, .int .i64 t.i, .int .i64 t.c, .int .i64 (u : Int), .slice ao n c] 55) = W
 have hbW := bW0 hW
 have hblk := hQ0 hW
 have a0 : W.cell? ⟨w.heap.size, 0, none⟩ = some (.int .i64 t.e) := bC hblk 0
 have a1 : W.cell? ⟨w.heap.size, 1, none⟩ = some (.int .i64 t.l) := bC hblk 1
 have a2 : W.cell? ⟨w.heap.size, 2, none⟩ = some (.int .i64 t.i) := bC hblk 2
 have a3 : W.cell? ⟨w.heap.size, 3, none⟩ = some (.int .i64 t.c) := bC hblk 3
 have a4 : W.cell? ⟨w.heap.size, 4, none⟩ = some (.int .i64 (u : Int)) := bC hblk 4
 have a5 : W.cell? ⟨w.heap.size, 5, none⟩ = some (.slice ao n c) := bC hblk 5
 have hRW := h.still hbW
 have HbW : Hid (Below w.heap.size w W) := hbW
 have HI : Hid (Calls Try.prog 63 #[.pointer (some ⟨R.b, 0, none⟩), .int .i64 q] W fun e w' => e = .returned (.bool true) /\ W = w') := is_yes hRW hq
 obtain ⟨k, rfl, hk, he, hpe⟩ := rat_es hq
 have hc := hRW.ce hk he
 have hr := hRW.el k hk
 rw [he] at hr
 have s3 := h.t1
 have s4 := h.w1
 have s5 := hr.s3
 have i1 : (0 : Int) ≤ (k : Int) := Int.natCast_nonneg _
 have i2 : (k : Int) < (R.n : Int) := by omega
 have c4 := hc.c4
 have c5 := hc.c5
 have c6 := hc.c6
 have c7 := hc.c7
 have HQ : Hid (decide (t = R.tag) = false) := (show _ = _ from by rw [decide_eq_false_iff_not]; exact ht)
 have h0 : ¬ (u : Int) < 1 := by omega
 have h1 : ¬ (u : Int) > 4611686018427387904 := by omega
 have h2 : ((n : Int) == 0) = false := by rw [beq_eq_false_iff_ne]; simp [inR] at hn; omega
 have h3 : ¬ (n : Int) > 300 := by simp [inR] at hn; omega
 clear h hq hblk hbW hRW hc hr he hpe ht hn
 go_enter Try.func40, Try.ntmps40
 go_wp2_with (first | (go_at_call 63; refine HI.out.mono ?_; rintro e w' ⟨rfl, rfl⟩) | fail)
 refine wp_region_held_drew (S := (fun w' => w'.cell? ⟨w.heap.size, 0, none⟩ = some (.int .i64 t.e) /\ w'.cell? ⟨w.heap.size, 1, none⟩ = some (.int .i64 t.l) /\ w'.cell? ⟨w.heap.size, 2, none⟩ = some (.int .i64 t.i) /\ w'.cell? ⟨w.heap.size, 3, none⟩ = some (.int .i64 t.c) /\ w'.cell? ⟨R.b, 4, none⟩ = some (.int .i64 R.tag.e) /\ w'.cell? ⟨R.b, 5, none⟩ = some (.int .i64 R.tag.l) /\ w'.cell? ⟨R.b, 6, none⟩ = some (.int .i64 R.tag.i) /\ w'.cell? ⟨R.b, 7, none⟩ = some (.int .i64 R.tag.c))) (by kernel_rfl) ⟨(dW0 a0), (dW0 a1), (dW0 a2), (dW0 a3), (dW0 c4), (dW0 c5), (dW0 c6), (dW0 c7)⟩ (fun hH => ?_)
 simp only [Act.put, lA, lC, lN, zA]
 refine wG 0 (.pointer (some ⟨w.heap.size, 0, none⟩)) rfl hH ?_
 simp only [aP, gA, gZ, gC, sA, sZ, sC]
 refine wL 1 (.agg #[.int .i64 t.e, .int .i64 t.l, .int .i64 t.i, .int .i64 t.c]) rfl hH ?_
 simp only [aP, gA, gZ, gC, sA, sZ, sC]
 refine wG 2 (.pointer (some ⟨R.b, 0, none⟩)) rfl hH ?_
 simp only [aP, gA, gZ, gC, sA, sZ, sC]
 refine wG 3 (.pointer (some ⟨R.b, 0, none⟩)) rfl hH ?_
 simp only [aP, gA, gZ, gC, sA, sZ, sC]
 refine wG 4 (.pointer (some ⟨R.b, 4, none⟩)) rfl hH ?_
 simp only [aP, gA, gZ, gC, sA, sZ, sC]
 refine wL 5 (.agg #[.int .i64 R.tag.e, .int .i64 R.tag.l, .int .i64 R.tag.i, .int .i64 R.tag.c]) rfl hH ?_
 simp only [aP, gA, gZ, gC, sA, sZ, sC]
 refine wX 6 (.bool (!(false))) rfl (Or.inl ⟨by rfl, fun w' hS => run_neqop 39 (.tmp 37) (.tmp 41) 39 rfl _ _ (by rfl) (by rfl) guard_id _ (by have e1 := eq_tag (w := w') t R.tag; rw [HQ.out] at e1; exact e1)⟩) hH ?_
 simp only [aP, gA, gZ, gC, sA, sZ, sC]
 refine wpAnyH_done (by kernel_rfl) ?_ _
 clear hH
 go_wp2
 exact bodyPost_ret (v := .tuple #[.slice none 0 0, .int .i64 40]) (by simp [results, Try.results40, go_sem]) rfl ⟨rfl, HbW.out.drew⟩
theorem rtake_far (h : R.Ok w B T) {q : Int} (hq : R.at q = some r) (t : Tg) {u : Nat} {ao : Option Addr} {n c : Nat} (hu1 : 1 ≤ u) (hu : u ≤ 4611686018427387904) (hn : inR 1 300 (n : Int) = true) (ht : t = R.tag) (hf : r.gt + R.win < u) : Calls Try.prog 40 #[.pointer (some ⟨R.b, 0, none⟩), .int .i64 q, .agg #[.int .i64 t.e, .int .i64 t.l, .int .i64 t.i, .int .i64 t.c, .int .i64 (u : Int), .slice ao n c]] w fun e w' => e = .returned (.tuple #[.slice none 0 0, .int .i64 43]) /\ Below w.heap.size w w' := by
 generalize hW : w.alloc (.cells #[.int .i64 t.e, .int .i64 t.l, .int .i64 t.i, .int .i64 t.c, .int .i64 (u : Int), .slice ao n c] 55) = W
 have hbW := bW0 hW
 have hblk := hQ0 hW
 have a0 : W.cell? ⟨w.heap.size, 0, none⟩ = some (.int .i64 t.e) := bC hblk 0
 have a1 : W.cell? ⟨w.heap.size, 1, none⟩ = some (.int .i64 t.l) := bC hblk 1
 have a2 : W.cell? ⟨w.heap.size, 2, none⟩ = some (.int .i64 t.i) := bC hblk 2
 have a3 : W.cell? ⟨w.heap.size, 3, none⟩ = some (.int .i64 t.c) := bC hblk 3
 have a4 : W.cell? ⟨w.heap.size, 4, none⟩ = some (.int .i64 (u : Int)) := bC hblk 4
 have a5 : W.cell? ⟨w.heap.size, 5, none⟩ = some (.slice ao n c) := bC hblk 5
 have hRW := h.still hbW
 have HbW : Hid (Below w.heap.size w W) := hbW
 have HI : Hid (Calls Try.prog 63 #[.pointer (some ⟨R.b, 0, none⟩), .int .i64 q] W fun e w' => e = .returned (.bool true) /\ W = w') := is_yes hRW hq
 obtain ⟨k, rfl, hk, he, hpe⟩ := rat_es hq
 have hc := hRW.ce hk he
 have hr := hRW.el k hk
 rw [he] at hr
 have s3 := h.t1
 have s4 := h.w1
 have s5 := hr.s3
 have i1 : (0 : Int) ≤ (k : Int) := Int.natCast_nonneg _
 have i2 : (k : Int) < (R.n : Int) := by omega
 have c4 := hc.c4
 have c5 := hc.c5
 have c6 := hc.c6
 have c7 := hc.c7
 have HQ : Hid (decide (t = R.tag) = true) := (show _ = _ from by rw [decide_eq_true_eq]; exact ht)
 have h0 : ¬ (u : Int) < 1 := by omega
 have h1 : ¬ (u : Int) > 4611686018427387904 := by omega
 have h2 : ((n : Int) == 0) = false := by rw [beq_eq_false_iff_ne]; simp [inR] at hn; omega
 have h3 : ¬ (n : Int) > 300 := by simp [inR] at hn; omega
 have HR : Hid (R.Ok W B T) := hRW
 have HE : Hid (R.es k = r) := he
 have Hblk : Hid (W.heap[w.heap.size]? = some (.cells #[.int .i64 t.e, .int .i64 t.l, .int .i64 t.i, .int .i64 t.c, .int .i64 (u : Int), .slice ao n c] 55 (0, 0))) := hblk
 clear h hq hblk hbW hRW hc hr he hpe ht hn
 go_enter Try.func40, Try.ntmps40
 go_wp2_with (first | (go_at_call 63; refine HI.out.mono ?_; rintro e w' ⟨rfl, rfl⟩) | fail)
 refine wp_region_held_drew (S := (fun w' => w'.cell? ⟨w.heap.size, 0, none⟩ = some (.int .i64 t.e) /\ w'.cell? ⟨w.heap.size, 1, none⟩ = some (.int .i64 t.l) /\ w'.cell? ⟨w.heap.size, 2, none⟩ = some (.int .i64 t.i) /\ w'.cell? ⟨w.heap.size, 3, none⟩ = some (.int .i64 t.c) /\ w'.cell? ⟨R.b, 4, none⟩ = some (.int .i64 R.tag.e) /\ w'.cell? ⟨R.b, 5, none⟩ = some (.int .i64 R.tag.l) /\ w'.cell? ⟨R.b, 6, none⟩ = some (.int .i64 R.tag.i) /\ w'.cell? ⟨R.b, 7, none⟩ = some (.int .i64 R.tag.c))) (by kernel_rfl) ⟨(dW0 a0), (dW0 a1), (dW0 a2), (dW0 a3), (dW0 c4), (dW0 c5), (dW0 c6), (dW0 c7)⟩ (fun hH => ?_)
 simp only [Act.put, lA, lC, lN, zA]
 refine wG 0 (.pointer (some ⟨w.heap.size, 0, none⟩)) rfl hH ?_
 simp only [aP, gA, gZ, gC, sA, sZ, sC]
 refine wL 1 (.agg #[.int .i64 t.e, .int .i64 t.l, .int .i64 t.i, .int .i64 t.c]) rfl hH ?_
 simp only [aP, gA, gZ, gC, sA, sZ, sC]
 refine wG 2 (.pointer (some ⟨R.b, 0, none⟩)) rfl hH ?_
 simp only [aP, gA, gZ, gC, sA, sZ, sC]
 refine wG 3 (.pointer (some ⟨R.b, 0, none⟩)) rfl hH ?_
 simp only [aP, gA, gZ, gC, sA, sZ, sC]
 refine wG 4 (.pointer (some ⟨R.b, 4, none⟩)) rfl hH ?_
 simp only [aP, gA, gZ, gC, sA, sZ, sC]
 refine wL 5 (.agg #[.int .i64 R.tag.e, .int .i64 R.tag.l, .int .i64 R.tag.i, .int .i64 R.tag.c]) rfl hH ?_
 simp only [aP, gA, gZ, gC, sA, sZ, sC]
 refine wX 6 (.bool (!(true))) rfl (Or.inl ⟨by rfl, fun w' hS => run_neqop 39 (.tmp 37) (.tmp 41) 39 rfl _ _ (by rfl) (by rfl) guard_id _ (by have e1 := eq_tag (w := w') t R.tag; rw [HQ.out] at e1; exact e1)⟩) hH ?_
 simp only [aP, gA, gZ, gC, sA, sZ, sC]
 refine wpAnyH_done (by kernel_rfl) ?_ _
 clear hH
 have hbD : Below W.heap.size W W.drew := dB _
 have hRV := HR.out.still hbD
 have hcV := hRV.ce hk HE.out
 have b4 := bA hbD a4
 have b8 := hcV.c8
 have b2 := hcV.c2
 have b3 := hcV.e3
 obtain ⟨gt, hgt⟩ : ∃ g, r.gt = g := ⟨_, rfl⟩
 have Hgt : Hid (r.gt = gt) := hgt
 rw [hgt] at b3 s5 hf
 have HbV : Hid (Below w.heap.size w W.drew) := HbW.out.drew
 have HRV : Hid (R.Ok W.drew B T) := hRV
 have HblkV : Hid (W.drew.heap[w.heap.size]? = some (.cells #[.int .i64 t.e, .int .i64 t.l, .int .i64 t.i, .int .i64 t.c, .int .i64 (u : Int), .slice ao n c] 55 (0, 0))) := (show _ = _ from (hbD.block _ (lt_heap Hblk.out)).trans Hblk.out)
 generalize W.drew = V at *
 clear hbD hRV hcV a0 a1 a2 a3 a4 a5 c4 c5 c6 c7 Hblk HQ HI
 go_wp2
 refine wp_region_held_drew (S := (fun w' => w'.cell? ⟨w.heap.size, 4, none⟩ = some (.int .i64 (u : Int)) /\ w'.cell? ⟨R.b, 8, none⟩ = some (.slice (some ⟨R.g, 0, none⟩) R.n R.c) /\ w'.cell? ⟨R.g, k * 6 + 3, none⟩ = some (.int .i64 (gt : Int)) /\ w'.cell? ⟨R.b, 2, none⟩ = some (.int .i64 (R.win : Int)))) (by kernel_rfl) ⟨(dW0 b4), (dW0 b8), (dW0 b3), (dW0 b2)⟩ (fun hH => ?_)
 simp only [Act.put, lA, lC, lN, zA]
 refine wG 0 (.pointer (some ⟨w.heap.size, 4, none⟩)) rfl hH ?_
 simp only [aP, gA, gZ, gC, sA, sZ, sC]
 refine wL 1 (.int .i64 (u : Int)) rfl hH ?_
 simp only [aP, gA, gZ, gC, sA, sZ, sC]
 refine wG 2 (.pointer (some ⟨R.b, 0, none⟩)) rfl hH ?_
 simp only [aP, gA, gZ, gC, sA, sZ, sC]
 refine wG 3 (.pointer (some ⟨R.b, 0, none⟩)) rfl hH ?_
 simp only [aP, gA, gZ, gC, sA, sZ, sC]
 refine wG 4 (.pointer (some ⟨R.b, 8, none⟩)) rfl hH ?_
 simp only [aP, gA, gZ, gC, sA, sZ, sC]
 refine wL 5 (.slice (some ⟨R.g, 0, none⟩) R.n R.c) rfl hH ?_
 simp only [aP, gA, gZ, gC, sA, sZ, sC]
 refine wG 6 (.int .i64 (k : Int)) rfl hH ?_
 simp only [aP, gA, gZ, gC, sA, sZ, sC]
 refine wG 7 (.pointer (some ⟨R.g, k * 6, none⟩)) rfl hH ?_
 simp only [aP, gA, gZ, gC, sA, sZ, sC]
 refine wG 8 (.pointer (some ⟨R.g, k * 6 + 3, none⟩)) rfl hH ?_
 simp only [aP, gA, gZ, gC, sA, sZ, sC]
 refine wL 9 (.int .i64 (gt : Int)) rfl hH ?_
 simp only [aP, gA, gZ, gC, sA, sZ, sC]
 refine wG 10 (.pointer (some ⟨R.b, 0, none⟩)) rfl hH ?_
 simp only [aP, gA, gZ, gC, sA, sZ, sC]
 refine wG 11 (.pointer (some ⟨R.b, 0, none⟩)) rfl hH ?_
 simp only [aP, gA, gZ, gC, sA, sZ, sC]
 refine wG 12 (.pointer (some ⟨R.b, 2, none⟩)) rfl hH ?_
 simp only [aP, gA, gZ, gC, sA, sZ, sC]
 refine wL 13 (.int .i64 (R.win : Int)) rfl hH ?_
 simp only [aP, gA, gZ, gC, sA, sZ, sC]
 refine wX 14 (.int .i64 ((gt : Int) + (R.win : Int))) rfl (Or.inl ⟨by rfl, fun w' hS => by (go_simp <;> exact wrap_id (by omega) (by omega))⟩) hH ?_
 simp only [aP, gA, gZ, gC, sA, sZ, sC]
 refine wX 15 (.bool true) rfl (Or.inl ⟨by rfl, fun w' hS => by (go_simp <;> omega)⟩) hH ?_
 simp only [aP, gA, gZ, gC, sA, sZ, sC]
 refine wpAnyH_done (by kernel_rfl) ?_ _
 clear hH
 go_wp2
 exact bodyPost_ret (v := .tuple #[.slice none 0 0, .int .i64 43]) (by simp [results, Try.results40, go_sem]) rfl ⟨rfl, HbV.out.drew⟩
end
end Go.Proofs.Ythanifbimndhaaa.Ln
