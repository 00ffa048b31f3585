import Derived.Test.YthanifbimndhaaaM12
namespace Go.Proofs.Ythanifbimndhaaa.Ln
set_option maxHeartbeats 40000000
open Go.RowKit Mb
set_option linter.unusedVariables false
set_option maxRecDepth 100000
set_option linter.unusedSimpArgs false
section
variable {w w' W : World} {B T : Nat} {R R' : Rx} {r r' : Rn}
theorem rtake_old1 (h : R.Ok w B T) {q : Int} (hq : R.at q = some r) (t : Tg) {u : Nat} {ao : Option Addr} {n c : Nat} (hu1 : 1 ≤ u) (hu : u ≤ 4611686018427387904) (hn : inR 1 300 (n : Int) = true) (ht : t = R.tag) (hf : u ≤ r.gt) : Calls Try.prog 40 #[.pointer (some ⟨R.b, 0, none⟩), .int .i64 q, .agg #[.int .i64 t.e, .int .i64 t.l, .int .i64 t.i, .int .i64 t.c, .int .i64 (u : Int), .slice ao n c]] w fun e w' => e = .returned (.tuple #[.slice none 0 0, .int .i64 0]) /\ ∃ k : Nat, q = (k : Int) /\ k < R.n /\ Rstep w w' R (R.put k { r with ow := true }) B T := by
 generalize hW : w.alloc (.cells #[.int .i64 t.e, .int .i64 t.l, .int .i64 t.i, .int .i64 t.c, .int .i64 (u : Int), .slice ao n c] 55) = W
 have hbW := bW0 hW
 have hblk := hQ0 hW
 have a0 : W.cell? ⟨w.heap.size, 0, none⟩ = some (.int .i64 t.e) := bC hblk 0
 have a1 : W.cell? ⟨w.heap.size, 1, none⟩ = some (.int .i64 t.l) := bC hblk 1
 have a2 : W.cell? ⟨w.heap.size, 2, none⟩ = some (.int .i64 t.i) := bC hblk 2
 have a3 : W.cell? ⟨w.heap.size, 3, none⟩ = some (.int .i64 t.c) := bC hblk 3
 have a4 : W.cell? ⟨w.heap.size, 4, none⟩ = some (.int .i64 (u : Int)) := bC hblk 4
 have a5 : W.cell? ⟨w.heap.size, 5, none⟩ = some (.slice ao n c) := bC hblk 5
 have hRW := h.still hbW
 have HbW : Hid (Below w.heap.size w W) := hbW
 have HI : Hid (Calls Try.prog 63 #[.pointer (some ⟨R.b, 0, none⟩), .int .i64 q] W fun e w' => e = .returned (.bool true) /\ W = w') := is_yes hRW hq
 obtain ⟨k, rfl, hk, he, hpe⟩ := rat_es hq
 have hc := hRW.ce hk he
 have hr := hRW.el k hk
 rw [he] at hr
 have s3 := h.t1
 have s4 := h.w1
 have s5 := hr.s3
 have i1 : (0 : Int) ≤ (k : Int) := Int.natCast_nonneg _
 have i2 : (k : Int) < (R.n : Int) := by omega
 have c4 := hc.c4
 have c5 := hc.c5
 have c6 := hc.c6
 have c7 := hc.c7
 have HQ : Hid (decide (t = R.tag) = true) := (show _ = _ from by rw [decide_eq_true_eq]; exact ht)
 have h0 : ¬ (u : Int) < 1 := by omega
 have h1 : ¬ (u : Int) > 4611686018427387904 := by omega
 have h2 : ((n : Int) == 0) = false := by rw [beq_eq_false_iff_ne]; simp [inR] at hn; omega
 have h3 : ¬ (n : Int) > 300 := by simp [inR] at hn; omega
 have HR : Hid (R.Ok W B T) := hRW
 have HR0 : Hid (R.Ok w B T) := h
 have HE : Hid (R.es k = r) := he
 have Hblk : Hid (W.heap[w.heap.size]? = some (.cells #[.int .i64 t.e, .int .i64 t.l, .int .i64 t.i, .int .i64 t.c, .int .i64 (u : Int), .slice ao n c] 55 (0, 0))) := hblk
 have hgw : w.heap.size ≠ R.g := h.gw (Nat.le_refl _)
 have Hr : Hid (r.an ≤ r.ps.length /\ r.gt + r.ea.length ≤ T) := (show _ /\ _ from ⟨hr.s1, hr.s3⟩)
 obtain ⟨ea, ec, hev⟩ := hr.evs
 obtain ⟨el, hel⟩ : ∃ l, r.ea.length = l := ⟨_, rfl⟩
 rw [hel] at hev s5
 have Hev : Hid (r.ev = .slice ea el ec /\ r.ea.length = el) := (show _ /\ _ from ⟨hev, hel⟩)
 clear h hq hblk hbW hRW hc hr he hpe ht hn hev hel
 go_enter Try.func40, Try.ntmps40
 go_wp2_with (first | (go_at_call 63; refine HI.out.mono ?_; rintro e w' ⟨rfl, rfl⟩) | fail)
 refine wp_region_held_drew (S := (fun w' => w'.cell? ⟨w.heap.size, 0, none⟩ = some (.int .i64 t.e) /\ w'.cell? ⟨w.heap.size, 1, none⟩ = some (.int .i64 t.l) /\ w'.cell? ⟨w.heap.size, 2, none⟩ = some (.int .i64 t.i) /\ w'.cell? ⟨w.heap.size, 3, none⟩ = some (.int .i64 t.c) /\ w'.cell? ⟨R.b, 4, none⟩ = some (.int .i64 R.tag.e) /\ w'.cell? ⟨R.b, 5, none⟩ = some (.int .i64 R.tag.l) /\ w'.cell? ⟨R.b, 6, none⟩ = some (.int .i64 R.tag.i) /\ w'.cell? ⟨R.b, 7, none⟩ = some (.int .i64 R.tag.c))) (by kernel_rfl) ⟨(dW0 a0), (dW0 a1), (dW0 a2), (dW0 a3), (dW0 c4), (dW0 c5), (dW0 c6), (dW0 c7)⟩ (fun hH => ?_)
 simp only [Act.put, lA, lC, lN, zA]
 refine wG 0 (.pointer (some ⟨w.heap.size, 0, none⟩)) rfl hH ?_
 simp only [aP, gA, gZ, gC, sA, sZ, sC]
 refine wL 1 (.agg #[.int .i64 t.e, .int .i64 t.l, .int .i64 t.i, .int .i64 t.c]) rfl hH ?_
 simp only [aP, gA, gZ, gC, sA, sZ, sC]
 refine wG 2 (.pointer (some ⟨R.b, 0, none⟩)) rfl hH ?_
 simp only [aP, gA, gZ, gC, sA, sZ, sC]
 refine wG 3 (.pointer (some ⟨R.b, 0, none⟩)) rfl hH ?_
 simp only [aP, gA, gZ, gC, sA, sZ, sC]
 refine wG 4 (.pointer (some ⟨R.b, 4, none⟩)) rfl hH ?_
 simp only [aP, gA, gZ, gC, sA, sZ, sC]
 refine wL 5 (.agg #[.int .i64 R.tag.e, .int .i64 R.tag.l, .int .i64 R.tag.i, .int .i64 R.tag.c]) rfl hH ?_
 simp only [aP, gA, gZ, gC, sA, sZ, sC]
 refine wX 6 (.bool (!(true))) rfl (Or.inl ⟨by rfl, fun w' hS => run_neqop 39 (.tmp 37) (.tmp 41) 39 rfl _ _ (by rfl) (by rfl) guard_id _ (by have e1 := eq_tag (w := w') t R.tag; rw [HQ.out] at e1; exact e1)⟩) hH ?_
 simp only [aP, gA, gZ, gC, sA, sZ, sC]
 refine wpAnyH_done (by kernel_rfl) ?_ _
 clear hH
 have hbD : Below W.heap.size W W.drew := dB _
 have hRV := HR.out.still hbD
 have hcV := hRV.ce hk HE.out
 have b4 := bA hbD a4
 have b8 := hcV.c8
 have b2 := hcV.c2
 have b3 := hcV.e3
 obtain ⟨gt, hgt⟩ : ∃ g, r.gt = g := ⟨_, rfl⟩
 have Hgt : Hid (r.gt = gt) := hgt
 rw [hgt] at b3 s5 hf
 have HbV : Hid (Below w.heap.size w W.drew) := HbW.out.drew
 have HRV : Hid (R.Ok W.drew B T) := hRV
 have HblkV : Hid (W.drew.heap[w.heap.size]? = some (.cells #[.int .i64 t.e, .int .i64 t.l, .int .i64 t.i, .int .i64 t.c, .int .i64 (u : Int), .slice ao n c] 55 (0, 0))) := (show _ = _ from (hbD.block _ (lt_heap Hblk.out)).trans Hblk.out)
 generalize W.drew = V at *
 clear hbD hRV hcV a0 a1 a2 a3 a4 a5 c4 c5 c6 c7 Hblk HQ HI
 go_wp2
 refine wp_region_held_drew (S := (fun w' => w'.cell? ⟨w.heap.size, 4, none⟩ = some (.int .i64 (u : Int)) /\ w'.cell? ⟨R.b, 8, none⟩ = some (.slice (some ⟨R.g, 0, none⟩) R.n R.c) /\ w'.cell? ⟨R.g, k * 6 + 3, none⟩ = some (.int .i64 (gt : Int)) /\ w'.cell? ⟨R.b, 2, none⟩ = some (.int .i64 (R.win : Int)))) (by kernel_rfl) ⟨(dW0 b4), (dW0 b8), (dW0 b3), (dW0 b2)⟩ (fun hH => ?_)
 simp only [Act.put, lA, lC, lN, zA]
 refine wG 0 (.pointer (some ⟨w.heap.size, 4, none⟩)) rfl hH ?_
 simp only [aP, gA, gZ, gC, sA, sZ, sC]
 refine wL 1 (.int .i64 (u : Int)) rfl hH ?_
 simp only [aP, gA, gZ, gC, sA, sZ, sC]
 refine wG 2 (.pointer (some ⟨R.b, 0, none⟩)) rfl hH ?_
 simp only [aP, gA, gZ, gC, sA, sZ, sC]
 refine wG 3 (.pointer (some ⟨R.b, 0, none⟩)) rfl hH ?_
 simp only [aP, gA, gZ, gC, sA, sZ, sC]
 refine wG 4 (.pointer (some ⟨R.b, 8, none⟩)) rfl hH ?_
 simp only [aP, gA, gZ, gC, sA, sZ, sC]
 refine wL 5 (.slice (some ⟨R.g, 0, none⟩) R.n R.c) rfl hH ?_
 simp only [aP, gA, gZ, gC, sA, sZ, sC]
 refine wG 6 (.int .i64 (k : Int)) rfl hH ?_
 simp only [aP, gA, gZ, gC, sA, sZ, sC]
 refine wG 7 (.pointer (some ⟨R.g, k * 6, none⟩)) rfl hH ?_
 simp only [aP, gA, gZ, gC, sA, sZ, sC]
 refine wG 8 (.pointer (some ⟨R.g, k * 6 + 3, none⟩)) rfl hH ?_
 simp only [aP, gA, gZ, gC, sA, sZ, sC]
 refine wL 9 (.int .i64 (gt : Int)) rfl hH ?_
 simp only [aP, gA, gZ, gC, sA, sZ, sC]
 refine wG 10 (.pointer (some ⟨R.b, 0, none⟩)) rfl hH ?_
 simp only [aP, gA, gZ, gC, sA, sZ, sC]
 refine wG 11 (.pointer (some ⟨R.b, 0, none⟩)) rfl hH ?_
 simp only [aP, gA, gZ, gC, sA, sZ, sC]
 refine wG 12 (.pointer (some ⟨R.b, 2, none⟩)) rfl hH ?_
 simp only [aP, gA, gZ, gC, sA, sZ, sC]
 refine wL 13 (.int .i64 (R.win : Int)) rfl hH ?_
 simp only [aP, gA, gZ, gC, sA, sZ, sC]
 refine wX 14 (.int .i64 ((gt : Int) + (R.win : Int))) rfl (Or.inl ⟨by rfl, fun w' hS => by (go_simp <;> exact wrap_id (by omega) (by omega))⟩) hH ?_
 simp only [aP, gA, gZ, gC, sA, sZ, sC]
 refine wX 15 (.bool false) rfl (Or.inl ⟨by rfl, fun w' hS => by (go_simp <;> omega)⟩) hH ?_
 simp only [aP, gA, gZ, gC, sA, sZ, sC]
 refine wpAnyH_done (by kernel_rfl) ?_ _
 clear hH
 have hbE : Below V.heap.size V V.drew := dB _
 have hRE := HRV.out.still hbE
 have HbE : Hid (Below w.heap.size w V.drew) := HbV.out.drew
 have hblkE : V.drew.heap[w.heap.size]? = some (.cells #[.int .i64 t.e, .int .i64 t.l, .int .i64 t.i, .int .i64 t.c, .int .i64 (u : Int), .slice ao n c] 55 (0, 0)) := (hbE.block _ (lt_heap HblkV.out)).trans HblkV.out
 generalize V.drew = V1 at *
 have hcE := hRE.ce hk HE.out
 have n8 := hcE.c8
 have n5 := hcE.e5
 have f5 := hRE.row.fz (k * 6 + 5)
 have hS := hRE.set1 (i := 5) (v := .bool true) (r' := { r with ow := true }) hk HE.out (by omega) rfl rfl rfl rfl rfl Hr.out.1 (Nat.le_refl _) s3 Hr.out.2
 have hblkU : (V1.setCell ⟨R.g, k * 6 + 5, none⟩ (.bool true)).heap[w.heap.size]? = some (.cells #[.int .i64 t.e, .int .i64 t.l, .int .i64 t.i, .int .i64 t.c, .int .i64 (u : Int), .slice ao n c] 55 (0, 0)) := blk_set_ne hblkE hgw
 generalize hU : V1.setCell ⟨R.g, k * 6 + 5, none⟩ (.bool true) = U at hS hblkU
 have hcU := hS.ok.ce (k := k) (r := { r with ow := true }) hk (upd_same _ _ _)
 have u4 : U.cell? ⟨w.heap.size, 4, none⟩ = some (.int .i64 (u : Int)) := bC hblkU 4
 have u8 : U.cell? ⟨R.b, 8, none⟩ = some (.slice (some ⟨R.g, 0, none⟩) R.n R.c) := hcU.c8
 have u3 : U.cell? ⟨R.g, k * 6 + 3, none⟩ = some (.int .i64 (gt : Int)) := by have := hcU.e3; rw [show ({ r with ow := true } : Rn).gt = gt from Hgt.out] at this; exact this
 have u5 : U.cell? ⟨R.g, k * 6 + 4, none⟩ = some (.slice ea el ec) := by have := hcU.e4; rw [show ({ r with ow := true } : Rn).ev = .slice ea el ec from Hev.out.1] at this; exact this
 have HS : Hid (Rstep w U R (R.put k { r with ow := true }) B T) := (show Rstep _ _ _ _ _ _ from (Rstep.below HR0.out HbE.out).trans hS)
 clear hbE hRE hcE hblkE hS hblkU hcU HblkV HRV HbV b2 b3 b4 b8
 go_wp2
 refine wp_region_held_drew (S := (fun w' => w'.cell? ⟨w.heap.size, 4, none⟩ = some (.int .i64 (u : Int)) /\ w'.cell? ⟨R.b, 8, none⟩ = some (.slice (some ⟨R.g, 0, none⟩) R.n R.c) /\ w'.cell? ⟨R.g, k * 6 + 3, none⟩ = some (.int .i64 (gt : Int)) /\ w'.cell? ⟨R.g, k * 6 + 4, none⟩ = some (.slice ea el ec))) (by kernel_rfl) ⟨(dW0 u4), (dW0 u8), (dW0 u3), (dW0 u5)⟩ (fun hH => ?_)
 simp only [Act.put, lA, lC, lN, zA]
 refine wG 0 (.pointer (some ⟨w.heap.size, 4, none⟩)) rfl hH ?_
 simp only [aP, gA, gZ, gC, sA, sZ, sC]
 refine wL 1 (.int .i64 (u : Int)) rfl hH ?_
 simp only [aP, gA, gZ, gC, sA, sZ, sC]
 refine wG 2 (.pointer (some ⟨R.b, 0, none⟩)) rfl hH ?_
 simp only [aP, gA, gZ, gC, sA, sZ, sC]
 refine wG 3 (.pointer (some ⟨R.b, 0, none⟩)) rfl hH ?_
 simp only [aP, gA, gZ, gC, sA, sZ, sC]
 refine wG 4 (.pointer (some ⟨R.b, 8, none⟩)) rfl hH ?_
 simp only [aP, gA, gZ, gC, sA, sZ, sC]
 refine wL 5 (.slice (some ⟨R.g, 0, none⟩) R.n R.c) rfl hH ?_
 simp only [aP, gA, gZ, gC, sA, sZ, sC]
 refine wG 6 (.int .i64 (k : Int)) rfl hH ?_
 simp only [aP, gA, gZ, gC, sA, sZ, sC]
 refine wG 7 (.pointer (some ⟨R.g, k * 6, none⟩)) rfl hH ?_
 simp only [aP, gA, gZ, gC, sA, sZ, sC]
 refine wG 8 (.pointer (some ⟨R.g, k * 6 + 3, none⟩)) rfl hH ?_
 simp only [aP, gA, gZ, gC, sA, sZ, sC]
 refine wL 9 (.int .i64 (gt : Int)) rfl hH ?_
 simp only [aP, gA, gZ, gC, sA, sZ, sC]
 refine wX 10 (.bool true) rfl (Or.inl ⟨by rfl, fun w' hS => by (go_simp <;> omega)⟩) hH ?_
 simp only [aP, gA, gZ, gC, sA, sZ, sC]
 refine wG 11 (.bool true) rfl hH ?_
 simp only [aP, gA, gZ, gC, sA, sZ, sC]
 refine wS 12 rfl hH ?_
 simp only [aP, gA, gZ, gC, sA, sZ, sC]
 refine wS 13 rfl hH ?_
 simp only [aP, gA, gZ, gC, sA, sZ, sC]
 refine wS 14 rfl hH ?_
 simp only [aP, gA, gZ, gC, sA, sZ, sC]
 refine wS 15 rfl hH ?_
 simp only [aP, gA, gZ, gC, sA, sZ, sC]
 refine wS 16 rfl hH ?_
 simp only [aP, gA, gZ, gC, sA, sZ, sC]
 refine wS 17 rfl hH ?_
 simp only [aP, gA, gZ, gC, sA, sZ, sC]
 refine wS 18 rfl hH ?_
 simp only [aP, gA, gZ, gC, sA, sZ, sC]
 refine wS 19 rfl hH ?_
 simp only [aP, gA, gZ, gC, sA, sZ, sC]
 refine wS 20 rfl hH ?_
 simp only [aP, gA, gZ, gC, sA, sZ, sC]
 refine wS 21 rfl hH ?_
 simp only [aP, gA, gZ, gC, sA, sZ, sC]
 refine wS 22 rfl hH ?_
 simp only [aP, gA, gZ, gC, sA, sZ, sC]
 refine wS 23 rfl hH ?_
 simp only [aP, gA, gZ, gC, sA, sZ, sC]
 refine wG 24 (.bool true) rfl hH ?_
 simp only [aP, gA, gZ, gC, sA, sZ, sC]
 refine wpAnyH_done (by kernel_rfl) ?_ _
 clear hH
 have HF : Hid (Rstep w U.drew R (R.put k { r with ow := true }) B T) := (show Rstep _ _ _ _ _ _ from HS.out.trans (Rstep.below HS.out.ok (dB _)))
 go_wp2
 exact bodyPost_ret (v := .tuple #[.slice none 0 0, .int .i64 0]) (by simp [results, Try.results40, go_sem]) rfl ⟨rfl, k, rfl, hk, HF.out⟩
theorem rtake_old2 (h : R.Ok w B T) {q : Int} (hq : R.at q = some r) (t : Tg) {u : Nat} {ao : Option Addr} {n c : Nat} (hu1 : 1 ≤ u) (hu : u ≤ 4611686018427387904) (hn : inR 1 300 (n : Int) = true) (ht : t = R.tag) (hf : r.gt < u) (hf2 : u ≤ r.gt + R.win) {jx : Nat} (hh : eaI r.ea u = some jx) : Calls Try.prog 40 #[.pointer (some ⟨R.b, 0, none⟩), .int .i64 q, .agg #[.int .i64 t.e, .int .i64 t.l, .int .i64 t.i, .int .i64 t.c, .int .i64 (u : Int), .slice ao n c]] w fun e w' => e = .returned (.tuple #[.slice none 0 0, .int .i64 0]) /\ ∃ k : Nat, q = (k : Int) /\ k < R.n /\ Rstep w w' R (R.put k { r with ow := true }) B T := by
 generalize hW : w.alloc (.cells #[.int .i64 t.e, .int .i64 t.l, .int .i64 t.i, .int .i64 t.c, .int .i64 (u : Int), .slice ao n c] 55) = W
 have hbW := bW0 hW
 have hblk := hQ0 hW
 have a0 : W.cell? ⟨w.heap.size, 0, none⟩ = some (.int .i64 t.e) := bC hblk 0
 have a1 : W.cell? ⟨w.heap.size, 1, none⟩ = some (.int .i64 t.l) := bC hblk 1
 have a2 : W.cell? ⟨w.heap.size, 2, none⟩ = some (.int .i64 t.i) := bC hblk 2
 have a3 : W.cell? ⟨w.heap.size, 3, none⟩ = some (.int .i64 t.c) := bC hblk 3
 have a4 : W.cell? ⟨w.heap.size, 4, none⟩ = some (.int .i64 (u : Int)) := bC hblk 4
 have a5 : W.cell? ⟨w.heap.size, 5, none⟩ = some (.slice ao n c) := bC hblk 5
 have hRW := h.still hbW
 have HbW : Hid (Below w.heap.size w W) := hbW
 have HI : Hid (Calls Try.prog 63 #[.pointer (some ⟨R.b, 0, none⟩), .int .i64 q] W fun e w' => e = .returned (.bool true) /\ W = w') := is_yes hRW hq
 obtain ⟨k, rfl, hk, he, hpe⟩ := rat_es hq
 have hc := hRW.ce hk he
 have hr := hRW.el k hk
 rw [he] at hr
 have s3 := h.t1
 have s4 := h.w1
 have s5 := hr.s3
 have i1 : (0 : Int) ≤ (k : Int) := Int.natCast_nonneg _
 have i2 : (k : Int) < (R.n : Int) := by omega
 have c4 := hc.c4
 have c5 := hc.c5
 have c6 := hc.c6
 have c7 := hc.c7
 have HQ : Hid (decide (t = R.tag) = true) := (show _ = _ from by rw [decide_eq_true_eq]; exact ht)
 have h0 : ¬ (u : Int) < 1 := by omega
 have h1 : ¬ (u : Int) > 4611686018427387904 := by omega
 have h2 : ((n : Int) == 0) = false := by rw [beq_eq_false_iff_ne]; simp [inR] at hn; omega
 have h3 : ¬ (n : Int) > 300 := by simp [inR] at hn; omega
 have HR : Hid (R.Ok W B T) := hRW
 have HR0 : Hid (R.Ok w B T) := h
 have HE : Hid (R.es k = r) := he
 have Hblk : Hid (W.heap[w.heap.size]? = some (.cells #[.int .i64 t.e, .int .i64 t.l, .int .i64 t.i, .int .i64 t.c, .int .i64 (u : Int), .slice ao n c] 55 (0, 0))) := hblk
 have hgw : w.heap.size ≠ R.g := h.gw (Nat.le_refl _)
 have Hr : Hid (r.an ≤ r.ps.length /\ r.gt + r.ea.length ≤ T) := (show _ /\ _ from ⟨hr.s1, hr.s3⟩)
 obtain ⟨ea, ec, hev⟩ := hr.evs
 obtain ⟨el, hel⟩ : ∃ l, r.ea.length = l := ⟨_, rfl⟩
 rw [hel] at hev s5
 have Hev : Hid (r.ev = .slice ea el ec /\ r.ea.length = el) := (show _ /\ _ from ⟨hev, hel⟩)
 obtain ⟨ix, hix⟩ : ∃ i, eaV r.ea u = i := ⟨_, rfl⟩
 have hix0 : ix ≥ 0 := by rw [<- hix]; unfold eaV; rw [hh]; exact Int.natCast_nonneg _
 have Hix : Hid (eaV r.ea u = ix) := hix
 have Hs4 : Hid (∀ x ∈ r.ea, x.1 ≤ 4611686018427387904) := hr.s4
 clear hix
 clear h hq hblk hbW hRW hc hr he hpe ht hn hev hel
 go_enter Try.func40, Try.ntmps40
 go_wp2_with (first | (go_at_call 63; refine HI.out.mono ?_; rintro e w' ⟨rfl, rfl⟩) | fail)
 refine wp_region_held_drew (S := (fun w' => w'.cell? ⟨w.heap.size, 0, none⟩ = some (.int .i64 t.e) /\ w'.cell? ⟨w.heap.size, 1, none⟩ = some (.int .i64 t.l) /\ w'.cell? ⟨w.heap.size, 2, none⟩ = some (.int .i64 t.i) /\ w'.cell? ⟨w.heap.size, 3, none⟩ = some (.int .i64 t.c) /\ w'.cell? ⟨R.b, 4, none⟩ = some (.int .i64 R.tag.e) /\ w'.cell? ⟨R.b, 5, none⟩ = some (.int .i64 R.tag.l) /\ w'.cell? ⟨R.b, 6, none⟩ = some (.int .i64 R.tag.i) /\ w'.cell? ⟨R.b, 7, none⟩ = some (.int .i64 R.tag.c))) (by kernel_rfl) ⟨(dW0 a0), (dW0 a1), (dW0 a2), (dW0 a3), (dW0 c4), (dW0 c5), (dW0 c6), (dW0 c7)⟩ (fun hH => ?_)
 simp only [Act.put, lA, lC, lN, zA]
 refine wG 0 (.pointer (some ⟨w.heap.size, 0, none⟩)) rfl hH ?_
 simp only [aP, gA, gZ, gC, sA, sZ, sC]
 refine wL 1 (.agg #[.int .i64 t.e, .int .i64 t.l, .int .i64 t.i, .int .i64 t.c]) rfl hH ?_
 simp only [aP, gA, gZ, gC, sA, sZ, sC]
 refine wG 2 (.pointer (some ⟨R.b, 0, none⟩)) rfl hH ?_
 simp only [aP, gA, gZ, gC, sA, sZ, sC]
 refine wG 3 (.pointer (some ⟨R.b, 0, none⟩)) rfl hH ?_
 simp only [aP, gA, gZ, gC, sA, sZ, sC]
 refine wG 4 (.pointer (some ⟨R.b, 4, none⟩)) rfl hH ?_
 simp only [aP, gA, gZ, gC, sA, sZ, sC]
 refine wL 5 (.agg #[.int .i64 R.tag.e, .int .i64 R.tag.l, .int .i64 R.tag.i, .int .i64 R.tag.c]) rfl hH ?_
 simp only [aP, gA, gZ, gC, sA, sZ, sC]
 refine wX 6 (.bool (!(true))) rfl (Or.inl ⟨by rfl, fun w' hS => run_neqop 39 (.tmp 37) (.tmp 41) 39 rfl _ _ (by rfl) (by rfl) guard_id _ (by have e1 := eq_tag (w := w') t R.tag; rw [HQ.out] at e1; exact e1)⟩) hH ?_
 simp only [aP, gA, gZ, gC, sA, sZ, sC]
 refine wpAnyH_done (by kernel_rfl) ?_ _
 clear hH
 have hbD : Below W.heap.size W W.drew := dB _
 have hRV := HR.out.still hbD
 have hcV := hRV.ce hk HE.out
 have b4 := bA hbD a4
 have b8 := hcV.c8
 have b2 := hcV.c2
 have b3 := hcV.e3
 obtain ⟨gt, hgt⟩ : ∃ g, r.gt = g := ⟨_, rfl⟩
 have Hgt : Hid (r.gt = gt) := hgt
 rw [hgt] at b3 s5 hf hf2
 have HbV : Hid (Below w.heap.size w W.drew) := HbW.out.drew
 have HRV : Hid (R.Ok W.drew B T) := hRV
 have HblkV : Hid (W.drew.heap[w.heap.size]? = some (.cells #[.int .i64 t.e, .int .i64 t.l, .int .i64 t.i, .int .i64 t.c, .int .i64 (u : Int), .slice ao n c] 55 (0, 0))) := (show _ = _ from (hbD.block _ (lt_heap Hblk.out)).trans Hblk.out)
 generalize W.drew = V at *
 clear hbD hRV hcV a0 a1 a2 a3 a4 a5 c4 c5 c6 c7 Hblk HQ HI
 go_wp2
 refine wp_region_held_drew (S := (fun w' => w'.cell? ⟨w.heap.size, 4, none⟩ = some (.int .i64 (u : Int)) /\ w'.cell? ⟨R.b, 8, none⟩ = some (.slice (some ⟨R.g, 0, none⟩) R.n R.c) /\ w'.cell? ⟨R.g, k * 6 + 3, none⟩ = some (.int .i64 (gt : Int)) /\ w'.cell? ⟨R.b, 2, none⟩ = some (.int .i64 (R.win : Int)))) (by kernel_rfl) ⟨(dW0 b4), (dW0 b8), (dW0 b3), (dW0 b2)⟩ (fun hH => ?_)
 simp only [Act.put, lA, lC, lN, zA]
 refine wG 0 (.pointer (some ⟨w.heap.size, 4, none⟩)) rfl hH ?_
 simp only [aP, gA, gZ, gC, sA, sZ, sC]
 refine wL 1 (.int .i64 (u : Int)) rfl hH ?_
 simp only [aP, gA, gZ, gC, sA, sZ, sC]
 refine wG 2 (.pointer (some ⟨R.b, 0, none⟩)) rfl hH ?_
 simp only [aP, gA, gZ, gC, sA, sZ, sC]
 refine wG 3 (.pointer (some ⟨R.b, 0, none⟩)) rfl hH ?_
 simp only [aP, gA, gZ, gC, sA, sZ, sC]
 refine wG 4 (.pointer (some ⟨R.b, 8, none⟩)) rfl hH ?_
 simp only [aP, gA, gZ, gC, sA, sZ, sC]
 refine wL 5 (.slice (some ⟨R.g, 0, none⟩) R.n R.c) rfl hH ?_
 simp only [aP, gA, gZ, gC, sA, sZ, sC]
 refine wG 6 (.int .i64 (k : Int)) rfl hH ?_
 simp only [aP, gA, gZ, gC, sA, sZ, sC]
 refine wG 7 (.pointer (some ⟨R.g, k * 6, none⟩)) rfl hH ?_
 simp only [aP, gA, gZ, gC, sA, sZ, sC]
 refine wG 8 (.pointer (some ⟨R.g, k * 6 + 3, none⟩)) rfl hH ?_
 simp only [aP, gA, gZ, gC, sA, sZ, sC]
 refine wL 9 (.int .i64 (gt : Int)) rfl hH ?_
 simp only [aP, gA, gZ, gC, sA, sZ, sC]
 refine wG 10 (.pointer (some ⟨R.b, 0, none⟩)) rfl hH ?_
 simp only [aP, gA, gZ, gC, sA, sZ, sC]
 refine wG 11 (.pointer (some ⟨R.b, 0, none⟩)) rfl hH ?_
 simp only [aP, gA, gZ, gC, sA, sZ, sC]
 refine wG 12 (.pointer (some ⟨R.b, 2, none⟩)) rfl hH ?_
 simp only [aP, gA, gZ, gC, sA, sZ, sC]
 refine wL 13 (.int .i64 (R.win : Int)) rfl hH ?_
 simp only [aP, gA, gZ, gC, sA, sZ, sC]
 refine wX 14 (.int .i64 ((gt : Int) + (R.win : Int))) rfl (Or.inl ⟨by rfl, fun w' hS => by (go_simp <;> exact wrap_id (by omega) (by omega))⟩) hH ?_
 simp only [aP, gA, gZ, gC, sA, sZ, sC]
 refine wX 15 (.bool false) rfl (Or.inl ⟨by rfl, fun w' hS => by (go_simp <;> omega)⟩) hH ?_
 simp only [aP, gA, gZ, gC, sA, sZ, sC]
 refine wpAnyH_done (by kernel_rfl) ?_ _
 clear hH
 have hbE : Below V.heap.size V V.drew := dB _
 have hRE := HRV.out.still hbE
 have HbE : Hid (Below w.heap.size w V.drew) := HbV.out.drew
 have hblkE : V.drew.heap[w.heap.size]? = some (.cells #[.int .i64 t.e, .int .i64 t.l, .int .i64 t.i, .int .i64 t.c, .int .i64 (u : Int), .slice ao n c] 55 (0, 0)) := (hbE.block _ (lt_heap HblkV.out)).trans HblkV.out
 generalize V.drew = V1 at *
 have hcE := hRE.ce hk HE.out
 have n8 := hcE.c8
 have n5 := hcE.e5
 have f5 := hRE.row.fz (k * 6 + 5)
 have hS := hRE.set1 (i := 5) (v := .bool true) (r' := { r with ow := true }) hk HE.out (by omega) rfl rfl rfl rfl rfl Hr.out.1 (Nat.le_refl _) s3 Hr.out.2
 have hblkU : (V1.setCell ⟨R.g, k * 6 + 5, none⟩ (.bool true)).heap[w.heap.size]? = some (.cells #[.int .i64 t.e, .int .i64 t.l, .int .i64 t.i, .int .i64 t.c, .int .i64 (u : Int), .slice ao n c] 55 (0, 0)) := blk_set_ne hblkE hgw
 generalize hU : V1.setCell ⟨R.g, k * 6 + 5, none⟩ (.bool true) = U at hS hblkU
 have hcU := hS.ok.ce (k := k) (r := { r with ow := true }) hk (upd_same _ _ _)
 have u4 : U.cell? ⟨w.heap.size, 4, none⟩ = some (.int .i64 (u : Int)) := bC hblkU 4
 have u8 : U.cell? ⟨R.b, 8, none⟩ = some (.slice (some ⟨R.g, 0, none⟩) R.n R.c) := hcU.c8
 have u3 : U.cell? ⟨R.g, k * 6 + 3, none⟩ = some (.int .i64 (gt : Int)) := by have := hcU.e3; rw [show ({ r with ow := true } : Rn).gt = gt from Hgt.out] at this; exact this
 have u5 : U.cell? ⟨R.g, k * 6 + 4, none⟩ = some (.slice ea el ec) := by have := hcU.e4; rw [show ({ r with ow := true } : Rn).ev = .slice ea el ec from Hev.out.1] at this; exact this
 have HS : Hid (Rstep w U R (R.put k { r with ow := true }) B T) := (show Rstep _ _ _ _ _ _ from (Rstep.below HR0.out HbE.out).trans hS)
 have HEa : Hid (∀ D, Below U.heap.size U D -> Calls Try.prog 79 #[.slice ea el ec, .int .i64 (u : Int)] D fun e w' => e = .returned (.int .i64 ix) /\ Below D.heap.size D w') := fun D hb => (show Calls _ _ _ _ _ from by
  have hre := (hS.ok.el k hk).re
  have e1 : (R.put k { r with ow := true }).es k = { r with ow := true } := upd_same _ _ _
  rw [e1] at hre
  have hre2 : U.ownsRow B 122 2 r.ev r.ea.length (r.ea.flatMap eac) := hre
  have hrd := RdE.of hre2 (by have := Hr.out.2; omega) Hs4.out
  have := early_any (hrd.still hb) hu
  rw [Hix.out, Hev.out.1] at this
  exact this)
 clear hbE hRE hcE hblkE hS hblkU hcU HblkV HRV HbV b2 b3 b4 b8
 go_wp2
 refine wp_region_held_drew (S := (fun w' => w'.cell? ⟨w.heap.size, 4, none⟩ = some (.int .i64 (u : Int)) /\ w'.cell? ⟨R.b, 8, none⟩ = some (.slice (some ⟨R.g, 0, none⟩) R.n R.c) /\ w'.cell? ⟨R.g, k * 6 + 3, none⟩ = some (.int .i64 (gt : Int)) /\ w'.cell? ⟨R.g, k * 6 + 4, none⟩ = some (.slice ea el ec))) (by kernel_rfl) ⟨(dW0 u4), (dW0 u8), (dW0 u3), (dW0 u5)⟩ (fun hH => ?_)
 simp only [Act.put, lA, lC, lN, zA]
 refine wG 0 (.pointer (some ⟨w.heap.size, 4, none⟩)) rfl hH ?_
 simp only [aP, gA, gZ, gC, sA, sZ, sC]
 refine wL 1 (.int .i64 (u : Int)) rfl hH ?_
 simp only [aP, gA, gZ, gC, sA, sZ, sC]
 refine wG 2 (.pointer (some ⟨R.b, 0, none⟩)) rfl hH ?_
 simp only [aP, gA, gZ, gC, sA, sZ, sC]
 refine wG 3 (.pointer (some ⟨R.b, 0, none⟩)) rfl hH ?_
 simp only [aP, gA, gZ, gC, sA, sZ, sC]
 refine wG 4 (.pointer (some ⟨R.b, 8, none⟩)) rfl hH ?_
 simp only [aP, gA, gZ, gC, sA, sZ, sC]
 refine wL 5 (.slice (some ⟨R.g, 0, none⟩) R.n R.c) rfl hH ?_
 simp only [aP, gA, gZ, gC, sA, sZ, sC]
 refine wG 6 (.int .i64 (k : Int)) rfl hH ?_
 simp only [aP, gA, gZ, gC, sA, sZ, sC]
 refine wG 7 (.pointer (some ⟨R.g, k * 6, none⟩)) rfl hH ?_
 simp only [aP, gA, gZ, gC, sA, sZ, sC]
 refine wG 8 (.pointer (some ⟨R.g, k * 6 + 3, none⟩)) rfl hH ?_
 simp only [aP, gA, gZ, gC, sA, sZ, sC]
 refine wL 9 (.int .i64 (gt : Int)) rfl hH ?_
 simp only [aP, gA, gZ, gC, sA, sZ, sC]
 refine wX 10 (.bool false) rfl (Or.inl ⟨by rfl, fun w' hS => by (go_simp <;> omega)⟩) hH ?_
 simp only [aP, gA, gZ, gC, sA, sZ, sC]
 refine wG 11 (.bool false) rfl hH ?_
 simp only [aP, gA, gZ, gC, sA, sZ, sC]
 refine wK 12 (.pointer (some ⟨R.b, 0, none⟩)) rfl hH ?_
 simp only [aP, gA, gZ, gC, sA, sZ, sC]
 refine wK 13 (.pointer (some ⟨R.b, 0, none⟩)) rfl hH ?_
 simp only [aP, gA, gZ, gC, sA, sZ, sC]
 refine wK 14 (.pointer (some ⟨R.b, 8, none⟩)) rfl hH ?_
 simp only [aP, gA, gZ, gC, sA, sZ, sC]
 refine wM 15 (.slice (some ⟨R.g, 0, none⟩) R.n R.c) rfl hH ?_
 simp only [aP, gA, gZ, gC, sA, sZ, sC]
 refine wK 16 (.int .i64 (k : Int)) rfl hH ?_
 simp only [aP, gA, gZ, gC, sA, sZ, sC]
 refine wK 17 (.pointer (some ⟨R.g, k * 6, none⟩)) rfl hH ?_
 simp only [aP, gA, gZ, gC, sA, sZ, sC]
 refine wK 18 (.pointer (some ⟨R.g, k * 6 + 4, none⟩)) rfl hH ?_
 simp only [aP, gA, gZ, gC, sA, sZ, sC]
 refine wM 19 (.slice ea el ec) rfl hH ?_
 simp only [aP, gA, gZ, gC, sA, sZ, sC]
 refine wK 20 (.pointer (some ⟨w.heap.size, 4, none⟩)) rfl hH ?_
 simp only [aP, gA, gZ, gC, sA, sZ, sC]
 refine wM 21 (.int .i64 (u : Int)) rfl hH ?_
 simp only [aP, gA, gZ, gC, sA, sZ, sC]
 have hbD5 : Below U.heap.size U U.drew := dB _
 have q0 := bA hbD5 u4
 have q1 := bA hbD5 u8
 have q2 := bA hbD5 u3
 have q3 := bA hbD5 u5
 generalize U.drew = D5 at *
 refine rY 22 rfl fun K hK => ?_
 go_simp
 refine (HEa.out D5 hbD5).mono ?_
 rintro e w5 ⟨rfl, hb5⟩
 refine hK.out _ _ ⟨(bA hb5 q0), (bA hb5 q1), (bA hb5 q2), (bA hb5 q3)⟩ (fun hH => ?_)
 clear hK K
 refine wX 23 (.bool true) rfl (Or.inl ⟨by kernel_rfl, fun w' hS => by (go_simp <;> omega)⟩) hH ?_
 simp only [aP, gA, gZ, gC, sA, sZ, sC]
 refine wG 24 (.bool true) rfl hH ?_
 simp only [aP, gA, gZ, gC, sA, sZ, sC]
 refine wpAnyH_done (by kernel_rfl) ?_ _
 clear hH
 have HF : Hid (Rstep w w5 R (R.put k { r with ow := true }) B T) := (show Rstep _ _ _ _ _ _ from HS.out.trans (Rstep.below HS.out.ok (bstep hbD5 hb5)))
 clear hbD5 hb5 q0 q1 q2 q3 HS HEa
 go_wp2
 exact bodyPost_ret (v := .tuple #[.slice none 0 0, .int .i64 0]) (by simp [results, Try.results40, go_sem]) rfl ⟨rfl, k, rfl, hk, HF.out⟩
end
end Go.Proofs.Ythanifbimndhaaa.Ln
