import Derived.Test.YthanifbimndhaaaM26
namespace Go.Proofs.Ythanifbimndhaaa.Ln
set_option maxHeartbeats 40000000
open Go.RowKit Mb
set_option linter.unusedVariables false
set_option maxRecDepth 100000
set_option linter.unusedSimpArgs false
section
variable {w w' W : World} {B T : Nat} {Y : Pl}
theorem ask4 {k bn bc pn pc : Nat} {pe nn mm ww : Int} {t : Tg} {ba pa : Option Addr} {M : Mx} {R : Rx} (h : PlOk Y w B T) (ht : Y.tn ≤ (Y.os.length : Int)) (hT : T + 1 ≤ 450) (hk : k < 3) (hM : Y.M k = some (M, R)) : Calls Try.prog 16 #[.pointer (some ⟨Y.b, 0, none⟩), .agg #[.int .i64 (k : Int), .int .i64 4, .int .i64 pe, .int .i64 nn, .int .i64 mm, .int .i64 ww, .int .i64 t.e, .int .i64 t.l, .int .i64 t.i, .int .i64 t.c, .slice ba bn bc, .slice pa pn pc]] w fun e w' => e = .returned (.bool true) /\ YsO w w' B T Y := by
 have H : Hid (PlOk Y w B T) := h
 have Ht : Hid (Y.tn ≤ (Y.os.length : Int)) := ht
 have HT : Hid (T + 1 ≤ 450) := hT
 have Hk : Hid (k < 3) := hk
 have HM : Hid (Y.M k = some (M, R)) := hM
 obtain ⟨yb, hyb⟩ : ∃ b, Y.b = b := ⟨_, rfl⟩
 have Hyb : Hid (Y.b = yb) := hyb
 have i1 : (0 : Int) ≤ (k : Int) := Int.natCast_nonneg _
 have i2 : (k : Int) < 3 := by omega
 obtain ⟨v, hv⟩ := ask_room (h.duo k M R hk hM) pe
 have HA : Hid (∀ D, Below w.heap.size w D -> (Calls Try.prog 43 #[.pointer (some ⟨M.b, 0, none⟩), .int .i64 pe] D fun e w' => e = .returned (.int .i64 v) /\ Below D.heap.size D w') /\ (Calls Try.prog 44 #[.pointer (some ⟨R.b, 0, none⟩), .int .i64 pe] D fun e w' => e = .returned (.int .i64 v) /\ Below D.heap.size D w')) := hv
 clear hv
 generalize hW : w.alloc (.cells #[.int .i64 (k : Int), .int .i64 4, .int .i64 pe, .int .i64 nn, .int .i64 mm, .int .i64 ww, .int .i64 t.e, .int .i64 t.l, .int .i64 t.i, .int .i64 t.c, .slice ba bn bc, .slice pa pn pc] 43) = W
 have hbW := bW0 hW
 have HbW : Hid (Below w.heap.size w W) := hbW
 have hblk := hQ0 hW
 have b0 : W.cell? ⟨w.heap.size, 0, none⟩ = some (.int .i64 (k : Int)) := bC hblk 0
 have b1 : W.cell? ⟨w.heap.size, 1, none⟩ = some (.int .i64 4) := bC hblk 1
 have b2 : W.cell? ⟨w.heap.size, 2, none⟩ = some (.int .i64 pe) := bC hblk 2
 have cM := (h.still hbW).cM hk
 rw [hM, hyb] at cM
 have cP : W.cell? ⟨yb, k, none⟩ = some (.pointer (some ⟨M.b, 0, none⟩)) := cM.1
 have cD : W.cell? ⟨yb, 3 + k, none⟩ = some (.pointer (some ⟨R.b, 0, none⟩)) := cM.2
 rw [hyb]
 clear h ht hT hk hM hyb hbW hblk cM
 go_enter Try.func16, Try.ntmps16
 go_wp2
 refine wp_region_held_drew (S := (fun w' => w'.cell? ⟨w.heap.size, 0, none⟩ = some (.int .i64 (k : Int)) /\ w'.cell? ⟨yb, k, none⟩ = some (.pointer (some ⟨M.b, 0, none⟩)))) (by kernel_rfl) ⟨(dW0 b0), (dW0 cP)⟩ (fun hH => ?_)
 simp only [Act.put, lA, lC, lN, zA]
 refine tG 0 14 (.pointer (some ⟨yb, 0, none⟩)) rfl hH ?_
 simp only [aP, sA, sZ, sC]
 refine tG 1 15 (.pointer (some ⟨w.heap.size, 0, none⟩)) rfl hH ?_
 simp only [aP, sA, sZ, sC]
 refine tL 2 16 (.int .i64 (k : Int)) rfl hH ?_
 simp only [aP, sA, sZ, sC]
 refine tG 3 17 (.pointer (some ⟨yb, 0, none⟩)) rfl hH ?_
 simp only [aP, sA, sZ, sC]
 refine tG 4 18 (.pointer (some ⟨yb, 0, none⟩)) rfl hH ?_
 simp only [aP, sA, sZ, sC]
 refine tG 5 19 (.pointer (some ⟨yb, k, none⟩)) rfl hH ?_
 simp only [aP, sA, sZ, sC]
 refine tL 6 20 (.pointer (some ⟨M.b, 0, none⟩)) rfl hH ?_
 simp only [aP, sA, sZ, sC]
 refine tG 7 5 (.pointer (some ⟨M.b, 0, none⟩)) rfl hH ?_
 simp only [aP, sA, sZ, sC]
 refine wpAnyH_done (by kernel_rfl) ?_ _
 clear hH
 have hbq1 : Below W.heap.size W W.drew := dB _
 have d0 := bA hbq1 b0
 have d1 := bA hbq1 b1
 have d2 := bA hbq1 b2
 have eP := bA hbq1 cP
 have eD := bA hbq1 cD
 have HD1 : Hid (Below w.heap.size w W.drew) := (show Below _ _ _ from bstep HbW.out hbq1)
 clear hbq1 b0 b1 b2 cP cD HbW
 generalize W.drew = D1 at HD1 d0 d1 d2 eP eD ⊢
 have HbD1 := HD1
 clear HD1
 go_wp2
 refine wp_region_held_drew (S := (fun w' => w'.cell? ⟨w.heap.size, 0, none⟩ = some (.int .i64 (k : Int)) /\ w'.cell? ⟨yb, 3 + k, none⟩ = some (.pointer (some ⟨R.b, 0, none⟩)))) (by kernel_rfl) ⟨(dW0 d0), (dW0 eD)⟩ (fun hH => ?_)
 simp only [Act.put, lA, lC, lN, zA]
 refine tG 0 21 (.pointer (some ⟨yb, 0, none⟩)) rfl hH ?_
 simp only [aP, sA, sZ, sC]
 refine tG 1 22 (.pointer (some ⟨w.heap.size, 0, none⟩)) rfl hH ?_
 simp only [aP, sA, sZ, sC]
 refine tL 2 23 (.int .i64 (k : Int)) rfl hH ?_
 simp only [aP, sA, sZ, sC]
 refine tG 3 24 (.pointer (some ⟨yb, 0, none⟩)) rfl hH ?_
 simp only [aP, sA, sZ, sC]
 refine tG 4 25 (.pointer (some ⟨yb, 3, none⟩)) rfl hH ?_
 simp only [aP, sA, sZ, sC]
 refine tG 5 26 (.pointer (some ⟨yb, 3 + k, none⟩)) rfl hH ?_
 simp only [aP, sA, sZ, sC]
 refine tL 6 27 (.pointer (some ⟨R.b, 0, none⟩)) rfl hH ?_
 simp only [aP, sA, sZ, sC]
 refine tG 7 6 (.pointer (some ⟨R.b, 0, none⟩)) rfl hH ?_
 simp only [aP, sA, sZ, sC]
 refine wpAnyH_done (by kernel_rfl) ?_ _
 clear hH
 have hbq2 : Below D1.heap.size D1 D1.drew := dB _
 have o0 := bA hbq2 d0
 have o1 := bA hbq2 d1
 have o2 := bA hbq2 d2
 have fP := bA hbq2 eP
 have fD := bA hbq2 eD
 have HD2 : Hid (Below w.heap.size w D1.drew) := (show Below _ _ _ from bstep HbD1.out hbq2)
 clear hbq2 d0 d1 d2 eP eD HbD1
 generalize D1.drew = D2 at HD2 o0 o1 o2 fP fD ⊢
 have HbD2 := HD2
 clear HD2
 clear fP fD
 go_wp2
 refine wp_region_held_drew (S := (fun w' => w'.cell? ⟨w.heap.size, 2, none⟩ = some (.int .i64 pe))) (by kernel_rfl) (dW0 o2) (fun hH => ?_)
 simp only [Act.put, lA, lC, lN, zA]
 refine tG 0 32 (.pointer (some ⟨M.b, 0, none⟩)) rfl hH ?_
 simp only [aP, sA, sZ, sC]
 refine tG 1 33 (.pointer (some ⟨w.heap.size, 2, none⟩)) rfl hH ?_
 simp only [aP, sA, sZ, sC]
 refine tL 2 34 (.int .i64 pe) rfl hH ?_
 simp only [aP, sA, sZ, sC]
 refine tG 4 36 (.pointer (some ⟨R.b, 0, none⟩)) rfl hH ?_
 simp only [aP, sA, sZ, sC]
 refine tG 5 37 (.pointer (some ⟨w.heap.size, 2, none⟩)) rfl hH ?_
 simp only [aP, sA, sZ, sC]
 refine tL 6 38 (.int .i64 pe) rfl hH ?_
 simp only [aP, sA, sZ, sC]
 have hbD3 : Below D2.heap.size D2 D2.drew := dB _
 have q0 := bA hbD3 o2
 generalize D2.drew = D3 at *
 refine rY 3 rfl fun K hK => ?_
 go_simp
 refine ((HA.out D3 (bstep HbD2.out hbD3)).1).mono ?_
 rintro e w3 ⟨rfl, hb3⟩
 refine hK.out _ _ (bA hb3 q0) (fun hH => ?_)
 clear hK K
 refine rY 7 rfl fun K hK => ?_
 go_simp
 refine ((HA.out w3 (bstep HbD2.out (bstep hbD3 hb3))).2).mono ?_
 rintro e w4 ⟨rfl, hb4⟩
 refine hK.out _ _ (bA hb4 (bA hb3 q0)) (fun hH => ?_)
 clear hK K
 refine tG 8 40 (.bool true) rfl hH ?_
 simp only [aP, sA, sZ, sC]
 refine tG 9 4 (.bool true) rfl hH ?_
 simp only [aP, sA, sZ, sC]
 refine wpAnyH_done (by kernel_rfl) ?_ _
 clear hH
 have HO : Hid (YsO w w4 B T Y) := (show YsO _ _ _ _ _ from ys_still H.out Ht.out HT.out (bstep HbD2.out (bstep (bstep hbD3 hb3) hb4)))
 clear o0 o1 o2 hbD3 hb3 hb4 q0
 go_wp2
 go_ret
 exact ⟨rfl, HO.out⟩
theorem ask5 {k bn bc pn pc : Nat} {pe nn mm ww : Int} {t : Tg} {ba pa : Option Addr} {M : Mx} {R : Rx} (h : PlOk Y w B T) (ht : Y.tn ≤ (Y.os.length : Int)) (hT : T + 1 ≤ 450) (hk : k < 3) (hM : Y.M k = some (M, R)) : Calls Try.prog 16 #[.pointer (some ⟨Y.b, 0, none⟩), .agg #[.int .i64 (k : Int), .int .i64 5, .int .i64 pe, .int .i64 nn, .int .i64 mm, .int .i64 ww, .int .i64 t.e, .int .i64 t.l, .int .i64 t.i, .int .i64 t.c, .slice ba bn bc, .slice pa pn pc]] w fun e w' => e = .returned (.bool true) /\ YsO w w' B T Y := by
 have H : Hid (PlOk Y w B T) := h
 have Ht : Hid (Y.tn ≤ (Y.os.length : Int)) := ht
 have HT : Hid (T + 1 ≤ 450) := hT
 have Hk : Hid (k < 3) := hk
 have HM : Hid (Y.M k = some (M, R)) := hM
 obtain ⟨yb, hyb⟩ : ∃ b, Y.b = b := ⟨_, rfl⟩
 have Hyb : Hid (Y.b = yb) := hyb
 have i1 : (0 : Int) ≤ (k : Int) := Int.natCast_nonneg _
 have i2 : (k : Int) < 3 := by omega
 obtain ⟨v, hv⟩ := ask_sent (h.duo k M R hk hM) pe
 have HA : Hid (∀ D, Below w.heap.size w D -> (Calls Try.prog 45 #[.pointer (some ⟨M.b, 0, none⟩), .int .i64 pe] D fun e w' => e = .returned (.int .i64 v) /\ Below D.heap.size D w') /\ (Calls Try.prog 46 #[.pointer (some ⟨R.b, 0, none⟩), .int .i64 pe] D fun e w' => e = .returned (.int .i64 v) /\ Below D.heap.size D w')) := hv
 clear hv
 generalize hW : w.alloc (.cells #[.int .i64 (k : Int), .int .i64 5, .int .i64 pe, .int .i64 nn, .int .i64 mm, .int .i64 ww, .int .i64 t.e, .int .i64 t.l, .int .i64 t.i, .int .i64 t.c, .slice ba bn bc, .slice pa pn pc] 43) = W
 have hbW := bW0 hW
 have HbW : Hid (Below w.heap.size w W) := hbW
 have hblk := hQ0 hW
 have b0 : W.cell? ⟨w.heap.size, 0, none⟩ = some (.int .i64 (k : Int)) := bC hblk 0
 have b1 : W.cell? ⟨w.heap.size, 1, none⟩ = some (.int .i64 5) := bC hblk 1
 have b2 : W.cell? ⟨w.heap.size, 2, none⟩ = some (.int .i64 pe) := bC hblk 2
 have cM := (h.still hbW).cM hk
 rw [hM, hyb] at cM
 have cP : W.cell? ⟨yb, k, none⟩ = some (.pointer (some ⟨M.b, 0, none⟩)) := cM.1
 have cD : W.cell? ⟨yb, 3 + k, none⟩ = some (.pointer (some ⟨R.b, 0, none⟩)) := cM.2
 rw [hyb]
 clear h ht hT hk hM hyb hbW hblk cM
 go_enter Try.func16, Try.ntmps16
 go_wp2
 refine wp_region_held_drew (S := (fun w' => w'.cell? ⟨w.heap.size, 0, none⟩ = some (.int .i64 (k : Int)) /\ w'.cell? ⟨yb, k, none⟩ = some (.pointer (some ⟨M.b, 0, none⟩)))) (by kernel_rfl) ⟨(dW0 b0), (dW0 cP)⟩ (fun hH => ?_)
 simp only [Act.put, lA, lC, lN, zA]
 refine tG 0 14 (.pointer (some ⟨yb, 0, none⟩)) rfl hH ?_
 simp only [aP, sA, sZ, sC]
 refine tG 1 15 (.pointer (some ⟨w.heap.size, 0, none⟩)) rfl hH ?_
 simp only [aP, sA, sZ, sC]
 refine tL 2 16 (.int .i64 (k : Int)) rfl hH ?_
 simp only [aP, sA, sZ, sC]
 refine tG 3 17 (.pointer (some ⟨yb, 0, none⟩)) rfl hH ?_
 simp only [aP, sA, sZ, sC]
 refine tG 4 18 (.pointer (some ⟨yb, 0, none⟩)) rfl hH ?_
 simp only [aP, sA, sZ, sC]
 refine tG 5 19 (.pointer (some ⟨yb, k, none⟩)) rfl hH ?_
 simp only [aP, sA, sZ, sC]
 refine tL 6 20 (.pointer (some ⟨M.b, 0, none⟩)) rfl hH ?_
 simp only [aP, sA, sZ, sC]
 refine tG 7 5 (.pointer (some ⟨M.b, 0, none⟩)) rfl hH ?_
 simp only [aP, sA, sZ, sC]
 refine wpAnyH_done (by kernel_rfl) ?_ _
 clear hH
 have hbq1 : Below W.heap.size W W.drew := dB _
 have d0 := bA hbq1 b0
 have d1 := bA hbq1 b1
 have d2 := bA hbq1 b2
 have eP := bA hbq1 cP
 have eD := bA hbq1 cD
 have HD1 : Hid (Below w.heap.size w W.drew) := (show Below _ _ _ from bstep HbW.out hbq1)
 clear hbq1 b0 b1 b2 cP cD HbW
 generalize W.drew = D1 at HD1 d0 d1 d2 eP eD ⊢
 have HbD1 := HD1
 clear HD1
 go_wp2
 refine wp_region_held_drew (S := (fun w' => w'.cell? ⟨w.heap.size, 0, none⟩ = some (.int .i64 (k : Int)) /\ w'.cell? ⟨yb, 3 + k, none⟩ = some (.pointer (some ⟨R.b, 0, none⟩)))) (by kernel_rfl) ⟨(dW0 d0), (dW0 eD)⟩ (fun hH => ?_)
 simp only [Act.put, lA, lC, lN, zA]
 refine tG 0 21 (.pointer (some ⟨yb, 0, none⟩)) rfl hH ?_
 simp only [aP, sA, sZ, sC]
 refine tG 1 22 (.pointer (some ⟨w.heap.size, 0, none⟩)) rfl hH ?_
 simp only [aP, sA, sZ, sC]
 refine tL 2 23 (.int .i64 (k : Int)) rfl hH ?_
 simp only [aP, sA, sZ, sC]
 refine tG 3 24 (.pointer (some ⟨yb, 0, none⟩)) rfl hH ?_
 simp only [aP, sA, sZ, sC]
 refine tG 4 25 (.pointer (some ⟨yb, 3, none⟩)) rfl hH ?_
 simp only [aP, sA, sZ, sC]
 refine tG 5 26 (.pointer (some ⟨yb, 3 + k, none⟩)) rfl hH ?_
 simp only [aP, sA, sZ, sC]
 refine tL 6 27 (.pointer (some ⟨R.b, 0, none⟩)) rfl hH ?_
 simp only [aP, sA, sZ, sC]
 refine tG 7 6 (.pointer (some ⟨R.b, 0, none⟩)) rfl hH ?_
 simp only [aP, sA, sZ, sC]
 refine wpAnyH_done (by kernel_rfl) ?_ _
 clear hH
 have hbq2 : Below D1.heap.size D1 D1.drew := dB _
 have o0 := bA hbq2 d0
 have o1 := bA hbq2 d1
 have o2 := bA hbq2 d2
 have fP := bA hbq2 eP
 have fD := bA hbq2 eD
 have HD2 : Hid (Below w.heap.size w D1.drew) := (show Below _ _ _ from bstep HbD1.out hbq2)
 clear hbq2 d0 d1 d2 eP eD HbD1
 generalize D1.drew = D2 at HD2 o0 o1 o2 fP fD ⊢
 have HbD2 := HD2
 clear HD2
 clear fP fD
 go_wp2
 refine wp_region_held_drew (S := (fun w' => w'.cell? ⟨w.heap.size, 2, none⟩ = some (.int .i64 pe))) (by kernel_rfl) (dW0 o2) (fun hH => ?_)
 simp only [Act.put, lA, lC, lN, zA]
 refine tG 0 43 (.pointer (some ⟨M.b, 0, none⟩)) rfl hH ?_
 simp only [aP, sA, sZ, sC]
 refine tG 1 44 (.pointer (some ⟨w.heap.size, 2, none⟩)) rfl hH ?_
 simp only [aP, sA, sZ, sC]
 refine tL 2 45 (.int .i64 pe) rfl hH ?_
 simp only [aP, sA, sZ, sC]
 refine tG 4 47 (.pointer (some ⟨R.b, 0, none⟩)) rfl hH ?_
 simp only [aP, sA, sZ, sC]
 refine tG 5 48 (.pointer (some ⟨w.heap.size, 2, none⟩)) rfl hH ?_
 simp only [aP, sA, sZ, sC]
 refine tL 6 49 (.int .i64 pe) rfl hH ?_
 simp only [aP, sA, sZ, sC]
 have hbD3 : Below D2.heap.size D2 D2.drew := dB _
 have q0 := bA hbD3 o2
 generalize D2.drew = D3 at *
 refine rY 3 rfl fun K hK => ?_
 go_simp
 refine ((HA.out D3 (bstep HbD2.out hbD3)).1).mono ?_
 rintro e w3 ⟨rfl, hb3⟩
 refine hK.out _ _ (bA hb3 q0) (fun hH => ?_)
 clear hK K
 refine rY 7 rfl fun K hK => ?_
 go_simp
 refine ((HA.out w3 (bstep HbD2.out (bstep hbD3 hb3))).2).mono ?_
 rintro e w4 ⟨rfl, hb4⟩
 refine hK.out _ _ (bA hb4 (bA hb3 q0)) (fun hH => ?_)
 clear hK K
 refine tG 8 51 (.bool true) rfl hH ?_
 simp only [aP, sA, sZ, sC]
 refine tG 9 4 (.bool true) rfl hH ?_
 simp only [aP, sA, sZ, sC]
 refine wpAnyH_done (by kernel_rfl) ?_ _
 clear hH
 have HO : Hid (YsO w w4 B T Y) := (show YsO _ _ _ _ _ from ys_still H.out Ht.out HT.out (bstep HbD2.out (bstep (bstep hbD3 hb3) hb4)))
 clear o0 o1 o2 hbD3 hb3 hb4 q0
 go_wp2
 go_ret
 exact ⟨rfl, HO.out⟩
theorem ask6 {k bn bc pn pc : Nat} {pe nn mm ww : Int} {t : Tg} {ba pa : Option Addr} {M : Mx} {R : Rx} (h : PlOk Y w B T) (ht : Y.tn ≤ (Y.os.length : Int)) (hT : T + 1 ≤ 450) (hk : k < 3) (hM : Y.M k = some (M, R)) : Calls Try.prog 16 #[.pointer (some ⟨Y.b, 0, none⟩), .agg #[.int .i64 (k : Int), .int .i64 6, .int .i64 pe, .int .i64 nn, .int .i64 mm, .int .i64 ww, .int .i64 t.e, .int .i64 t.l, .int .i64 t.i, .int .i64 t.c, .slice ba bn bc, .slice pa pn pc]] w fun e w' => e = .returned (.bool true) /\ YsO w w' B T Y := by
 have H : Hid (PlOk Y w B T) := h
 have Ht : Hid (Y.tn ≤ (Y.os.length : Int)) := ht
 have HT : Hid (T + 1 ≤ 450) := hT
 have Hk : Hid (k < 3) := hk
 have HM : Hid (Y.M k = some (M, R)) := hM
 obtain ⟨yb, hyb⟩ : ∃ b, Y.b = b := ⟨_, rfl⟩
 have Hyb : Hid (Y.b = yb) := hyb
 have i1 : (0 : Int) ≤ (k : Int) := Int.natCast_nonneg _
 have i2 : (k : Int) < 3 := by omega
 obtain ⟨v, hv⟩ := ask_wait (h.duo k M R hk hM) pe
 have HA : Hid (∀ D, Below w.heap.size w D -> (Calls Try.prog 47 #[.pointer (some ⟨M.b, 0, none⟩), .int .i64 pe] D fun e w' => e = .returned (.int .i64 v) /\ Below D.heap.size D w') /\ (Calls Try.prog 48 #[.pointer (some ⟨R.b, 0, none⟩), .int .i64 pe] D fun e w' => e = .returned (.int .i64 v) /\ Below D.heap.size D w')) := hv
 clear hv
 generalize hW : w.alloc (.cells #[.int .i64 (k : Int), .int .i64 6, .int .i64 pe, .int .i64 nn, .int .i64 mm, .int .i64 ww, .int .i64 t.e, .int .i64 t.l, .int .i64 t.i, .int .i64 t.c, .slice ba bn bc, .slice pa pn pc] 43) = W
 have hbW := bW0 hW
 have HbW : Hid (Below w.heap.size w W) := hbW
 have hblk := hQ0 hW
 have b0 : W.cell? ⟨w.heap.size, 0, none⟩ = some (.int .i64 (k : Int)) := bC hblk 0
 have b1 : W.cell? ⟨w.heap.size, 1, none⟩ = some (.int .i64 6) := bC hblk 1
 have b2 : W.cell? ⟨w.heap.size, 2, none⟩ = some (.int .i64 pe) := bC hblk 2
 have cM := (h.still hbW).cM hk
 rw [hM, hyb] at cM
 have cP : W.cell? ⟨yb, k, none⟩ = some (.pointer (some ⟨M.b, 0, none⟩)) := cM.1
 have cD : W.cell? ⟨yb, 3 + k, none⟩ = some (.pointer (some ⟨R.b, 0, none⟩)) := cM.2
 rw [hyb]
 clear h ht hT hk hM hyb hbW hblk cM
 go_enter Try.func16, Try.ntmps16
 go_wp2
 refine wp_region_held_drew (S := (fun w' => w'.cell? ⟨w.heap.size, 0, none⟩ = some (.int .i64 (k : Int)) /\ w'.cell? ⟨yb, k, none⟩ = some (.pointer (some ⟨M.b, 0, none⟩)))) (by kernel_rfl) ⟨(dW0 b0), (dW0 cP)⟩ (fun hH => ?_)
 simp only [Act.put, lA, lC, lN, zA]
 refine tG 0 14 (.pointer (some ⟨yb, 0, none⟩)) rfl hH ?_
 simp only [aP, sA, sZ, sC]
 refine tG 1 15 (.pointer (some ⟨w.heap.size, 0, none⟩)) rfl hH ?_
 simp only [aP, sA, sZ, sC]
 refine tL 2 16 (.int .i64 (k : Int)) rfl hH ?_
 simp only [aP, sA, sZ, sC]
 refine tG 3 17 (.pointer (some ⟨yb, 0, none⟩)) rfl hH ?_
 simp only [aP, sA, sZ, sC]
 refine tG 4 18 (.pointer (some ⟨yb, 0, none⟩)) rfl hH ?_
 simp only [aP, sA, sZ, sC]
 refine tG 5 19 (.pointer (some ⟨yb, k, none⟩)) rfl hH ?_
 simp only [aP, sA, sZ, sC]
 refine tL 6 20 (.pointer (some ⟨M.b, 0, none⟩)) rfl hH ?_
 simp only [aP, sA, sZ, sC]
 refine tG 7 5 (.pointer (some ⟨M.b, 0, none⟩)) rfl hH ?_
 simp only [aP, sA, sZ, sC]
 refine wpAnyH_done (by kernel_rfl) ?_ _
 clear hH
 have hbq1 : Below W.heap.size W W.drew := dB _
 have d0 := bA hbq1 b0
 have d1 := bA hbq1 b1
 have d2 := bA hbq1 b2
 have eP := bA hbq1 cP
 have eD := bA hbq1 cD
 have HD1 : Hid (Below w.heap.size w W.drew) := (show Below _ _ _ from bstep HbW.out hbq1)
 clear hbq1 b0 b1 b2 cP cD HbW
 generalize W.drew = D1 at HD1 d0 d1 d2 eP eD ⊢
 have HbD1 := HD1
 clear HD1
 go_wp2
 refine wp_region_held_drew (S := (fun w' => w'.cell? ⟨w.heap.size, 0, none⟩ = some (.int .i64 (k : Int)) /\ w'.cell? ⟨yb, 3 + k, none⟩ = some (.pointer (some ⟨R.b, 0, none⟩)))) (by kernel_rfl) ⟨(dW0 d0), (dW0 eD)⟩ (fun hH => ?_)
 simp only [Act.put, lA, lC, lN, zA]
 refine tG 0 21 (.pointer (some ⟨yb, 0, none⟩)) rfl hH ?_
 simp only [aP, sA, sZ, sC]
 refine tG 1 22 (.pointer (some ⟨w.heap.size, 0, none⟩)) rfl hH ?_
 simp only [aP, sA, sZ, sC]
 refine tL 2 23 (.int .i64 (k : Int)) rfl hH ?_
 simp only [aP, sA, sZ, sC]
 refine tG 3 24 (.pointer (some ⟨yb, 0, none⟩)) rfl hH ?_
 simp only [aP, sA, sZ, sC]
 refine tG 4 25 (.pointer (some ⟨yb, 3, none⟩)) rfl hH ?_
 simp only [aP, sA, sZ, sC]
 refine tG 5 26 (.pointer (some ⟨yb, 3 + k, none⟩)) rfl hH ?_
 simp only [aP, sA, sZ, sC]
 refine tL 6 27 (.pointer (some ⟨R.b, 0, none⟩)) rfl hH ?_
 simp only [aP, sA, sZ, sC]
 refine tG 7 6 (.pointer (some ⟨R.b, 0, none⟩)) rfl hH ?_
 simp only [aP, sA, sZ, sC]
 refine wpAnyH_done (by kernel_rfl) ?_ _
 clear hH
 have hbq2 : Below D1.heap.size D1 D1.drew := dB _
 have o0 := bA hbq2 d0
 have o1 := bA hbq2 d1
 have o2 := bA hbq2 d2
 have fP := bA hbq2 eP
 have fD := bA hbq2 eD
 have HD2 : Hid (Below w.heap.size w D1.drew) := (show Below _ _ _ from bstep HbD1.out hbq2)
 clear hbq2 d0 d1 d2 eP eD HbD1
 generalize D1.drew = D2 at HD2 o0 o1 o2 fP fD ⊢
 have HbD2 := HD2
 clear HD2
 clear fP fD
 go_wp2
 refine wp_region_held_drew (S := (fun w' => w'.cell? ⟨w.heap.size, 2, none⟩ = some (.int .i64 pe))) (by kernel_rfl) (dW0 o2) (fun hH => ?_)
 simp only [Act.put, lA, lC, lN, zA]
 refine tG 0 54 (.pointer (some ⟨M.b, 0, none⟩)) rfl hH ?_
 simp only [aP, sA, sZ, sC]
 refine tG 1 55 (.pointer (some ⟨w.heap.size, 2, none⟩)) rfl hH ?_
 simp only [aP, sA, sZ, sC]
 refine tL 2 56 (.int .i64 pe) rfl hH ?_
 simp only [aP, sA, sZ, sC]
 refine tG 4 58 (.pointer (some ⟨R.b, 0, none⟩)) rfl hH ?_
 simp only [aP, sA, sZ, sC]
 refine tG 5 59 (.pointer (some ⟨w.heap.size, 2, none⟩)) rfl hH ?_
 simp only [aP, sA, sZ, sC]
 refine tL 6 60 (.int .i64 pe) rfl hH ?_
 simp only [aP, sA, sZ, sC]
 have hbD3 : Below D2.heap.size D2 D2.drew := dB _
 have q0 := bA hbD3 o2
 generalize D2.drew = D3 at *
 refine rY 3 rfl fun K hK => ?_
 go_simp
 refine ((HA.out D3 (bstep HbD2.out hbD3)).1).mono ?_
 rintro e w3 ⟨rfl, hb3⟩
 refine hK.out _ _ (bA hb3 q0) (fun hH => ?_)
 clear hK K
 refine rY 7 rfl fun K hK => ?_
 go_simp
 refine ((HA.out w3 (bstep HbD2.out (bstep hbD3 hb3))).2).mono ?_
 rintro e w4 ⟨rfl, hb4⟩
 refine hK.out _ _ (bA hb4 (bA hb3 q0)) (fun hH => ?_)
 clear hK K
 refine tG 8 62 (.bool true) rfl hH ?_
 simp only [aP, sA, sZ, sC]
 refine tG 9 4 (.bool true) rfl hH ?_
 simp only [aP, sA, sZ, sC]
 refine wpAnyH_done (by kernel_rfl) ?_ _
 clear hH
 have HO : Hid (YsO w w4 B T Y) := (show YsO _ _ _ _ _ from ys_still H.out Ht.out HT.out (bstep HbD2.out (bstep (bstep hbD3 hb3) hb4)))
 clear o0 o1 o2 hbD3 hb3 hb4 q0
 go_wp2
 go_ret
 exact ⟨rfl, HO.out⟩
theorem ask10 {k bn bc pn pc : Nat} {pe nn mm ww : Int} {t : Tg} {ba pa : Option Addr} {M : Mx} {R : Rx} (h : PlOk Y w B T) (ht : Y.tn ≤ (Y.os.length : Int)) (hT : T + 1 ≤ 450) (hk : k < 3) (hM : Y.M k = some (M, R)) : Calls Try.prog 16 #[.pointer (some ⟨Y.b, 0, none⟩), .agg #[.int .i64 (k : Int), .int .i64 10, .int .i64 pe, .int .i64 nn, .int .i64 mm, .int .i64 ww, .int .i64 t.e, .int .i64 t.l, .int .i64 t.i, .int .i64 t.c, .slice ba bn bc, .slice pa pn pc]] w fun e w' => e = .returned (.bool true) /\ YsO w w' B T Y := by
 have H : Hid (PlOk Y w B T) := h
 have Ht : Hid (Y.tn ≤ (Y.os.length : Int)) := ht
 have HT : Hid (T + 1 ≤ 450) := hT
 have Hk : Hid (k < 3) := hk
 have HM : Hid (Y.M k = some (M, R)) := hM
 obtain ⟨yb, hyb⟩ : ∃ b, Y.b = b := ⟨_, rfl⟩
 have Hyb : Hid (Y.b = yb) := hyb
 have i1 : (0 : Int) ≤ (k : Int) := Int.natCast_nonneg _
 have i2 : (k : Int) < 3 := by omega
 obtain ⟨v, hv⟩ := ask_got (h.duo k M R hk hM) pe
 have HA : Hid (∀ D, Below w.heap.size w D -> (Calls Try.prog 50 #[.pointer (some ⟨M.b, 0, none⟩), .int .i64 pe] D fun e w' => e = .returned (.int .i64 v) /\ Below D.heap.size D w') /\ (Calls Try.prog 51 #[.pointer (some ⟨R.b, 0, none⟩), .int .i64 pe] D fun e w' => e = .returned (.int .i64 v) /\ Below D.heap.size D w')) := hv
 clear hv
 generalize hW : w.alloc (.cells #[.int .i64 (k : Int), .int .i64 10, .int .i64 pe, .int .i64 nn, .int .i64 mm, .int .i64 ww, .int .i64 t.e, .int .i64 t.l, .int .i64 t.i, .int .i64 t.c, .slice ba bn bc, .slice pa pn pc] 43) = W
 have hbW := bW0 hW
 have HbW : Hid (Below w.heap.size w W) := hbW
 have hblk := hQ0 hW
 have b0 : W.cell? ⟨w.heap.size, 0, none⟩ = some (.int .i64 (k : Int)) := bC hblk 0
 have b1 : W.cell? ⟨w.heap.size, 1, none⟩ = some (.int .i64 10) := bC hblk 1
 have b2 : W.cell? ⟨w.heap.size, 2, none⟩ = some (.int .i64 pe) := bC hblk 2
 have cM := (h.still hbW).cM hk
 rw [hM, hyb] at cM
 have cP : W.cell? ⟨yb, k, none⟩ = some (.pointer (some ⟨M.b, 0, none⟩)) := cM.1
 have cD : W.cell? ⟨yb, 3 + k, none⟩ = some (.pointer (some ⟨R.b, 0, none⟩)) := cM.2
 rw [hyb]
 clear h ht hT hk hM hyb hbW hblk cM
 go_enter Try.func16, Try.ntmps16
 go_wp2
 refine wp_region_held_drew (S := (fun w' => w'.cell? ⟨w.heap.size, 0, none⟩ = some (.int .i64 (k : Int)) /\ w'.cell? ⟨yb, k, none⟩ = some (.pointer (some ⟨M.b, 0, none⟩)))) (by kernel_rfl) ⟨(dW0 b0), (dW0 cP)⟩ (fun hH => ?_)
 simp only [Act.put, lA, lC, lN, zA]
 refine tG 0 14 (.pointer (some ⟨yb, 0, none⟩)) rfl hH ?_
 simp only [aP, sA, sZ, sC]
 refine tG 1 15 (.pointer (some ⟨w.heap.size, 0, none⟩)) rfl hH ?_
 simp only [aP, sA, sZ, sC]
 refine tL 2 16 (.int .i64 (k : Int)) rfl hH ?_
 simp only [aP, sA, sZ, sC]
 refine tG 3 17 (.pointer (some ⟨yb, 0, none⟩)) rfl hH ?_
 simp only [aP, sA, sZ, sC]
 refine tG 4 18 (.pointer (some ⟨yb, 0, none⟩)) rfl hH ?_
 simp only [aP, sA, sZ, sC]
 refine tG 5 19 (.pointer (some ⟨yb, k, none⟩)) rfl hH ?_
 simp only [aP, sA, sZ, sC]
 refine tL 6 20 (.pointer (some ⟨M.b, 0, none⟩)) rfl hH ?_
 simp only [aP, sA, sZ, sC]
 refine tG 7 5 (.pointer (some ⟨M.b, 0, none⟩)) rfl hH ?_
 simp only [aP, sA, sZ, sC]
 refine wpAnyH_done (by kernel_rfl) ?_ _
 clear hH
 have hbq1 : Below W.heap.size W W.drew := dB _
 have d0 := bA hbq1 b0
 have d1 := bA hbq1 b1
 have d2 := bA hbq1 b2
 have eP := bA hbq1 cP
 have eD := bA hbq1 cD
 have HD1 : Hid (Below w.heap.size w W.drew) := (show Below _ _ _ from bstep HbW.out hbq1)
 clear hbq1 b0 b1 b2 cP cD HbW
 generalize W.drew = D1 at HD1 d0 d1 d2 eP eD ⊢
 have HbD1 := HD1
 clear HD1
 go_wp2
 refine wp_region_held_drew (S := (fun w' => w'.cell? ⟨w.heap.size, 0, none⟩ = some (.int .i64 (k : Int)) /\ w'.cell? ⟨yb, 3 + k, none⟩ = some (.pointer (some ⟨R.b, 0, none⟩)))) (by kernel_rfl) ⟨(dW0 d0), (dW0 eD)⟩ (fun hH => ?_)
 simp only [Act.put, lA, lC, lN, zA]
 refine tG 0 21 (.pointer (some ⟨yb, 0, none⟩)) rfl hH ?_
 simp only [aP, sA, sZ, sC]
 refine tG 1 22 (.pointer (some ⟨w.heap.size, 0, none⟩)) rfl hH ?_
 simp only [aP, sA, sZ, sC]
 refine tL 2 23 (.int .i64 (k : Int)) rfl hH ?_
 simp only [aP, sA, sZ, sC]
 refine tG 3 24 (.pointer (some ⟨yb, 0, none⟩)) rfl hH ?_
 simp only [aP, sA, sZ, sC]
 refine tG 4 25 (.pointer (some ⟨yb, 3, none⟩)) rfl hH ?_
 simp only [aP, sA, sZ, sC]
 refine tG 5 26 (.pointer (some ⟨yb, 3 + k, none⟩)) rfl hH ?_
 simp only [aP, sA, sZ, sC]
 refine tL 6 27 (.pointer (some ⟨R.b, 0, none⟩)) rfl hH ?_
 simp only [aP, sA, sZ, sC]
 refine tG 7 6 (.pointer (some ⟨R.b, 0, none⟩)) rfl hH ?_
 simp only [aP, sA, sZ, sC]
 refine wpAnyH_done (by kernel_rfl) ?_ _
 clear hH
 have hbq2 : Below D1.heap.size D1 D1.drew := dB _
 have o0 := bA hbq2 d0
 have o1 := bA hbq2 d1
 have o2 := bA hbq2 d2
 have fP := bA hbq2 eP
 have fD := bA hbq2 eD
 have HD2 : Hid (Below w.heap.size w D1.drew) := (show Below _ _ _ from bstep HbD1.out hbq2)
 clear hbq2 d0 d1 d2 eP eD HbD1
 generalize D1.drew = D2 at HD2 o0 o1 o2 fP fD ⊢
 have HbD2 := HD2
 clear HD2
 clear fP fD
 go_wp2
 refine wp_region_held_drew (S := (fun w' => w'.cell? ⟨w.heap.size, 2, none⟩ = some (.int .i64 pe))) (by kernel_rfl) (dW0 o2) (fun hH => ?_)
 simp only [Act.put, lA, lC, lN, zA]
 refine tG 0 94 (.pointer (some ⟨M.b, 0, none⟩)) rfl hH ?_
 simp only [aP, sA, sZ, sC]
 refine tG 1 95 (.pointer (some ⟨w.heap.size, 2, none⟩)) rfl hH ?_
 simp only [aP, sA, sZ, sC]
 refine tL 2 96 (.int .i64 pe) rfl hH ?_
 simp only [aP, sA, sZ, sC]
 refine tG 4 98 (.pointer (some ⟨R.b, 0, none⟩)) rfl hH ?_
 simp only [aP, sA, sZ, sC]
 refine tG 5 99 (.pointer (some ⟨w.heap.size, 2, none⟩)) rfl hH ?_
 simp only [aP, sA, sZ, sC]
 refine tL 6 100 (.int .i64 pe) rfl hH ?_
 simp only [aP, sA, sZ, sC]
 have hbD3 : Below D2.heap.size D2 D2.drew := dB _
 have q0 := bA hbD3 o2
 generalize D2.drew = D3 at *
 refine rY 3 rfl fun K hK => ?_
 go_simp
 refine ((HA.out D3 (bstep HbD2.out hbD3)).1).mono ?_
 rintro e w3 ⟨rfl, hb3⟩
 refine hK.out _ _ (bA hb3 q0) (fun hH => ?_)
 clear hK K
 refine rY 7 rfl fun K hK => ?_
 go_simp
 refine ((HA.out w3 (bstep HbD2.out (bstep hbD3 hb3))).2).mono ?_
 rintro e w4 ⟨rfl, hb4⟩
 refine hK.out _ _ (bA hb4 (bA hb3 q0)) (fun hH => ?_)
 clear hK K
 refine tG 8 102 (.bool true) rfl hH ?_
 simp only [aP, sA, sZ, sC]
 refine tG 9 4 (.bool true) rfl hH ?_
 simp only [aP, sA, sZ, sC]
 refine wpAnyH_done (by kernel_rfl) ?_ _
 clear hH
 have HO : Hid (YsO w w4 B T Y) := (show YsO _ _ _ _ _ from ys_still H.out Ht.out HT.out (bstep HbD2.out (bstep (bstep hbD3 hb3) hb4)))
 clear o0 o1 o2 hbD3 hb3 hb4 q0
 go_wp2
 go_ret
 exact ⟨rfl, HO.out⟩
theorem ask12 {k bn bc pn pc : Nat} {pe nn mm ww : Int} {t : Tg} {ba pa : Option Addr} {M : Mx} {R : Rx} (h : PlOk Y w B T) (ht : Y.tn ≤ (Y.os.length : Int)) (hT : T + 1 ≤ 450) (hk : k < 3) (hM : Y.M k = some (M, R)) : Calls Try.prog 16 #[.pointer (some ⟨Y.b, 0, none⟩), .agg #[.int .i64 (k : Int), .int .i64 12, .int .i64 pe, .int .i64 nn, .int .i64 mm, .int .i64 ww, .int .i64 t.e, .int .i64 t.l, .int .i64 t.i, .int .i64 t.c, .slice ba bn bc, .slice pa pn pc]] w fun e w' => e = .returned (.bool true) /\ YsO w w' B T Y := by
 have H : Hid (PlOk Y w B T) := h
 have Ht : Hid (Y.tn ≤ (Y.os.length : Int)) := ht
 have HT : Hid (T + 1 ≤ 450) := hT
 have Hk : Hid (k < 3) := hk
 have HM : Hid (Y.M k = some (M, R)) := hM
 obtain ⟨yb, hyb⟩ : ∃ b, Y.b = b := ⟨_, rfl⟩
 have Hyb : Hid (Y.b = yb) := hyb
 have i1 : (0 : Int) ≤ (k : Int) := Int.natCast_nonneg _
 have i2 : (k : Int) < 3 := by omega
 have htg : M.tag = R.tag := (h.duo k M R hk hM).s.tag
 obtain ⟨u, hu⟩ : ∃ u, M.tag = u := ⟨_, rfl⟩
 have HA : Hid (∀ D, Below w.heap.size w D -> (Calls Try.prog 54 #[.pointer (some ⟨M.b, 0, none⟩)] D fun e w' => e = .returned (.agg #[.int .i64 u.e, .int .i64 u.l, .int .i64 u.i, .int .i64 u.c]) /\ Below D.heap.size D w') /\ (Calls Try.prog 55 #[.pointer (some ⟨R.b, 0, none⟩)] D fun e w' => e = .returned (.agg #[.int .i64 u.e, .int .i64 u.l, .int .i64 u.i, .int .i64 u.c]) /\ Below D.heap.size D w')) := fun D hb => (show _ /\ _ from by
  have hd := (h.duo k M R hk hM).still hb
  have h1 := mtag_any hd.m
  have h2 := rtag_any hd.r
  rw [<- htg, hu] at h2
  rw [hu] at h1
  exact ⟨h1, h2⟩)
 clear htg hu
 generalize hW : w.alloc (.cells #[.int .i64 (k : Int), .int .i64 12, .int .i64 pe, .int .i64 nn, .int .i64 mm, .int .i64 ww, .int .i64 t.e, .int .i64 t.l, .int .i64 t.i, .int .i64 t.c, .slice ba bn bc, .slice pa pn pc] 43) = W
 have hbW := bW0 hW
 have HbW : Hid (Below w.heap.size w W) := hbW
 have hblk := hQ0 hW
 have b0 : W.cell? ⟨w.heap.size, 0, none⟩ = some (.int .i64 (k : Int)) := bC hblk 0
 have b1 : W.cell? ⟨w.heap.size, 1, none⟩ = some (.int .i64 12) := bC hblk 1
 have b2 : W.cell? ⟨w.heap.size, 2, none⟩ = some (.int .i64 pe) := bC hblk 2
 have cM := (h.still hbW).cM hk
 rw [hM, hyb] at cM
 have cP : W.cell? ⟨yb, k, none⟩ = some (.pointer (some ⟨M.b, 0, none⟩)) := cM.1
 have cD : W.cell? ⟨yb, 3 + k, none⟩ = some (.pointer (some ⟨R.b, 0, none⟩)) := cM.2
 rw [hyb]
 clear h ht hT hk hM hyb hbW hblk cM
 go_enter Try.func16, Try.ntmps16
 go_wp2
 refine wp_region_held_drew (S := (fun w' => w'.cell? ⟨w.heap.size, 0, none⟩ = some (.int .i64 (k : Int)) /\ w'.cell? ⟨yb, k, none⟩ = some (.pointer (some ⟨M.b, 0, none⟩)))) (by kernel_rfl) ⟨(dW0 b0), (dW0 cP)⟩ (fun hH => ?_)
 simp only [Act.put, lA, lC, lN, zA]
 refine tG 0 14 (.pointer (some ⟨yb, 0, none⟩)) rfl hH ?_
 simp only [aP, sA, sZ, sC]
 refine tG 1 15 (.pointer (some ⟨w.heap.size, 0, none⟩)) rfl hH ?_
 simp only [aP, sA, sZ, sC]
 refine tL 2 16 (.int .i64 (k : Int)) rfl hH ?_
 simp only [aP, sA, sZ, sC]
 refine tG 3 17 (.pointer (some ⟨yb, 0, none⟩)) rfl hH ?_
 simp only [aP, sA, sZ, sC]
 refine tG 4 18 (.pointer (some ⟨yb, 0, none⟩)) rfl hH ?_
 simp only [aP, sA, sZ, sC]
 refine tG 5 19 (.pointer (some ⟨yb, k, none⟩)) rfl hH ?_
 simp only [aP, sA, sZ, sC]
 refine tL 6 20 (.pointer (some ⟨M.b, 0, none⟩)) rfl hH ?_
 simp only [aP, sA, sZ, sC]
 refine tG 7 5 (.pointer (some ⟨M.b, 0, none⟩)) rfl hH ?_
 simp only [aP, sA, sZ, sC]
 refine wpAnyH_done (by kernel_rfl) ?_ _
 clear hH
 have hbq1 : Below W.heap.size W W.drew := dB _
 have d0 := bA hbq1 b0
 have d1 := bA hbq1 b1
 have d2 := bA hbq1 b2
 have eP := bA hbq1 cP
 have eD := bA hbq1 cD
 have HD1 : Hid (Below w.heap.size w W.drew) := (show Below _ _ _ from bstep HbW.out hbq1)
 clear hbq1 b0 b1 b2 cP cD HbW
 generalize W.drew = D1 at HD1 d0 d1 d2 eP eD ⊢
 have HbD1 := HD1
 clear HD1
 go_wp2
 refine wp_region_held_drew (S := (fun w' => w'.cell? ⟨w.heap.size, 0, none⟩ = some (.int .i64 (k : Int)) /\ w'.cell? ⟨yb, 3 + k, none⟩ = some (.pointer (some ⟨R.b, 0, none⟩)))) (by kernel_rfl) ⟨(dW0 d0), (dW0 eD)⟩ (fun hH => ?_)
 simp only [Act.put, lA, lC, lN, zA]
 refine tG 0 21 (.pointer (some ⟨yb, 0, none⟩)) rfl hH ?_
 simp only [aP, sA, sZ, sC]
 refine tG 1 22 (.pointer (some ⟨w.heap.size, 0, none⟩)) rfl hH ?_
 simp only [aP, sA, sZ, sC]
 refine tL 2 23 (.int .i64 (k : Int)) rfl hH ?_
 simp only [aP, sA, sZ, sC]
 refine tG 3 24 (.pointer (some ⟨yb, 0, none⟩)) rfl hH ?_
 simp only [aP, sA, sZ, sC]
 refine tG 4 25 (.pointer (some ⟨yb, 3, none⟩)) rfl hH ?_
 simp only [aP, sA, sZ, sC]
 refine tG 5 26 (.pointer (some ⟨yb, 3 + k, none⟩)) rfl hH ?_
 simp only [aP, sA, sZ, sC]
 refine tL 6 27 (.pointer (some ⟨R.b, 0, none⟩)) rfl hH ?_
 simp only [aP, sA, sZ, sC]
 refine tG 7 6 (.pointer (some ⟨R.b, 0, none⟩)) rfl hH ?_
 simp only [aP, sA, sZ, sC]
 refine wpAnyH_done (by kernel_rfl) ?_ _
 clear hH
 have hbq2 : Below D1.heap.size D1 D1.drew := dB _
 have o0 := bA hbq2 d0
 have o1 := bA hbq2 d1
 have o2 := bA hbq2 d2
 have fP := bA hbq2 eP
 have fD := bA hbq2 eD
 have HD2 : Hid (Below w.heap.size w D1.drew) := (show Below _ _ _ from bstep HbD1.out hbq2)
 clear hbq2 d0 d1 d2 eP eD HbD1
 generalize D1.drew = D2 at HD2 o0 o1 o2 fP fD ⊢
 have HbD2 := HD2
 clear HD2
 clear fP fD
 go_wp2_with (first
  | (go_at_call 54; refine (HA.out _ HbD2.out).1.mono ?_; rintro e w3 ⟨rfl, hb3⟩; have HB3 : Hid (Below w.heap.size w w3) := (show Below _ _ _ from bstep HbD2.out hb3); clear hb3)
  | (go_at_call 55; refine (HA.out _ HB3.out).2.mono ?_; rintro e w4 ⟨rfl, hb4⟩; have HB4 : Hid (Below w.heap.size w w4) := (show Below _ _ _ from bstep HB3.out hb4); clear hb4)
  | fail)
 go_ret
 exact ⟨rfl, ys_still H.out Ht.out HT.out HB4.out⟩
theorem ask0 {k bn bc pn pc : Nat} {kd pe nn mm ww : Int} {t : Tg} {ba pa : Option Addr} {M : Mx} {R : Rx} (h : PlOk Y w B T) (ht : Y.tn ≤ (Y.os.length : Int)) (hT : T + 1 ≤ 450) (hk : k < 3) (hM : Y.M k = some (M, R)) (k4 : (kd == 4) = false) (k5 : (kd == 5) = false) (k6 : (kd == 6) = false) (k7 : (kd == 7) = false) (k10 : (kd == 10) = false) (k11 : (kd == 11) = false) (k12 : (kd == 12) = false) : Calls Try.prog 16 #[.pointer (some ⟨Y.b, 0, none⟩), .agg #[.int .i64 (k : Int), .int .i64 kd, .int .i64 pe, .int .i64 nn, .int .i64 mm, .int .i64 ww, .int .i64 t.e, .int .i64 t.l, .int .i64 t.i, .int .i64 t.c, .slice ba bn bc, .slice pa pn pc]] w fun e w' => e = .returned (.bool true) /\ YsO w w' B T Y := by
 have H : Hid (PlOk Y w B T) := h
 have Ht : Hid (Y.tn ≤ (Y.os.length : Int)) := ht
 have HT : Hid (T + 1 ≤ 450) := hT
 have Hk : Hid (k < 3) := hk
 have HM : Hid (Y.M k = some (M, R)) := hM
 obtain ⟨yb, hyb⟩ : ∃ b, Y.b = b := ⟨_, rfl⟩
 have Hyb : Hid (Y.b = yb) := hyb
 have i1 : (0 : Int) ≤ (k : Int) := Int.natCast_nonneg _
 have i2 : (k : Int) < 3 := by omega
 generalize hW : w.alloc (.cells #[.int .i64 (k : Int), .int .i64 kd, .int .i64 pe, .int .i64 nn, .int .i64 mm, .int .i64 ww, .int .i64 t.e, .int .i64 t.l, .int .i64 t.i, .int .i64 t.c, .slice ba bn bc, .slice pa pn pc] 43) = W
 have hbW := bW0 hW
 have HbW : Hid (Below w.heap.size w W) := hbW
 have hblk := hQ0 hW
 have b0 : W.cell? ⟨w.heap.size, 0, none⟩ = some (.int .i64 (k : Int)) := bC hblk 0
 have b1 : W.cell? ⟨w.heap.size, 1, none⟩ = some (.int .i64 kd) := bC hblk 1
 have b2 : W.cell? ⟨w.heap.size, 2, none⟩ = some (.int .i64 pe) := bC hblk 2
 have cM := (h.still hbW).cM hk
 rw [hM, hyb] at cM
 have cP : W.cell? ⟨yb, k, none⟩ = some (.pointer (some ⟨M.b, 0, none⟩)) := cM.1
 have cD : W.cell? ⟨yb, 3 + k, none⟩ = some (.pointer (some ⟨R.b, 0, none⟩)) := cM.2
 rw [hyb]
 clear h ht hT hk hM hyb hbW hblk cM
 go_enter Try.func16, Try.ntmps16
 go_wp2
 refine wp_region_held_drew (S := (fun w' => w'.cell? ⟨w.heap.size, 0, none⟩ = some (.int .i64 (k : Int)) /\ w'.cell? ⟨yb, k, none⟩ = some (.pointer (some ⟨M.b, 0, none⟩)))) (by kernel_rfl) ⟨(dW0 b0), (dW0 cP)⟩ (fun hH => ?_)
 simp only [Act.put, lA, lC, lN, zA]
 refine tG 0 14 (.pointer (some ⟨yb, 0, none⟩)) rfl hH ?_
 simp only [aP, sA, sZ, sC]
 refine tG 1 15 (.pointer (some ⟨w.heap.size, 0, none⟩)) rfl hH ?_
 simp only [aP, sA, sZ, sC]
 refine tL 2 16 (.int .i64 (k : Int)) rfl hH ?_
 simp only [aP, sA, sZ, sC]
 refine tG 3 17 (.pointer (some ⟨yb, 0, none⟩)) rfl hH ?_
 simp only [aP, sA, sZ, sC]
 refine tG 4 18 (.pointer (some ⟨yb, 0, none⟩)) rfl hH ?_
 simp only [aP, sA, sZ, sC]
 refine tG 5 19 (.pointer (some ⟨yb, k, none⟩)) rfl hH ?_
 simp only [aP, sA, sZ, sC]
 refine tL 6 20 (.pointer (some ⟨M.b, 0, none⟩)) rfl hH ?_
 simp only [aP, sA, sZ, sC]
 refine tG 7 5 (.pointer (some ⟨M.b, 0, none⟩)) rfl hH ?_
 simp only [aP, sA, sZ, sC]
 refine wpAnyH_done (by kernel_rfl) ?_ _
 clear hH
 have hbq1 : Below W.heap.size W W.drew := dB _
 have d0 := bA hbq1 b0
 have d1 := bA hbq1 b1
 have d2 := bA hbq1 b2
 have eP := bA hbq1 cP
 have eD := bA hbq1 cD
 have HD1 : Hid (Below w.heap.size w W.drew) := (show Below _ _ _ from bstep HbW.out hbq1)
 clear hbq1 b0 b1 b2 cP cD HbW
 generalize W.drew = D1 at HD1 d0 d1 d2 eP eD ⊢
 have HbD1 := HD1
 clear HD1
 go_wp2
 refine wp_region_held_drew (S := (fun w' => w'.cell? ⟨w.heap.size, 0, none⟩ = some (.int .i64 (k : Int)) /\ w'.cell? ⟨yb, 3 + k, none⟩ = some (.pointer (some ⟨R.b, 0, none⟩)))) (by kernel_rfl) ⟨(dW0 d0), (dW0 eD)⟩ (fun hH => ?_)
 simp only [Act.put, lA, lC, lN, zA]
 refine tG 0 21 (.pointer (some ⟨yb, 0, none⟩)) rfl hH ?_
 simp only [aP, sA, sZ, sC]
 refine tG 1 22 (.pointer (some ⟨w.heap.size, 0, none⟩)) rfl hH ?_
 simp only [aP, sA, sZ, sC]
 refine tL 2 23 (.int .i64 (k : Int)) rfl hH ?_
 simp only [aP, sA, sZ, sC]
 refine tG 3 24 (.pointer (some ⟨yb, 0, none⟩)) rfl hH ?_
 simp only [aP, sA, sZ, sC]
 refine tG 4 25 (.pointer (some ⟨yb, 3, none⟩)) rfl hH ?_
 simp only [aP, sA, sZ, sC]
 refine tG 5 26 (.pointer (some ⟨yb, 3 + k, none⟩)) rfl hH ?_
 simp only [aP, sA, sZ, sC]
 refine tL 6 27 (.pointer (some ⟨R.b, 0, none⟩)) rfl hH ?_
 simp only [aP, sA, sZ, sC]
 refine tG 7 6 (.pointer (some ⟨R.b, 0, none⟩)) rfl hH ?_
 simp only [aP, sA, sZ, sC]
 refine wpAnyH_done (by kernel_rfl) ?_ _
 clear hH
 have hbq2 : Below D1.heap.size D1 D1.drew := dB _
 have o0 := bA hbq2 d0
 have o1 := bA hbq2 d1
 have o2 := bA hbq2 d2
 have fP := bA hbq2 eP
 have fD := bA hbq2 eD
 have HD2 : Hid (Below w.heap.size w D1.drew) := (show Below _ _ _ from bstep HbD1.out hbq2)
 clear hbq2 d0 d1 d2 eP eD HbD1
 generalize D1.drew = D2 at HD2 o0 o1 o2 fP fD ⊢
 have HbD2 := HD2
 clear HD2
 clear fP fD
 go_wp2
 go_ret
 exact ⟨rfl, ys_still H.out Ht.out HT.out HbD2.out⟩
end
end Go.Proofs.Ythanifbimndhaaa.Ln
