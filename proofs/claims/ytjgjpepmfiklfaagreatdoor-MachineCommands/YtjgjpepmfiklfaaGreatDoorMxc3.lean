import Derived.Test.YtjgjpepmfiklfaaGreatDoorMxc
import Derived.Deep.DeepCutAuto
namespace Go.Proofs.YtjgjpepmfiklfaaGreatDoor.Mx
open Go.RowKit Mb Mh
set_option linter.unusedVariables false
set_option maxRecDepth 100000
set_option linter.unusedSimpArgs false
section
variable {w w' W : World} {B : Nat}
set_option maxHeartbeats 8000000 in
theorem chk7 (hg : Gl w) {cl inc req : Int} (ky v old : ByteArray) (hc : cliB cl = true) (hi : decide (1 ≤ inc ∧ inc ≤ 4611686018427387904) = true) (hr : decide (1 ≤ req ∧ req ≤ 4611686018427387904) = true) : Calls Tryz.prog 8 #[.agg #[.int .i64 cl, .int .i64 inc, .int .i64 req, .int .i64 7, .string ky, .string v, .string old]] w fun e w' => e = .returned (.int .i64 (if (keyB ky && empB v && empB old) = true then 0 else 130)) ∧ Below w.heap.size w w' := by
  obtain ⟨R, hR⟩ : ∃ R : Int, (if (keyB ky && empB v && empB old) = true then 0 else 130) = R := ⟨_, rfl⟩
  rw [hR]
  have HR : Hid ((if (keyB ky && empB v && empB old) = true then 0 else 130) = R) := hR
  clear hR
  obtain ⟨W, hW⟩ : ∃ X, w.alloc (.cells #[.int .i64 cl, .int .i64 inc, .int .i64 req, .int .i64 7, .string ky, .string v, .string old] 23) = X := ⟨_, rfl⟩
  have HbW : Hid (Below w.heap.size w W) := by rw [← hW]; exact balloc (Below.refl _ _)
  have HcW : Hid (W.heap[w.heap.size]? = some (.cells #[.int .i64 cl, .int .i64 inc, .int .i64 req, .int .i64 7, .string ky, .string v, .string old] 23 (0, 0))) := by rw [← hW]; exact heap_alloc_new w _
  have HG : Hid (∀ X, Below W.heap.size W X → Gl X) := fun X hX => hg.still (bstep HbW.out hX)
  have y0 := blk_cell HcW.out 0
  have y1 := blk_cell HcW.out 1
  have y2 := blk_cell HcW.out 2
  have y3 := blk_cell HcW.out 3
  simp only [List.getElem?_toArray, List.getElem?_cons_succ, List.getElem?_cons_zero] at y0 y1 y2 y3
  have y3h : Hid (W.cell? ⟨w.heap.size, 3, none⟩ = some (.int .i64 7)) := y3
  have HC1 : Hid (∀ X : World, Calls Tryz.prog 27 #[.int .i64 cl] X fun e w' => e = .returned (.bool true) ∧ X = w') := fun X => by rw [← hc]; exact isClient_any cl
  have HC2 : Hid (∀ X : World, Calls Tryz.prog 28 #[.int .i64 inc, .int .i64 1, .int .i64 4611686018427387904] X fun e w' => e = .returned (.bool true) ∧ X = w') := fun X => by rw [← hi]; exact within_any inc 1 _
  have HC3 : Hid (∀ X : World, Calls Tryz.prog 28 #[.int .i64 req, .int .i64 1, .int .i64 4611686018427387904] X fun e w' => e = .returned (.bool true) ∧ X = w') := fun X => by rw [← hr]; exact within_any req 1 _
  have HC4 : Hid (∀ X : World, Calls Tryz.prog 28 #[.int .i64 7, .int .i64 1, .int .i64 9] X fun e w' => e = .returned (.bool true) ∧ X = w') := fun X => (within_any 7 1 9).mono fun e w' ⟨h1, h2⟩ => ⟨h1, h2⟩
  clear hc hi hr hg
  go_enter Tryz.func8, Tryz.ntmps8
  go_wp2_with (fail)
  refine (HC1.out _).mono ?_
  rintro e wx ⟨rfl, rfl⟩
  go_wp2_with (fail)
  refine (HC2.out _).mono ?_
  rintro e wx ⟨rfl, rfl⟩
  go_wp2_with (fail)
  refine (HC3.out _).mono ?_
  rintro e wx ⟨rfl, rfl⟩
  go_wp2_with (fail)
  refine (HC4.out _).mono ?_
  rintro e wx ⟨rfl, rfl⟩
  go_upto_region 4 with (fail)
  go_cut [4] (fun p wx => ∃ pk : Nat, p = .pointer (some ⟨pk, 0, none⟩) ∧ Hid (Below W.heap.size W wx) ∧ Hid (wx.heap[pk]? = some (.cells #[fv 46, fv 48, fv 48, fv 56] 61 (0, 0))))
  case first =>
    refine wp_region_held_drew (S := (fun w' => Below W.heap.size W w')) (by kernel_rfl) (Below.refl _ W).drew (fun hHeld => ?_)
    simp only [Act.put, List.size_toArray, List.length_cons, List.length_nil, Nat.zero_add]
    refine wpAnyH_take (i := 1) (v := .pointer (some ⟨w.heap.size, 3, none⟩)) rfl (by kernel_rfl) (by kernel_rfl) (by kernel_rfl) (fun _ _ _ h => h) (Or.inl ⟨by rfl, fun w' hS => by go_simp⟩) hHeld ?_
    simp only [Act.put, List.getElem_toArray, List.getElem_cons_zero, List.getElem_cons_succ, List.setIfInBounds_toArray, List.set_cons_zero, List.set_cons_succ]
    refine wpAnyH_take (i := 2) (v := .int .i64 7) rfl (by kernel_rfl) (by kernel_rfl) (by kernel_rfl) (fun _ _ _ h => h) (Or.inl ⟨by rfl, fun w' hS => by (have s0 := below_at hS y3h.out; go_simp)⟩) hHeld ?_
    simp only [Act.put, List.getElem_toArray, List.getElem_cons_zero, List.getElem_cons_succ, List.setIfInBounds_toArray, List.set_cons_zero, List.set_cons_succ]
    refine wpAnyH_ready (rs := [0, 4]) (by kernel_rfl) (by simp) ?_
    refine AllReadyH.cons rfl (fun K hK => ?_) (AllReadyH.cons rfl (fun K hK => ?_) AllReadyH.nil)
    · go_simp
      refine (operations_any).mono ?_
      rintro e X1 ⟨rfl, hb1⟩
      have HB1 : Hid (Below W.heap.size W X1) := bstep (Below.refl _ W).drew hb1
      clear hb1
      refine hK.out _ _ HB1.out (fun hHeld => ?_)
      clear hK K
      refine wpAnyH_take (i := 3) (v := .agg #[fv 46, fv 48, fv 48, fv 56]) rfl (by kernel_rfl) (by kernel_rfl) (by kernel_rfl) (fun _ _ _ h => h) (Or.inl ⟨by rfl, fun w' hS => by (have s0 := ix7 w'; go_simp)⟩) hHeld ?_
      simp only [Act.put, List.getElem_toArray, List.getElem_cons_zero, List.getElem_cons_succ, List.setIfInBounds_toArray, List.set_cons_zero, List.set_cons_succ]
      obtain ⟨A1, V, hA1, HTh, hV, HVr, HVb0⟩ := newvar X1 61 [.nilFunc, .nilFunc, .nilFunc, .nilFunc] [fv 46, fv 48, fv 48, fv 56] rfl
      have HA1 : Hid (Below W.heap.size W A1) := by rw [← hA1]; exact balloc HB1.out
      have HVb : Hid (Below W.heap.size W V) := bstep HB1.out HVb0.out
      refine wpAnyH_ready (rs := [4]) (by kernel_rfl) (by simp) ?_
      refine AllReadyH.cons rfl (fun K hK => ?_) AllReadyH.nil
      go_simp
      (try rw [hA1])
      refine hK.out _ _ HA1.out (fun hHeld => ?_)
      clear hK K
      refine wpAnyH_ready (rs := [5]) (by kernel_rfl) (by simp) ?_
      refine AllReadyH.cons rfl (fun K hK => ?_) AllReadyH.nil
      rw [if_pos (by rfl)]
      refine wp_store_mid 61 (.tmp 4) (.tmp 29) rfl X1.heap.size 0 #[fv 46, fv 48, fv 48, fv 56] rfl rfl HTh.out opn_info (all_oneCell_toArray (opn_one _ _ _ _)) ?_
      rw [hV]
      refine hK.out _ _ HVb.out (fun hHeld => ?_)
      clear hK K
      refine wpAnyH_done (by kernel_rfl) ?_ _
      clear hHeld
      go_wp2_with (fail)
      go_meet
      exact ⟨X1.heap.size, rfl, HVb.out, HVr.out⟩
    · obtain ⟨A1, hA1⟩ : ∃ X, W.drew.alloc (.cells #[.nilFunc, .nilFunc, .nilFunc, .nilFunc] 61) = X := ⟨_, rfl⟩
      have HA1 : Hid (Below W.heap.size W A1) := by rw [← hA1]; exact balloc (Below.refl _ W).drew
      have HAr : Hid (A1.heap[W.heap.size]? = some (.cells #[.nilFunc, .nilFunc, .nilFunc, .nilFunc] 61 (0, 0))) := by
        rw [← hA1]
        exact heap_alloc_new _ _
      go_simp
      (try rw [hA1])
      refine hK.out _ _ HA1.out (fun hHeld => ?_)
      clear hK K
      refine wpAnyH_ready (rs := [0]) (by kernel_rfl) (by simp) ?_
      refine AllReadyH.cons rfl (fun K hK => ?_) AllReadyH.nil
      go_simp
      refine (operations_any).mono ?_
      rintro e X1 ⟨rfl, hb1⟩
      have HB1 : Hid (Below W.heap.size W X1) := bstep HA1.out hb1
      have HXr : Hid (X1.heap[W.heap.size]? = some (.cells #[.nilFunc, .nilFunc, .nilFunc, .nilFunc] 61 (0, 0))) := (hb1.block _ (lt_heap HAr.out)).trans HAr.out
      clear hb1
      refine hK.out _ _ HB1.out (fun hHeld => ?_)
      clear hK K
      refine wpAnyH_take (i := 3) (v := .agg #[fv 46, fv 48, fv 48, fv 56]) rfl (by kernel_rfl) (by kernel_rfl) (by kernel_rfl) (fun _ _ _ h => h) (Or.inl ⟨by rfl, fun w' hS => by (have s0 := ix7 w'; go_simp)⟩) hHeld ?_
      simp only [Act.put, List.getElem_toArray, List.getElem_cons_zero, List.getElem_cons_succ, List.setIfInBounds_toArray, List.set_cons_zero, List.set_cons_succ]
      obtain ⟨V, hV⟩ : ∃ X, X1.setCells W.heap.size 0 [fv 46, fv 48, fv 48, fv 56] = X := ⟨_, rfl⟩
      have HVr : Hid (V.heap[W.heap.size]? = some (.cells #[fv 46, fv 48, fv 48, fv 56] 61 (0, 0))) := by rw [← hV]; exact sets_whole HXr.out rfl
      have HTh : Hid (X1.there W.heap.size 0 4) := blk_there HXr.out rfl
      have HVb : Hid (Below W.heap.size W V) := by rw [← hV]; exact bsets (Nat.le_refl _) _ _ HB1.out
      refine wpAnyH_ready (rs := [5]) (by kernel_rfl) (by simp) ?_
      refine AllReadyH.cons rfl (fun K hK => ?_) AllReadyH.nil
      rw [if_pos (by rfl)]
      refine wp_store_mid 61 (.tmp 4) (.tmp 29) rfl W.heap.size 0 #[fv 46, fv 48, fv 48, fv 56] rfl rfl HTh.out opn_info (all_oneCell_toArray (opn_one _ _ _ _)) ?_
      rw [hV]
      refine hK.out _ _ HVb.out (fun hHeld => ?_)
      clear hK K
      refine wpAnyH_done (by kernel_rfl) ?_ _
      clear hHeld
      go_wp2_with (fail)
      go_meet
      exact ⟨W.heap.size, rfl, HVb.out, HVr.out⟩
  case rest =>
  obtain ⟨pk, rfl, HVb, HVr⟩ := hcut
  have HcV : Hid (wc.heap[w.heap.size]? = some (.cells #[.int .i64 cl, .int .i64 inc, .int .i64 req, .int .i64 7, .string ky, .string v, .string old] 23 (0, 0))) := (HVb.out.block _ (lt_heap HcW.out)).trans HcW.out
  have HP1 : Hid (∀ X, Below W.heap.size W X → Calls Tryz.prog 46 #[.string ky] X fun e w' => e = .returned (.bool (keyB ky)) ∧ Below X.heap.size X w') := fun X hX => pFisKey (HG.out X hX) ky
  have HP2 : Hid (∀ X, Below W.heap.size W X → Calls Tryz.prog 48 #[.string v] X fun e w' => e = .returned (.bool (empB v)) ∧ Below X.heap.size X w') := fun X hX => pFisEmpty (HG.out X hX) v
  have HP3 : Hid (∀ X, Below W.heap.size W X → Calls Tryz.prog 48 #[.string old] X fun e w' => e = .returned (.bool (empB old)) ∧ Below X.heap.size X w') := fun X hX => pFisEmpty (HG.out X hX) old
  have HCl : Hid (∀ X, Below wc.heap.size wc X → X.heap[w.heap.size]? = some (.cells #[.int .i64 cl, .int .i64 inc, .int .i64 req, .int .i64 7, .string ky, .string v, .string old] 23 (0, 0)) ∧ X.heap[pk]? = some (.cells #[fv 46, fv 48, fv 48, fv 56] 61 (0, 0))) := fun X hX => ⟨(hX.block _ (lt_heap HcV.out)).trans HcV.out, (hX.block _ (lt_heap HVr.out)).trans HVr.out⟩
  have z4 := blk_cell HcV.out 4
  have x0 := blk_cell HVr.out 0
  simp only [List.getElem?_toArray, List.getElem?_cons_succ, List.getElem?_cons_zero] at z4 x0
  unfold fv at x0
  generalize keyB ky = b1 at *
  generalize empB v = b2 at *
  generalize empB old = b3 at *
  clear y0 y1 y2 y3 HC1 HC2 HC3 HC4 HG
  cases b1 with
  | false =>
    go_wp2_with (fail)
    refine (HP1.out _ HVb.out).mono ?_
    rintro e X1 ⟨rfl, hb⟩
    have HBX1 : Hid (Below W.heap.size W X1) := bstep (HVb.out) hb
    have HNX1 : Hid (Below wc.heap.size wc X1) := bstep (Below.refl _ wc) hb
    clear hb
    go_wp2_with (fail)
    go_ret
    exact ⟨by rw [← HR.out]; rfl, bstep HbW.out HBX1.out⟩
  | true =>
    go_wp2_with (fail)
    refine (HP1.out _ HVb.out).mono ?_
    rintro e X1 ⟨rfl, hb⟩
    have HBX1 : Hid (Below W.heap.size W X1) := bstep (HVb.out) hb
    have HNX1 : Hid (Below wc.heap.size wc X1) := bstep (Below.refl _ wc) hb
    clear hb
    have z5 := blk_cell (HCl.out _ HNX1.out).1 5
    have x1 := blk_cell (HCl.out _ HNX1.out).2 1
    simp only [List.getElem?_toArray, List.getElem?_cons_succ, List.getElem?_cons_zero] at z5 x1
    unfold fv at x1
    cases b2 with
    | false =>
      go_wp2_with (fail)
      refine (HP2.out _ HBX1.out).mono ?_
      rintro e X2 ⟨rfl, hb⟩
      have HBX2 : Hid (Below W.heap.size W X2) := bstep (HBX1.out) hb
      have HNX2 : Hid (Below wc.heap.size wc X2) := bstep (HNX1.out) hb
      clear hb
      go_wp2_with (fail)
      go_ret
      exact ⟨by rw [← HR.out]; rfl, bstep HbW.out HBX2.out⟩
    | true =>
      go_wp2_with (fail)
      refine (HP2.out _ HBX1.out).mono ?_
      rintro e X2 ⟨rfl, hb⟩
      have HBX2 : Hid (Below W.heap.size W X2) := bstep (HBX1.out) hb
      have HNX2 : Hid (Below wc.heap.size wc X2) := bstep (HNX1.out) hb
      clear hb
      have z6 := blk_cell (HCl.out _ HNX2.out).1 6
      have x2 := blk_cell (HCl.out _ HNX2.out).2 2
      simp only [List.getElem?_toArray, List.getElem?_cons_succ, List.getElem?_cons_zero] at z6 x2
      unfold fv at x2
      cases b3 with
      | false =>
        go_wp2_with (fail)
        refine (HP3.out _ HBX2.out).mono ?_
        rintro e X3 ⟨rfl, hb⟩
        have HBX3 : Hid (Below W.heap.size W X3) := bstep (HBX2.out) hb
        have HNX3 : Hid (Below wc.heap.size wc X3) := bstep (HNX2.out) hb
        clear hb
        go_wp2_with (fail)
        go_ret
        exact ⟨by rw [← HR.out]; rfl, bstep HbW.out HBX3.out⟩
      | true =>
        go_wp2_with (fail)
        refine (HP3.out _ HBX2.out).mono ?_
        rintro e X3 ⟨rfl, hb⟩
        have HBX3 : Hid (Below W.heap.size W X3) := bstep (HBX2.out) hb
        have HNX3 : Hid (Below wc.heap.size wc X3) := bstep (HNX2.out) hb
        clear hb
        go_wp2_with (fail)
        go_ret
        exact ⟨by rw [← HR.out]; rfl, bstep HbW.out HBX3.out⟩
set_option maxHeartbeats 8000000 in
theorem chk8 (hg : Gl w) {cl inc req : Int} (ky v old : ByteArray) (hc : cliB cl = true) (hi : decide (1 ≤ inc ∧ inc ≤ 4611686018427387904) = true) (hr : decide (1 ≤ req ∧ req ≤ 4611686018427387904) = true) : Calls Tryz.prog 8 #[.agg #[.int .i64 cl, .int .i64 inc, .int .i64 req, .int .i64 8, .string ky, .string v, .string old]] w fun e w' => e = .returned (.int .i64 (if (keyB ky && tkB v && empB old) = true then 0 else 130)) ∧ Below w.heap.size w w' := by
  obtain ⟨R, hR⟩ : ∃ R : Int, (if (keyB ky && tkB v && empB old) = true then 0 else 130) = R := ⟨_, rfl⟩
  rw [hR]
  have HR : Hid ((if (keyB ky && tkB v && empB old) = true then 0 else 130) = R) := hR
  clear hR
  obtain ⟨W, hW⟩ : ∃ X, w.alloc (.cells #[.int .i64 cl, .int .i64 inc, .int .i64 req, .int .i64 8, .string ky, .string v, .string old] 23) = X := ⟨_, rfl⟩
  have HbW : Hid (Below w.heap.size w W) := by rw [← hW]; exact balloc (Below.refl _ _)
  have HcW : Hid (W.heap[w.heap.size]? = some (.cells #[.int .i64 cl, .int .i64 inc, .int .i64 req, .int .i64 8, .string ky, .string v, .string old] 23 (0, 0))) := by rw [← hW]; exact heap_alloc_new w _
  have HG : Hid (∀ X, Below W.heap.size W X → Gl X) := fun X hX => hg.still (bstep HbW.out hX)
  have y0 := blk_cell HcW.out 0
  have y1 := blk_cell HcW.out 1
  have y2 := blk_cell HcW.out 2
  have y3 := blk_cell HcW.out 3
  simp only [List.getElem?_toArray, List.getElem?_cons_succ, List.getElem?_cons_zero] at y0 y1 y2 y3
  have y3h : Hid (W.cell? ⟨w.heap.size, 3, none⟩ = some (.int .i64 8)) := y3
  have HC1 : Hid (∀ X : World, Calls Tryz.prog 27 #[.int .i64 cl] X fun e w' => e = .returned (.bool true) ∧ X = w') := fun X => by rw [← hc]; exact isClient_any cl
  have HC2 : Hid (∀ X : World, Calls Tryz.prog 28 #[.int .i64 inc, .int .i64 1, .int .i64 4611686018427387904] X fun e w' => e = .returned (.bool true) ∧ X = w') := fun X => by rw [← hi]; exact within_any inc 1 _
  have HC3 : Hid (∀ X : World, Calls Tryz.prog 28 #[.int .i64 req, .int .i64 1, .int .i64 4611686018427387904] X fun e w' => e = .returned (.bool true) ∧ X = w') := fun X => by rw [← hr]; exact within_any req 1 _
  have HC4 : Hid (∀ X : World, Calls Tryz.prog 28 #[.int .i64 8, .int .i64 1, .int .i64 9] X fun e w' => e = .returned (.bool true) ∧ X = w') := fun X => (within_any 8 1 9).mono fun e w' ⟨h1, h2⟩ => ⟨h1, h2⟩
  clear hc hi hr hg
  go_enter Tryz.func8, Tryz.ntmps8
  go_wp2_with (fail)
  refine (HC1.out _).mono ?_
  rintro e wx ⟨rfl, rfl⟩
  go_wp2_with (fail)
  refine (HC2.out _).mono ?_
  rintro e wx ⟨rfl, rfl⟩
  go_wp2_with (fail)
  refine (HC3.out _).mono ?_
  rintro e wx ⟨rfl, rfl⟩
  go_wp2_with (fail)
  refine (HC4.out _).mono ?_
  rintro e wx ⟨rfl, rfl⟩
  go_upto_region 4 with (fail)
  go_cut [4] (fun p wx => ∃ pk : Nat, p = .pointer (some ⟨pk, 0, none⟩) ∧ Hid (Below W.heap.size W wx) ∧ Hid (wx.heap[pk]? = some (.cells #[fv 46, fv 57, fv 48, fv 58] 61 (0, 0))))
  case first =>
    refine wp_region_held_drew (S := (fun w' => Below W.heap.size W w')) (by kernel_rfl) (Below.refl _ W).drew (fun hHeld => ?_)
    simp only [Act.put, List.size_toArray, List.length_cons, List.length_nil, Nat.zero_add]
    refine wpAnyH_take (i := 1) (v := .pointer (some ⟨w.heap.size, 3, none⟩)) rfl (by kernel_rfl) (by kernel_rfl) (by kernel_rfl) (fun _ _ _ h => h) (Or.inl ⟨by rfl, fun w' hS => by go_simp⟩) hHeld ?_
    simp only [Act.put, List.getElem_toArray, List.getElem_cons_zero, List.getElem_cons_succ, List.setIfInBounds_toArray, List.set_cons_zero, List.set_cons_succ]
    refine wpAnyH_take (i := 2) (v := .int .i64 8) rfl (by kernel_rfl) (by kernel_rfl) (by kernel_rfl) (fun _ _ _ h => h) (Or.inl ⟨by rfl, fun w' hS => by (have s0 := below_at hS y3h.out; go_simp)⟩) hHeld ?_
    simp only [Act.put, List.getElem_toArray, List.getElem_cons_zero, List.getElem_cons_succ, List.setIfInBounds_toArray, List.set_cons_zero, List.set_cons_succ]
    refine wpAnyH_ready (rs := [0, 4]) (by kernel_rfl) (by simp) ?_
    refine AllReadyH.cons rfl (fun K hK => ?_) (AllReadyH.cons rfl (fun K hK => ?_) AllReadyH.nil)
    · go_simp
      refine (operations_any).mono ?_
      rintro e X1 ⟨rfl, hb1⟩
      have HB1 : Hid (Below W.heap.size W X1) := bstep (Below.refl _ W).drew hb1
      clear hb1
      refine hK.out _ _ HB1.out (fun hHeld => ?_)
      clear hK K
      refine wpAnyH_take (i := 3) (v := .agg #[fv 46, fv 57, fv 48, fv 58]) rfl (by kernel_rfl) (by kernel_rfl) (by kernel_rfl) (fun _ _ _ h => h) (Or.inl ⟨by rfl, fun w' hS => by (have s0 := ix8 w'; go_simp)⟩) hHeld ?_
      simp only [Act.put, List.getElem_toArray, List.getElem_cons_zero, List.getElem_cons_succ, List.setIfInBounds_toArray, List.set_cons_zero, List.set_cons_succ]
      obtain ⟨A1, V, hA1, HTh, hV, HVr, HVb0⟩ := newvar X1 61 [.nilFunc, .nilFunc, .nilFunc, .nilFunc] [fv 46, fv 57, fv 48, fv 58] rfl
      have HA1 : Hid (Below W.heap.size W A1) := by rw [← hA1]; exact balloc HB1.out
      have HVb : Hid (Below W.heap.size W V) := bstep HB1.out HVb0.out
      refine wpAnyH_ready (rs := [4]) (by kernel_rfl) (by simp) ?_
      refine AllReadyH.cons rfl (fun K hK => ?_) AllReadyH.nil
      go_simp
      (try rw [hA1])
      refine hK.out _ _ HA1.out (fun hHeld => ?_)
      clear hK K
      refine wpAnyH_ready (rs := [5]) (by kernel_rfl) (by simp) ?_
      refine AllReadyH.cons rfl (fun K hK => ?_) AllReadyH.nil
      rw [if_pos (by rfl)]
      refine wp_store_mid 61 (.tmp 4) (.tmp 29) rfl X1.heap.size 0 #[fv 46, fv 57, fv 48, fv 58] rfl rfl HTh.out opn_info (all_oneCell_toArray (opn_one _ _ _ _)) ?_
      rw [hV]
      refine hK.out _ _ HVb.out (fun hHeld => ?_)
      clear hK K
      refine wpAnyH_done (by kernel_rfl) ?_ _
      clear hHeld
      go_wp2_with (fail)
      go_meet
      exact ⟨X1.heap.size, rfl, HVb.out, HVr.out⟩
    · obtain ⟨A1, hA1⟩ : ∃ X, W.drew.alloc (.cells #[.nilFunc, .nilFunc, .nilFunc, .nilFunc] 61) = X := ⟨_, rfl⟩
      have HA1 : Hid (Below W.heap.size W A1) := by rw [← hA1]; exact balloc (Below.refl _ W).drew
      have HAr : Hid (A1.heap[W.heap.size]? = some (.cells #[.nilFunc, .nilFunc, .nilFunc, .nilFunc] 61 (0, 0))) := by
        rw [← hA1]
        exact heap_alloc_new _ _
      go_simp
      (try rw [hA1])
      refine hK.out _ _ HA1.out (fun hHeld => ?_)
      clear hK K
      refine wpAnyH_ready (rs := [0]) (by kernel_rfl) (by simp) ?_
      refine AllReadyH.cons rfl (fun K hK => ?_) AllReadyH.nil
      go_simp
      refine (operations_any).mono ?_
      rintro e X1 ⟨rfl, hb1⟩
      have HB1 : Hid (Below W.heap.size W X1) := bstep HA1.out hb1
      have HXr : Hid (X1.heap[W.heap.size]? = some (.cells #[.nilFunc, .nilFunc, .nilFunc, .nilFunc] 61 (0, 0))) := (hb1.block _ (lt_heap HAr.out)).trans HAr.out
      clear hb1
      refine hK.out _ _ HB1.out (fun hHeld => ?_)
      clear hK K
      refine wpAnyH_take (i := 3) (v := .agg #[fv 46, fv 57, fv 48, fv 58]) rfl (by kernel_rfl) (by kernel_rfl) (by kernel_rfl) (fun _ _ _ h => h) (Or.inl ⟨by rfl, fun w' hS => by (have s0 := ix8 w'; go_simp)⟩) hHeld ?_
      simp only [Act.put, List.getElem_toArray, List.getElem_cons_zero, List.getElem_cons_succ, List.setIfInBounds_toArray, List.set_cons_zero, List.set_cons_succ]
      obtain ⟨V, hV⟩ : ∃ X, X1.setCells W.heap.size 0 [fv 46, fv 57, fv 48, fv 58] = X := ⟨_, rfl⟩
      have HVr : Hid (V.heap[W.heap.size]? = some (.cells #[fv 46, fv 57, fv 48, fv 58] 61 (0, 0))) := by rw [← hV]; exact sets_whole HXr.out rfl
      have HTh : Hid (X1.there W.heap.size 0 4) := blk_there HXr.out rfl
      have HVb : Hid (Below W.heap.size W V) := by rw [← hV]; exact bsets (Nat.le_refl _) _ _ HB1.out
      refine wpAnyH_ready (rs := [5]) (by kernel_rfl) (by simp) ?_
      refine AllReadyH.cons rfl (fun K hK => ?_) AllReadyH.nil
      rw [if_pos (by rfl)]
      refine wp_store_mid 61 (.tmp 4) (.tmp 29) rfl W.heap.size 0 #[fv 46, fv 57, fv 48, fv 58] rfl rfl HTh.out opn_info (all_oneCell_toArray (opn_one _ _ _ _)) ?_
      rw [hV]
      refine hK.out _ _ HVb.out (fun hHeld => ?_)
      clear hK K
      refine wpAnyH_done (by kernel_rfl) ?_ _
      clear hHeld
      go_wp2_with (fail)
      go_meet
      exact ⟨W.heap.size, rfl, HVb.out, HVr.out⟩
  case rest =>
  obtain ⟨pk, rfl, HVb, HVr⟩ := hcut
  have HcV : Hid (wc.heap[w.heap.size]? = some (.cells #[.int .i64 cl, .int .i64 inc, .int .i64 req, .int .i64 8, .string ky, .string v, .string old] 23 (0, 0))) := (HVb.out.block _ (lt_heap HcW.out)).trans HcW.out
  have HP1 : Hid (∀ X, Below W.heap.size W X → Calls Tryz.prog 46 #[.string ky] X fun e w' => e = .returned (.bool (keyB ky)) ∧ Below X.heap.size X w') := fun X hX => pFisKey (HG.out X hX) ky
  have HP2 : Hid (∀ X, Below W.heap.size W X → Calls Tryz.prog 57 #[.string v] X fun e w' => e = .returned (.bool (tkB v)) ∧ Below X.heap.size X w') := fun X hX => pFisToken (HG.out X hX) v
  have HP3 : Hid (∀ X, Below W.heap.size W X → Calls Tryz.prog 48 #[.string old] X fun e w' => e = .returned (.bool (empB old)) ∧ Below X.heap.size X w') := fun X hX => pFisEmpty (HG.out X hX) old
  have HCl : Hid (∀ X, Below wc.heap.size wc X → X.heap[w.heap.size]? = some (.cells #[.int .i64 cl, .int .i64 inc, .int .i64 req, .int .i64 8, .string ky, .string v, .string old] 23 (0, 0)) ∧ X.heap[pk]? = some (.cells #[fv 46, fv 57, fv 48, fv 58] 61 (0, 0))) := fun X hX => ⟨(hX.block _ (lt_heap HcV.out)).trans HcV.out, (hX.block _ (lt_heap HVr.out)).trans HVr.out⟩
  have z4 := blk_cell HcV.out 4
  have x0 := blk_cell HVr.out 0
  simp only [List.getElem?_toArray, List.getElem?_cons_succ, List.getElem?_cons_zero] at z4 x0
  unfold fv at x0
  generalize keyB ky = b1 at *
  generalize tkB v = b2 at *
  generalize empB old = b3 at *
  clear y0 y1 y2 y3 HC1 HC2 HC3 HC4 HG
  cases b1 with
  | false =>
    go_wp2_with (fail)
    refine (HP1.out _ HVb.out).mono ?_
    rintro e X1 ⟨rfl, hb⟩
    have HBX1 : Hid (Below W.heap.size W X1) := bstep (HVb.out) hb
    have HNX1 : Hid (Below wc.heap.size wc X1) := bstep (Below.refl _ wc) hb
    clear hb
    go_wp2_with (fail)
    go_ret
    exact ⟨by rw [← HR.out]; rfl, bstep HbW.out HBX1.out⟩
  | true =>
    go_wp2_with (fail)
    refine (HP1.out _ HVb.out).mono ?_
    rintro e X1 ⟨rfl, hb⟩
    have HBX1 : Hid (Below W.heap.size W X1) := bstep (HVb.out) hb
    have HNX1 : Hid (Below wc.heap.size wc X1) := bstep (Below.refl _ wc) hb
    clear hb
    have z5 := blk_cell (HCl.out _ HNX1.out).1 5
    have x1 := blk_cell (HCl.out _ HNX1.out).2 1
    simp only [List.getElem?_toArray, List.getElem?_cons_succ, List.getElem?_cons_zero] at z5 x1
    unfold fv at x1
    cases b2 with
    | false =>
      go_wp2_with (fail)
      refine (HP2.out _ HBX1.out).mono ?_
      rintro e X2 ⟨rfl, hb⟩
      have HBX2 : Hid (Below W.heap.size W X2) := bstep (HBX1.out) hb
      have HNX2 : Hid (Below wc.heap.size wc X2) := bstep (HNX1.out) hb
      clear hb
      go_wp2_with (fail)
      go_ret
      exact ⟨by rw [← HR.out]; rfl, bstep HbW.out HBX2.out⟩
    | true =>
      go_wp2_with (fail)
      refine (HP2.out _ HBX1.out).mono ?_
      rintro e X2 ⟨rfl, hb⟩
      have HBX2 : Hid (Below W.heap.size W X2) := bstep (HBX1.out) hb
      have HNX2 : Hid (Below wc.heap.size wc X2) := bstep (HNX1.out) hb
      clear hb
      have z6 := blk_cell (HCl.out _ HNX2.out).1 6
      have x2 := blk_cell (HCl.out _ HNX2.out).2 2
      simp only [List.getElem?_toArray, List.getElem?_cons_succ, List.getElem?_cons_zero] at z6 x2
      unfold fv at x2
      cases b3 with
      | false =>
        go_wp2_with (fail)
        refine (HP3.out _ HBX2.out).mono ?_
        rintro e X3 ⟨rfl, hb⟩
        have HBX3 : Hid (Below W.heap.size W X3) := bstep (HBX2.out) hb
        have HNX3 : Hid (Below wc.heap.size wc X3) := bstep (HNX2.out) hb
        clear hb
        go_wp2_with (fail)
        go_ret
        exact ⟨by rw [← HR.out]; rfl, bstep HbW.out HBX3.out⟩
      | true =>
        go_wp2_with (fail)
        refine (HP3.out _ HBX2.out).mono ?_
        rintro e X3 ⟨rfl, hb⟩
        have HBX3 : Hid (Below W.heap.size W X3) := bstep (HBX2.out) hb
        have HNX3 : Hid (Below wc.heap.size wc X3) := bstep (HNX2.out) hb
        clear hb
        go_wp2_with (fail)
        go_ret
        exact ⟨by rw [← HR.out]; rfl, bstep HbW.out HBX3.out⟩
set_option maxHeartbeats 8000000 in
theorem chk9 (hg : Gl w) {cl inc req : Int} (ky v old : ByteArray) (hc : cliB cl = true) (hi : decide (1 ≤ inc ∧ inc ≤ 4611686018427387904) = true) (hr : decide (1 ≤ req ∧ req ≤ 4611686018427387904) = true) : Calls Tryz.prog 8 #[.agg #[.int .i64 cl, .int .i64 inc, .int .i64 req, .int .i64 9, .string ky, .string v, .string old]] w fun e w' => e = .returned (.int .i64 (if (empB ky && ctB v && empB old) = true then 0 else 130)) ∧ Below w.heap.size w w' := by
  obtain ⟨R, hR⟩ : ∃ R : Int, (if (empB ky && ctB v && empB old) = true then 0 else 130) = R := ⟨_, rfl⟩
  rw [hR]
  have HR : Hid ((if (empB ky && ctB v && empB old) = true then 0 else 130) = R) := hR
  clear hR
  obtain ⟨W, hW⟩ : ∃ X, w.alloc (.cells #[.int .i64 cl, .int .i64 inc, .int .i64 req, .int .i64 9, .string ky, .string v, .string old] 23) = X := ⟨_, rfl⟩
  have HbW : Hid (Below w.heap.size w W) := by rw [← hW]; exact balloc (Below.refl _ _)
  have HcW : Hid (W.heap[w.heap.size]? = some (.cells #[.int .i64 cl, .int .i64 inc, .int .i64 req, .int .i64 9, .string ky, .string v, .string old] 23 (0, 0))) := by rw [← hW]; exact heap_alloc_new w _
  have HG : Hid (∀ X, Below W.heap.size W X → Gl X) := fun X hX => hg.still (bstep HbW.out hX)
  have y0 := blk_cell HcW.out 0
  have y1 := blk_cell HcW.out 1
  have y2 := blk_cell HcW.out 2
  have y3 := blk_cell HcW.out 3
  simp only [List.getElem?_toArray, List.getElem?_cons_succ, List.getElem?_cons_zero] at y0 y1 y2 y3
  have y3h : Hid (W.cell? ⟨w.heap.size, 3, none⟩ = some (.int .i64 9)) := y3
  have HC1 : Hid (∀ X : World, Calls Tryz.prog 27 #[.int .i64 cl] X fun e w' => e = .returned (.bool true) ∧ X = w') := fun X => by rw [← hc]; exact isClient_any cl
  have HC2 : Hid (∀ X : World, Calls Tryz.prog 28 #[.int .i64 inc, .int .i64 1, .int .i64 4611686018427387904] X fun e w' => e = .returned (.bool true) ∧ X = w') := fun X => by rw [← hi]; exact within_any inc 1 _
  have HC3 : Hid (∀ X : World, Calls Tryz.prog 28 #[.int .i64 req, .int .i64 1, .int .i64 4611686018427387904] X fun e w' => e = .returned (.bool true) ∧ X = w') := fun X => by rw [← hr]; exact within_any req 1 _
  have HC4 : Hid (∀ X : World, Calls Tryz.prog 28 #[.int .i64 9, .int .i64 1, .int .i64 9] X fun e w' => e = .returned (.bool true) ∧ X = w') := fun X => (within_any 9 1 9).mono fun e w' ⟨h1, h2⟩ => ⟨h1, h2⟩
  clear hc hi hr hg
  go_enter Tryz.func8, Tryz.ntmps8
  go_wp2_with (fail)
  refine (HC1.out _).mono ?_
  rintro e wx ⟨rfl, rfl⟩
  go_wp2_with (fail)
  refine (HC2.out _).mono ?_
  rintro e wx ⟨rfl, rfl⟩
  go_wp2_with (fail)
  refine (HC3.out _).mono ?_
  rintro e wx ⟨rfl, rfl⟩
  go_wp2_with (fail)
  refine (HC4.out _).mono ?_
  rintro e wx ⟨rfl, rfl⟩
  go_upto_region 4 with (fail)
  go_cut [4] (fun p wx => ∃ pk : Nat, p = .pointer (some ⟨pk, 0, none⟩) ∧ Hid (Below W.heap.size W wx) ∧ Hid (wx.heap[pk]? = some (.cells #[fv 48, fv 59, fv 48, fv 60] 61 (0, 0))))
  case first =>
    refine wp_region_held_drew (S := (fun w' => Below W.heap.size W w')) (by kernel_rfl) (Below.refl _ W).drew (fun hHeld => ?_)
    simp only [Act.put, List.size_toArray, List.length_cons, List.length_nil, Nat.zero_add]
    refine wpAnyH_take (i := 1) (v := .pointer (some ⟨w.heap.size, 3, none⟩)) rfl (by kernel_rfl) (by kernel_rfl) (by kernel_rfl) (fun _ _ _ h => h) (Or.inl ⟨by rfl, fun w' hS => by go_simp⟩) hHeld ?_
    simp only [Act.put, List.getElem_toArray, List.getElem_cons_zero, List.getElem_cons_succ, List.setIfInBounds_toArray, List.set_cons_zero, List.set_cons_succ]
    refine wpAnyH_take (i := 2) (v := .int .i64 9) rfl (by kernel_rfl) (by kernel_rfl) (by kernel_rfl) (fun _ _ _ h => h) (Or.inl ⟨by rfl, fun w' hS => by (have s0 := below_at hS y3h.out; go_simp)⟩) hHeld ?_
    simp only [Act.put, List.getElem_toArray, List.getElem_cons_zero, List.getElem_cons_succ, List.setIfInBounds_toArray, List.set_cons_zero, List.set_cons_succ]
    refine wpAnyH_ready (rs := [0, 4]) (by kernel_rfl) (by simp) ?_
    refine AllReadyH.cons rfl (fun K hK => ?_) (AllReadyH.cons rfl (fun K hK => ?_) AllReadyH.nil)
    · go_simp
      refine (operations_any).mono ?_
      rintro e X1 ⟨rfl, hb1⟩
      have HB1 : Hid (Below W.heap.size W X1) := bstep (Below.refl _ W).drew hb1
      clear hb1
      refine hK.out _ _ HB1.out (fun hHeld => ?_)
      clear hK K
      refine wpAnyH_take (i := 3) (v := .agg #[fv 48, fv 59, fv 48, fv 60]) rfl (by kernel_rfl) (by kernel_rfl) (by kernel_rfl) (fun _ _ _ h => h) (Or.inl ⟨by rfl, fun w' hS => by (have s0 := ix9 w'; go_simp)⟩) hHeld ?_
      simp only [Act.put, List.getElem_toArray, List.getElem_cons_zero, List.getElem_cons_succ, List.setIfInBounds_toArray, List.set_cons_zero, List.set_cons_succ]
      obtain ⟨A1, V, hA1, HTh, hV, HVr, HVb0⟩ := newvar X1 61 [.nilFunc, .nilFunc, .nilFunc, .nilFunc] [fv 48, fv 59, fv 48, fv 60] rfl
      have HA1 : Hid (Below W.heap.size W A1) := by rw [← hA1]; exact balloc HB1.out
      have HVb : Hid (Below W.heap.size W V) := bstep HB1.out HVb0.out
      refine wpAnyH_ready (rs := [4]) (by kernel_rfl) (by simp) ?_
      refine AllReadyH.cons rfl (fun K hK => ?_) AllReadyH.nil
      go_simp
      (try rw [hA1])
      refine hK.out _ _ HA1.out (fun hHeld => ?_)
      clear hK K
      refine wpAnyH_ready (rs := [5]) (by kernel_rfl) (by simp) ?_
      refine AllReadyH.cons rfl (fun K hK => ?_) AllReadyH.nil
      rw [if_pos (by rfl)]
      refine wp_store_mid 61 (.tmp 4) (.tmp 29) rfl X1.heap.size 0 #[fv 48, fv 59, fv 48, fv 60] rfl rfl HTh.out opn_info (all_oneCell_toArray (opn_one _ _ _ _)) ?_
      rw [hV]
      refine hK.out _ _ HVb.out (fun hHeld => ?_)
      clear hK K
      refine wpAnyH_done (by kernel_rfl) ?_ _
      clear hHeld
      go_wp2_with (fail)
      go_meet
      exact ⟨X1.heap.size, rfl, HVb.out, HVr.out⟩
    · obtain ⟨A1, hA1⟩ : ∃ X, W.drew.alloc (.cells #[.nilFunc, .nilFunc, .nilFunc, .nilFunc] 61) = X := ⟨_, rfl⟩
      have HA1 : Hid (Below W.heap.size W A1) := by rw [← hA1]; exact balloc (Below.refl _ W).drew
      have HAr : Hid (A1.heap[W.heap.size]? = some (.cells #[.nilFunc, .nilFunc, .nilFunc, .nilFunc] 61 (0, 0))) := by
        rw [← hA1]
        exact heap_alloc_new _ _
      go_simp
      (try rw [hA1])
      refine hK.out _ _ HA1.out (fun hHeld => ?_)
      clear hK K
      refine wpAnyH_ready (rs := [0]) (by kernel_rfl) (by simp) ?_
      refine AllReadyH.cons rfl (fun K hK => ?_) AllReadyH.nil
      go_simp
      refine (operations_any).mono ?_
      rintro e X1 ⟨rfl, hb1⟩
      have HB1 : Hid (Below W.heap.size W X1) := bstep HA1.out hb1
      have HXr : Hid (X1.heap[W.heap.size]? = some (.cells #[.nilFunc, .nilFunc, .nilFunc, .nilFunc] 61 (0, 0))) := (hb1.block _ (lt_heap HAr.out)).trans HAr.out
      clear hb1
      refine hK.out _ _ HB1.out (fun hHeld => ?_)
      clear hK K
      refine wpAnyH_take (i := 3) (v := .agg #[fv 48, fv 59, fv 48, fv 60]) rfl (by kernel_rfl) (by kernel_rfl) (by kernel_rfl) (fun _ _ _ h => h) (Or.inl ⟨by rfl, fun w' hS => by (have s0 := ix9 w'; go_simp)⟩) hHeld ?_
      simp only [Act.put, List.getElem_toArray, List.getElem_cons_zero, List.getElem_cons_succ, List.setIfInBounds_toArray, List.set_cons_zero, List.set_cons_succ]
      obtain ⟨V, hV⟩ : ∃ X, X1.setCells W.heap.size 0 [fv 48, fv 59, fv 48, fv 60] = X := ⟨_, rfl⟩
      have HVr : Hid (V.heap[W.heap.size]? = some (.cells #[fv 48, fv 59, fv 48, fv 60] 61 (0, 0))) := by rw [← hV]; exact sets_whole HXr.out rfl
      have HTh : Hid (X1.there W.heap.size 0 4) := blk_there HXr.out rfl
      have HVb : Hid (Below W.heap.size W V) := by rw [← hV]; exact bsets (Nat.le_refl _) _ _ HB1.out
      refine wpAnyH_ready (rs := [5]) (by kernel_rfl) (by simp) ?_
      refine AllReadyH.cons rfl (fun K hK => ?_) AllReadyH.nil
      rw [if_pos (by rfl)]
      refine wp_store_mid 61 (.tmp 4) (.tmp 29) rfl W.heap.size 0 #[fv 48, fv 59, fv 48, fv 60] rfl rfl HTh.out opn_info (all_oneCell_toArray (opn_one _ _ _ _)) ?_
      rw [hV]
      refine hK.out _ _ HVb.out (fun hHeld => ?_)
      clear hK K
      refine wpAnyH_done (by kernel_rfl) ?_ _
      clear hHeld
      go_wp2_with (fail)
      go_meet
      exact ⟨W.heap.size, rfl, HVb.out, HVr.out⟩
  case rest =>
  obtain ⟨pk, rfl, HVb, HVr⟩ := hcut
  have HcV : Hid (wc.heap[w.heap.size]? = some (.cells #[.int .i64 cl, .int .i64 inc, .int .i64 req, .int .i64 9, .string ky, .string v, .string old] 23 (0, 0))) := (HVb.out.block _ (lt_heap HcW.out)).trans HcW.out
  have HP1 : Hid (∀ X, Below W.heap.size W X → Calls Tryz.prog 48 #[.string ky] X fun e w' => e = .returned (.bool (empB ky)) ∧ Below X.heap.size X w') := fun X hX => pFisEmpty (HG.out X hX) ky
  have HP2 : Hid (∀ X, Below W.heap.size W X → Calls Tryz.prog 59 #[.string v] X fun e w' => e = .returned (.bool (ctB v)) ∧ Below X.heap.size X w') := fun X hX => pFisClientText (HG.out X hX) v
  have HP3 : Hid (∀ X, Below W.heap.size W X → Calls Tryz.prog 48 #[.string old] X fun e w' => e = .returned (.bool (empB old)) ∧ Below X.heap.size X w') := fun X hX => pFisEmpty (HG.out X hX) old
  have HCl : Hid (∀ X, Below wc.heap.size wc X → X.heap[w.heap.size]? = some (.cells #[.int .i64 cl, .int .i64 inc, .int .i64 req, .int .i64 9, .string ky, .string v, .string old] 23 (0, 0)) ∧ X.heap[pk]? = some (.cells #[fv 48, fv 59, fv 48, fv 60] 61 (0, 0))) := fun X hX => ⟨(hX.block _ (lt_heap HcV.out)).trans HcV.out, (hX.block _ (lt_heap HVr.out)).trans HVr.out⟩
  have z4 := blk_cell HcV.out 4
  have x0 := blk_cell HVr.out 0
  simp only [List.getElem?_toArray, List.getElem?_cons_succ, List.getElem?_cons_zero] at z4 x0
  unfold fv at x0
  generalize empB ky = b1 at *
  generalize ctB v = b2 at *
  generalize empB old = b3 at *
  clear y0 y1 y2 y3 HC1 HC2 HC3 HC4 HG
  cases b1 with
  | false =>
    go_wp2_with (fail)
    refine (HP1.out _ HVb.out).mono ?_
    rintro e X1 ⟨rfl, hb⟩
    have HBX1 : Hid (Below W.heap.size W X1) := bstep (HVb.out) hb
    have HNX1 : Hid (Below wc.heap.size wc X1) := bstep (Below.refl _ wc) hb
    clear hb
    go_wp2_with (fail)
    go_ret
    exact ⟨by rw [← HR.out]; rfl, bstep HbW.out HBX1.out⟩
  | true =>
    go_wp2_with (fail)
    refine (HP1.out _ HVb.out).mono ?_
    rintro e X1 ⟨rfl, hb⟩
    have HBX1 : Hid (Below W.heap.size W X1) := bstep (HVb.out) hb
    have HNX1 : Hid (Below wc.heap.size wc X1) := bstep (Below.refl _ wc) hb
    clear hb
    have z5 := blk_cell (HCl.out _ HNX1.out).1 5
    have x1 := blk_cell (HCl.out _ HNX1.out).2 1
    simp only [List.getElem?_toArray, List.getElem?_cons_succ, List.getElem?_cons_zero] at z5 x1
    unfold fv at x1
    cases b2 with
    | false =>
      go_wp2_with (fail)
      refine (HP2.out _ HBX1.out).mono ?_
      rintro e X2 ⟨rfl, hb⟩
      have HBX2 : Hid (Below W.heap.size W X2) := bstep (HBX1.out) hb
      have HNX2 : Hid (Below wc.heap.size wc X2) := bstep (HNX1.out) hb
      clear hb
      go_wp2_with (fail)
      go_ret
      exact ⟨by rw [← HR.out]; rfl, bstep HbW.out HBX2.out⟩
    | true =>
      go_wp2_with (fail)
      refine (HP2.out _ HBX1.out).mono ?_
      rintro e X2 ⟨rfl, hb⟩
      have HBX2 : Hid (Below W.heap.size W X2) := bstep (HBX1.out) hb
      have HNX2 : Hid (Below wc.heap.size wc X2) := bstep (HNX1.out) hb
      clear hb
      have z6 := blk_cell (HCl.out _ HNX2.out).1 6
      have x2 := blk_cell (HCl.out _ HNX2.out).2 2
      simp only [List.getElem?_toArray, List.getElem?_cons_succ, List.getElem?_cons_zero] at z6 x2
      unfold fv at x2
      cases b3 with
      | false =>
        go_wp2_with (fail)
        refine (HP3.out _ HBX2.out).mono ?_
        rintro e X3 ⟨rfl, hb⟩
        have HBX3 : Hid (Below W.heap.size W X3) := bstep (HBX2.out) hb
        have HNX3 : Hid (Below wc.heap.size wc X3) := bstep (HNX2.out) hb
        clear hb
        go_wp2_with (fail)
        go_ret
        exact ⟨by rw [← HR.out]; rfl, bstep HbW.out HBX3.out⟩
      | true =>
        go_wp2_with (fail)
        refine (HP3.out _ HBX2.out).mono ?_
        rintro e X3 ⟨rfl, hb⟩
        have HBX3 : Hid (Below W.heap.size W X3) := bstep (HBX2.out) hb
        have HNX3 : Hid (Below wc.heap.size wc X3) := bstep (HNX2.out) hb
        clear hb
        go_wp2_with (fail)
        go_ret
        exact ⟨by rw [← HR.out]; rfl, bstep HbW.out HBX3.out⟩
end
end Go.Proofs.YtjgjpepmfiklfaaGreatDoor.Mx
