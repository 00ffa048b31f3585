import Derived.Test.YtghihdenbdnnjaaLkw
namespace Go.Proofs.Ytghihdenbdnnjaa.Ln
open Go.RowKit Mb
set_option linter.unusedVariables false
set_option maxRecDepth 100000
set_option linter.unusedSimpArgs false
section
variable {w w' W : World} {B : Nat} {X X' : Wr}
set_option maxHeartbeats 4000000 in
theorem wowe_none (h : X.Ok w B) {s : Nat} (hs : s < 2) (ho : (X.e s).owed = false) : Calls Try.prog 33 #[.pointer (some ⟨X.b, 0, none⟩), .int .i64 (s : Int)] w fun e w' => XO w w' X B X.pu e := by
  have i1 : (0 : Int) ≤ (s : Int) := Int.natCast_nonneg _
  have i2 : (s : Int) < 2 := by omega
  have j1 : (0 : Int) ≤ 1 - (s : Int) := by omega
  have j2 : 1 - (s : Int) ≤ 1 := by omega
  have cm := h.cm hs
  have HX0 : Hid (X.Ok w B) := h
  obtain ⟨x0, hx0⟩ : ∃ x : Int, x = 0 := ⟨_, rfl⟩
  obtain ⟨x1, hx1⟩ : ∃ x : Int, x = 0 := ⟨_, rfl⟩
  obtain ⟨x2, hx2⟩ : ∃ x : Int, x = 0 := ⟨_, rfl⟩
  obtain ⟨x3, hx3⟩ : ∃ x : Int, x = 0 := ⟨_, rfl⟩
  obtain ⟨x4, hx4⟩ : ∃ x : Int, x = 0 := ⟨_, rfl⟩
  obtain ⟨bb, hbb⟩ : ∃ b, b = false := ⟨_, rfl⟩
  obtain ⟨X1, hX1⟩ : ∃ Y, Y = X := ⟨_, rfl⟩
  have HO : Hid (∀ D0 D', Below D0.heap.size D0 D' → X.Ok D0 B → Calls Try.prog 24 #[.pointer (some ⟨(X.m s).b, 0, none⟩), .int .i64 (2 + 3 * (1 - (s : Int)))] D' fun e w' => e = .returned (.tuple #[.agg #[.int .i64 x0, .int .i64 x1, .int .i64 x2, .int .i64 x3, .int .i64 x4], .bool bb]) ∧ Xstep D' w' X X1 B) := fun D0 D' hb h0 => by
    have h1 := h0.still hb
    refine (owed_none (h1.mo s hs) (qat h1 hs) ho).mono ?_
    rintro e w' ⟨rfl, hb2⟩
    rw [hx0, hx1, hx2, hx3, hx4, hbb, hX1]
    exact ⟨rfl, Xstep.below h1 hb2⟩
  have HCM : Hid (∀ w3 : World, X1.Ok w3 B → X1.b = X.b → w3.cell? ⟨X.b, s, none⟩ = some (.pointer (some ⟨(X.m s).b, 0, none⟩))) := fun w3 h3 _ => by rw [hX1] at h3; exact h3.cm hs
  have HE : Hid (x0 = 0 ∧ x1 = 0 ∧ x2 = 0 ∧ x3 = 0 ∧ x4 = 0 ∧ bb = false ∧ X1 = X) := (show _ ∧ _ from ⟨hx0, hx1, hx2, hx3, hx4, hbb, hX1⟩)
  clear hx0 hx1 hx2 hx3 hx4 hbb hX1 ho h
  go_enter Try.func33, Try.ntmps33
  go_upto_region 1 with (fail)
  go_cut [5, 6] (fun va vb wx => ∃ kd : Nat, va = .pointer (some ⟨kd, 0, none⟩) ∧ vb = .bool bb ∧ Hid (wx.heap[kd]? = some (.cells [.int .i64 x0, .int .i64 x1, .int .i64 x2, .int .i64 x3, .int .i64 x4].toArray 57 (0, 0))) ∧ Hid (Xstep w wx X X1 B) ∧ Hid (¬ X1.own kd))
  case first =>
    go_wp2_with (fail)
    refine wp_region_held_drew (S := (fun w' => w'.cell? ⟨X.b, s, none⟩ = some (.pointer (some ⟨(X.m s).b, 0, none⟩)))) (by kernel_rfl) (below_at (drew_bel _) cm) (fun hHeld => ?_)
    simp only [Act.put, List.size_toArray, List.length_cons, List.length_nil, Nat.zero_add]
    refine wpAnyH_take (i := 0) (v := .pointer (some ⟨X.b, 0, none⟩)) rfl (by kernel_rfl) (by kernel_rfl) (by kernel_rfl) (fun _ _ _ h => h) (Or.inl ⟨by rfl, fun w' hS => by go_simp⟩) hHeld ?_
    simp only [Act.put, List.getElem_toArray, List.getElem_cons_zero, List.getElem_cons_succ, List.setIfInBounds_toArray, List.set_cons_zero, List.set_cons_succ]
    refine wpAnyH_take (i := 1) (v := .int .i64 (s : Int)) rfl (by kernel_rfl) (by kernel_rfl) (by kernel_rfl) (fun _ _ _ h => h) (Or.inl ⟨by rfl, fun w' hS => by go_simp⟩) hHeld ?_
    simp only [Act.put, List.getElem_toArray, List.getElem_cons_zero, List.getElem_cons_succ, List.setIfInBounds_toArray, List.set_cons_zero, List.set_cons_succ]
    refine wpAnyH_take (i := 2) (v := .pointer (some ⟨X.b, 0, none⟩)) rfl (by kernel_rfl) (by kernel_rfl) (by kernel_rfl) (fun _ _ _ h => h) (Or.inl ⟨by rfl, fun w' hS => by go_simp⟩) hHeld ?_
    simp only [Act.put, List.getElem_toArray, List.getElem_cons_zero, List.getElem_cons_succ, List.setIfInBounds_toArray, List.set_cons_zero, List.set_cons_succ]
    refine wpAnyH_take (i := 3) (v := .pointer (some ⟨X.b, 0, none⟩)) rfl (by kernel_rfl) (by kernel_rfl) (by kernel_rfl) (fun _ _ _ h => h) (Or.inl ⟨by rfl, fun w' hS => by go_simp⟩) hHeld ?_
    simp only [Act.put, List.getElem_toArray, List.getElem_cons_zero, List.getElem_cons_succ, List.setIfInBounds_toArray, List.set_cons_zero, List.set_cons_succ]
    refine wpAnyH_take (i := 4) (v := .pointer (some ⟨X.b, s, none⟩)) rfl (by kernel_rfl) (by kernel_rfl) (by kernel_rfl) (fun _ _ _ h => h) (Or.inl ⟨by rfl, fun w' hS => by go_simp⟩) hHeld ?_
    simp only [Act.put, List.getElem_toArray, List.getElem_cons_zero, List.getElem_cons_succ, List.setIfInBounds_toArray, List.set_cons_zero, List.set_cons_succ]
    refine wpAnyH_take (i := 5) (v := .pointer (some ⟨(X.m s).b, 0, none⟩)) rfl (by kernel_rfl) (by kernel_rfl) (by kernel_rfl) (fun _ _ _ h => h) (Or.inl ⟨by rfl, fun w' hS => by (have s0 := hS; go_simp)⟩) hHeld ?_
    simp only [Act.put, List.getElem_toArray, List.getElem_cons_zero, List.getElem_cons_succ, List.setIfInBounds_toArray, List.set_cons_zero, List.set_cons_succ]
    refine wpAnyH_take (i := 6) (v := .int .i64 (s : Int)) rfl (by kernel_rfl) (by kernel_rfl) (by kernel_rfl) (fun _ _ _ h => h) (Or.inl ⟨by rfl, fun w' hS => by go_simp⟩) hHeld ?_
    simp only [Act.put, List.getElem_toArray, List.getElem_cons_zero, List.getElem_cons_succ, List.setIfInBounds_toArray, List.set_cons_zero, List.set_cons_succ]
    refine wpAnyH_take (i := 7) (v := .int .i64 (1 - (s : Int))) rfl (by kernel_rfl) (by kernel_rfl) (by kernel_rfl) (fun _ _ _ h => h) (Or.inl ⟨by rfl, fun w' hS => by (go_simp <;> exact wrap_id (by omega) (by omega))⟩) hHeld ?_
    simp only [Act.put, List.getElem_toArray, List.getElem_cons_zero, List.getElem_cons_succ, List.setIfInBounds_toArray, List.set_cons_zero, List.set_cons_succ]
    have hbD : Below w.heap.size w w.drew := drew_bel _
    have hXD := HX0.out.still hbD
    have qm := below_at hbD cm
    clear cm
    generalize w.drew = D0 at *
    refine wpAnyH_ready (rs := [8, 13]) (by kernel_rfl) (by simp) ?_
    refine AllReadyH.cons rfl (fun K hK => ?_) (AllReadyH.cons rfl (fun K hK => ?_) AllReadyH.nil)
    · go_simp
      refine (pid_any j1 j2).mono ?_
      rintro e w2 ⟨rfl, rfl⟩
      refine hK.out _ _ qm (fun hHeld => ?_)
      clear hK K
      refine wpAnyH_ready (rs := [9, 13]) (by kernel_rfl) (by simp) ?_
      refine AllReadyH.cons rfl (fun K hK => ?_) (AllReadyH.cons rfl (fun K hK => ?_) AllReadyH.nil)
      · go_simp
        refine (HO.out D0 _ (Below.refl _ _) hXD).mono ?_
        rintro e w3 ⟨rfl, hst⟩
        have qm3 : w3.cell? ⟨X.b, s, none⟩ = some (.pointer (some ⟨(X.m s).b, 0, none⟩)) := HCM.out _ hst.ok hst.b
        refine hK.out _ _ qm3 (fun hHeld => ?_)
        clear hK K
        refine wpAnyH_take (i := 10) (v := .tuple #[.agg #[.int .i64 x0, .int .i64 x1, .int .i64 x2, .int .i64 x3, .int .i64 x4], .bool bb]) rfl (by kernel_rfl) (by kernel_rfl) (by kernel_rfl) (fun _ _ _ h => h) (Or.inl ⟨by rfl, fun w' hS => by go_simp⟩) hHeld ?_
        simp only [Act.put, List.getElem_toArray, List.getElem_cons_zero, List.getElem_cons_succ, List.setIfInBounds_toArray, List.set_cons_zero, List.set_cons_succ]
        refine wpAnyH_take (i := 11) (v := .agg #[.int .i64 x0, .int .i64 x1, .int .i64 x2, .int .i64 x3, .int .i64 x4]) rfl (by kernel_rfl) (by kernel_rfl) (by kernel_rfl) (fun _ _ _ h => h) (Or.inl ⟨by rfl, fun w' hS => by go_simp⟩) hHeld ?_
        simp only [Act.put, List.getElem_toArray, List.getElem_cons_zero, List.getElem_cons_succ, List.setIfInBounds_toArray, List.set_cons_zero, List.set_cons_succ]
        refine wpAnyH_take (i := 12) (v := .bool bb) rfl (by kernel_rfl) (by kernel_rfl) (by kernel_rfl) (fun _ _ _ h => h) (Or.inl ⟨by rfl, fun w' hS => by go_simp⟩) hHeld ?_
        simp only [Act.put, List.getElem_toArray, List.getElem_cons_zero, List.getElem_cons_succ, List.setIfInBounds_toArray, List.set_cons_zero, List.set_cons_succ]
        refine wpAnyH_ready (rs := [13]) (by kernel_rfl) (by simp) ?_
        refine AllReadyH.cons rfl (fun K hK => ?_) AllReadyH.nil
        go_simp
        refine hK.out _ _ (below_at (balloc (Below.refl _ _)) qm3) (fun hHeld => ?_)
        clear hK K
        obtain ⟨va1, va2⟩ := var_after (w3 := w3) [.int .i64 x0, .int .i64 x1, .int .i64 x2, .int .i64 x3, .int .i64 x4] rfl
        have hth : (w3.alloc (.cells #[.int .i64 0, .int .i64 0, .int .i64 0, .int .i64 0, .int .i64 0] 57)).there w3.heap.size 0 5 := new_there w3 57 _ rfl
        refine wpAnyH_ready (rs := [14]) (by kernel_rfl) (by simp) ?_
        refine AllReadyH.cons rfl (fun K hK => ?_) AllReadyH.nil
        refine step_storeL rfl 57 (.tmp 5) (.tmp 20) rfl (L := [.int .i64 x0, .int .i64 x1, .int .i64 x2, .int .i64 x3, .int .i64 x4]) rfl rfl hth info_ack (ones5 _ _ _ _ _) ?_
        refine hK.out _ _ (HCM.out _ ((hst.post va1).ok) (hst.b)) (fun hHeld => ?_)
        clear hK K
        simp only [Act.put, List.getElem_toArray, List.getElem_cons_zero, List.getElem_cons_succ, List.setIfInBounds_toArray, List.set_cons_zero, List.set_cons_succ]
        refine wpAnyH_take (i := 15) (v := .bool bb) rfl (by kernel_rfl) (by kernel_rfl) (by kernel_rfl) (fun _ _ _ h => h) (Or.inl ⟨by rfl, fun w' hS => by go_simp⟩) hHeld ?_
        simp only [Act.put, List.getElem_toArray, List.getElem_cons_zero, List.getElem_cons_succ, List.setIfInBounds_toArray, List.set_cons_zero, List.set_cons_succ]
        refine wpAnyH_done (by kernel_rfl) ?_ _
        clear hHeld
        go_wp2
        go_meet
        exact ⟨w3.heap.size, rfl, rfl, va2, (Xstep.below HX0.out hbD).trans (hst.post va1), (fun e => by have := hst.ok.lt e; omega)⟩
      · go_simp
        refine hK.out _ _ (below_at (balloc (Below.refl _ _)) qm) (fun hHeld => ?_)
        clear hK K
        refine wpAnyH_ready (rs := [9]) (by kernel_rfl) (by simp) ?_
        refine AllReadyH.cons rfl (fun K hK => ?_) AllReadyH.nil
        go_simp
        refine (HO.out D0 _ (balloc (Below.refl _ _)) hXD).mono ?_
        rintro e w3 ⟨rfl, hst⟩
        have qm3 : w3.cell? ⟨X.b, s, none⟩ = some (.pointer (some ⟨(X.m s).b, 0, none⟩)) := HCM.out _ hst.ok hst.b
        refine hK.out _ _ qm3 (fun hHeld => ?_)
        clear hK K
        obtain ⟨va1, va2, hth, hno⟩ := var_before [.int .i64 x0, .int .i64 x1, .int .i64 x2, .int .i64 x3, .int .i64 x4] rfl hXD hst
        refine wpAnyH_take (i := 10) (v := .tuple #[.agg #[.int .i64 x0, .int .i64 x1, .int .i64 x2, .int .i64 x3, .int .i64 x4], .bool bb]) rfl (by kernel_rfl) (by kernel_rfl) (by kernel_rfl) (fun _ _ _ h => h) (Or.inl ⟨by rfl, fun w' hS => by go_simp⟩) hHeld ?_
        simp only [Act.put, List.getElem_toArray, List.getElem_cons_zero, List.getElem_cons_succ, List.setIfInBounds_toArray, List.set_cons_zero, List.set_cons_succ]
        refine wpAnyH_take (i := 11) (v := .agg #[.int .i64 x0, .int .i64 x1, .int .i64 x2, .int .i64 x3, .int .i64 x4]) rfl (by kernel_rfl) (by kernel_rfl) (by kernel_rfl) (fun _ _ _ h => h) (Or.inl ⟨by rfl, fun w' hS => by go_simp⟩) hHeld ?_
        simp only [Act.put, List.getElem_toArray, List.getElem_cons_zero, List.getElem_cons_succ, List.setIfInBounds_toArray, List.set_cons_zero, List.set_cons_succ]
        refine wpAnyH_take (i := 12) (v := .bool bb) rfl (by kernel_rfl) (by kernel_rfl) (by kernel_rfl) (fun _ _ _ h => h) (Or.inl ⟨by rfl, fun w' hS => by go_simp⟩) hHeld ?_
        simp only [Act.put, List.getElem_toArray, List.getElem_cons_zero, List.getElem_cons_succ, List.setIfInBounds_toArray, List.set_cons_zero, List.set_cons_succ]
        refine wpAnyH_ready (rs := [14]) (by kernel_rfl) (by simp) ?_
        refine AllReadyH.cons rfl (fun K hK => ?_) AllReadyH.nil
        refine step_storeL rfl 57 (.tmp 5) (.tmp 20) rfl (L := [.int .i64 x0, .int .i64 x1, .int .i64 x2, .int .i64 x3, .int .i64 x4]) rfl rfl hth info_ack (ones5 _ _ _ _ _) ?_
        refine hK.out _ _ (HCM.out _ (va1.ok) (va1.b)) (fun hHeld => ?_)
        clear hK K
        simp only [Act.put, List.getElem_toArray, List.getElem_cons_zero, List.getElem_cons_succ, List.setIfInBounds_toArray, List.set_cons_zero, List.set_cons_succ]
        refine wpAnyH_take (i := 15) (v := .bool bb) rfl (by kernel_rfl) (by kernel_rfl) (by kernel_rfl) (fun _ _ _ h => h) (Or.inl ⟨by rfl, fun w' hS => by go_simp⟩) hHeld ?_
        simp only [Act.put, List.getElem_toArray, List.getElem_cons_zero, List.getElem_cons_succ, List.setIfInBounds_toArray, List.set_cons_zero, List.set_cons_succ]
        refine wpAnyH_done (by kernel_rfl) ?_ _
        clear hHeld
        go_wp2
        go_meet
        exact ⟨D0.heap.size, rfl, rfl, va2, (Xstep.below HX0.out hbD).trans va1, hno⟩
    · go_simp
      refine hK.out _ _ (below_at (balloc (Below.refl _ _)) qm) (fun hHeld => ?_)
      clear hK K
      refine wpAnyH_ready (rs := [8]) (by kernel_rfl) (by simp) ?_
      refine AllReadyH.cons rfl (fun K hK => ?_) AllReadyH.nil
      go_simp
      refine (pid_any j1 j2).mono ?_
      rintro e w2 ⟨rfl, rfl⟩
      refine hK.out _ _ (below_at (balloc (Below.refl _ _)) qm) (fun hHeld => ?_)
      clear hK K
      refine wpAnyH_ready (rs := [9]) (by kernel_rfl) (by simp) ?_
      refine AllReadyH.cons rfl (fun K hK => ?_) AllReadyH.nil
      go_simp
      refine (HO.out D0 _ (balloc (Below.refl _ _)) hXD).mono ?_
      rintro e w3 ⟨rfl, hst⟩
      have qm3 : w3.cell? ⟨X.b, s, none⟩ = some (.pointer (some ⟨(X.m s).b, 0, none⟩)) := HCM.out _ hst.ok hst.b
      refine hK.out _ _ qm3 (fun hHeld => ?_)
      clear hK K
      obtain ⟨va1, va2, hth, hno⟩ := var_before [.int .i64 x0, .int .i64 x1, .int .i64 x2, .int .i64 x3, .int .i64 x4] rfl hXD hst
      refine wpAnyH_take (i := 10) (v := .tuple #[.agg #[.int .i64 x0, .int .i64 x1, .int .i64 x2, .int .i64 x3, .int .i64 x4], .bool bb]) rfl (by kernel_rfl) (by kernel_rfl) (by kernel_rfl) (fun _ _ _ h => h) (Or.inl ⟨by rfl, fun w' hS => by go_simp⟩) hHeld ?_
      simp only [Act.put, List.getElem_toArray, List.getElem_cons_zero, List.getElem_cons_succ, List.setIfInBounds_toArray, List.set_cons_zero, List.set_cons_succ]
      refine wpAnyH_take (i := 11) (v := .agg #[.int .i64 x0, .int .i64 x1, .int .i64 x2, .int .i64 x3, .int .i64 x4]) rfl (by kernel_rfl) (by kernel_rfl) (by kernel_rfl) (fun _ _ _ h => h) (Or.inl ⟨by rfl, fun w' hS => by go_simp⟩) hHeld ?_
      simp only [Act.put, List.getElem_toArray, List.getElem_cons_zero, List.getElem_cons_succ, List.setIfInBounds_toArray, List.set_cons_zero, List.set_cons_succ]
      refine wpAnyH_take (i := 12) (v := .bool bb) rfl (by kernel_rfl) (by kernel_rfl) (by kernel_rfl) (fun _ _ _ h => h) (Or.inl ⟨by rfl, fun w' hS => by go_simp⟩) hHeld ?_
      simp only [Act.put, List.getElem_toArray, List.getElem_cons_zero, List.getElem_cons_succ, List.setIfInBounds_toArray, List.set_cons_zero, List.set_cons_succ]
      refine wpAnyH_ready (rs := [14]) (by kernel_rfl) (by simp) ?_
      refine AllReadyH.cons rfl (fun K hK => ?_) AllReadyH.nil
      refine step_storeL rfl 57 (.tmp 5) (.tmp 20) rfl (L := [.int .i64 x0, .int .i64 x1, .int .i64 x2, .int .i64 x3, .int .i64 x4]) rfl rfl hth info_ack (ones5 _ _ _ _ _) ?_
      refine hK.out _ _ (HCM.out _ (va1.ok) (va1.b)) (fun hHeld => ?_)
      clear hK K
      simp only [Act.put, List.getElem_toArray, List.getElem_cons_zero, List.getElem_cons_succ, List.setIfInBounds_toArray, List.set_cons_zero, List.set_cons_succ]
      refine wpAnyH_take (i := 15) (v := .bool bb) rfl (by kernel_rfl) (by kernel_rfl) (by kernel_rfl) (fun _ _ _ h => h) (Or.inl ⟨by rfl, fun w' hS => by go_simp⟩) hHeld ?_
      simp only [Act.put, List.getElem_toArray, List.getElem_cons_zero, List.getElem_cons_succ, List.setIfInBounds_toArray, List.set_cons_zero, List.set_cons_succ]
      refine wpAnyH_done (by kernel_rfl) ?_ _
      clear hHeld
      go_wp2
      go_meet
      exact ⟨D0.heap.size, rfl, rfl, va2, (Xstep.below HX0.out hbD).trans va1, hno⟩
  case rest =>
  obtain ⟨kd, rfl, rfl, Hblk, Hst, Hno⟩ := hcut
  obtain ⟨rfl, rfl, rfl, rfl, rfl, rfl, hX1⟩ := HE.out
  have y0 : wc.cell? ⟨kd, 0, none⟩ = some (.int .i64 0) := blk_cell Hblk.out 0
  have y1 : wc.cell? ⟨kd, 1, none⟩ = some (.int .i64 0) := blk_cell Hblk.out 1
  have y2 : wc.cell? ⟨kd, 2, none⟩ = some (.int .i64 0) := blk_cell Hblk.out 2
  have y3 : wc.cell? ⟨kd, 3, none⟩ = some (.int .i64 0) := blk_cell Hblk.out 3
  have y4 : wc.cell? ⟨kd, 4, none⟩ = some (.int .i64 0) := blk_cell Hblk.out 4
  have HZ : Hid (XO w wc X B X.pu (.returned (.bool true))) := (show XO _ _ _ _ _ _ from ⟨rfl, X1, Hst.out, by rw [hX1]⟩)
  clear hX1 HO HCM
  go_wp2_with (first | (refine eql_step 57 (.tmp 24) (.tmp 25) 57 eq_ack0 guard_ack rfl rfl rfl rfl ?_) | fail)
  go_ret
  exact HZ.out
end
end Go.Proofs.Ytghihdenbdnnjaa.Ln
