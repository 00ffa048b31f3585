import Derived.Test.YtghihdenbdnnjaaLkw2
namespace Go.Proofs.Ytghihdenbdnnjaa.Ln
open Go.RowKit Mb
set_option linter.unusedVariables false
set_option maxRecDepth 100000
set_option linter.unusedSimpArgs false
section
variable {w w' W : World} {B : Nat} {X X' : Wr}
set_option maxHeartbeats 4000000 in
theorem wowe_yes (h : X.Ok w B) (hI : X.pu.Inv) {T : Nat} (hT : X.pu.Sz T) (hT2 : T ≤ 1000) (hB : B ≤ w.heap.size) {s : Nat} (hs : s < 2) (ho : (X.e s).owed = true) : Calls Try.prog 33 #[.pointer (some ⟨X.b, 0, none⟩), .int .i64 (s : Int)] w fun e w' => XO w w' X B (X.pu.owe s) e := by
  have i1 : (0 : Int) ≤ (s : Int) := Int.natCast_nonneg _
  have i2 : (s : Int) < 2 := by omega
  have j1 : (0 : Int) ≤ 1 - (s : Int) := by omega
  have j2 : 1 - (s : Int) ≤ 1 := by omega
  have cm := h.cm hs
  have HX0 : Hid (X.Ok w B) := h
  have HBs : Hid (B ≤ w.heap.size) := hB
  obtain ⟨ip, hip⟩ : ∃ ip, (X.e s).i.p = ip := ⟨_, rfl⟩
  obtain ⟨x0, hx0⟩ : ∃ x : Int, x = 3 := ⟨_, rfl⟩
  obtain ⟨x1, hx1⟩ : ∃ x : Int, x = 2 := ⟨_, rfl⟩
  obtain ⟨x2, hx2⟩ : ∃ x : Int, x = 4 := ⟨_, rfl⟩
  obtain ⟨x3, hx3⟩ : ∃ x : Int, x = 9 := ⟨_, rfl⟩
  obtain ⟨x4, hx4⟩ : ∃ x : Int, x = (ip : Int) := ⟨_, rfl⟩
  obtain ⟨bb, hbb⟩ : ∃ b, b = true := ⟨_, rfl⟩
  obtain ⟨e0, he0⟩ : ∃ e0 : En, e0 = { X.e s with owed := false } := ⟨_, rfl⟩
  obtain ⟨X1, hX1⟩ : ∃ Y, Y = X.setE s e0 := ⟨_, rfl⟩
  have HO : Hid (∀ D0 D', Below D0.heap.size D0 D' → X.Ok D0 B → Calls Try.prog 24 #[.pointer (some ⟨(X.m s).b, 0, none⟩), .int .i64 (2 + 3 * (1 - (s : Int)))] D' fun e w' => e = .returned (.tuple #[.agg #[.int .i64 x0, .int .i64 x1, .int .i64 x2, .int .i64 x3, .int .i64 x4], .bool bb]) ∧ Xstep D' w' X X1 B) := fun D0 D' hb h0 => by
    have h1 := h0.still hb
    refine (owed_yes (h1.mo s hs) (qat h1 hs) ho).mono ?_
    rintro e w' ⟨rfl, hst⟩
    rw [hx0, hx1, hx2, hx3, hx4, hbb, hX1, he0, (h1.mt s hs).1, hip]
    exact ⟨rfl, h1.mux hs hst⟩
  have HCM : Hid (∀ w3 : World, X1.Ok w3 B → X1.b = X.b → w3.cell? ⟨X.b, s, none⟩ = some (.pointer (some ⟨(X.m s).b, 0, none⟩))) := fun w3 h3 e => by have e2 := h3.cm hs; rw [hX1, setE_b] at e2; exact e2
  have HE : Hid (x0 = 3 ∧ x1 = 2 ∧ x2 = 4 ∧ x3 = 9 ∧ x4 = (ip : Int) ∧ bb = true) := (show _ ∧ _ from ⟨hx0, hx1, hx2, hx3, hx4, hbb⟩)
  have HX1b : Hid (X1.b = X.b) := (show _ = _ from by rw [hX1]; rfl)
  have HX1a : Hid (X1.a = X.a) := (show _ = _ from by rw [hX1]; rfl)
  obtain ⟨ra, rc, hrv⟩ := row_shape (h.rowa hs)
  obtain ⟨rn, hrn⟩ : ∃ rn, (X.a s).length = rn := ⟨_, rfl⟩
  rw [hrn] at hrv
  have HX1v : Hid (X1.v (10 + s) = .slice ra rn rc) := (show _ = _ from by rw [hX1]; exact hrv)
  have Hrn : Hid ((X.a s).length = rn) := hrn
  have hrT : rn ≤ 1000 := by have : (X.a s).length ≤ T := (hT s hs).2.2; omega
  have HX1e : Hid (X1.e s = e0 ∧ X1.m s = (X.m s).put (pid (1 - s)) e0 ∧ e0.owed = false ∧ e0.pu = (X.e s).pu.owe0 ∧ X1.pu = X.pu.setE s e0.pu ∧ X1.o = X.o ∧ X1.v (6 + s) = X.v (6 + s)) := (show _ ∧ _ from by rw [hX1, he0]; exact ⟨upd_same _ _ _, upd_same _ _ _, rfl, rfl, setE_pu _ _ _, rfl, rfl⟩)
  obtain ⟨oa, oc, hov⟩ := row_shape (h.rowo hs)
  obtain ⟨ol, hol⟩ : ∃ ol, (X.o s).length = ol := ⟨_, rfl⟩
  rw [hol] at hov
  have Hov : Hid (X.v (6 + s) = .slice oa ol oc) := hov
  have Hol : Hid (ip = ol) := (show _ = _ from by
    have h1 := (hI (1 - s) (by omega)).got
    rw [show 1 - (1 - s) = s by omega] at h1
    have h2 : (X.e s).i.p = ((X.o s).map Bn.bs).length := h1
    rw [hip, List.length_map, hol] at h2
    exact h2)
  have HPo : Hid (X.pu.owe s = { X.pu with E := upd X.pu.E s (X.e s).pu.owe0, a := upd X.pu.a s (X.pu.a s ++ [ip]) }) := (show _ = _ from by unfold Px.owe; rw [if_pos (show (X.pu.E s).owed = true from ho)]; rw [← hip]; rfl)
  clear hx0 hx1 hx2 hx3 hx4 hbb hX1 ho h hI hT hB hip he0 hrv hrn hov hol
  go_enter Try.func33, Try.ntmps33
  go_upto_region 1 with (fail)
  go_cut [5, 6] (fun va vb wx => ∃ kd : Nat, va = .pointer (some ⟨kd, 0, none⟩) ∧ vb = .bool bb ∧ Hid (wx.heap[kd]? = some (.cells [.int .i64 x0, .int .i64 x1, .int .i64 x2, .int .i64 x3, .int .i64 x4].toArray 57 (0, 0))) ∧ Hid (Xstep w wx X X1 B) ∧ Hid (¬ X1.own kd))
  case first =>
    go_wp2_with (fail)
    refine wp_region_held_drew (S := (fun w' => w'.cell? ⟨X.b, s, none⟩ = some (.pointer (some ⟨(X.m s).b, 0, none⟩)))) (by kernel_rfl) (below_at (drew_bel _) cm) (fun hHeld => ?_)
    simp only [Act.put, List.size_toArray, List.length_cons, List.length_nil, Nat.zero_add]
    refine wpAnyH_take (i := 0) (v := .pointer (some ⟨X.b, 0, none⟩)) rfl (by kernel_rfl) (by kernel_rfl) (by kernel_rfl) (fun _ _ _ h => h) (Or.inl ⟨by rfl, fun w' hS => by go_simp⟩) hHeld ?_
    simp only [Act.put, List.getElem_toArray, List.getElem_cons_zero, List.getElem_cons_succ, List.setIfInBounds_toArray, List.set_cons_zero, List.set_cons_succ]
    refine wpAnyH_take (i := 1) (v := .int .i64 (s : Int)) rfl (by kernel_rfl) (by kernel_rfl) (by kernel_rfl) (fun _ _ _ h => h) (Or.inl ⟨by rfl, fun w' hS => by go_simp⟩) hHeld ?_
    simp only [Act.put, List.getElem_toArray, List.getElem_cons_zero, List.getElem_cons_succ, List.setIfInBounds_toArray, List.set_cons_zero, List.set_cons_succ]
    refine wpAnyH_take (i := 2) (v := .pointer (some ⟨X.b, 0, none⟩)) rfl (by kernel_rfl) (by kernel_rfl) (by kernel_rfl) (fun _ _ _ h => h) (Or.inl ⟨by rfl, fun w' hS => by go_simp⟩) hHeld ?_
    simp only [Act.put, List.getElem_toArray, List.getElem_cons_zero, List.getElem_cons_succ, List.setIfInBounds_toArray, List.set_cons_zero, List.set_cons_succ]
    refine wpAnyH_take (i := 3) (v := .pointer (some ⟨X.b, 0, none⟩)) rfl (by kernel_rfl) (by kernel_rfl) (by kernel_rfl) (fun _ _ _ h => h) (Or.inl ⟨by rfl, fun w' hS => by go_simp⟩) hHeld ?_
    simp only [Act.put, List.getElem_toArray, List.getElem_cons_zero, List.getElem_cons_succ, List.setIfInBounds_toArray, List.set_cons_zero, List.set_cons_succ]
    refine wpAnyH_take (i := 4) (v := .pointer (some ⟨X.b, s, none⟩)) rfl (by kernel_rfl) (by kernel_rfl) (by kernel_rfl) (fun _ _ _ h => h) (Or.inl ⟨by rfl, fun w' hS => by go_simp⟩) hHeld ?_
    simp only [Act.put, List.getElem_toArray, List.getElem_cons_zero, List.getElem_cons_succ, List.setIfInBounds_toArray, List.set_cons_zero, List.set_cons_succ]
    refine wpAnyH_take (i := 5) (v := .pointer (some ⟨(X.m s).b, 0, none⟩)) rfl (by kernel_rfl) (by kernel_rfl) (by kernel_rfl) (fun _ _ _ h => h) (Or.inl ⟨by rfl, fun w' hS => by (have s0 := hS; go_simp)⟩) hHeld ?_
    simp only [Act.put, List.getElem_toArray, List.getElem_cons_zero, List.getElem_cons_succ, List.setIfInBounds_toArray, List.set_cons_zero, List.set_cons_succ]
    refine wpAnyH_take (i := 6) (v := .int .i64 (s : Int)) rfl (by kernel_rfl) (by kernel_rfl) (by kernel_rfl) (fun _ _ _ h => h) (Or.inl ⟨by rfl, fun w' hS => by go_simp⟩) hHeld ?_
    simp only [Act.put, List.getElem_toArray, List.getElem_cons_zero, List.getElem_cons_succ, List.setIfInBounds_toArray, List.set_cons_zero, List.set_cons_succ]
    refine wpAnyH_take (i := 7) (v := .int .i64 (1 - (s : Int))) rfl (by kernel_rfl) (by kernel_rfl) (by kernel_rfl) (fun _ _ _ h => h) (Or.inl ⟨by rfl, fun w' hS => by (go_simp <;> exact wrap_id (by omega) (by omega))⟩) hHeld ?_
    simp only [Act.put, List.getElem_toArray, List.getElem_cons_zero, List.getElem_cons_succ, List.setIfInBounds_toArray, List.set_cons_zero, List.set_cons_succ]
    have hbD : Below w.heap.size w w.drew := drew_bel _
    have hXD := HX0.out.still hbD
    have qm := below_at hbD cm
    clear cm
    generalize w.drew = D0 at *
    refine wpAnyH_ready (rs := [8, 13]) (by kernel_rfl) (by simp) ?_
    refine AllReadyH.cons rfl (fun K hK => ?_) (AllReadyH.cons rfl (fun K hK => ?_) AllReadyH.nil)
    · go_simp
      refine (pid_any j1 j2).mono ?_
      rintro e w2 ⟨rfl, rfl⟩
      refine hK.out _ _ qm (fun hHeld => ?_)
      clear hK K
      refine wpAnyH_ready (rs := [9, 13]) (by kernel_rfl) (by simp) ?_
      refine AllReadyH.cons rfl (fun K hK => ?_) (AllReadyH.cons rfl (fun K hK => ?_) AllReadyH.nil)
      · go_simp
        refine (HO.out D0 _ (Below.refl _ _) hXD).mono ?_
        rintro e w3 ⟨rfl, hst⟩
        have qm3 : w3.cell? ⟨X.b, s, none⟩ = some (.pointer (some ⟨(X.m s).b, 0, none⟩)) := HCM.out _ hst.ok hst.b
        refine hK.out _ _ qm3 (fun hHeld => ?_)
        clear hK K
        refine wpAnyH_take (i := 10) (v := .tuple #[.agg #[.int .i64 x0, .int .i64 x1, .int .i64 x2, .int .i64 x3, .int .i64 x4], .bool bb]) rfl (by kernel_rfl) (by kernel_rfl) (by kernel_rfl) (fun _ _ _ h => h) (Or.inl ⟨by rfl, fun w' hS => by go_simp⟩) hHeld ?_
        simp only [Act.put, List.getElem_toArray, List.getElem_cons_zero, List.getElem_cons_succ, List.setIfInBounds_toArray, List.set_cons_zero, List.set_cons_succ]
        refine wpAnyH_take (i := 11) (v := .agg #[.int .i64 x0, .int .i64 x1, .int .i64 x2, .int .i64 x3, .int .i64 x4]) rfl (by kernel_rfl) (by kernel_rfl) (by kernel_rfl) (fun _ _ _ h => h) (Or.inl ⟨by rfl, fun w' hS => by go_simp⟩) hHeld ?_
        simp only [Act.put, List.getElem_toArray, List.getElem_cons_zero, List.getElem_cons_succ, List.setIfInBounds_toArray, List.set_cons_zero, List.set_cons_succ]
        refine wpAnyH_take (i := 12) (v := .bool bb) rfl (by kernel_rfl) (by kernel_rfl) (by kernel_rfl) (fun _ _ _ h => h) (Or.inl ⟨by rfl, fun w' hS => by go_simp⟩) hHeld ?_
        simp only [Act.put, List.getElem_toArray, List.getElem_cons_zero, List.getElem_cons_succ, List.setIfInBounds_toArray, List.set_cons_zero, List.set_cons_succ]
        refine wpAnyH_ready (rs := [13]) (by kernel_rfl) (by simp) ?_
        refine AllReadyH.cons rfl (fun K hK => ?_) AllReadyH.nil
        go_simp
        refine hK.out _ _ (below_at (balloc (Below.refl _ _)) qm3) (fun hHeld => ?_)
        clear hK K
        obtain ⟨va1, va2⟩ := var_after (w3 := w3) [.int .i64 x0, .int .i64 x1, .int .i64 x2, .int .i64 x3, .int .i64 x4] rfl
        have hth : (w3.alloc (.cells #[.int .i64 0, .int .i64 0, .int .i64 0, .int .i64 0, .int .i64 0] 57)).there w3.heap.size 0 5 := new_there w3 57 _ rfl
        refine wpAnyH_ready (rs := [14]) (by kernel_rfl) (by simp) ?_
        refine AllReadyH.cons rfl (fun K hK => ?_) AllReadyH.nil
        refine step_storeL rfl 57 (.tmp 5) (.tmp 20) rfl (L := [.int .i64 x0, .int .i64 x1, .int .i64 x2, .int .i64 x3, .int .i64 x4]) rfl rfl hth info_ack (ones5 _ _ _ _ _) ?_
        refine hK.out _ _ (HCM.out _ ((hst.post va1).ok) (hst.b)) (fun hHeld => ?_)
        clear hK K
        simp only [Act.put, List.getElem_toArray, List.getElem_cons_zero, List.getElem_cons_succ, List.setIfInBounds_toArray, List.set_cons_zero, List.set_cons_succ]
        refine wpAnyH_take (i := 15) (v := .bool bb) rfl (by kernel_rfl) (by kernel_rfl) (by kernel_rfl) (fun _ _ _ h => h) (Or.inl ⟨by rfl, fun w' hS => by go_simp⟩) hHeld ?_
        simp only [Act.put, List.getElem_toArray, List.getElem_cons_zero, List.getElem_cons_succ, List.setIfInBounds_toArray, List.set_cons_zero, List.set_cons_succ]
        refine wpAnyH_done (by kernel_rfl) ?_ _
        clear hHeld
        go_wp2
        go_meet
        exact ⟨w3.heap.size, rfl, rfl, va2, (Xstep.below HX0.out hbD).trans (hst.post va1), (fun e => by have := hst.ok.lt e; omega)⟩
      · go_simp
        refine hK.out _ _ (below_at (balloc (Below.refl _ _)) qm) (fun hHeld => ?_)
        clear hK K
        refine wpAnyH_ready (rs := [9]) (by kernel_rfl) (by simp) ?_
        refine AllReadyH.cons rfl (fun K hK => ?_) AllReadyH.nil
        go_simp
        refine (HO.out D0 _ (balloc (Below.refl _ _)) hXD).mono ?_
        rintro e w3 ⟨rfl, hst⟩
        have qm3 : w3.cell? ⟨X.b, s, none⟩ = some (.pointer (some ⟨(X.m s).b, 0, none⟩)) := HCM.out _ hst.ok hst.b
        refine hK.out _ _ qm3 (fun hHeld => ?_)
        clear hK K
        obtain ⟨va1, va2, hth, hno⟩ := var_before [.int .i64 x0, .int .i64 x1, .int .i64 x2, .int .i64 x3, .int .i64 x4] rfl hXD hst
        refine wpAnyH_take (i := 10) (v := .tuple #[.agg #[.int .i64 x0, .int .i64 x1, .int .i64 x2, .int .i64 x3, .int .i64 x4], .bool bb]) rfl (by kernel_rfl) (by kernel_rfl) (by kernel_rfl) (fun _ _ _ h => h) (Or.inl ⟨by rfl, fun w' hS => by go_simp⟩) hHeld ?_
        simp only [Act.put, List.getElem_toArray, List.getElem_cons_zero, List.getElem_cons_succ, List.setIfInBounds_toArray, List.set_cons_zero, List.set_cons_succ]
        refine wpAnyH_take (i := 11) (v := .agg #[.int .i64 x0, .int .i64 x1, .int .i64 x2, .int .i64 x3, .int .i64 x4]) rfl (by kernel_rfl) (by kernel_rfl) (by kernel_rfl) (fun _ _ _ h => h) (Or.inl ⟨by rfl, fun w' hS => by go_simp⟩) hHeld ?_
        simp only [Act.put, List.getElem_toArray, List.getElem_cons_zero, List.getElem_cons_succ, List.setIfInBounds_toArray, List.set_cons_zero, List.set_cons_succ]
        refine wpAnyH_take (i := 12) (v := .bool bb) rfl (by kernel_rfl) (by kernel_rfl) (by kernel_rfl) (fun _ _ _ h => h) (Or.inl ⟨by rfl, fun w' hS => by go_simp⟩) hHeld ?_
        simp only [Act.put, List.getElem_toArray, List.getElem_cons_zero, List.getElem_cons_succ, List.setIfInBounds_toArray, List.set_cons_zero, List.set_cons_succ]
        refine wpAnyH_ready (rs := [14]) (by kernel_rfl) (by simp) ?_
        refine AllReadyH.cons rfl (fun K hK => ?_) AllReadyH.nil
        refine step_storeL rfl 57 (.tmp 5) (.tmp 20) rfl (L := [.int .i64 x0, .int .i64 x1, .int .i64 x2, .int .i64 x3, .int .i64 x4]) rfl rfl hth info_ack (ones5 _ _ _ _ _) ?_
        refine hK.out _ _ (HCM.out _ (va1.ok) (va1.b)) (fun hHeld => ?_)
        clear hK K
        simp only [Act.put, List.getElem_toArray, List.getElem_cons_zero, List.getElem_cons_succ, List.setIfInBounds_toArray, List.set_cons_zero, List.set_cons_succ]
        refine wpAnyH_take (i := 15) (v := .bool bb) rfl (by kernel_rfl) (by kernel_rfl) (by kernel_rfl) (fun _ _ _ h => h) (Or.inl ⟨by rfl, fun w' hS => by go_simp⟩) hHeld ?_
        simp only [Act.put, List.getElem_toArray, List.getElem_cons_zero, List.getElem_cons_succ, List.setIfInBounds_toArray, List.set_cons_zero, List.set_cons_succ]
        refine wpAnyH_done (by kernel_rfl) ?_ _
        clear hHeld
        go_wp2
        go_meet
        exact ⟨D0.heap.size, rfl, rfl, va2, (Xstep.below HX0.out hbD).trans va1, hno⟩
    · go_simp
      refine hK.out _ _ (below_at (balloc (Below.refl _ _)) qm) (fun hHeld => ?_)
      clear hK K
      refine wpAnyH_ready (rs := [8]) (by kernel_rfl) (by simp) ?_
      refine AllReadyH.cons rfl (fun K hK => ?_) AllReadyH.nil
      go_simp
      refine (pid_any j1 j2).mono ?_
      rintro e w2 ⟨rfl, rfl⟩
      refine hK.out _ _ (below_at (balloc (Below.refl _ _)) qm) (fun hHeld => ?_)
      clear hK K
      refine wpAnyH_ready (rs := [9]) (by kernel_rfl) (by simp) ?_
      refine AllReadyH.cons rfl (fun K hK => ?_) AllReadyH.nil
      go_simp
      refine (HO.out D0 _ (balloc (Below.refl _ _)) hXD).mono ?_
      rintro e w3 ⟨rfl, hst⟩
      have qm3 : w3.cell? ⟨X.b, s, none⟩ = some (.pointer (some ⟨(X.m s).b, 0, none⟩)) := HCM.out _ hst.ok hst.b
      refine hK.out _ _ qm3 (fun hHeld => ?_)
      clear hK K
      obtain ⟨va1, va2, hth, hno⟩ := var_before [.int .i64 x0, .int .i64 x1, .int .i64 x2, .int .i64 x3, .int .i64 x4] rfl hXD hst
      refine wpAnyH_take (i := 10) (v := .tuple #[.agg #[.int .i64 x0, .int .i64 x1, .int .i64 x2, .int .i64 x3, .int .i64 x4], .bool bb]) rfl (by kernel_rfl) (by kernel_rfl) (by kernel_rfl) (fun _ _ _ h => h) (Or.inl ⟨by rfl, fun w' hS => by go_simp⟩) hHeld ?_
      simp only [Act.put, List.getElem_toArray, List.getElem_cons_zero, List.getElem_cons_succ, List.setIfInBounds_toArray, List.set_cons_zero, List.set_cons_succ]
      refine wpAnyH_take (i := 11) (v := .agg #[.int .i64 x0, .int .i64 x1, .int .i64 x2, .int .i64 x3, .int .i64 x4]) rfl (by kernel_rfl) (by kernel_rfl) (by kernel_rfl) (fun _ _ _ h => h) (Or.inl ⟨by rfl, fun w' hS => by go_simp⟩) hHeld ?_
      simp only [Act.put, List.getElem_toArray, List.getElem_cons_zero, List.getElem_cons_succ, List.setIfInBounds_toArray, List.set_cons_zero, List.set_cons_succ]
      refine wpAnyH_take (i := 12) (v := .bool bb) rfl (by kernel_rfl) (by kernel_rfl) (by kernel_rfl) (fun _ _ _ h => h) (Or.inl ⟨by rfl, fun w' hS => by go_simp⟩) hHeld ?_
      simp only [Act.put, List.getElem_toArray, List.getElem_cons_zero, List.getElem_cons_succ, List.setIfInBounds_toArray, List.set_cons_zero, List.set_cons_succ]
      refine wpAnyH_ready (rs := [14]) (by kernel_rfl) (by simp) ?_
      refine AllReadyH.cons rfl (fun K hK => ?_) AllReadyH.nil
      refine step_storeL rfl 57 (.tmp 5) (.tmp 20) rfl (L := [.int .i64 x0, .int .i64 x1, .int .i64 x2, .int .i64 x3, .int .i64 x4]) rfl rfl hth info_ack (ones5 _ _ _ _ _) ?_
      refine hK.out _ _ (HCM.out _ (va1.ok) (va1.b)) (fun hHeld => ?_)
      clear hK K
      simp only [Act.put, List.getElem_toArray, List.getElem_cons_zero, List.getElem_cons_succ, List.setIfInBounds_toArray, List.set_cons_zero, List.set_cons_succ]
      refine wpAnyH_take (i := 15) (v := .bool bb) rfl (by kernel_rfl) (by kernel_rfl) (by kernel_rfl) (fun _ _ _ h => h) (Or.inl ⟨by rfl, fun w' hS => by go_simp⟩) hHeld ?_
      simp only [Act.put, List.getElem_toArray, List.getElem_cons_zero, List.getElem_cons_succ, List.setIfInBounds_toArray, List.set_cons_zero, List.set_cons_succ]
      refine wpAnyH_done (by kernel_rfl) ?_ _
      clear hHeld
      go_wp2
      go_meet
      exact ⟨D0.heap.size, rfl, rfl, va2, (Xstep.below HX0.out hbD).trans va1, hno⟩
  case rest =>
  obtain ⟨kd, rfl, rfl, Hblk, Hst, Hno⟩ := hcut
  obtain ⟨rfl, rfl, rfl, rfl, rfl, rfl⟩ := HE.out
  have y0 : wc.cell? ⟨kd, 0, none⟩ = some (.int .i64 3) := blk_cell Hblk.out 0
  have y1 : wc.cell? ⟨kd, 1, none⟩ = some (.int .i64 2) := blk_cell Hblk.out 1
  have y2 : wc.cell? ⟨kd, 2, none⟩ = some (.int .i64 4) := blk_cell Hblk.out 2
  have y3 : wc.cell? ⟨kd, 3, none⟩ = some (.int .i64 9) := blk_cell Hblk.out 3
  have y4 : wc.cell? ⟨kd, 4, none⟩ = some (.int .i64 (ip : Int)) := blk_cell Hblk.out 4
  clear HO HCM Hblk cm HE
  go_upto_region 4 with (fail)
  go_cut [37] (fun _ wx => Hid (∃ g cap, Xstep w wx X (X1.addA s (.slice (some ⟨g, 0, none⟩) (rn + 1) cap) ip) B ∧ wx.cell? ⟨kd, 0, none⟩ = some (.int .i64 3) ∧ wx.cell? ⟨kd, 1, none⟩ = some (.int .i64 2) ∧ wx.cell? ⟨kd, 2, none⟩ = some (.int .i64 4) ∧ wx.cell? ⟨kd, 3, none⟩ = some (.int .i64 9) ∧ wx.cell? ⟨kd, 4, none⟩ = some (.int .i64 (ip : Int)) ∧ ¬ (X1.addA s (.slice (some ⟨g, 0, none⟩) (rn + 1) cap) ip).own kd))
  case first =>
    go_wp2_with (fail)
    refine wp_region_held_drew (S := (fun w' => w'.cell? ⟨kd, 0, none⟩ = some (.int .i64 3) ∧ w'.cell? ⟨kd, 1, none⟩ = some (.int .i64 2) ∧ w'.cell? ⟨kd, 2, none⟩ = some (.int .i64 4) ∧ w'.cell? ⟨kd, 3, none⟩ = some (.int .i64 9) ∧ w'.cell? ⟨kd, 4, none⟩ = some (.int .i64 (ip : Int)))) (by kernel_rfl) ⟨below_at (drew_bel _) y0, below_at (drew_bel _) y1, below_at (drew_bel _) y2, below_at (drew_bel _) y3, below_at (drew_bel _) y4⟩ (fun hHeld => ?_)
    simp only [Act.put, List.size_toArray, List.length_cons, List.length_nil, Nat.zero_add]
    refine wpAnyH_take (i := 0) (v := .pointer (some ⟨X.b, 0, none⟩)) rfl (by kernel_rfl) (by kernel_rfl) (by kernel_rfl) (fun _ _ _ h => h) (Or.inl ⟨by rfl, fun w' hS => by go_simp⟩) hHeld ?_
    simp only [Act.put, List.getElem_toArray, List.getElem_cons_zero, List.getElem_cons_succ, List.setIfInBounds_toArray, List.set_cons_zero, List.set_cons_succ]
    refine wpAnyH_take (i := 1) (v := .int .i64 (s : Int)) rfl (by kernel_rfl) (by kernel_rfl) (by kernel_rfl) (fun _ _ _ h => h) (Or.inl ⟨by rfl, fun w' hS => by go_simp⟩) hHeld ?_
    simp only [Act.put, List.getElem_toArray, List.getElem_cons_zero, List.getElem_cons_succ, List.setIfInBounds_toArray, List.set_cons_zero, List.set_cons_succ]
    refine wpAnyH_take (i := 2) (v := .pointer (some ⟨X.b, 0, none⟩)) rfl (by kernel_rfl) (by kernel_rfl) (by kernel_rfl) (fun _ _ _ h => h) (Or.inl ⟨by rfl, fun w' hS => by go_simp⟩) hHeld ?_
    simp only [Act.put, List.getElem_toArray, List.getElem_cons_zero, List.getElem_cons_succ, List.setIfInBounds_toArray, List.set_cons_zero, List.set_cons_succ]
    refine wpAnyH_take (i := 3) (v := .int .i64 (s : Int)) rfl (by kernel_rfl) (by kernel_rfl) (by kernel_rfl) (fun _ _ _ h => h) (Or.inl ⟨by rfl, fun w' hS => by go_simp⟩) hHeld ?_
    simp only [Act.put, List.getElem_toArray, List.getElem_cons_zero, List.getElem_cons_succ, List.setIfInBounds_toArray, List.set_cons_zero, List.set_cons_succ]
    refine wpAnyH_take (i := 4) (v := .pointer (some ⟨X.b, 0, none⟩)) rfl (by kernel_rfl) (by kernel_rfl) (by kernel_rfl) (fun _ _ _ h => h) (Or.inl ⟨by rfl, fun w' hS => by go_simp⟩) hHeld ?_
    simp only [Act.put, List.getElem_toArray, List.getElem_cons_zero, List.getElem_cons_succ, List.setIfInBounds_toArray, List.set_cons_zero, List.set_cons_succ]
    refine wpAnyH_take (i := 5) (v := .pointer (some ⟨X.b, 10, none⟩)) rfl (by kernel_rfl) (by kernel_rfl) (by kernel_rfl) (fun _ _ _ h => h) (Or.inl ⟨by rfl, fun w' hS => by go_simp⟩) hHeld ?_
    simp only [Act.put, List.getElem_toArray, List.getElem_cons_zero, List.getElem_cons_succ, List.setIfInBounds_toArray, List.set_cons_zero, List.set_cons_succ]
    refine wpAnyH_take (i := 6) (v := .pointer (some ⟨X.b, 10 + s, none⟩)) rfl (by kernel_rfl) (by kernel_rfl) (by kernel_rfl) (fun _ _ _ h => h) (Or.inl ⟨by rfl, fun w' hS => by go_simp⟩) hHeld ?_
    simp only [Act.put, List.getElem_toArray, List.getElem_cons_zero, List.getElem_cons_succ, List.setIfInBounds_toArray, List.set_cons_zero, List.set_cons_succ]
    refine wpAnyH_take (i := 8) (v := .agg #[.int .i64 3, .int .i64 2, .int .i64 4, .int .i64 9, .int .i64 (ip : Int)]) rfl (by kernel_rfl) (by kernel_rfl) (by kernel_rfl) (fun _ _ _ h => h) (Or.inl ⟨by rfl, fun w' hS => by (obtain ⟨t0, t1, t2, t3, t4⟩ := hS; go_simp)⟩) hHeld ?_
    simp only [Act.put, List.getElem_toArray, List.getElem_cons_zero, List.getElem_cons_succ, List.setIfInBounds_toArray, List.set_cons_zero, List.set_cons_succ]
    refine wpAnyH_take (i := 11) (v := .pointer (some ⟨X.b, 0, none⟩)) rfl (by kernel_rfl) (by kernel_rfl) (by kernel_rfl) (fun _ _ _ h => h) (Or.inl ⟨by rfl, fun w' hS => by go_simp⟩) hHeld ?_
    simp only [Act.put, List.getElem_toArray, List.getElem_cons_zero, List.getElem_cons_succ, List.setIfInBounds_toArray, List.set_cons_zero, List.set_cons_succ]
    refine wpAnyH_take (i := 12) (v := .pointer (some ⟨X.b, 10, none⟩)) rfl (by kernel_rfl) (by kernel_rfl) (by kernel_rfl) (fun _ _ _ h => h) (Or.inl ⟨by rfl, fun w' hS => by go_simp⟩) hHeld ?_
    simp only [Act.put, List.getElem_toArray, List.getElem_cons_zero, List.getElem_cons_succ, List.setIfInBounds_toArray, List.set_cons_zero, List.set_cons_succ]
    have hbD : Below wc.heap.size wc wc.drew := drew_bel _
    have hx1D := Hst.out.post hbD
    have rv : wc.drew.cell? ⟨X.b, 10 + s, none⟩ = some (.slice ra rn rc) := by have e2 := hx1D.ok.cr (i := 10 + s) (by omega) (by omega); rw [HX1v.out, HX1b.out] at e2; exact e2
    have q0 := below_at hbD y0
    have q1 := below_at hbD y1
    have q2 := below_at hbD y2
    have q3 := below_at hbD y3
    have q4 := below_at hbD y4
    clear y0 y1 y2 y3 y4
    generalize wc.drew = D4 at *
    refine wpAnyH_ready (rs := [7, 9]) (by kernel_rfl) (by simp) ?_
    refine AllReadyH.cons rfl (fun K hK => ?_) (AllReadyH.cons rfl (fun K hK => ?_) AllReadyH.nil)
    · go_simp
      refine hK.out _ _ ⟨q0, q1, q2, q3, q4⟩ (fun hHeld => ?_)
      clear hK K
      refine wpAnyH_ready (rs := [9]) (by kernel_rfl) (by simp) ?_
      refine AllReadyH.cons rfl (fun K hK => ?_) AllReadyH.nil
      go_simp
      refine hK.out _ _ ⟨below_at (balloc (Below.refl _ _)) q0, below_at (balloc (Below.refl _ _)) q1, below_at (balloc (Below.refl _ _)) q2, below_at (balloc (Below.refl _ _)) q3, below_at (balloc (Below.refl _ _)) q4⟩ (fun hHeld => ?_)
      clear hK K
      refine wpAnyH_ready (rs := [10]) (by kernel_rfl) (by simp) ?_
      refine AllReadyH.cons rfl (fun K hK => ?_) AllReadyH.nil
      refine step_pushA (B := B) rfl (.tmp 34) (.tmp 36) rfl D4 (.slice ra rn rc) ((X.a s).flatMap akc) ip rfl rn (show D4.ownsRow B 57 5 (.slice ra rn rc) rn _ from by have e2 := hx1D.ok.rowa hs; rw [HX1v.out, HX1a.out, Hrn.out] at e2; exact e2) rfl rfl (by omega) (Nat.le_trans HBs.out hx1D.kept.size) (fun g cap w6 ho6 hk6 hg6 _ => ?_)
      have hx2 := addA_step (u := ip) hx1D.ok hs (n := rn) (by rw [HX1a.out]; exact Hrn.out.symm) (by rw [HX1a.out]; exact ho6) (by rw [HX1v.out]; exact hk6) (by rw [HX1v.out]; exact hg6)
      have hne6 : ¬ (Value.slice ra rn rc).ownBlock = some X.b := fun e => hx1D.ok.row_b (i := 10 + s) (by omega) (by omega) (by rw [HX1v.out]; exact e) HX1b.out.symm
      have hov : w6.cell? ⟨X.b, 10 + s, none⟩ = some (.slice ra rn rc) := kept_cell hk6 hne6 rv
      have fv := frozen_of_row w6 X.b (10 + s) _ _ (hk6.obj (by rw [← HX1b.out]; exact hx1D.ok.blk) hne6)
      have hkn : ¬ (Value.slice ra rn rc).ownBlock = some kd := fun e => Hno.out (own_r (i := 10 + s) (by omega) (by omega) (by rw [HX1v.out]; exact e))
      refine hK.out _ _ ⟨kept_cell hk6 hkn q0, kept_cell hk6 hkn q1, kept_cell hk6 hkn q2, kept_cell hk6 hkn q3, kept_cell hk6 hkn q4⟩ (fun hHeld => ?_)
      clear hK K
      simp only [Act.put, List.getElem_toArray, List.getElem_cons_zero, List.getElem_cons_succ, List.setIfInBounds_toArray, List.set_cons_zero, List.set_cons_succ]
      refine wpAnyH_take (i := 13) (v := .pointer (some ⟨X.b, 10 + s, none⟩)) rfl (by kernel_rfl) (by kernel_rfl) (by kernel_rfl) (fun _ _ _ h => h) (Or.inl ⟨by rfl, fun w' hS => by go_simp⟩) hHeld ?_
      simp only [Act.put, List.getElem_toArray, List.getElem_cons_zero, List.getElem_cons_succ, List.setIfInBounds_toArray, List.set_cons_zero, List.set_cons_succ]
      rw [HX1b.out] at hx2
      have hkl : ∀ (j : Nat) (v : Value), D4.cell? ⟨kd, j, none⟩ = some v → (w6.setCell ⟨X.b, 10 + s, none⟩ (.slice (some ⟨g, 0, none⟩) (rn + 1) cap)).cell? ⟨kd, j, none⟩ = some v := fun j v hc => kept_cell hx2.kept Hno.out hc
      refine wpAnyH_ready (rs := [14]) (by kernel_rfl) (by simp) ?_
      refine AllReadyH.cons rfl (fun K hK => ?_) AllReadyH.nil
      go_simp
      refine hK.out _ _ ⟨hkl 0 _ q0, hkl 1 _ q1, hkl 2 _ q2, hkl 3 _ q3, hkl 4 _ q4⟩ (fun hHeld => ?_)
      clear hK K
      refine wpAnyH_done (by kernel_rfl) ?_ _
      clear hHeld
      try simp only [Act.put, List.getElem_toArray, List.getElem_cons_zero, List.getElem_cons_succ, List.setIfInBounds_toArray, List.set_cons_zero, List.set_cons_succ]
      go_wp2
      go_meet
      exact ⟨g, cap, hx1D.trans hx2, hkl 0 _ q0, hkl 1 _ q1, hkl 2 _ q2, hkl 3 _ q3, hkl 4 _ q4, (fun e => (hx2.own _ e).elim Hno.out (fun hh => by have h9 : kd < D4.heap.size := World.block_lt_of_cell? D4 _ q0; omega))⟩
    · go_simp
      refine hK.out _ _ ⟨below_at (balloc (Below.refl _ _)) q0, below_at (balloc (Below.refl _ _)) q1, below_at (balloc (Below.refl _ _)) q2, below_at (balloc (Below.refl _ _)) q3, below_at (balloc (Below.refl _ _)) q4⟩ (fun hHeld => ?_)
      clear hK K
      have rvA := below_at (balloc (o := .cells #[.int .i64 3, .int .i64 2, .int .i64 4, .int .i64 9, .int .i64 (ip : Int)] 57) (Below.refl _ _)) rv
      refine wpAnyH_ready (rs := [7]) (by kernel_rfl) (by simp) ?_
      refine AllReadyH.cons rfl (fun K hK => ?_) AllReadyH.nil
      go_simp
      refine hK.out _ _ ⟨below_at (balloc (Below.refl _ _)) q0, below_at (balloc (Below.refl _ _)) q1, below_at (balloc (Below.refl _ _)) q2, below_at (balloc (Below.refl _ _)) q3, below_at (balloc (Below.refl _ _)) q4⟩ (fun hHeld => ?_)
      clear hK K
      refine wpAnyH_ready (rs := [10]) (by kernel_rfl) (by simp) ?_
      refine AllReadyH.cons rfl (fun K hK => ?_) AllReadyH.nil
      refine step_pushA (B := B) rfl (.tmp 34) (.tmp 36) rfl D4 (.slice ra rn rc) ((X.a s).flatMap akc) ip rfl rn (show D4.ownsRow B 57 5 (.slice ra rn rc) rn _ from by have e2 := hx1D.ok.rowa hs; rw [HX1v.out, HX1a.out, Hrn.out] at e2; exact e2) rfl rfl (by omega) (Nat.le_trans HBs.out hx1D.kept.size) (fun g cap w6 ho6 hk6 hg6 _ => ?_)
      have hx2 := addA_step (u := ip) hx1D.ok hs (n := rn) (by rw [HX1a.out]; exact Hrn.out.symm) (by rw [HX1a.out]; exact ho6) (by rw [HX1v.out]; exact hk6) (by rw [HX1v.out]; exact hg6)
      have hne6 : ¬ (Value.slice ra rn rc).ownBlock = some X.b := fun e => hx1D.ok.row_b (i := 10 + s) (by omega) (by omega) (by rw [HX1v.out]; exact e) HX1b.out.symm
      have hov : w6.cell? ⟨X.b, 10 + s, none⟩ = some (.slice ra rn rc) := kept_cell hk6 hne6 rv
      have fv := frozen_of_row w6 X.b (10 + s) _ _ (hk6.obj (by rw [← HX1b.out]; exact hx1D.ok.blk) hne6)
      have hkn : ¬ (Value.slice ra rn rc).ownBlock = some kd := fun e => Hno.out (own_r (i := 10 + s) (by omega) (by omega) (by rw [HX1v.out]; exact e))
      refine hK.out _ _ ⟨kept_cell hk6 hkn q0, kept_cell hk6 hkn q1, kept_cell hk6 hkn q2, kept_cell hk6 hkn q3, kept_cell hk6 hkn q4⟩ (fun hHeld => ?_)
      clear hK K
      simp only [Act.put, List.getElem_toArray, List.getElem_cons_zero, List.getElem_cons_succ, List.setIfInBounds_toArray, List.set_cons_zero, List.set_cons_succ]
      refine wpAnyH_take (i := 13) (v := .pointer (some ⟨X.b, 10 + s, none⟩)) rfl (by kernel_rfl) (by kernel_rfl) (by kernel_rfl) (fun _ _ _ h => h) (Or.inl ⟨by rfl, fun w' hS => by go_simp⟩) hHeld ?_
      simp only [Act.put, List.getElem_toArray, List.getElem_cons_zero, List.getElem_cons_succ, List.setIfInBounds_toArray, List.set_cons_zero, List.set_cons_succ]
      rw [HX1b.out] at hx2
      have hkl : ∀ (j : Nat) (v : Value), D4.cell? ⟨kd, j, none⟩ = some v → (w6.setCell ⟨X.b, 10 + s, none⟩ (.slice (some ⟨g, 0, none⟩) (rn + 1) cap)).cell? ⟨kd, j, none⟩ = some v := fun j v hc => kept_cell hx2.kept Hno.out hc
      refine wpAnyH_ready (rs := [14]) (by kernel_rfl) (by simp) ?_
      refine AllReadyH.cons rfl (fun K hK => ?_) AllReadyH.nil
      go_simp
      refine hK.out _ _ ⟨hkl 0 _ q0, hkl 1 _ q1, hkl 2 _ q2, hkl 3 _ q3, hkl 4 _ q4⟩ (fun hHeld => ?_)
      clear hK K
      refine wpAnyH_done (by kernel_rfl) ?_ _
      clear hHeld
      try simp only [Act.put, List.getElem_toArray, List.getElem_cons_zero, List.getElem_cons_succ, List.setIfInBounds_toArray, List.set_cons_zero, List.set_cons_succ]
      go_wp2
      go_meet
      exact ⟨g, cap, hx1D.trans hx2, hkl 0 _ q0, hkl 1 _ q1, hkl 2 _ q2, hkl 3 _ q3, hkl 4 _ q4, (fun e => (hx2.own _ e).elim Hno.out (fun hh => by have h9 : kd < D4.heap.size := World.block_lt_of_cell? D4 _ q0; omega))⟩
  case rest =>
  clear y0 y1 y2 y3 y4 Hst Hno
  obtain ⟨g, cap, hst2, y0, y1, y2, y3, y4, hno2⟩ := hcut.out
  obtain ⟨X2, hX2⟩ : ∃ Y, Y = X1.addA s (.slice (some ⟨g, 0, none⟩) (rn + 1) cap) ip := ⟨_, rfl⟩
  rw [← hX2] at hst2 hno2
  have HX2 : Hid (X2.b = X.b ∧ X2.e s = e0 ∧ X2.m s = (X.m s).put (pid (1 - s)) e0 ∧ X2.v (6 + s) = .slice oa ol oc ∧ X2.pu = X.pu.owe s) := (show _ ∧ _ from by
    obtain ⟨a1, a2, a3, a4, a5, a6, a7⟩ := HX1e.out
    refine ⟨hst2.b, by rw [hX2]; exact a1, by rw [hX2]; exact a2, ?_, ?_⟩
    · rw [hX2]; show upd X1.v (10 + s) _ (6 + s) = _; rw [upd_ne _ _ (by omega), a7]; exact Hov.out
    · rw [hX2, addA_pu, a5, a4, HPo.out]; rfl)
  clear hX2 hcut
  have Hst2 : Hid (Xstep w wc X X2 B) := hst2
  have Hno2 : Hid (¬ X2.own kd) := hno2
  have HY0 : Hid (X2.Ok wc B) := hst2.ok
  have cm : wc.cell? ⟨X.b, s, none⟩ = some (.pointer (some ⟨(X.m s).b, 0, none⟩)) := by have e2 := hst2.ok.cm hs; rw [HX2.out.2.2.1, HX2.out.1] at e2; exact e2
  obtain ⟨v0, hv0⟩ : ∃ x : Int, x = 0 := ⟨_, rfl⟩
  obtain ⟨v1, hv1⟩ : ∃ x : Int, x = 0 := ⟨_, rfl⟩
  obtain ⟨v2, hv2⟩ : ∃ x : Int, x = 0 := ⟨_, rfl⟩
  obtain ⟨v3, hv3⟩ : ∃ x : Int, x = 0 := ⟨_, rfl⟩
  obtain ⟨v4, hv4⟩ : ∃ x : Int, x = 0 := ⟨_, rfl⟩
  obtain ⟨b2b, hb2b⟩ : ∃ b, b = false := ⟨_, rfl⟩
  obtain ⟨X3, hX3⟩ : ∃ Y, Y = X2 := ⟨_, rfl⟩
  have HO2 : Hid (∀ D0 D', Below D0.heap.size D0 D' → X2.Ok D0 B → Calls Try.prog 24 #[.pointer (some ⟨(X.m s).b, 0, none⟩), .int .i64 (2 + 3 * (1 - (s : Int)))] D' fun e w' => e = .returned (.tuple #[.agg #[.int .i64 v0, .int .i64 v1, .int .i64 v2, .int .i64 v3, .int .i64 v4], .bool b2b]) ∧ Xstep D' w' X2 X3 B) := fun D0 D' hb h0 => by
    have h1 := h0.still hb
    have e2 := owed_none (h1.mo s hs) (qat h1 hs) (by rw [HX2.out.2.1]; exact HX1e.out.2.2.1)
    rw [HX2.out.2.2.1] at e2
    refine e2.mono ?_
    rintro e w' ⟨rfl, hb2⟩
    rw [hv0, hv1, hv2, hv3, hv4, hb2b, hX3]
    exact ⟨rfl, Xstep.below h1 hb2⟩
  have HCM2 : Hid (∀ w3 : World, X3.Ok w3 B → X3.b = X2.b → w3.cell? ⟨X.b, s, none⟩ = some (.pointer (some ⟨(X.m s).b, 0, none⟩))) := fun w3 h3 _ => by rw [hX3] at h3; have e2 := h3.cm hs; rw [HX2.out.2.2.1, HX2.out.1] at e2; exact e2
  have HE2 : Hid (b2b = false) := hb2b
  have HX3 : Hid (X3 = X2) := hX3
  clear hv0 hv1 hv2 hv3 hv4 hb2b hst2 hno2 hX3
  obtain ⟨wd, rfl⟩ : ∃ x : World, x = wc := ⟨_, rfl⟩
  go_upto_region 5 with (fail)
  go_cut [7, 8] (fun va vb wx => ∃ kd : Nat, va = .pointer (some ⟨kd, 0, none⟩) ∧ vb = .bool b2b ∧ Hid (wx.heap[kd]? = some (.cells [.int .i64 v0, .int .i64 v1, .int .i64 v2, .int .i64 v3, .int .i64 v4].toArray 57 (0, 0))) ∧ Hid (Xstep wd wx X2 X3 B) ∧ Hid (¬ X3.own kd))
  case first =>
    go_wp2_with (fail)
    refine wp_region_held_drew (S := (fun w' => w'.cell? ⟨X.b, s, none⟩ = some (.pointer (some ⟨(X.m s).b, 0, none⟩)))) (by kernel_rfl) (below_at (drew_bel _) cm) (fun hHeld => ?_)
    simp only [Act.put, List.size_toArray, List.length_cons, List.length_nil, Nat.zero_add]
    refine wpAnyH_take (i := 0) (v := .pointer (some ⟨X.b, 0, none⟩)) rfl (by kernel_rfl) (by kernel_rfl) (by kernel_rfl) (fun _ _ _ h => h) (Or.inl ⟨by rfl, fun w' hS => by go_simp⟩) hHeld ?_
    simp only [Act.put, List.getElem_toArray, List.getElem_cons_zero, List.getElem_cons_succ, List.setIfInBounds_toArray, List.set_cons_zero, List.set_cons_succ]
    refine wpAnyH_take (i := 1) (v := .int .i64 (s : Int)) rfl (by kernel_rfl) (by kernel_rfl) (by kernel_rfl) (fun _ _ _ h => h) (Or.inl ⟨by rfl, fun w' hS => by go_simp⟩) hHeld ?_
    simp only [Act.put, List.getElem_toArray, List.getElem_cons_zero, List.getElem_cons_succ, List.setIfInBounds_toArray, List.set_cons_zero, List.set_cons_succ]
    refine wpAnyH_take (i := 2) (v := .pointer (some ⟨X.b, 0, none⟩)) rfl (by kernel_rfl) (by kernel_rfl) (by kernel_rfl) (fun _ _ _ h => h) (Or.inl ⟨by rfl, fun w' hS => by go_simp⟩) hHeld ?_
    simp only [Act.put, List.getElem_toArray, List.getElem_cons_zero, List.getElem_cons_succ, List.setIfInBounds_toArray, List.set_cons_zero, List.set_cons_succ]
    refine wpAnyH_take (i := 3) (v := .pointer (some ⟨X.b, 0, none⟩)) rfl (by kernel_rfl) (by kernel_rfl) (by kernel_rfl) (fun _ _ _ h => h) (Or.inl ⟨by rfl, fun w' hS => by go_simp⟩) hHeld ?_
    simp only [Act.put, List.getElem_toArray, List.getElem_cons_zero, List.getElem_cons_succ, List.setIfInBounds_toArray, List.set_cons_zero, List.set_cons_succ]
    refine wpAnyH_take (i := 4) (v := .pointer (some ⟨X.b, s, none⟩)) rfl (by kernel_rfl) (by kernel_rfl) (by kernel_rfl) (fun _ _ _ h => h) (Or.inl ⟨by rfl, fun w' hS => by go_simp⟩) hHeld ?_
    simp only [Act.put, List.getElem_toArray, List.getElem_cons_zero, List.getElem_cons_succ, List.setIfInBounds_toArray, List.set_cons_zero, List.set_cons_succ]
    refine wpAnyH_take (i := 5) (v := .pointer (some ⟨(X.m s).b, 0, none⟩)) rfl (by kernel_rfl) (by kernel_rfl) (by kernel_rfl) (fun _ _ _ h => h) (Or.inl ⟨by rfl, fun w' hS => by (have s0 := hS; go_simp)⟩) hHeld ?_
    simp only [Act.put, List.getElem_toArray, List.getElem_cons_zero, List.getElem_cons_succ, List.setIfInBounds_toArray, List.set_cons_zero, List.set_cons_succ]
    refine wpAnyH_take (i := 6) (v := .int .i64 (s : Int)) rfl (by kernel_rfl) (by kernel_rfl) (by kernel_rfl) (fun _ _ _ h => h) (Or.inl ⟨by rfl, fun w' hS => by go_simp⟩) hHeld ?_
    simp only [Act.put, List.getElem_toArray, List.getElem_cons_zero, List.getElem_cons_succ, List.setIfInBounds_toArray, List.set_cons_zero, List.set_cons_succ]
    refine wpAnyH_take (i := 7) (v := .int .i64 (1 - (s : Int))) rfl (by kernel_rfl) (by kernel_rfl) (by kernel_rfl) (fun _ _ _ h => h) (Or.inl ⟨by rfl, fun w' hS => by (go_simp <;> exact wrap_id (by omega) (by omega))⟩) hHeld ?_
    simp only [Act.put, List.getElem_toArray, List.getElem_cons_zero, List.getElem_cons_succ, List.setIfInBounds_toArray, List.set_cons_zero, List.set_cons_succ]
    have hbD : Below wd.heap.size wd wd.drew := drew_bel _
    have hXD := HY0.out.still hbD
    have qm := below_at hbD cm
    clear cm
    generalize wd.drew = D0 at *
    refine wpAnyH_ready (rs := [8, 13]) (by kernel_rfl) (by simp) ?_
    refine AllReadyH.cons rfl (fun K hK => ?_) (AllReadyH.cons rfl (fun K hK => ?_) AllReadyH.nil)
    · go_simp
      refine (pid_any j1 j2).mono ?_
      rintro e w2 ⟨rfl, rfl⟩
      refine hK.out _ _ qm (fun hHeld => ?_)
      clear hK K
      refine wpAnyH_ready (rs := [9, 13]) (by kernel_rfl) (by simp) ?_
      refine AllReadyH.cons rfl (fun K hK => ?_) (AllReadyH.cons rfl (fun K hK => ?_) AllReadyH.nil)
      · go_simp
        refine (HO2.out D0 _ (Below.refl _ _) hXD).mono ?_
        rintro e w3 ⟨rfl, hst⟩
        have qm3 : w3.cell? ⟨X.b, s, none⟩ = some (.pointer (some ⟨(X.m s).b, 0, none⟩)) := HCM2.out _ hst.ok hst.b
        refine hK.out _ _ qm3 (fun hHeld => ?_)
        clear hK K
        refine wpAnyH_take (i := 10) (v := .tuple #[.agg #[.int .i64 v0, .int .i64 v1, .int .i64 v2, .int .i64 v3, .int .i64 v4], .bool b2b]) rfl (by kernel_rfl) (by kernel_rfl) (by kernel_rfl) (fun _ _ _ h => h) (Or.inl ⟨by rfl, fun w' hS => by go_simp⟩) hHeld ?_
        simp only [Act.put, List.getElem_toArray, List.getElem_cons_zero, List.getElem_cons_succ, List.setIfInBounds_toArray, List.set_cons_zero, List.set_cons_succ]
        refine wpAnyH_take (i := 11) (v := .agg #[.int .i64 v0, .int .i64 v1, .int .i64 v2, .int .i64 v3, .int .i64 v4]) rfl (by kernel_rfl) (by kernel_rfl) (by kernel_rfl) (fun _ _ _ h => h) (Or.inl ⟨by rfl, fun w' hS => by go_simp⟩) hHeld ?_
        simp only [Act.put, List.getElem_toArray, List.getElem_cons_zero, List.getElem_cons_succ, List.setIfInBounds_toArray, List.set_cons_zero, List.set_cons_succ]
        refine wpAnyH_take (i := 12) (v := .bool b2b) rfl (by kernel_rfl) (by kernel_rfl) (by kernel_rfl) (fun _ _ _ h => h) (Or.inl ⟨by rfl, fun w' hS => by go_simp⟩) hHeld ?_
        simp only [Act.put, List.getElem_toArray, List.getElem_cons_zero, List.getElem_cons_succ, List.setIfInBounds_toArray, List.set_cons_zero, List.set_cons_succ]
        refine wpAnyH_ready (rs := [13]) (by kernel_rfl) (by simp) ?_
        refine AllReadyH.cons rfl (fun K hK => ?_) AllReadyH.nil
        go_simp
        refine hK.out _ _ (below_at (balloc (Below.refl _ _)) qm3) (fun hHeld => ?_)
        clear hK K
        obtain ⟨va1, va2⟩ := var_after (w3 := w3) [.int .i64 v0, .int .i64 v1, .int .i64 v2, .int .i64 v3, .int .i64 v4] rfl
        have hth : (w3.alloc (.cells #[.int .i64 0, .int .i64 0, .int .i64 0, .int .i64 0, .int .i64 0] 57)).there w3.heap.size 0 5 := new_there w3 57 _ rfl
        refine wpAnyH_ready (rs := [14]) (by kernel_rfl) (by simp) ?_
        refine AllReadyH.cons rfl (fun K hK => ?_) AllReadyH.nil
        refine step_storeL rfl 57 (.tmp 7) (.tmp 52) rfl (L := [.int .i64 v0, .int .i64 v1, .int .i64 v2, .int .i64 v3, .int .i64 v4]) rfl rfl hth info_ack (ones5 _ _ _ _ _) ?_
        refine hK.out _ _ (HCM2.out _ ((hst.post va1).ok) (hst.b)) (fun hHeld => ?_)
        clear hK K
        simp only [Act.put, List.getElem_toArray, List.getElem_cons_zero, List.getElem_cons_succ, List.setIfInBounds_toArray, List.set_cons_zero, List.set_cons_succ]
        refine wpAnyH_take (i := 15) (v := .bool b2b) rfl (by kernel_rfl) (by kernel_rfl) (by kernel_rfl) (fun _ _ _ h => h) (Or.inl ⟨by rfl, fun w' hS => by go_simp⟩) hHeld ?_
        simp only [Act.put, List.getElem_toArray, List.getElem_cons_zero, List.getElem_cons_succ, List.setIfInBounds_toArray, List.set_cons_zero, List.set_cons_succ]
        refine wpAnyH_done (by kernel_rfl) ?_ _
        clear hHeld
        go_wp2
        go_meet
        exact ⟨w3.heap.size, rfl, rfl, va2, (Xstep.below HY0.out hbD).trans (hst.post va1), (fun e => by have := hst.ok.lt e; omega)⟩
      · go_simp
        refine hK.out _ _ (below_at (balloc (Below.refl _ _)) qm) (fun hHeld => ?_)
        clear hK K
        refine wpAnyH_ready (rs := [9]) (by kernel_rfl) (by simp) ?_
        refine AllReadyH.cons rfl (fun K hK => ?_) AllReadyH.nil
        go_simp
        refine (HO2.out D0 _ (balloc (Below.refl _ _)) hXD).mono ?_
        rintro e w3 ⟨rfl, hst⟩
        have qm3 : w3.cell? ⟨X.b, s, none⟩ = some (.pointer (some ⟨(X.m s).b, 0, none⟩)) := HCM2.out _ hst.ok hst.b
        refine hK.out _ _ qm3 (fun hHeld => ?_)
        clear hK K
        obtain ⟨va1, va2, hth, hno⟩ := var_before [.int .i64 v0, .int .i64 v1, .int .i64 v2, .int .i64 v3, .int .i64 v4] rfl hXD hst
        refine wpAnyH_take (i := 10) (v := .tuple #[.agg #[.int .i64 v0, .int .i64 v1, .int .i64 v2, .int .i64 v3, .int .i64 v4], .bool b2b]) rfl (by kernel_rfl) (by kernel_rfl) (by kernel_rfl) (fun _ _ _ h => h) (Or.inl ⟨by rfl, fun w' hS => by go_simp⟩) hHeld ?_
        simp only [Act.put, List.getElem_toArray, List.getElem_cons_zero, List.getElem_cons_succ, List.setIfInBounds_toArray, List.set_cons_zero, List.set_cons_succ]
        refine wpAnyH_take (i := 11) (v := .agg #[.int .i64 v0, .int .i64 v1, .int .i64 v2, .int .i64 v3, .int .i64 v4]) rfl (by kernel_rfl) (by kernel_rfl) (by kernel_rfl) (fun _ _ _ h => h) (Or.inl ⟨by rfl, fun w' hS => by go_simp⟩) hHeld ?_
        simp only [Act.put, List.getElem_toArray, List.getElem_cons_zero, List.getElem_cons_succ, List.setIfInBounds_toArray, List.set_cons_zero, List.set_cons_succ]
        refine wpAnyH_take (i := 12) (v := .bool b2b) rfl (by kernel_rfl) (by kernel_rfl) (by kernel_rfl) (fun _ _ _ h => h) (Or.inl ⟨by rfl, fun w' hS => by go_simp⟩) hHeld ?_
        simp only [Act.put, List.getElem_toArray, List.getElem_cons_zero, List.getElem_cons_succ, List.setIfInBounds_toArray, List.set_cons_zero, List.set_cons_succ]
        refine wpAnyH_ready (rs := [14]) (by kernel_rfl) (by simp) ?_
        refine AllReadyH.cons rfl (fun K hK => ?_) AllReadyH.nil
        refine step_storeL rfl 57 (.tmp 7) (.tmp 52) rfl (L := [.int .i64 v0, .int .i64 v1, .int .i64 v2, .int .i64 v3, .int .i64 v4]) rfl rfl hth info_ack (ones5 _ _ _ _ _) ?_
        refine hK.out _ _ (HCM2.out _ (va1.ok) (va1.b)) (fun hHeld => ?_)
        clear hK K
        simp only [Act.put, List.getElem_toArray, List.getElem_cons_zero, List.getElem_cons_succ, List.setIfInBounds_toArray, List.set_cons_zero, List.set_cons_succ]
        refine wpAnyH_take (i := 15) (v := .bool b2b) rfl (by kernel_rfl) (by kernel_rfl) (by kernel_rfl) (fun _ _ _ h => h) (Or.inl ⟨by rfl, fun w' hS => by go_simp⟩) hHeld ?_
        simp only [Act.put, List.getElem_toArray, List.getElem_cons_zero, List.getElem_cons_succ, List.setIfInBounds_toArray, List.set_cons_zero, List.set_cons_succ]
        refine wpAnyH_done (by kernel_rfl) ?_ _
        clear hHeld
        go_wp2
        go_meet
        exact ⟨D0.heap.size, rfl, rfl, va2, (Xstep.below HY0.out hbD).trans va1, hno⟩
    · go_simp
      refine hK.out _ _ (below_at (balloc (Below.refl _ _)) qm) (fun hHeld => ?_)
      clear hK K
      refine wpAnyH_ready (rs := [8]) (by kernel_rfl) (by simp) ?_
      refine AllReadyH.cons rfl (fun K hK => ?_) AllReadyH.nil
      go_simp
      refine (pid_any j1 j2).mono ?_
      rintro e w2 ⟨rfl, rfl⟩
      refine hK.out _ _ (below_at (balloc (Below.refl _ _)) qm) (fun hHeld => ?_)
      clear hK K
      refine wpAnyH_ready (rs := [9]) (by kernel_rfl) (by simp) ?_
      refine AllReadyH.cons rfl (fun K hK => ?_) AllReadyH.nil
      go_simp
      refine (HO2.out D0 _ (balloc (Below.refl _ _)) hXD).mono ?_
      rintro e w3 ⟨rfl, hst⟩
      have qm3 : w3.cell? ⟨X.b, s, none⟩ = some (.pointer (some ⟨(X.m s).b, 0, none⟩)) := HCM2.out _ hst.ok hst.b
      refine hK.out _ _ qm3 (fun hHeld => ?_)
      clear hK K
      obtain ⟨va1, va2, hth, hno⟩ := var_before [.int .i64 v0, .int .i64 v1, .int .i64 v2, .int .i64 v3, .int .i64 v4] rfl hXD hst
      refine wpAnyH_take (i := 10) (v := .tuple #[.agg #[.int .i64 v0, .int .i64 v1, .int .i64 v2, .int .i64 v3, .int .i64 v4], .bool b2b]) rfl (by kernel_rfl) (by kernel_rfl) (by kernel_rfl) (fun _ _ _ h => h) (Or.inl ⟨by rfl, fun w' hS => by go_simp⟩) hHeld ?_
      simp only [Act.put, List.getElem_toArray, List.getElem_cons_zero, List.getElem_cons_succ, List.setIfInBounds_toArray, List.set_cons_zero, List.set_cons_succ]
      refine wpAnyH_take (i := 11) (v := .agg #[.int .i64 v0, .int .i64 v1, .int .i64 v2, .int .i64 v3, .int .i64 v4]) rfl (by kernel_rfl) (by kernel_rfl) (by kernel_rfl) (fun _ _ _ h => h) (Or.inl ⟨by rfl, fun w' hS => by go_simp⟩) hHeld ?_
      simp only [Act.put, List.getElem_toArray, List.getElem_cons_zero, List.getElem_cons_succ, List.setIfInBounds_toArray, List.set_cons_zero, List.set_cons_succ]
      refine wpAnyH_take (i := 12) (v := .bool b2b) rfl (by kernel_rfl) (by kernel_rfl) (by kernel_rfl) (fun _ _ _ h => h) (Or.inl ⟨by rfl, fun w' hS => by go_simp⟩) hHeld ?_
      simp only [Act.put, List.getElem_toArray, List.getElem_cons_zero, List.getElem_cons_succ, List.setIfInBounds_toArray, List.set_cons_zero, List.set_cons_succ]
      refine wpAnyH_ready (rs := [14]) (by kernel_rfl) (by simp) ?_
      refine AllReadyH.cons rfl (fun K hK => ?_) AllReadyH.nil
      refine step_storeL rfl 57 (.tmp 7) (.tmp 52) rfl (L := [.int .i64 v0, .int .i64 v1, .int .i64 v2, .int .i64 v3, .int .i64 v4]) rfl rfl hth info_ack (ones5 _ _ _ _ _) ?_
      refine hK.out _ _ (HCM2.out _ (va1.ok) (va1.b)) (fun hHeld => ?_)
      clear hK K
      simp only [Act.put, List.getElem_toArray, List.getElem_cons_zero, List.getElem_cons_succ, List.setIfInBounds_toArray, List.set_cons_zero, List.set_cons_succ]
      refine wpAnyH_take (i := 15) (v := .bool b2b) rfl (by kernel_rfl) (by kernel_rfl) (by kernel_rfl) (fun _ _ _ h => h) (Or.inl ⟨by rfl, fun w' hS => by go_simp⟩) hHeld ?_
      simp only [Act.put, List.getElem_toArray, List.getElem_cons_zero, List.getElem_cons_succ, List.setIfInBounds_toArray, List.set_cons_zero, List.set_cons_succ]
      refine wpAnyH_done (by kernel_rfl) ?_ _
      clear hHeld
      go_wp2
      go_meet
      exact ⟨D0.heap.size, rfl, rfl, va2, (Xstep.below HY0.out hbD).trans va1, hno⟩
  case rest =>
  obtain ⟨kd2, rfl, rfl, Hblk2, Hst3', Hno3⟩ := hcut
  have Hst3 : Hid (Xstep wd wc X2 X2 B) := (show Xstep _ _ _ _ _ from by have e3 := Hst3'.out; rw [HX3.out] at e3; exact e3)
  clear Hst3'
  have hb2f := HE2.out
  subst hb2f
  have z0 := kept_cell Hst3.out.kept Hno2.out y0
  have z1 := kept_cell Hst3.out.kept Hno2.out y1
  have z2 := kept_cell Hst3.out.kept Hno2.out y2
  have z3 := kept_cell Hst3.out.kept Hno2.out y3
  have z4 := kept_cell Hst3.out.kept Hno2.out y4
  have ov : wc.cell? ⟨X.b, 6 + s, none⟩ = some (.slice oa ol oc) := by have e2 := Hst3.out.ok.cr (i := 6 + s) (by omega) (by omega); rw [HX2.out.2.2.2.1, HX2.out.1] at e2; exact e2
  have HZ : Hid (∀ w9, Below wc.heap.size wc w9 → XO w w9 X B (X.pu.owe s) (.returned (.bool true))) := fun w9 hb9 => ⟨rfl, X2, (Hst2.out.trans Hst3.out).post hb9, HX2.out.2.2.2.2⟩
  clear y0 y1 y2 y3 y4 Hblk2 cm HO2 HCM2
  go_wp2
  refine wp_region_held_drew (S := (fun w' => w'.cell? ⟨kd, 0, none⟩ = some (.int .i64 3) ∧ w'.cell? ⟨kd, 1, none⟩ = some (.int .i64 2) ∧ w'.cell? ⟨kd, 2, none⟩ = some (.int .i64 4) ∧ w'.cell? ⟨kd, 3, none⟩ = some (.int .i64 9) ∧ w'.cell? ⟨kd, 4, none⟩ = some (.int .i64 (ip : Int)) ∧ w'.cell? ⟨X.b, 6 + s, none⟩ = some (.slice oa ol oc))) (by kernel_rfl) ⟨below_at (drew_bel _) z0, below_at (drew_bel _) z1, below_at (drew_bel _) z2, below_at (drew_bel _) z3, below_at (drew_bel _) z4, below_at (drew_bel _) ov⟩ (fun hHeld => ?_)
  simp only [Act.put, List.size_toArray, List.length_cons, List.length_nil, Nat.zero_add]
  refine wpAnyH_take (i := 0) (v := .pointer (some ⟨kd, 0, none⟩)) rfl (by kernel_rfl) (by kernel_rfl) (by kernel_rfl) (fun _ _ _ h => h) (Or.inl ⟨by rfl, fun w' hS => by go_simp⟩) hHeld ?_
  simp only [Act.put, List.getElem_toArray, List.getElem_cons_zero, List.getElem_cons_succ, List.setIfInBounds_toArray, List.set_cons_zero, List.set_cons_succ]
  refine wpAnyH_take (i := 1) (v := .agg #[.int .i64 3, .int .i64 2, .int .i64 4, .int .i64 9]) rfl (by kernel_rfl) (by kernel_rfl) (by kernel_rfl) (fun _ _ _ h => h) (Or.inl ⟨by rfl, fun w' hS => by (obtain ⟨t0, t1, t2, t3, t4, t5⟩ := hS; go_simp)⟩) hHeld ?_
  simp only [Act.put, List.getElem_toArray, List.getElem_cons_zero, List.getElem_cons_succ, List.setIfInBounds_toArray, List.set_cons_zero, List.set_cons_succ]
  refine wpAnyH_ready (rs := [2]) (by kernel_rfl) (by simp) ?_
  refine AllReadyH.cons rfl (fun K hK => ?_) AllReadyH.nil
  go_simp
  refine (tag_any).mono ?_
  rintro e w8 ⟨rfl, hb8⟩
  refine hK.out _ _ ⟨below_at hb8 (below_at (drew_bel _) z0), below_at hb8 (below_at (drew_bel _) z1), below_at hb8 (below_at (drew_bel _) z2), below_at hb8 (below_at (drew_bel _) z3), below_at hb8 (below_at (drew_bel _) z4), below_at hb8 (below_at (drew_bel _) ov)⟩ (fun hHeld => ?_)
  clear hK K
  refine wpAnyH_take (i := 3) (v := .bool true) rfl (by kernel_rfl) (by kernel_rfl) (by kernel_rfl) (fun _ _ _ h => h) (Or.inl ⟨by rfl, fun w' hS => run_eqlop 24 (.tmp 55) (.tmp 56) 24 rfl _ _ (by rfl) (by rfl) guard_id _ (by have e1 := eq_tag (w := w') tg9 tg9; rw [decide_eq_true rfl] at e1; exact e1)⟩) hHeld ?_
  simp only [Act.put, List.getElem_toArray, List.getElem_cons_zero, List.getElem_cons_succ, List.setIfInBounds_toArray, List.set_cons_zero, List.set_cons_succ]
  refine wpAnyH_take (i := 4) (v := .bool true) rfl (by kernel_rfl) (by kernel_rfl) (by kernel_rfl) (fun _ _ _ h => h) (Or.inl ⟨by rfl, fun w' hS => by go_simp⟩) hHeld ?_
  simp only [Act.put, List.getElem_toArray, List.getElem_cons_zero, List.getElem_cons_succ, List.setIfInBounds_toArray, List.set_cons_zero, List.set_cons_succ]
  refine wpAnyH_take (i := 5) (v := .pointer (some ⟨kd, 4, none⟩)) rfl (by kernel_rfl) (by kernel_rfl) (by kernel_rfl) (fun _ _ _ h => h) (Or.inl ⟨by rfl, fun w' hS => by go_simp⟩) hHeld ?_
  simp only [Act.put, List.getElem_toArray, List.getElem_cons_zero, List.getElem_cons_succ, List.setIfInBounds_toArray, List.set_cons_zero, List.set_cons_succ]
  refine wpAnyH_take (i := 6) (v := .int .i64 (ip : Int)) rfl (by kernel_rfl) (by kernel_rfl) (by kernel_rfl) (fun _ _ _ h => h) (Or.inl ⟨by rfl, fun w' hS => by (obtain ⟨t0, t1, t2, t3, t4, t5⟩ := hS; go_simp)⟩) hHeld ?_
  simp only [Act.put, List.getElem_toArray, List.getElem_cons_zero, List.getElem_cons_succ, List.setIfInBounds_toArray, List.set_cons_zero, List.set_cons_succ]
  refine wpAnyH_take (i := 7) (v := .pointer (some ⟨X.b, 0, none⟩)) rfl (by kernel_rfl) (by kernel_rfl) (by kernel_rfl) (fun _ _ _ h => h) (Or.inl ⟨by rfl, fun w' hS => by go_simp⟩) hHeld ?_
  simp only [Act.put, List.getElem_toArray, List.getElem_cons_zero, List.getElem_cons_succ, List.setIfInBounds_toArray, List.set_cons_zero, List.set_cons_succ]
  refine wpAnyH_take (i := 8) (v := .int .i64 (s : Int)) rfl (by kernel_rfl) (by kernel_rfl) (by kernel_rfl) (fun _ _ _ h => h) (Or.inl ⟨by rfl, fun w' hS => by go_simp⟩) hHeld ?_
  simp only [Act.put, List.getElem_toArray, List.getElem_cons_zero, List.getElem_cons_succ, List.setIfInBounds_toArray, List.set_cons_zero, List.set_cons_succ]
  refine wpAnyH_take (i := 9) (v := .pointer (some ⟨X.b, 0, none⟩)) rfl (by kernel_rfl) (by kernel_rfl) (by kernel_rfl) (fun _ _ _ h => h) (Or.inl ⟨by rfl, fun w' hS => by go_simp⟩) hHeld ?_
  simp only [Act.put, List.getElem_toArray, List.getElem_cons_zero, List.getElem_cons_succ, List.setIfInBounds_toArray, List.set_cons_zero, List.set_cons_succ]
  refine wpAnyH_take (i := 10) (v := .pointer (some ⟨X.b, 6, none⟩)) rfl (by kernel_rfl) (by kernel_rfl) (by kernel_rfl) (fun _ _ _ h => h) (Or.inl ⟨by rfl, fun w' hS => by go_simp⟩) hHeld ?_
  simp only [Act.put, List.getElem_toArray, List.getElem_cons_zero, List.getElem_cons_succ, List.setIfInBounds_toArray, List.set_cons_zero, List.set_cons_succ]
  refine wpAnyH_take (i := 11) (v := .pointer (some ⟨X.b, 6 + s, none⟩)) rfl (by kernel_rfl) (by kernel_rfl) (by kernel_rfl) (fun _ _ _ h => h) (Or.inl ⟨by rfl, fun w' hS => by go_simp⟩) hHeld ?_
  simp only [Act.put, List.getElem_toArray, List.getElem_cons_zero, List.getElem_cons_succ, List.setIfInBounds_toArray, List.set_cons_zero, List.set_cons_succ]
  refine wpAnyH_take (i := 12) (v := .slice oa ol oc) rfl (by kernel_rfl) (by kernel_rfl) (by kernel_rfl) (fun _ _ _ h => h) (Or.inl ⟨by rfl, fun w' hS => by (obtain ⟨t0, t1, t2, t3, t4, t5⟩ := hS; go_simp)⟩) hHeld ?_
  simp only [Act.put, List.getElem_toArray, List.getElem_cons_zero, List.getElem_cons_succ, List.setIfInBounds_toArray, List.set_cons_zero, List.set_cons_succ]
  refine wpAnyH_take (i := 13) (v := .int .i64 (ol : Int)) rfl (by kernel_rfl) (by kernel_rfl) (by kernel_rfl) (fun _ _ _ h => h) (Or.inl ⟨by rfl, fun w' hS => by go_simp⟩) hHeld ?_
  simp only [Act.put, List.getElem_toArray, List.getElem_cons_zero, List.getElem_cons_succ, List.setIfInBounds_toArray, List.set_cons_zero, List.set_cons_succ]
  refine wpAnyH_take (i := 14) (v := .bool true) rfl (by kernel_rfl) (by kernel_rfl) (by kernel_rfl) (fun _ _ _ h => h) (Or.inl ⟨by rfl, fun w' hS => by (go_simp <;> (have e9 := Hol.out; omega))⟩) hHeld ?_
  simp only [Act.put, List.getElem_toArray, List.getElem_cons_zero, List.getElem_cons_succ, List.setIfInBounds_toArray, List.set_cons_zero, List.set_cons_succ]
  refine wpAnyH_take (i := 15) (v := .bool true) rfl (by kernel_rfl) (by kernel_rfl) (by kernel_rfl) (fun _ _ _ h => h) (Or.inl ⟨by rfl, fun w' hS => by go_simp⟩) hHeld ?_
  simp only [Act.put, List.getElem_toArray, List.getElem_cons_zero, List.getElem_cons_succ, List.setIfInBounds_toArray, List.set_cons_zero, List.set_cons_succ]
  refine wpAnyH_take (i := 16) (v := .bool true) rfl (by kernel_rfl) (by kernel_rfl) (by kernel_rfl) (fun _ _ _ h => h) (Or.inl ⟨by rfl, fun w' hS => by go_simp⟩) hHeld ?_
  simp only [Act.put, List.getElem_toArray, List.getElem_cons_zero, List.getElem_cons_succ, List.setIfInBounds_toArray, List.set_cons_zero, List.set_cons_succ]
  refine wpAnyH_take (i := 17) (v := .bool false) rfl (by kernel_rfl) (by kernel_rfl) (by kernel_rfl) (fun _ _ _ h => h) (Or.inl ⟨by rfl, fun w' hS => by go_simp⟩) hHeld ?_
  simp only [Act.put, List.getElem_toArray, List.getElem_cons_zero, List.getElem_cons_succ, List.setIfInBounds_toArray, List.set_cons_zero, List.set_cons_succ]
  refine wpAnyH_take (i := 18) (v := .bool true) rfl (by kernel_rfl) (by kernel_rfl) (by kernel_rfl) (fun _ _ _ h => h) (Or.inl ⟨by rfl, fun w' hS => by go_simp⟩) hHeld ?_
  simp only [Act.put, List.getElem_toArray, List.getElem_cons_zero, List.getElem_cons_succ, List.setIfInBounds_toArray, List.set_cons_zero, List.set_cons_succ]
  refine wpAnyH_take (i := 19) (v := .bool true) rfl (by kernel_rfl) (by kernel_rfl) (by kernel_rfl) (fun _ _ _ h => h) (Or.inl ⟨by rfl, fun w' hS => by go_simp⟩) hHeld ?_
  simp only [Act.put, List.getElem_toArray, List.getElem_cons_zero, List.getElem_cons_succ, List.setIfInBounds_toArray, List.set_cons_zero, List.set_cons_succ]
  refine wpAnyH_take (i := 20) (v := .bool true) rfl (by kernel_rfl) (by kernel_rfl) (by kernel_rfl) (fun _ _ _ h => h) (Or.inl ⟨by rfl, fun w' hS => by go_simp⟩) hHeld ?_
  simp only [Act.put, List.getElem_toArray, List.getElem_cons_zero, List.getElem_cons_succ, List.setIfInBounds_toArray, List.set_cons_zero, List.set_cons_succ]
  refine wpAnyH_done (by kernel_rfl) ?_ _
  clear hHeld
  go_wp2
  go_ret
  exact HZ.out _ (bstep (drew_bel _) hb8)
end
end Go.Proofs.Ytghihdenbdnnjaa.Ln
