import Derived.Test.YtghihdenbdnnjaaLky
namespace Go.Proofs.Ytghihdenbdnnjaa.Ln
open Go.RowKit Mb
set_option linter.unusedVariables false
set_option maxRecDepth 100000
set_option linter.unusedSimpArgs false
section
variable {w w' W : World} {B : Nat} {X X' : Wr}
set_option maxHeartbeats 4000000 in
theorem wcarry_any (h : X.Ok w B) (hI : X.pu.Inv) {T : Nat} (hT : X.pu.Sz T) (hT2 : T ≤ 1000) (hB : B ≤ w.heap.size) {s : Nat} (hs : s < 2) {n : Int} (hn0 : -9223372036854775808 ≤ n) (hn1 : n ≤ 9223372036854775807) : Calls Try.prog 10 #[.pointer (some ⟨X.b, 0, none⟩), .int .i64 (s : Int), .int .i64 n] w fun e w' => XO w w' X B (X.pu.carry s n) e := by
  have i1 : (0 : Int) ≤ (s : Int) := Int.natCast_nonneg _
  have i2 : (s : Int) < 2 := by omega
  have rv := h.cr (i := 8 + s) (by omega) (by omega)
  have hrow := h.rowf hs
  obtain ⟨ra, cc, hv⟩ := row_shape hrow
  rw [hv] at rv hrow
  obtain ⟨ln, hln⟩ : ∃ ln, (X.f s).length = ln := ⟨_, rfl⟩
  rw [hln] at rv hrow
  have hlnP : (X.pu.f s).length = ln := by rw [← hln]; exact List.length_map ..
  by_cases hl : ln = 0
  · have hz : ((ln : Int) == 0) = true := by rw [beq_iff_eq]; omega
    have HX : Hid (XO w w X B (X.pu.carry s n) (.returned (.bool true))) := (show XO _ _ _ _ _ _ from ⟨rfl, X, Xstep.refl h, by unfold Px.carry; rw [if_pos (List.eq_nil_of_length_eq_zero (by omega))]⟩)
    clear hrow hl hln hv h hI hT hlnP
    go_enter Try.func10, Try.ntmps10
    go_wp2
    go_ret
    exact HX.out
  have hz : ((ln : Int) == 0) = false := by rw [beq_eq_false_iff_ne]; omega
  obtain ⟨g, rfl⟩ := row_some hrow (by omega)
  obtain ⟨k, hk⟩ : ∃ k, pick n ln = k := ⟨_, rfl⟩
  have hkl : k < ln := by rw [← hk]; exact pick_lt n (by omega)
  obtain ⟨u, hu⟩ : ∃ u, (X.f s).getD k (0, ⟨0, 0, []⟩) = u := ⟨_, rfl⟩
  have hum : u ∈ X.f s := by rw [← hu]; exact getD_mem (by omega)
  have hut : (X.f s)[k]? = some u := by rw [← hu]; simp [List.getD, show k < (X.f s).length by omega]
  obtain ⟨sq, hsq⟩ : ∃ sq, u.1 = sq := ⟨_, rfl⟩
  obtain ⟨ybs, hybs⟩ : ∃ b, u.2.bs = b := ⟨_, rfl⟩
  obtain ⟨yk, hyk⟩ : ∃ b, u.2.k = b := ⟨_, rfl⟩
  obtain ⟨yn, hyn⟩ : ∃ b, u.2.bs.length = b := ⟨_, rfl⟩
  obtain ⟨yc, hyc⟩ : ∃ b, u.2.c = b := ⟨_, rfl⟩
  have hat : ∀ j, j < 6 → w.cell? ⟨g, k * 6 + j, none⟩ = ([.int .i64 3, .int .i64 2, .int .i64 4, .int .i64 9, .int .i64 (sq : Int), .slice (some ⟨yk, 0, none⟩) yn yc] : List Value)[j]? := fun j hj => by
    rw [own_at hrow (by omega), flat_at frc 6 (fun _ => rfl) _ k j (0, ⟨0, 0, []⟩) (by omega) hj, hu]
    rw [← hsq, ← hyk, ← hyn, ← hyc]
    rfl
  have x0 : w.cell? ⟨g, k * 6, none⟩ = some (.int .i64 3) := hat 0 (by omega)
  have x1 : w.cell? ⟨g, k * 6 + 1, none⟩ = some (.int .i64 2) := hat 1 (by omega)
  have x2 : w.cell? ⟨g, k * 6 + 2, none⟩ = some (.int .i64 4) := hat 2 (by omega)
  have x3 : w.cell? ⟨g, k * 6 + 3, none⟩ = some (.int .i64 9) := hat 3 (by omega)
  have x4 : w.cell? ⟨g, k * 6 + 4, none⟩ = some (.int .i64 (sq : Int)) := hat 4 (by omega)
  have x5 : w.cell? ⟨g, k * 6 + 5, none⟩ = some (.slice (some ⟨yk, 0, none⟩) yn yc) := hat 5 (by omega)
  have Hk : Hid (Int.tmod (absI n) (ln : Int) = (k : Int)) := (show _ = _ from by rw [rem_nat (absI_nn n)]; exact congrArg _ hk)
  obtain ⟨t, ht⟩ : ∃ t, t = 1 - s := ⟨_, rfl⟩
  have hts : (1 : Int) - (s : Int) = (t : Int) := by omega
  have Ht2 : Hid (t < 2) := (show t < 2 from by omega)
  have Hte : Hid (t = 1 - s) := ht
  have HP : Hid (X.pu.carry s n = X.pu.take t (sq, ybs)) := (show _ = _ from by
    unfold Px.carry
    rw [if_neg (fun e => by rw [e] at hlnP; exact hl hlnP.symm), hlnP, hk, ← ht]
    congr 1
    show ((X.f s).map fbs).getD k (0, []) = _
    simp only [List.getD, List.getElem?_map, hut, Option.map_some, Option.getD_some]
    rw [← hsq, ← hybs]; rfl)
  have hmem : (sq, ybs) ∈ X.pu.f s := by
    show _ ∈ (X.f s).map fbs
    rw [← hsq, ← hybs]
    exact List.mem_map_of_mem hum
  have hen := (h.en u.2 ⟨s, hs, .inr (.inr ⟨u.1, hum⟩)⟩).1
  have hIs := hI s hs
  have hsT : (X.e s).sent ≤ 1000 := by
    have a1 : (X.e s).sent = (X.pu.p s).length := hIs.sent
    have := (hT s hs).1
    omega
  have HC0 : Hid (∀ D, Below w.heap.size w D → Calls Try.prog 29 #[.slice (some ⟨yk, 0, none⟩) yn yc] D fun e w' => CpO D w' ybs e) := fun D hb => (show Calls _ _ _ _ _ from by
    have e1 := copied_any (hen.still hb).rd hen.pos hen.le
    rw [hyk, hyn, hyc, hybs] at e1
    exact e1)
  have HTk0 : Hid (∀ D w3 (y1 : Bn), Below w.heap.size w D → Below D.heap.size D w3 → y1.bs = ybs → y1.Ok w3 D.heap.size → Calls Try.prog 14 #[.pointer (some ⟨(X.m t).b, 0, none⟩), .int .i64 (2 + 3 * (s : Int)), .agg #[.int .i64 3, .int .i64 2, .int .i64 4, .int .i64 9, .int .i64 (sq : Int), .slice (some ⟨y1.k, 0, none⟩) ybs.length y1.c]] w3 fun e w' => TkO w w3 w' X B t (sq, ybs) e) := fun D w3 y1 hbD hb3 hy hok => by
    have hok' : y1.Ok w3 w.heap.size := ⟨hok.blk, hok.by_, hok.cap, Nat.le_trans hbD.size hok.lo, hok.pos, hok.le⟩
    exact tk_any (x := (sq, ybs)) h hI hB hs ht (bstep hbD hb3) hmem hy hok' hsT
  have Hh : Hid (X.Ok w B) := h
  have HI : Hid (X.pu.Inv) := hI
  have HITk : Hid ((X.pu.take t (sq, ybs)).Inv) := (show _ from by rw [ht]; exact hI.take hs hmem)
  have HB0 : Hid (B ≤ w.heap.size) := hB
  have HpT : Hid ((X.p s).length ≤ 1000) := (show (X.p s).length ≤ 1000 from by have a1 := (hT s hs).1; have a2 : (X.pu.p s).length = (X.p s).length := List.length_map ..; omega)
  have Hl0 : Hid (¬ ln = 0) := hl
  have i3 : (0 : Int) ≤ (k : Int) := Int.natCast_nonneg _
  have i4 : (k : Int) < (ln : Int) := by omega
  have i5 : (0 : Int) ≤ (t : Int) := Int.natCast_nonneg _
  have i6 : (t : Int) < 2 := by have := Ht2.out; omega
  clear h hI hT hB hat hrow hv hln hlnP hl hk hkl hu hum hut hsq hyk hyn hyc hybs ht hmem hen hIs hsT
  go_enter Try.func10, Try.ntmps10
  go_upto_region 3 with (fail)
  go_cut [7] (fun v7 wx => ∃ kd : Nat, v7 = .pointer (some ⟨kd, 0, none⟩) ∧ Hid (wx.heap[kd]? = some (.cells [.int .i64 3, .int .i64 2, .int .i64 4, .int .i64 9, .int .i64 (sq : Int), .slice (some ⟨yk, 0, none⟩) yn yc].toArray 54 (0, 0)) ∧ w.heap.size ≤ kd) ∧ Hid (Below w.heap.size w wx))
  case first =>
    go_wp2_with (fail)
    refine wp_region_held_drew (S := (fun w' => w'.cell? ⟨X.b, 8 + s, none⟩ = some (.slice (some ⟨g, 0, none⟩) ln cc) ∧ w'.cell? ⟨g, k * 6, none⟩ = some (.int .i64 3) ∧ w'.cell? ⟨g, k * 6 + 1, none⟩ = some (.int .i64 2) ∧ w'.cell? ⟨g, k * 6 + 2, none⟩ = some (.int .i64 4) ∧ w'.cell? ⟨g, k * 6 + 3, none⟩ = some (.int .i64 9) ∧ w'.cell? ⟨g, k * 6 + 4, none⟩ = some (.int .i64 (sq : Int)) ∧ w'.cell? ⟨g, k * 6 + 5, none⟩ = some (.slice (some ⟨yk, 0, none⟩) yn yc))) (by kernel_rfl) ⟨below_at (drew_bel _) rv, below_at (drew_bel _) x0, below_at (drew_bel _) x1, below_at (drew_bel _) x2, below_at (drew_bel _) x3, below_at (drew_bel _) x4, below_at (drew_bel _) x5⟩ (fun hHeld => ?_)
    simp only [Act.put, List.size_toArray, List.length_cons, List.length_nil, Nat.zero_add]
    refine wpAnyH_take (i := 0) (v := .pointer (some ⟨X.b, 0, none⟩)) rfl (by kernel_rfl) (by kernel_rfl) (by kernel_rfl) (fun _ _ _ h => h) (Or.inl ⟨by rfl, fun w' hS => by go_simp⟩) hHeld ?_
    simp only [Act.put, List.getElem_toArray, List.getElem_cons_zero, List.getElem_cons_succ, List.setIfInBounds_toArray, List.set_cons_zero, List.set_cons_succ]
    refine wpAnyH_take (i := 1) (v := .int .i64 (s : Int)) rfl (by kernel_rfl) (by kernel_rfl) (by kernel_rfl) (fun _ _ _ h => h) (Or.inl ⟨by rfl, fun w' hS => by go_simp⟩) hHeld ?_
    simp only [Act.put, List.getElem_toArray, List.getElem_cons_zero, List.getElem_cons_succ, List.setIfInBounds_toArray, List.set_cons_zero, List.set_cons_succ]
    refine wpAnyH_take (i := 2) (v := .pointer (some ⟨X.b, 0, none⟩)) rfl (by kernel_rfl) (by kernel_rfl) (by kernel_rfl) (fun _ _ _ h => h) (Or.inl ⟨by rfl, fun w' hS => by go_simp⟩) hHeld ?_
    simp only [Act.put, List.getElem_toArray, List.getElem_cons_zero, List.getElem_cons_succ, List.setIfInBounds_toArray, List.set_cons_zero, List.set_cons_succ]
    refine wpAnyH_take (i := 3) (v := .pointer (some ⟨X.b, 8, none⟩)) rfl (by kernel_rfl) (by kernel_rfl) (by kernel_rfl) (fun _ _ _ h => h) (Or.inl ⟨by rfl, fun w' hS => by go_simp⟩) hHeld ?_
    simp only [Act.put, List.getElem_toArray, List.getElem_cons_zero, List.getElem_cons_succ, List.setIfInBounds_toArray, List.set_cons_zero, List.set_cons_succ]
    refine wpAnyH_take (i := 4) (v := .pointer (some ⟨X.b, 8 + s, none⟩)) rfl (by kernel_rfl) (by kernel_rfl) (by kernel_rfl) (fun _ _ _ h => h) (Or.inl ⟨by rfl, fun w' hS => by go_simp⟩) hHeld ?_
    simp only [Act.put, List.getElem_toArray, List.getElem_cons_zero, List.getElem_cons_succ, List.setIfInBounds_toArray, List.set_cons_zero, List.set_cons_succ]
    refine wpAnyH_take (i := 5) (v := .slice (some ⟨g, 0, none⟩) ln cc) rfl (by kernel_rfl) (by kernel_rfl) (by kernel_rfl) (fun _ _ _ h => h) (Or.inl ⟨by rfl, fun w' hS => by (obtain ⟨s0, t0, t1, t2, t3, t4, t5⟩ := hS; go_simp)⟩) hHeld ?_
    simp only [Act.put, List.getElem_toArray, List.getElem_cons_zero, List.getElem_cons_succ, List.setIfInBounds_toArray, List.set_cons_zero, List.set_cons_succ]
    refine wpAnyH_take (i := 6) (v := .int .i64 n) rfl (by kernel_rfl) (by kernel_rfl) (by kernel_rfl) (fun _ _ _ h => h) (Or.inl ⟨by rfl, fun w' hS => by go_simp⟩) hHeld ?_
    simp only [Act.put, List.getElem_toArray, List.getElem_cons_zero, List.getElem_cons_succ, List.setIfInBounds_toArray, List.set_cons_zero, List.set_cons_succ]
    refine wpAnyH_take (i := 8) (v := .pointer (some ⟨X.b, 0, none⟩)) rfl (by kernel_rfl) (by kernel_rfl) (by kernel_rfl) (fun _ _ _ h => h) (Or.inl ⟨by rfl, fun w' hS => by go_simp⟩) hHeld ?_
    simp only [Act.put, List.getElem_toArray, List.getElem_cons_zero, List.getElem_cons_succ, List.setIfInBounds_toArray, List.set_cons_zero, List.set_cons_succ]
    refine wpAnyH_take (i := 9) (v := .int .i64 (s : Int)) rfl (by kernel_rfl) (by kernel_rfl) (by kernel_rfl) (fun _ _ _ h => h) (Or.inl ⟨by rfl, fun w' hS => by go_simp⟩) hHeld ?_
    simp only [Act.put, List.getElem_toArray, List.getElem_cons_zero, List.getElem_cons_succ, List.setIfInBounds_toArray, List.set_cons_zero, List.set_cons_succ]
    refine wpAnyH_take (i := 10) (v := .pointer (some ⟨X.b, 0, none⟩)) rfl (by kernel_rfl) (by kernel_rfl) (by kernel_rfl) (fun _ _ _ h => h) (Or.inl ⟨by rfl, fun w' hS => by go_simp⟩) hHeld ?_
    simp only [Act.put, List.getElem_toArray, List.getElem_cons_zero, List.getElem_cons_succ, List.setIfInBounds_toArray, List.set_cons_zero, List.set_cons_succ]
    refine wpAnyH_take (i := 11) (v := .pointer (some ⟨X.b, 8, none⟩)) rfl (by kernel_rfl) (by kernel_rfl) (by kernel_rfl) (fun _ _ _ h => h) (Or.inl ⟨by rfl, fun w' hS => by go_simp⟩) hHeld ?_
    simp only [Act.put, List.getElem_toArray, List.getElem_cons_zero, List.getElem_cons_succ, List.setIfInBounds_toArray, List.set_cons_zero, List.set_cons_succ]
    refine wpAnyH_take (i := 12) (v := .pointer (some ⟨X.b, 8 + s, none⟩)) rfl (by kernel_rfl) (by kernel_rfl) (by kernel_rfl) (fun _ _ _ h => h) (Or.inl ⟨by rfl, fun w' hS => by go_simp⟩) hHeld ?_
    simp only [Act.put, List.getElem_toArray, List.getElem_cons_zero, List.getElem_cons_succ, List.setIfInBounds_toArray, List.set_cons_zero, List.set_cons_succ]
    refine wpAnyH_take (i := 13) (v := .slice (some ⟨g, 0, none⟩) ln cc) rfl (by kernel_rfl) (by kernel_rfl) (by kernel_rfl) (fun _ _ _ h => h) (Or.inl ⟨by rfl, fun w' hS => by (obtain ⟨s0, t0, t1, t2, t3, t4, t5⟩ := hS; go_simp)⟩) hHeld ?_
    simp only [Act.put, List.getElem_toArray, List.getElem_cons_zero, List.getElem_cons_succ, List.setIfInBounds_toArray, List.set_cons_zero, List.set_cons_succ]
    refine wpAnyH_take (i := 14) (v := .int .i64 (ln : Int)) rfl (by kernel_rfl) (by kernel_rfl) (by kernel_rfl) (fun _ _ _ h => h) (Or.inl ⟨by rfl, fun w' hS => by go_simp⟩) hHeld ?_
    simp only [Act.put, List.getElem_toArray, List.getElem_cons_zero, List.getElem_cons_succ, List.setIfInBounds_toArray, List.set_cons_zero, List.set_cons_succ]
    have hbD : Below w.heap.size w w.drew := drew_bel w
    have qrv := below_at hbD rv
    have qx0 := below_at hbD x0
    have qx1 := below_at hbD x1
    have qx2 := below_at hbD x2
    have qx3 := below_at hbD x3
    have qx4 := below_at hbD x4
    have qx5 := below_at hbD x5
    clear rv x0 x1 x2 x3 x4 x5
    generalize w.drew = D0 at *
    refine wpAnyH_ready (rs := [7, 18]) (by kernel_rfl) (by simp) ?_
    refine AllReadyH.cons rfl (fun K hK => ?_) (AllReadyH.cons rfl (fun K hK => ?_) AllReadyH.nil)
    · go_simp
      refine (abs_any hn0 hn1).mono ?_
      rintro e w2 ⟨rfl, rfl⟩
      refine hK.out _ _ ⟨qrv, qx0, qx1, qx2, qx3, qx4, qx5⟩ (fun hHeld => ?_)
      clear hK K
      refine wpAnyH_take (i := 15) (v := .int .i64 (k : Int)) rfl (by kernel_rfl) (by kernel_rfl) (by kernel_rfl) (fun _ _ _ h => h) (Or.inl ⟨by rfl, fun w' hS => by (go_simp; rw [if_neg Hl0.out, Hk.out])⟩) hHeld ?_
      simp only [Act.put, List.getElem_toArray, List.getElem_cons_zero, List.getElem_cons_succ, List.setIfInBounds_toArray, List.set_cons_zero, List.set_cons_succ]
      refine wpAnyH_take (i := 16) (v := .pointer (some ⟨g, k * 6, none⟩)) rfl (by kernel_rfl) (by kernel_rfl) (by kernel_rfl) (fun _ _ _ h => h) (Or.inl ⟨by rfl, fun w' hS => by go_simp⟩) hHeld ?_
      simp only [Act.put, List.getElem_toArray, List.getElem_cons_zero, List.getElem_cons_succ, List.setIfInBounds_toArray, List.set_cons_zero, List.set_cons_succ]
      refine wpAnyH_take (i := 17) (v := .agg #[.int .i64 3, .int .i64 2, .int .i64 4, .int .i64 9, .int .i64 (sq : Int), .slice (some ⟨yk, 0, none⟩) yn yc]) rfl (by kernel_rfl) (by kernel_rfl) (by kernel_rfl) (fun _ _ _ h => h) (Or.inl ⟨by rfl, fun w' hS => by (obtain ⟨s0, t0, t1, t2, t3, t4, t5⟩ := hS; go_simp)⟩) hHeld ?_
      simp only [Act.put, List.getElem_toArray, List.getElem_cons_zero, List.getElem_cons_succ, List.setIfInBounds_toArray, List.set_cons_zero, List.set_cons_succ]
      refine wpAnyH_ready (rs := [18]) (by kernel_rfl) (by simp) ?_
      refine AllReadyH.cons rfl (fun K hK => ?_) AllReadyH.nil
      go_simp
      refine hK.out _ _ ⟨below_at (balloc (Below.refl _ _)) qrv, below_at (balloc (Below.refl _ _)) qx0, below_at (balloc (Below.refl _ _)) qx1, below_at (balloc (Below.refl _ _)) qx2, below_at (balloc (Below.refl _ _)) qx3, below_at (balloc (Below.refl _ _)) qx4, below_at (balloc (Below.refl _ _)) qx5⟩ (fun hHeld => ?_)
      clear hK K
      have hkb : (D0.alloc (.cells #[.int .i64 0, .int .i64 0, .int .i64 0, .int .i64 0, .int .i64 0, .slice none 0 0] 54)).heap[D0.heap.size]? = some (.cells #[.int .i64 0, .int .i64 0, .int .i64 0, .int .i64 0, .int .i64 0, .slice none 0 0] 54 (0, 0)) := heap_alloc_new _ _
      have hbA : Below D0.heap.size D0 (D0.alloc (.cells #[.int .i64 0, .int .i64 0, .int .i64 0, .int .i64 0, .int .i64 0, .slice none 0 0] 54)) := balloc (Below.refl _ _)
      have hset : Below D0.heap.size D0 ((D0.alloc (.cells #[.int .i64 0, .int .i64 0, .int .i64 0, .int .i64 0, .int .i64 0, .slice none 0 0] 54)).setCells D0.heap.size 0 [.int .i64 3, .int .i64 2, .int .i64 4, .int .i64 9, .int .i64 (sq : Int), .slice (some ⟨yk, 0, none⟩) yn yc]) := bsets (Nat.le_refl _) _ _ hbA
      refine wpAnyH_ready (rs := [19]) (by kernel_rfl) (by simp) ?_
      refine AllReadyH.cons rfl (fun K hK => ?_) AllReadyH.nil
      refine step_storeL rfl 54 (.tmp 7) (.tmp 38) rfl (L := [.int .i64 3, .int .i64 2, .int .i64 4, .int .i64 9, .int .i64 (sq : Int), .slice (some ⟨yk, 0, none⟩) yn yc]) rfl rfl (blk_there hkb rfl) (by kernel_rfl) (by intro u hu; simp at hu; rcases hu with rfl | rfl | rfl | rfl | rfl | rfl <;> rfl) ?_
      refine hK.out _ _ ⟨below_at hset qrv, below_at hset qx0, below_at hset qx1, below_at hset qx2, below_at hset qx3, below_at hset qx4, below_at hset qx5⟩ (fun hHeld => ?_)
      clear hK K
      refine wpAnyH_done (by kernel_rfl) ?_ _
      clear hHeld
      simp only [Act.put, List.getElem_toArray, List.getElem_cons_zero, List.getElem_cons_succ, List.setIfInBounds_toArray, List.set_cons_zero, List.set_cons_succ]
      go_wp2
      go_meet
      exact ⟨D0.heap.size, rfl, (show _ ∧ _ from ⟨sets_whole hkb rfl, hbD.size⟩), bstep hbD hset⟩
    · go_simp
      refine hK.out _ _ ⟨below_at (balloc (Below.refl _ _)) qrv, below_at (balloc (Below.refl _ _)) qx0, below_at (balloc (Below.refl _ _)) qx1, below_at (balloc (Below.refl _ _)) qx2, below_at (balloc (Below.refl _ _)) qx3, below_at (balloc (Below.refl _ _)) qx4, below_at (balloc (Below.refl _ _)) qx5⟩ (fun hHeld => ?_)
      clear hK K
      refine wpAnyH_ready (rs := [7]) (by kernel_rfl) (by simp) ?_
      refine AllReadyH.cons rfl (fun K hK => ?_) AllReadyH.nil
      go_simp
      refine (abs_any hn0 hn1).mono ?_
      rintro e w2 ⟨rfl, rfl⟩
      refine hK.out _ _ ⟨below_at (balloc (Below.refl _ _)) qrv, below_at (balloc (Below.refl _ _)) qx0, below_at (balloc (Below.refl _ _)) qx1, below_at (balloc (Below.refl _ _)) qx2, below_at (balloc (Below.refl _ _)) qx3, below_at (balloc (Below.refl _ _)) qx4, below_at (balloc (Below.refl _ _)) qx5⟩ (fun hHeld => ?_)
      clear hK K
      refine wpAnyH_take (i := 15) (v := .int .i64 (k : Int)) rfl (by kernel_rfl) (by kernel_rfl) (by kernel_rfl) (fun _ _ _ h => h) (Or.inl ⟨by rfl, fun w' hS => by (go_simp; rw [if_neg Hl0.out, Hk.out])⟩) hHeld ?_
      simp only [Act.put, List.getElem_toArray, List.getElem_cons_zero, List.getElem_cons_succ, List.setIfInBounds_toArray, List.set_cons_zero, List.set_cons_succ]
      refine wpAnyH_take (i := 16) (v := .pointer (some ⟨g, k * 6, none⟩)) rfl (by kernel_rfl) (by kernel_rfl) (by kernel_rfl) (fun _ _ _ h => h) (Or.inl ⟨by rfl, fun w' hS => by go_simp⟩) hHeld ?_
      simp only [Act.put, List.getElem_toArray, List.getElem_cons_zero, List.getElem_cons_succ, List.setIfInBounds_toArray, List.set_cons_zero, List.set_cons_succ]
      refine wpAnyH_take (i := 17) (v := .agg #[.int .i64 3, .int .i64 2, .int .i64 4, .int .i64 9, .int .i64 (sq : Int), .slice (some ⟨yk, 0, none⟩) yn yc]) rfl (by kernel_rfl) (by kernel_rfl) (by kernel_rfl) (fun _ _ _ h => h) (Or.inl ⟨by rfl, fun w' hS => by (obtain ⟨s0, t0, t1, t2, t3, t4, t5⟩ := hS; go_simp)⟩) hHeld ?_
      simp only [Act.put, List.getElem_toArray, List.getElem_cons_zero, List.getElem_cons_succ, List.setIfInBounds_toArray, List.set_cons_zero, List.set_cons_succ]
      have hkb : (D0.alloc (.cells #[.int .i64 0, .int .i64 0, .int .i64 0, .int .i64 0, .int .i64 0, .slice none 0 0] 54)).heap[D0.heap.size]? = some (.cells #[.int .i64 0, .int .i64 0, .int .i64 0, .int .i64 0, .int .i64 0, .slice none 0 0] 54 (0, 0)) := heap_alloc_new _ _
      have hbA : Below D0.heap.size D0 (D0.alloc (.cells #[.int .i64 0, .int .i64 0, .int .i64 0, .int .i64 0, .int .i64 0, .slice none 0 0] 54)) := balloc (Below.refl _ _)
      have hset : Below D0.heap.size D0 ((D0.alloc (.cells #[.int .i64 0, .int .i64 0, .int .i64 0, .int .i64 0, .int .i64 0, .slice none 0 0] 54)).setCells D0.heap.size 0 [.int .i64 3, .int .i64 2, .int .i64 4, .int .i64 9, .int .i64 (sq : Int), .slice (some ⟨yk, 0, none⟩) yn yc]) := bsets (Nat.le_refl _) _ _ hbA
      refine wpAnyH_ready (rs := [19]) (by kernel_rfl) (by simp) ?_
      refine AllReadyH.cons rfl (fun K hK => ?_) AllReadyH.nil
      refine step_storeL rfl 54 (.tmp 7) (.tmp 38) rfl (L := [.int .i64 3, .int .i64 2, .int .i64 4, .int .i64 9, .int .i64 (sq : Int), .slice (some ⟨yk, 0, none⟩) yn yc]) rfl rfl (blk_there hkb rfl) (by kernel_rfl) (by intro u hu; simp at hu; rcases hu with rfl | rfl | rfl | rfl | rfl | rfl <;> rfl) ?_
      refine hK.out _ _ ⟨below_at hset qrv, below_at hset qx0, below_at hset qx1, below_at hset qx2, below_at hset qx3, below_at hset qx4, below_at hset qx5⟩ (fun hHeld => ?_)
      clear hK K
      refine wpAnyH_done (by kernel_rfl) ?_ _
      clear hHeld
      simp only [Act.put, List.getElem_toArray, List.getElem_cons_zero, List.getElem_cons_succ, List.setIfInBounds_toArray, List.set_cons_zero, List.set_cons_succ]
      go_wp2
      go_meet
      exact ⟨D0.heap.size, rfl, (show _ ∧ _ from ⟨sets_whole hkb rfl, hbD.size⟩), bstep hbD hset⟩
  case rest =>
  obtain ⟨kd, rfl, Hblk, HBc⟩ := hcut
  have hXc := Hh.out.still HBc.out
  have cm := hXc.cm Ht2.out
  have y0 : wc.cell? ⟨kd, 0, none⟩ = some (.int .i64 3) := blk_cell Hblk.out.1 0
  have y1 : wc.cell? ⟨kd, 1, none⟩ = some (.int .i64 2) := blk_cell Hblk.out.1 1
  have y2 : wc.cell? ⟨kd, 2, none⟩ = some (.int .i64 4) := blk_cell Hblk.out.1 2
  have y3 : wc.cell? ⟨kd, 3, none⟩ = some (.int .i64 9) := blk_cell Hblk.out.1 3
  have y4 : wc.cell? ⟨kd, 4, none⟩ = some (.int .i64 (sq : Int)) := blk_cell Hblk.out.1 4
  have y5 : wc.cell? ⟨kd, 5, none⟩ = some (.slice (some ⟨yk, 0, none⟩) yn yc) := blk_cell Hblk.out.1 5
  have Hnk : Hid (¬ X.own kd) := (show ¬ X.own kd from fun e => by have := Hh.out.lt e; have := Hblk.out.2; omega)
  have HC : Hid (∀ D, Below wc.heap.size wc D → Calls Try.prog 29 #[.slice (some ⟨yk, 0, none⟩) yn yc] D fun e w' => CpO D w' ybs e) := fun D hb => HC0.out D (bstep HBc.out hb)
  have HTk : Hid (∀ D w3 (y1 : Bn), Below wc.heap.size wc D → Below D.heap.size D w3 → y1.bs = ybs → y1.Ok w3 D.heap.size → Calls Try.prog 14 #[.pointer (some ⟨(X.m t).b, 0, none⟩), .int .i64 (2 + 3 * (s : Int)), .agg #[.int .i64 3, .int .i64 2, .int .i64 4, .int .i64 9, .int .i64 (sq : Int), .slice (some ⟨y1.k, 0, none⟩) ybs.length y1.c]] w3 fun e w' => TkO w w3 w' X B t (sq, ybs) e) := fun D w3 y1 hbD hb3 hy hok => HTk0.out D w3 y1 (bstep HBc.out hbD) hb3 hy hok
  obtain ⟨wv, rfl⟩ : ∃ x : World, x = wc := ⟨_, rfl⟩
  clear hXc rv x0 x1 x2 x3 x4 x5 HC0 HTk0 Hblk
  go_upto_region 5 with (fail)
  go_cut [9, 10] (fun v9 v10 wx => ∃ (la : Option Addr) (ll lc : Nat), v9 = .slice la ll lc ∧ v10 = .int .i64 0 ∧ Hid (∃ X1 bl, CrO w wx X B t (sq, ybs) X1 bl la lc ∧ bl.length = ll))
  case first =>
    go_wp2_with (fail)
    refine wp_region_held_drew (S := (fun w' => w'.cell? ⟨X.b, t, none⟩ = some (.pointer (some ⟨(X.m t).b, 0, none⟩)) ∧ w'.cell? ⟨kd, 0, none⟩ = some (.int .i64 3) ∧ w'.cell? ⟨kd, 1, none⟩ = some (.int .i64 2) ∧ w'.cell? ⟨kd, 2, none⟩ = some (.int .i64 4) ∧ w'.cell? ⟨kd, 3, none⟩ = some (.int .i64 9) ∧ w'.cell? ⟨kd, 4, none⟩ = some (.int .i64 (sq : Int)) ∧ w'.cell? ⟨kd, 5, none⟩ = some (.slice (some ⟨yk, 0, none⟩) yn yc))) (by kernel_rfl) ⟨below_at (drew_bel _) cm, below_at (drew_bel _) y0, below_at (drew_bel _) y1, below_at (drew_bel _) y2, below_at (drew_bel _) y3, below_at (drew_bel _) y4, below_at (drew_bel _) y5⟩ (fun hHeld => ?_)
    simp only [Act.put, List.size_toArray, List.length_cons, List.length_nil, Nat.zero_add]
    refine wpAnyH_take (i := 0) (v := .pointer (some ⟨X.b, 0, none⟩)) rfl (by kernel_rfl) (by kernel_rfl) (by kernel_rfl) (fun _ _ _ h => h) (Or.inl ⟨by rfl, fun w' hS => by go_simp⟩) hHeld ?_
    simp only [Act.put, List.getElem_toArray, List.getElem_cons_zero, List.getElem_cons_succ, List.setIfInBounds_toArray, List.set_cons_zero, List.set_cons_succ]
    refine wpAnyH_take (i := 1) (v := .int .i64 (t : Int)) rfl (by kernel_rfl) (by kernel_rfl) (by kernel_rfl) (fun _ _ _ h => h) (Or.inl ⟨by rfl, fun w' hS => by go_simp⟩) hHeld ?_
    simp only [Act.put, List.getElem_toArray, List.getElem_cons_zero, List.getElem_cons_succ, List.setIfInBounds_toArray, List.set_cons_zero, List.set_cons_succ]
    refine wpAnyH_take (i := 2) (v := .pointer (some ⟨X.b, 0, none⟩)) rfl (by kernel_rfl) (by kernel_rfl) (by kernel_rfl) (fun _ _ _ h => h) (Or.inl ⟨by rfl, fun w' hS => by go_simp⟩) hHeld ?_
    simp only [Act.put, List.getElem_toArray, List.getElem_cons_zero, List.getElem_cons_succ, List.setIfInBounds_toArray, List.set_cons_zero, List.set_cons_succ]
    refine wpAnyH_take (i := 3) (v := .pointer (some ⟨X.b, 0, none⟩)) rfl (by kernel_rfl) (by kernel_rfl) (by kernel_rfl) (fun _ _ _ h => h) (Or.inl ⟨by rfl, fun w' hS => by go_simp⟩) hHeld ?_
    simp only [Act.put, List.getElem_toArray, List.getElem_cons_zero, List.getElem_cons_succ, List.setIfInBounds_toArray, List.set_cons_zero, List.set_cons_succ]
    refine wpAnyH_take (i := 4) (v := .pointer (some ⟨X.b, t, none⟩)) rfl (by kernel_rfl) (by kernel_rfl) (by kernel_rfl) (fun _ _ _ h => h) (Or.inl ⟨by rfl, fun w' hS => by go_simp⟩) hHeld ?_
    simp only [Act.put, List.getElem_toArray, List.getElem_cons_zero, List.getElem_cons_succ, List.setIfInBounds_toArray, List.set_cons_zero, List.set_cons_succ]
    refine wpAnyH_take (i := 5) (v := .pointer (some ⟨(X.m t).b, 0, none⟩)) rfl (by kernel_rfl) (by kernel_rfl) (by kernel_rfl) (fun _ _ _ h => h) (Or.inl ⟨by rfl, fun w' hS => by (obtain ⟨s0, t0, t1, t2, t3, t4, t5⟩ := hS; go_simp)⟩) hHeld ?_
    simp only [Act.put, List.getElem_toArray, List.getElem_cons_zero, List.getElem_cons_succ, List.setIfInBounds_toArray, List.set_cons_zero, List.set_cons_succ]
    refine wpAnyH_take (i := 6) (v := .int .i64 (s : Int)) rfl (by kernel_rfl) (by kernel_rfl) (by kernel_rfl) (fun _ _ _ h => h) (Or.inl ⟨by rfl, fun w' hS => by go_simp⟩) hHeld ?_
    simp only [Act.put, List.getElem_toArray, List.getElem_cons_zero, List.getElem_cons_succ, List.setIfInBounds_toArray, List.set_cons_zero, List.set_cons_succ]
    refine wpAnyH_take (i := 8) (v := .pointer (some ⟨kd, 0, none⟩)) rfl (by kernel_rfl) (by kernel_rfl) (by kernel_rfl) (fun _ _ _ h => h) (Or.inl ⟨by rfl, fun w' hS => by go_simp⟩) hHeld ?_
    simp only [Act.put, List.getElem_toArray, List.getElem_cons_zero, List.getElem_cons_succ, List.setIfInBounds_toArray, List.set_cons_zero, List.set_cons_succ]
    refine wpAnyH_take (i := 9) (v := .agg #[.int .i64 3, .int .i64 2, .int .i64 4, .int .i64 9]) rfl (by kernel_rfl) (by kernel_rfl) (by kernel_rfl) (fun _ _ _ h => h) (Or.inl ⟨by rfl, fun w' hS => by (obtain ⟨s0, t0, t1, t2, t3, t4, t5⟩ := hS; go_simp)⟩) hHeld ?_
    simp only [Act.put, List.getElem_toArray, List.getElem_cons_zero, List.getElem_cons_succ, List.setIfInBounds_toArray, List.set_cons_zero, List.set_cons_succ]
    refine wpAnyH_take (i := 10) (v := .pointer (some ⟨kd, 4, none⟩)) rfl (by kernel_rfl) (by kernel_rfl) (by kernel_rfl) (fun _ _ _ h => h) (Or.inl ⟨by rfl, fun w' hS => by go_simp⟩) hHeld ?_
    simp only [Act.put, List.getElem_toArray, List.getElem_cons_zero, List.getElem_cons_succ, List.setIfInBounds_toArray, List.set_cons_zero, List.set_cons_succ]
    refine wpAnyH_take (i := 11) (v := .int .i64 (sq : Int)) rfl (by kernel_rfl) (by kernel_rfl) (by kernel_rfl) (fun _ _ _ h => h) (Or.inl ⟨by rfl, fun w' hS => by (obtain ⟨s0, t0, t1, t2, t3, t4, t5⟩ := hS; go_simp)⟩) hHeld ?_
    simp only [Act.put, List.getElem_toArray, List.getElem_cons_zero, List.getElem_cons_succ, List.setIfInBounds_toArray, List.set_cons_zero, List.set_cons_succ]
    refine wpAnyH_take (i := 12) (v := .pointer (some ⟨kd, 5, none⟩)) rfl (by kernel_rfl) (by kernel_rfl) (by kernel_rfl) (fun _ _ _ h => h) (Or.inl ⟨by rfl, fun w' hS => by go_simp⟩) hHeld ?_
    simp only [Act.put, List.getElem_toArray, List.getElem_cons_zero, List.getElem_cons_succ, List.setIfInBounds_toArray, List.set_cons_zero, List.set_cons_succ]
    refine wpAnyH_take (i := 13) (v := .slice (some ⟨yk, 0, none⟩) yn yc) rfl (by kernel_rfl) (by kernel_rfl) (by kernel_rfl) (fun _ _ _ h => h) (Or.inl ⟨by rfl, fun w' hS => by (obtain ⟨s0, t0, t1, t2, t3, t4, t5⟩ := hS; go_simp)⟩) hHeld ?_
    simp only [Act.put, List.getElem_toArray, List.getElem_cons_zero, List.getElem_cons_succ, List.setIfInBounds_toArray, List.set_cons_zero, List.set_cons_succ]
    have hbD : Below wv.heap.size wv wv.drew := drew_bel _
    have qm := below_at hbD cm
    have q0 := below_at hbD y0
    have q1 := below_at hbD y1
    have q2 := below_at hbD y2
    have q3 := below_at hbD y3
    have q4 := below_at hbD y4
    have q5 := below_at hbD y5
    clear cm y0 y1 y2 y3 y4 y5
    generalize wv.drew = D5 at *
    refine wpAnyH_ready (rs := [7]) (by kernel_rfl) (by simp) ?_
    refine AllReadyH.cons rfl (fun K hK => ?_) AllReadyH.nil
    go_simp
    refine (pid_any i1 (by omega)).mono ?_
    rintro e w2 ⟨rfl, rfl⟩
    refine hK.out _ _ ⟨qm, q0, q1, q2, q3, q4, q5⟩ (fun hHeld => ?_)
    clear hK K
    refine wpAnyH_ready (rs := [14]) (by kernel_rfl) (by simp) ?_
    refine AllReadyH.cons rfl (fun K hK => ?_) AllReadyH.nil
    go_simp
    refine (HC.out D5 hbD).mono ?_
    rintro e w3 ⟨⟨y1, rfl, hy1, hok1⟩, hb3⟩
    unfold Bn.v
    rw [hy1]
    have Hy1 : Hid (y1.bs = ybs) := hy1
    clear hy1
    refine hK.out _ _ ⟨below_at hb3 qm, below_at hb3 q0, below_at hb3 q1, below_at hb3 q2, below_at hb3 q3, below_at hb3 q4, below_at hb3 q5⟩ (fun hHeld => ?_)
    clear hK K
    refine wpAnyH_take (i := 15) (v := .agg #[.int .i64 3, .int .i64 2, .int .i64 4, .int .i64 9, .int .i64 (sq : Int), .slice (some ⟨y1.k, 0, none⟩) ybs.length y1.c]) rfl (by kernel_rfl) (by kernel_rfl) (by kernel_rfl) (fun _ _ _ h => h) (Or.inl ⟨by rfl, fun w' hS => by go_simp⟩) hHeld ?_
    simp only [Act.put, List.getElem_toArray, List.getElem_cons_zero, List.getElem_cons_succ, List.setIfInBounds_toArray, List.set_cons_zero, List.set_cons_succ]
    refine wpAnyH_ready (rs := [16]) (by kernel_rfl) (by simp) ?_
    refine AllReadyH.cons rfl (fun K hK => ?_) AllReadyH.nil
    go_simp
    refine (HTk.out D5 w3 y1 hbD hb3 Hy1.out hok1).mono ?_
    rintro e w4 ⟨⟨X1, bl, la, lc, rfl, hcr⟩, hkp, hcm4⟩
    refine hK.out _ _ ⟨hcm4 t Ht2.out, kept_cell hkp Hnk.out (below_at hb3 q0), kept_cell hkp Hnk.out (below_at hb3 q1), kept_cell hkp Hnk.out (below_at hb3 q2), kept_cell hkp Hnk.out (below_at hb3 q3), kept_cell hkp Hnk.out (below_at hb3 q4), kept_cell hkp Hnk.out (below_at hb3 q5)⟩ (fun hHeld => ?_)
    clear hK K
    refine wpAnyH_take (i := 17) (v := .tuple #[.slice la bl.length lc, .int .i64 0]) rfl (by kernel_rfl) (by kernel_rfl) (by kernel_rfl) (fun _ _ _ h => h) (Or.inl ⟨by rfl, fun w' hS => by go_simp⟩) hHeld ?_
    simp only [Act.put, List.getElem_toArray, List.getElem_cons_zero, List.getElem_cons_succ, List.setIfInBounds_toArray, List.set_cons_zero, List.set_cons_succ]
    refine wpAnyH_take (i := 18) (v := .slice la bl.length lc) rfl (by kernel_rfl) (by kernel_rfl) (by kernel_rfl) (fun _ _ _ h => h) (Or.inl ⟨by rfl, fun w' hS => by go_simp⟩) hHeld ?_
    simp only [Act.put, List.getElem_toArray, List.getElem_cons_zero, List.getElem_cons_succ, List.setIfInBounds_toArray, List.set_cons_zero, List.set_cons_succ]
    refine wpAnyH_take (i := 19) (v := .int .i64 0) rfl (by kernel_rfl) (by kernel_rfl) (by kernel_rfl) (fun _ _ _ h => h) (Or.inl ⟨by rfl, fun w' hS => by go_simp⟩) hHeld ?_
    simp only [Act.put, List.getElem_toArray, List.getElem_cons_zero, List.getElem_cons_succ, List.setIfInBounds_toArray, List.set_cons_zero, List.set_cons_succ]
    refine wpAnyH_take (i := 20) (v := .slice la bl.length lc) rfl (by kernel_rfl) (by kernel_rfl) (by kernel_rfl) (fun _ _ _ h => h) (Or.inl ⟨by rfl, fun w' hS => by go_simp⟩) hHeld ?_
    simp only [Act.put, List.getElem_toArray, List.getElem_cons_zero, List.getElem_cons_succ, List.setIfInBounds_toArray, List.set_cons_zero, List.set_cons_succ]
    refine wpAnyH_take (i := 21) (v := .int .i64 0) rfl (by kernel_rfl) (by kernel_rfl) (by kernel_rfl) (fun _ _ _ h => h) (Or.inl ⟨by rfl, fun w' hS => by go_simp⟩) hHeld ?_
    simp only [Act.put, List.getElem_toArray, List.getElem_cons_zero, List.getElem_cons_succ, List.setIfInBounds_toArray, List.set_cons_zero, List.set_cons_succ]
    refine wpAnyH_done (by kernel_rfl) ?_ _
    clear hHeld
    go_wp2
    go_meet
    exact ⟨la, bl.length, lc, rfl, rfl, (show ∃ X1 bl2, CrO _ _ _ _ _ _ X1 bl2 _ _ ∧ _ from ⟨X1, bl, hcr, rfl⟩)⟩
  case rest =>
  obtain ⟨la, ll, lc, rfl, rfl, Hcr⟩ := hcut
  obtain ⟨X1, bl, hcr, hll⟩ := Hcr.out
  obtain ⟨w1, rfl⟩ : ∃ x : World, x = wc := ⟨_, rfl⟩
  have HCr : Hid (CrO w w1 X B t (sq, ybs) X1 bl la lc) := hcr
  have Hll : Hid (bl.length = ll) := hll
  have HXb : Hid (X1.b = X.b) := hcr.st.b
  have HB1 : Hid (B ≤ w1.heap.size) := (show B ≤ w1.heap.size from Nat.le_trans HB0.out hcr.st.kept.size)
  have HS0 : Hid (∃ Xi, CaS w1 w1 X1 B t 0 bl Xi) := (show ∃ Xi, CaS _ _ _ _ _ _ _ Xi from ⟨X1, hcr.st.ok, Kept.refl _ _, fun j hj => .inl hj, rfl, rfl, rfl, rfl, fun _ _ => rfl, by simp, by simp [upd_self], fun q hq => .inl (own_r (by omega) (by omega) hq)⟩)
  have Hpre : Hid (∀ i b, bl[i]? = some b → (X.pu.p s)[(X.o t).length + i]? = some b.bs) := fun i b hb => by
    have h1 := HITk.out s (by omega)
    rw [← Hte.out] at h1
    have h2 := h1.pre
    have e1 : (X.pu.take t (sq, ybs)).o t = X.pu.o t ++ bl.map Bd.bs := by
      rw [← hcr.pu]
      show upd X1.pu.o t _ t = _
      rw [upd_same]
      congr 1
      show (X1.o t).map Bn.bs = (X.o t).map Bn.bs
      rw [hcr.o]
    have e2 : (X.pu.take t (sq, ybs)).p = X.pu.p := by unfold Px.take; split <;> rfl
    rw [e1, e2] at h2
    have e3 := congrArg (fun l => l[(X.o t).length + i]?) h2
    have e4 : (X.pu.o t).length = (X.o t).length := List.length_map ..
    simp only [List.getElem?_append, List.getElem?_take] at e3
    rw [if_neg (by omega), show (X.o t).length + i - (X.pu.o t).length = i by omega, List.getElem?_map, hb] at e3
    split at e3
    · exact e3.symm
    · cases e3
  have hlT : ll ≤ 1000 := by
    by_cases e0 : ll = 0
    · omega
    · have hb : bl[ll - 1]? = some bl[ll - 1] := List.getElem?_eq_getElem (by omega)
      have := (List.getElem?_eq_some_iff.1 (Hpre.out _ _ hb)).1
      have a2 : (X.pu.p s).length = (X.p s).length := List.length_map ..
      have := HpT.out
      omega
  have HoT : Hid ((X.o t).length ≤ 1000) := (show (X.o t).length ≤ 1000 from by
    have h1 := HI.out s (by omega)
    rw [← Hte.out] at h1
    have a1 : (X.e t).i.p = (X.pu.o t).length := h1.got
    have a2 : (X.e t).i.p ≤ (X.pu.p s).length := h1.le
    have a3 : (X.pu.o t).length = (X.o t).length := List.length_map ..
    have a4 : (X.pu.p s).length = (X.p s).length := List.length_map ..
    have := HpT.out
    omega)
  clear hcr hll Hcr HC HTk cm y0 y1 y2 y3 y4 y5 HBc Hnk
  go_wp2_with (first | (go_at_call 17; refine (num_any 0).mono ?_; rintro e w' ⟨rfl, rfl⟩) | fail)
  go_loopw [11] (fun v11 wr => ∃ i : Nat, i ≤ ll ∧ v11 = .int .i64 (i : Int) ∧ Hid (∃ Xi, CaS w1 wr X1 B t i bl Xi)) (fun v11 _ => ll - (intOf v11).toNat)
  case atStart => exact ⟨0, by omega, rfl, HS0⟩
  case round =>
    obtain ⟨i, hi, rfl, hca⟩ := hrel
    obtain ⟨Xi, hcx⟩ := hca.out
    have hXr := hcx.ok
    obtain ⟨ra, rc, hrv⟩ := row_shape (hXr.rowo (s := t) Ht2.out)
    obtain ⟨rn, hrn⟩ : ∃ rn, (Xi.o t).length = rn := ⟨_, rfl⟩
    rw [hrn] at hrv
    have Hrv : Hid (Xi.v (6 + t) = .slice ra rn rc) := hrv
    have Hrn : Hid ((Xi.o t).length = rn) := hrn
    have hrn2 : rn = (X.o t).length + i := by
      rw [← hrn, hcx.o, List.length_append, List.length_map, List.length_take, HCr.out.o]
      have := Hll.out
      omega
    have hrn3 : rn ≤ 2000 := by have := HoT.out; omega
    have Hca : Hid (CaS w1 wr X1 B t i bl Xi) := hcx
    have u1 : wr.cell? ⟨X.b, 6 + t, none⟩ = some (.slice ra rn rc) := by have e2 := hXr.cr (i := 6 + t) (by omega) (by omega); rw [hrv, hcx.b, HXb.out] at e2; exact e2
    by_cases hlt : i < ll
    · have hl1 : i < bl.length := by rw [Hll.out]; exact hlt
      obtain ⟨bo, hbo⟩ : ∃ bo, bl[i]? = some bo := ⟨_, List.getElem?_eq_getElem hl1⟩
      have Hbi : Hid (bl[i]? = some bo) := hbo
      have hbm : bo ∈ bl := List.mem_of_getElem? hbo
      obtain ⟨bd1, bd2, bd3⟩ := HCr.out.bd bo hbm
      obtain ⟨lg, hlg⟩ := row_some (show w1.ownsRow w.heap.size 25 1 (.slice la ll lc) ll (bl.map Bd.v) from by rw [← Hll.out]; exact HCr.out.row) (by omega)
      subst hlg
      have hown1 : ¬ X1.own lg := HCr.out.rown Hh.out (by rw [Hll.out]; rfl)
      have hrow1 : w1.ownsRow w.heap.size 25 1 (.slice (some ⟨lg, 0, none⟩) ll lc) ll (bl.map Bd.v) := by rw [← Hll.out]; exact HCr.out.row
      have Hlg : Hid (¬ X1.own lg ∧ lg < w1.heap.size) := (show _ ∧ _ from ⟨hown1, (World.ownsRow.lt hrow1 lg rfl).2⟩)
      obtain ⟨bk, hbk⟩ : ∃ b, bo.k = b := ⟨_, rfl⟩
      obtain ⟨bn, hbn⟩ : ∃ b, bo.bs.length = b := ⟨_, rfl⟩
      have ul : wr.cell? ⟨lg, i, none⟩ = some (.slice (some ⟨bk, 0, none⟩) bn bn) := by
        have e1 := own_at hrow1 (j := i) (by omega)
        rw [List.getElem?_map, hbo] at e1
        have e2 : w1.cell? ⟨lg, i, none⟩ = some (.slice (some ⟨bk, 0, none⟩) bn bn) := by rw [e1, ← hbk, ← hbn]; rfl
        exact kept_cell hcx.kept hown1 e2
      have hbdr : Body wr B bo := bd1.keep hcx.kept bd2
      have hno : ¬ Xi.own bo.k ∨ True := .inr trivial
      have hmo : ∀ j, j < 2 → ¬ (Xi.m j).own bo.k := fun j hj e => by rw [hcx.m] at e; exact bd2 (own_m hj e)
      have Hbd : Hid (∀ D, Below wr.heap.size wr D → (bnO bo).Ok D B ∧ ¬ (Xi.m 0).own (bnO bo).k ∧ ¬ (Xi.m 1).own (bnO bo).k ∧ (bnO bo).v = .slice (some ⟨bk, 0, none⟩) bn bn) := fun D hb => ⟨(hbdr.still hb).bn, hmo 0 (by omega), hmo 1 (by omega), by unfold bnO Bn.v; rw [hbk, hbn]⟩
      have hrp := hXr.rowp (s := s) (by omega)
      rw [hcx.vp (4 + s) (by omega), hcx.p, HCr.out.p, HCr.out.v] at hrp
      obtain ⟨pa, pc, hpv⟩ := row_shape hrp
      obtain ⟨pn, hpn⟩ : ∃ b, (X.p s).length = b := ⟨_, rfl⟩
      rw [hpn] at hpv hrp
      rw [hpv] at hrp
      have hpi := Hpre.out i bo hbo
      rw [← hrn2] at hpi
      have hpl : rn < pn := by
        have := (List.getElem?_eq_some_iff.1 hpi).1
        have a4 : (X.pu.p s).length = (X.p s).length := List.length_map ..
        omega
      obtain ⟨pg, hpg⟩ := row_some hrp (by omega)
      subst hpg
      have hpi2 : ((X.p s).map Bn.bs)[rn]? = some bo.bs := hpi
      rw [List.getElem?_map] at hpi2
      obtain ⟨yp, hyp1, hyp2⟩ := Option.map_eq_some_iff.1 hpi2
      obtain ⟨pk, hpk⟩ : ∃ b, yp.k = b := ⟨_, rfl⟩
      obtain ⟨pl, hpl2⟩ : ∃ b, yp.bs.length = b := ⟨_, rfl⟩
      obtain ⟨pcc, hpcc⟩ : ∃ b, yp.c = b := ⟨_, rfl⟩
      have up : wr.cell? ⟨pg, rn, none⟩ = some (.slice (some ⟨pk, 0, none⟩) pl pcc) := by
        have e1 := own_at hrp (j := rn) (by omega)
        rw [List.getElem?_map, hyp1] at e1
        rw [e1, ← hpk, ← hpl2, ← hpcc]; rfl
      have u0 : wr.cell? ⟨X.b, 4 + s, none⟩ = some (.slice (some ⟨pg, 0, none⟩) pn pc) := by have e2 := hXr.cr (i := 4 + s) (by omega) (by omega); rw [hcx.vp (4 + s) (by omega), HCr.out.v, hpv, hcx.b, HXb.out] at e2; exact e2
      have hype : Xi.ents yp := ⟨s, by omega, .inl (by rw [hcx.p, HCr.out.p]; exact List.mem_of_getElem? hyp1)⟩
      have hypok := (hXr.en yp hype).1
      have hple := hypok.le
      have HSm : Hid (∀ D, Below wr.heap.size wr D → Calls Try.prog 31 #[.slice (some ⟨bk, 0, none⟩) bn bn, .slice (some ⟨pk, 0, none⟩) pl pcc] D fun e w' => e = .returned (.bool true) ∧ Below D.heap.size D w') := fun D hb => (show Calls _ _ _ _ _ from by
        have e1 := (hbdr.still hb).rd
        have e2 := (hypok.still hb).rd
        rw [hyp2, hpk, hpcc] at e2
        rw [hbk] at e1
        have e3 : pl = bo.bs.length := by rw [← hpl2, hyp2]
        rw [e3, ← hbn]
        exact same_eq e1 e2 (by rw [← e3, ← hpl2]; omega))
      have u2 : wr.cell? ⟨pg, rn, none⟩ = some (.slice (some ⟨pk, 0, none⟩) pl pcc) := up
      have hkp : rn < pn := hpl
      have i7 : (0 : Int) ≤ (i : Int) := Int.natCast_nonneg _
      have i8 : (i : Int) < (ll : Int) := by omega
      have i9 : (0 : Int) ≤ (rn : Int) := Int.natCast_nonneg _
      have i10 : (rn : Int) < (pn : Int) := by omega
      have u3 : wr.cell? ⟨lg, i, none⟩ = some (.slice (some ⟨bk, 0, none⟩) bn bn) := ul
      clear hca hcx hXr hrv hrn hrn2 hl1 hbo hbm bd1 bd2 bd3 hown1 hrow1 hbk hbn ul hbdr hno hmo hrp hpv hpn hpi hpl hpi2 hyp1 hyp2 hpk hpl2 hpcc up hype hypok hple
      go_wp2
      refine wp_region_held_drew (S := (fun w' => w'.cell? ⟨X.b, 4 + s, none⟩ = some (.slice (some ⟨pg, 0, none⟩) pn pc) ∧ w'.cell? ⟨lg, i, none⟩ = some (.slice (some ⟨bk, 0, none⟩) bn bn) ∧ w'.cell? ⟨pg, rn, none⟩ = some (.slice (some ⟨pk, 0, none⟩) pl pcc))) (by kernel_rfl) ⟨below_at (drew_bel _) u0, below_at (drew_bel _) u3, below_at (drew_bel _) u2⟩ (fun hHeld => ?_)
      simp only [Act.put, List.size_toArray, List.length_cons, List.length_nil, Nat.zero_add]
      refine wpAnyH_take (i := 0) (v := .int .i64 (rn : Int)) rfl (by kernel_rfl) (by kernel_rfl) (by kernel_rfl) (fun _ _ _ h => h) (Or.inl ⟨by rfl, fun w' hS => by go_simp⟩) hHeld ?_
      simp only [Act.put, List.getElem_toArray, List.getElem_cons_zero, List.getElem_cons_succ, List.setIfInBounds_toArray, List.set_cons_zero, List.set_cons_succ]
      refine wpAnyH_take (i := 1) (v := .pointer (some ⟨X.b, 0, none⟩)) rfl (by kernel_rfl) (by kernel_rfl) (by kernel_rfl) (fun _ _ _ h => h) (Or.inl ⟨by rfl, fun w' hS => by go_simp⟩) hHeld ?_
      simp only [Act.put, List.getElem_toArray, List.getElem_cons_zero, List.getElem_cons_succ, List.setIfInBounds_toArray, List.set_cons_zero, List.set_cons_succ]
      refine wpAnyH_take (i := 2) (v := .int .i64 (s : Int)) rfl (by kernel_rfl) (by kernel_rfl) (by kernel_rfl) (fun _ _ _ h => h) (Or.inl ⟨by rfl, fun w' hS => by go_simp⟩) hHeld ?_
      simp only [Act.put, List.getElem_toArray, List.getElem_cons_zero, List.getElem_cons_succ, List.setIfInBounds_toArray, List.set_cons_zero, List.set_cons_succ]
      refine wpAnyH_take (i := 3) (v := .pointer (some ⟨X.b, 0, none⟩)) rfl (by kernel_rfl) (by kernel_rfl) (by kernel_rfl) (fun _ _ _ h => h) (Or.inl ⟨by rfl, fun w' hS => by go_simp⟩) hHeld ?_
      simp only [Act.put, List.getElem_toArray, List.getElem_cons_zero, List.getElem_cons_succ, List.setIfInBounds_toArray, List.set_cons_zero, List.set_cons_succ]
      refine wpAnyH_take (i := 4) (v := .pointer (some ⟨X.b, 4, none⟩)) rfl (by kernel_rfl) (by kernel_rfl) (by kernel_rfl) (fun _ _ _ h => h) (Or.inl ⟨by rfl, fun w' hS => by go_simp⟩) hHeld ?_
      simp only [Act.put, List.getElem_toArray, List.getElem_cons_zero, List.getElem_cons_succ, List.setIfInBounds_toArray, List.set_cons_zero, List.set_cons_succ]
      refine wpAnyH_take (i := 5) (v := .pointer (some ⟨X.b, 4 + s, none⟩)) rfl (by kernel_rfl) (by kernel_rfl) (by kernel_rfl) (fun _ _ _ h => h) (Or.inl ⟨by rfl, fun w' hS => by go_simp⟩) hHeld ?_
      simp only [Act.put, List.getElem_toArray, List.getElem_cons_zero, List.getElem_cons_succ, List.setIfInBounds_toArray, List.set_cons_zero, List.set_cons_succ]
      refine wpAnyH_take (i := 6) (v := .slice (some ⟨pg, 0, none⟩) pn pc) rfl (by kernel_rfl) (by kernel_rfl) (by kernel_rfl) (fun _ _ _ h => h) (Or.inl ⟨by rfl, fun w' hS => by (obtain ⟨s0, s1, s2⟩ := hS; go_simp)⟩) hHeld ?_
      simp only [Act.put, List.getElem_toArray, List.getElem_cons_zero, List.getElem_cons_succ, List.setIfInBounds_toArray, List.set_cons_zero, List.set_cons_succ]
      refine wpAnyH_take (i := 7) (v := .int .i64 (pn : Int)) rfl (by kernel_rfl) (by kernel_rfl) (by kernel_rfl) (fun _ _ _ h => h) (Or.inl ⟨by rfl, fun w' hS => by go_simp⟩) hHeld ?_
      simp only [Act.put, List.getElem_toArray, List.getElem_cons_zero, List.getElem_cons_succ, List.setIfInBounds_toArray, List.set_cons_zero, List.set_cons_succ]
      refine wpAnyH_take (i := 8) (v := .bool false) rfl (by kernel_rfl) (by kernel_rfl) (by kernel_rfl) (fun _ _ _ h => h) (Or.inl ⟨by rfl, fun w' hS => by (go_simp <;> omega)⟩) hHeld ?_
      simp only [Act.put, List.getElem_toArray, List.getElem_cons_zero, List.getElem_cons_succ, List.setIfInBounds_toArray, List.set_cons_zero, List.set_cons_succ]
      refine wpAnyH_take (i := 9) (v := .bool false) rfl (by kernel_rfl) (by kernel_rfl) (by kernel_rfl) (fun _ _ _ h => h) (Or.inl ⟨by rfl, fun w' hS => by go_simp⟩) hHeld ?_
      simp only [Act.put, List.getElem_toArray, List.getElem_cons_zero, List.getElem_cons_succ, List.setIfInBounds_toArray, List.set_cons_zero, List.set_cons_succ]
      refine wpAnyH_take (i := 10) (v := .slice (some ⟨lg, 0, none⟩) ll lc) rfl (by kernel_rfl) (by kernel_rfl) (by kernel_rfl) (fun _ _ _ h => h) (Or.inl ⟨by rfl, fun w' hS => by go_simp⟩) hHeld ?_
      simp only [Act.put, List.getElem_toArray, List.getElem_cons_zero, List.getElem_cons_succ, List.setIfInBounds_toArray, List.set_cons_zero, List.set_cons_succ]
      refine wpAnyH_take (i := 11) (v := .int .i64 (i : Int)) rfl (by kernel_rfl) (by kernel_rfl) (by kernel_rfl) (fun _ _ _ h => h) (Or.inl ⟨by rfl, fun w' hS => by go_simp⟩) hHeld ?_
      simp only [Act.put, List.getElem_toArray, List.getElem_cons_zero, List.getElem_cons_succ, List.setIfInBounds_toArray, List.set_cons_zero, List.set_cons_succ]
      refine wpAnyH_take (i := 12) (v := .pointer (some ⟨lg, i, none⟩)) rfl (by kernel_rfl) (by kernel_rfl) (by kernel_rfl) (fun _ _ _ h => h) (Or.inl ⟨by rfl, fun w' hS => by go_simp⟩) hHeld ?_
      simp only [Act.put, List.getElem_toArray, List.getElem_cons_zero, List.getElem_cons_succ, List.setIfInBounds_toArray, List.set_cons_zero, List.set_cons_succ]
      refine wpAnyH_take (i := 13) (v := .slice (some ⟨bk, 0, none⟩) bn bn) rfl (by kernel_rfl) (by kernel_rfl) (by kernel_rfl) (fun _ _ _ h => h) (Or.inl ⟨by rfl, fun w' hS => by (obtain ⟨s0, s1, s2⟩ := hS; go_simp)⟩) hHeld ?_
      simp only [Act.put, List.getElem_toArray, List.getElem_cons_zero, List.getElem_cons_succ, List.setIfInBounds_toArray, List.set_cons_zero, List.set_cons_succ]
      refine wpAnyH_take (i := 14) (v := .pointer (some ⟨X.b, 0, none⟩)) rfl (by kernel_rfl) (by kernel_rfl) (by kernel_rfl) (fun _ _ _ h => h) (Or.inl ⟨by rfl, fun w' hS => by go_simp⟩) hHeld ?_
      simp only [Act.put, List.getElem_toArray, List.getElem_cons_zero, List.getElem_cons_succ, List.setIfInBounds_toArray, List.set_cons_zero, List.set_cons_succ]
      refine wpAnyH_take (i := 15) (v := .int .i64 (s : Int)) rfl (by kernel_rfl) (by kernel_rfl) (by kernel_rfl) (fun _ _ _ h => h) (Or.inl ⟨by rfl, fun w' hS => by go_simp⟩) hHeld ?_
      simp only [Act.put, List.getElem_toArray, List.getElem_cons_zero, List.getElem_cons_succ, List.setIfInBounds_toArray, List.set_cons_zero, List.set_cons_succ]
      refine wpAnyH_take (i := 16) (v := .pointer (some ⟨X.b, 0, none⟩)) rfl (by kernel_rfl) (by kernel_rfl) (by kernel_rfl) (fun _ _ _ h => h) (Or.inl ⟨by rfl, fun w' hS => by go_simp⟩) hHeld ?_
      simp only [Act.put, List.getElem_toArray, List.getElem_cons_zero, List.getElem_cons_succ, List.setIfInBounds_toArray, List.set_cons_zero, List.set_cons_succ]
      refine wpAnyH_take (i := 17) (v := .pointer (some ⟨X.b, 4, none⟩)) rfl (by kernel_rfl) (by kernel_rfl) (by kernel_rfl) (fun _ _ _ h => h) (Or.inl ⟨by rfl, fun w' hS => by go_simp⟩) hHeld ?_
      simp only [Act.put, List.getElem_toArray, List.getElem_cons_zero, List.getElem_cons_succ, List.setIfInBounds_toArray, List.set_cons_zero, List.set_cons_succ]
      refine wpAnyH_take (i := 18) (v := .pointer (some ⟨X.b, 4 + s, none⟩)) rfl (by kernel_rfl) (by kernel_rfl) (by kernel_rfl) (fun _ _ _ h => h) (Or.inl ⟨by rfl, fun w' hS => by go_simp⟩) hHeld ?_
      simp only [Act.put, List.getElem_toArray, List.getElem_cons_zero, List.getElem_cons_succ, List.setIfInBounds_toArray, List.set_cons_zero, List.set_cons_succ]
      refine wpAnyH_take (i := 19) (v := .slice (some ⟨pg, 0, none⟩) pn pc) rfl (by kernel_rfl) (by kernel_rfl) (by kernel_rfl) (fun _ _ _ h => h) (Or.inl ⟨by rfl, fun w' hS => by (obtain ⟨s0, s1, s2⟩ := hS; go_simp)⟩) hHeld ?_
      simp only [Act.put, List.getElem_toArray, List.getElem_cons_zero, List.getElem_cons_succ, List.setIfInBounds_toArray, List.set_cons_zero, List.set_cons_succ]
      refine wpAnyH_take (i := 20) (v := .int .i64 (rn : Int)) rfl (by kernel_rfl) (by kernel_rfl) (by kernel_rfl) (fun _ _ _ h => h) (Or.inl ⟨by rfl, fun w' hS => by go_simp⟩) hHeld ?_
      simp only [Act.put, List.getElem_toArray, List.getElem_cons_zero, List.getElem_cons_succ, List.setIfInBounds_toArray, List.set_cons_zero, List.set_cons_succ]
      refine wpAnyH_take (i := 21) (v := .pointer (some ⟨pg, rn, none⟩)) rfl (by kernel_rfl) (by kernel_rfl) (by kernel_rfl) (fun _ _ _ h => h) (Or.inl ⟨by rfl, fun w' hS => by go_simp⟩) hHeld ?_
      simp only [Act.put, List.getElem_toArray, List.getElem_cons_zero, List.getElem_cons_succ, List.setIfInBounds_toArray, List.set_cons_zero, List.set_cons_succ]
      refine wpAnyH_take (i := 22) (v := .slice (some ⟨pk, 0, none⟩) pl pcc) rfl (by kernel_rfl) (by kernel_rfl) (by kernel_rfl) (fun _ _ _ h => h) (Or.inl ⟨by rfl, fun w' hS => by (obtain ⟨s0, s1, s2⟩ := hS; go_simp)⟩) hHeld ?_
      simp only [Act.put, List.getElem_toArray, List.getElem_cons_zero, List.getElem_cons_succ, List.setIfInBounds_toArray, List.set_cons_zero, List.set_cons_succ]
      refine wpAnyH_ready (rs := [23]) (by kernel_rfl) (by simp) ?_
      refine AllReadyH.cons rfl (fun K hK => ?_) AllReadyH.nil
      go_simp
      refine (HSm.out _ (drew_bel _)).mono ?_
      rintro e w8 ⟨rfl, hb8⟩
      refine hK.out _ _ ⟨below_at hb8 (below_at (drew_bel _) u0), below_at hb8 (below_at (drew_bel _) u3), below_at hb8 (below_at (drew_bel _) u2)⟩ (fun hHeld => ?_)
      clear hK K
      refine wpAnyH_take (i := 24) (v := .bool false) rfl (by kernel_rfl) (by kernel_rfl) (by kernel_rfl) (fun _ _ _ h => h) (Or.inl ⟨by rfl, fun w' hS => by go_simp⟩) hHeld ?_
      simp only [Act.put, List.getElem_toArray, List.getElem_cons_zero, List.getElem_cons_succ, List.setIfInBounds_toArray, List.set_cons_zero, List.set_cons_succ]
      refine wpAnyH_take (i := 25) (v := .bool false) rfl (by kernel_rfl) (by kernel_rfl) (by kernel_rfl) (fun _ _ _ h => h) (Or.inl ⟨by rfl, fun w' hS => by go_simp⟩) hHeld ?_
      simp only [Act.put, List.getElem_toArray, List.getElem_cons_zero, List.getElem_cons_succ, List.setIfInBounds_toArray, List.set_cons_zero, List.set_cons_succ]
      refine wpAnyH_done (by kernel_rfl) ?_ _
      clear hHeld
      have Hbr8 : Hid (Below wr.heap.size wr w8) := (show Below _ _ _ from bstep (drew_bel _) hb8)
      have z1 := below_at Hbr8.out u3
      clear u0 u1 u2 u3 hb8
      go_wp2
      refine wp_region_held_drew (S := (fun w' => w'.cell? ⟨lg, i, none⟩ = some (.slice (some ⟨bk, 0, none⟩) bn bn))) (by kernel_rfl) (below_at (drew_bel _) z1) (fun hHeld => ?_)
      simp only [Act.put, List.size_toArray, List.length_cons, List.length_nil, Nat.zero_add]
      refine wpAnyH_take (i := 0) (v := .pointer (some ⟨X.b, 0, none⟩)) rfl (by kernel_rfl) (by kernel_rfl) (by kernel_rfl) (fun _ _ _ h => h) (Or.inl ⟨by rfl, fun w' hS => by go_simp⟩) hHeld ?_
      simp only [Act.put, List.getElem_toArray, List.getElem_cons_zero, List.getElem_cons_succ, List.setIfInBounds_toArray, List.set_cons_zero, List.set_cons_succ]
      refine wpAnyH_take (i := 1) (v := .int .i64 (t : Int)) rfl (by kernel_rfl) (by kernel_rfl) (by kernel_rfl) (fun _ _ _ h => h) (Or.inl ⟨by rfl, fun w' hS => by go_simp⟩) hHeld ?_
      simp only [Act.put, List.getElem_toArray, List.getElem_cons_zero, List.getElem_cons_succ, List.setIfInBounds_toArray, List.set_cons_zero, List.set_cons_succ]
      refine wpAnyH_take (i := 2) (v := .pointer (some ⟨X.b, 0, none⟩)) rfl (by kernel_rfl) (by kernel_rfl) (by kernel_rfl) (fun _ _ _ h => h) (Or.inl ⟨by rfl, fun w' hS => by go_simp⟩) hHeld ?_
      simp only [Act.put, List.getElem_toArray, List.getElem_cons_zero, List.getElem_cons_succ, List.setIfInBounds_toArray, List.set_cons_zero, List.set_cons_succ]
      refine wpAnyH_take (i := 3) (v := .int .i64 (t : Int)) rfl (by kernel_rfl) (by kernel_rfl) (by kernel_rfl) (fun _ _ _ h => h) (Or.inl ⟨by rfl, fun w' hS => by go_simp⟩) hHeld ?_
      simp only [Act.put, List.getElem_toArray, List.getElem_cons_zero, List.getElem_cons_succ, List.setIfInBounds_toArray, List.set_cons_zero, List.set_cons_succ]
      refine wpAnyH_take (i := 4) (v := .pointer (some ⟨X.b, 0, none⟩)) rfl (by kernel_rfl) (by kernel_rfl) (by kernel_rfl) (fun _ _ _ h => h) (Or.inl ⟨by rfl, fun w' hS => by go_simp⟩) hHeld ?_
      simp only [Act.put, List.getElem_toArray, List.getElem_cons_zero, List.getElem_cons_succ, List.setIfInBounds_toArray, List.set_cons_zero, List.set_cons_succ]
      refine wpAnyH_take (i := 5) (v := .pointer (some ⟨X.b, 6, none⟩)) rfl (by kernel_rfl) (by kernel_rfl) (by kernel_rfl) (fun _ _ _ h => h) (Or.inl ⟨by rfl, fun w' hS => by go_simp⟩) hHeld ?_
      simp only [Act.put, List.getElem_toArray, List.getElem_cons_zero, List.getElem_cons_succ, List.setIfInBounds_toArray, List.set_cons_zero, List.set_cons_succ]
      refine wpAnyH_take (i := 6) (v := .pointer (some ⟨X.b, 6 + t, none⟩)) rfl (by kernel_rfl) (by kernel_rfl) (by kernel_rfl) (fun _ _ _ h => h) (Or.inl ⟨by rfl, fun w' hS => by go_simp⟩) hHeld ?_
      simp only [Act.put, List.getElem_toArray, List.getElem_cons_zero, List.getElem_cons_succ, List.setIfInBounds_toArray, List.set_cons_zero, List.set_cons_succ]
      refine wpAnyH_take (i := 8) (v := .slice (some ⟨lg, 0, none⟩) ll lc) rfl (by kernel_rfl) (by kernel_rfl) (by kernel_rfl) (fun _ _ _ h => h) (Or.inl ⟨by rfl, fun w' hS => by go_simp⟩) hHeld ?_
      simp only [Act.put, List.getElem_toArray, List.getElem_cons_zero, List.getElem_cons_succ, List.setIfInBounds_toArray, List.set_cons_zero, List.set_cons_succ]
      refine wpAnyH_take (i := 9) (v := .int .i64 (i : Int)) rfl (by kernel_rfl) (by kernel_rfl) (by kernel_rfl) (fun _ _ _ h => h) (Or.inl ⟨by rfl, fun w' hS => by go_simp⟩) hHeld ?_
      simp only [Act.put, List.getElem_toArray, List.getElem_cons_zero, List.getElem_cons_succ, List.setIfInBounds_toArray, List.set_cons_zero, List.set_cons_succ]
      refine wpAnyH_take (i := 10) (v := .pointer (some ⟨lg, i, none⟩)) rfl (by kernel_rfl) (by kernel_rfl) (by kernel_rfl) (fun _ _ _ h => h) (Or.inl ⟨by rfl, fun w' hS => by go_simp⟩) hHeld ?_
      simp only [Act.put, List.getElem_toArray, List.getElem_cons_zero, List.getElem_cons_succ, List.setIfInBounds_toArray, List.set_cons_zero, List.set_cons_succ]
      refine wpAnyH_take (i := 11) (v := .slice (some ⟨bk, 0, none⟩) bn bn) rfl (by kernel_rfl) (by kernel_rfl) (by kernel_rfl) (fun _ _ _ h => h) (Or.inl ⟨by rfl, fun w' hS => by (have s0 := hS; go_simp)⟩) hHeld ?_
      simp only [Act.put, List.getElem_toArray, List.getElem_cons_zero, List.getElem_cons_succ, List.setIfInBounds_toArray, List.set_cons_zero, List.set_cons_succ]
      refine wpAnyH_take (i := 14) (v := .pointer (some ⟨X.b, 0, none⟩)) rfl (by kernel_rfl) (by kernel_rfl) (by kernel_rfl) (fun _ _ _ h => h) (Or.inl ⟨by rfl, fun w' hS => by go_simp⟩) hHeld ?_
      simp only [Act.put, List.getElem_toArray, List.getElem_cons_zero, List.getElem_cons_succ, List.setIfInBounds_toArray, List.set_cons_zero, List.set_cons_succ]
      refine wpAnyH_take (i := 15) (v := .pointer (some ⟨X.b, 6, none⟩)) rfl (by kernel_rfl) (by kernel_rfl) (by kernel_rfl) (fun _ _ _ h => h) (Or.inl ⟨by rfl, fun w' hS => by go_simp⟩) hHeld ?_
      simp only [Act.put, List.getElem_toArray, List.getElem_cons_zero, List.getElem_cons_succ, List.setIfInBounds_toArray, List.set_cons_zero, List.set_cons_succ]
      have hbD9 : Below w8.heap.size w8 w8.drew := drew_bel _
      have hbr9 : Below wr.heap.size wr w8.drew := bstep Hbr8.out hbD9
      have z9 := below_at hbD9 z1
      have hokD := Hca.out.ok.still hbr9
      have rv : w8.drew.cell? ⟨X.b, 6 + t, none⟩ = some (.slice ra rn rc) := by have e2 := hokD.cr (i := 6 + t) (by omega) (by omega); rw [Hrv.out, Hca.out.b, HXb.out] at e2; exact e2
      generalize w8.drew = D9 at *
      refine wpAnyH_ready (rs := [7, 12]) (by kernel_rfl) (by simp) ?_
      refine AllReadyH.cons rfl (fun K hK => ?_) (AllReadyH.cons rfl (fun K hK => ?_) AllReadyH.nil)
      · go_simp
        refine hK.out _ _ z9 (fun hHeld => ?_)
        clear hK K
        refine wpAnyH_ready (rs := [12]) (by kernel_rfl) (by simp) ?_
        refine AllReadyH.cons rfl (fun K hK => ?_) AllReadyH.nil
        go_simp
        refine hK.out _ _ (below_at (balloc (Below.refl _ _)) z9) (fun hHeld => ?_)
        clear hK K
        refine wpAnyH_ready (rs := [13]) (by kernel_rfl) (by simp) ?_
        refine AllReadyH.cons rfl (fun K hK => ?_) AllReadyH.nil
        refine step_push rfl (.tmp 110) (.tmp 115) rfl D9 B (.slice ra rn rc) ((Xi.o t).map Bn.v) (.slice (some ⟨bk, 0, none⟩) bn bn) rfl rn (show D9.ownsRow B 25 1 (.slice ra rn rc) rn _ from by have e2 := hokD.rowo (s := t) Ht2.out; rw [Hrv.out, Hrn.out] at e2; exact e2) rfl rfl rfl (by omega) (Nat.le_trans HB1.out (Nat.le_trans Hca.out.kept.size hbr9.size)) (fun g cap w6 ho6 hk6 hg6 _ => ?_)
        obtain ⟨n1, n2, n3, n4⟩ := Hbd.out D9 hbr9
        have hx2 := addO_step (N := fun q => q = bo.k) hokD Ht2.out (y := bnO bo) n1 rfl n2 n3 (n := rn) Hrn.out.symm (show w6.ownsRow _ _ _ _ _ _ from by rw [show (bnO bo).v = .slice (some ⟨bk, 0, none⟩) bn bn from n4]; exact ho6) (by rw [Hrv.out]; exact hk6) (by rw [Hrv.out]; exact hg6)
        rw [Hca.out.b, HXb.out] at hx2
        have hne6 : ¬ (Value.slice ra rn rc).ownBlock = some X.b := fun e => hokD.row_b (i := 6 + t) (by omega) (by omega) (by rw [Hrv.out]; exact e) (by rw [Hca.out.b, HXb.out])
        have hov : w6.cell? ⟨X.b, 6 + t, none⟩ = some (.slice ra rn rc) := kept_cell hk6 hne6 rv
        have fv := frozen_of_row w6 X.b (6 + t) _ _ (hk6.obj (by rw [← HXb.out, ← Hca.out.b]; exact hokD.blk) hne6)
        have hln : ¬ (Value.slice ra rn rc).ownBlock = some lg := fun e => (Hca.out.rb lg (by rw [Hrv.out]; exact e)).elim Hlg.out.1 (fun hh => by have := Hlg.out.2; omega)
        have hlb : lg ≠ X.b := fun e => Hlg.out.1 (.inl (e.trans HXb.out.symm))
        refine hK.out _ _ (kept_cell hk6 hln z9) (fun hHeld => ?_)
        clear hK K
        simp only [Act.put, List.getElem_toArray, List.getElem_cons_zero, List.getElem_cons_succ, List.setIfInBounds_toArray, List.set_cons_zero, List.set_cons_succ]
        refine wpAnyH_take (i := 16) (v := .pointer (some ⟨X.b, 6 + t, none⟩)) rfl (by kernel_rfl) (by kernel_rfl) (by kernel_rfl) (fun _ _ _ h => h) (Or.inl ⟨by rfl, fun w' hS => by go_simp⟩) hHeld ?_
        simp only [Act.put, List.getElem_toArray, List.getElem_cons_zero, List.getElem_cons_succ, List.setIfInBounds_toArray, List.set_cons_zero, List.set_cons_succ]
        have hz7 : (w6.setCell ⟨X.b, 6 + t, none⟩ (.slice (some ⟨g, 0, none⟩) (rn + 1) cap)).cell? ⟨lg, i, none⟩ = some (.slice (some ⟨bk, 0, none⟩) bn bn) := kept_cell (kset (P := fun q => q = X.b) _ _ _ _ rfl) hlb (kept_cell hk6 hln z9)
        refine wpAnyH_ready (rs := [17]) (by kernel_rfl) (by simp) ?_
        refine AllReadyH.cons rfl (fun K hK => ?_) AllReadyH.nil
        go_simp
        refine hK.out _ _ hz7 (fun hHeld => ?_)
        clear hK K
        refine wpAnyH_done (by kernel_rfl) ?_ _
        clear hHeld
        try simp only [Act.put, List.getElem_toArray, List.getElem_cons_zero, List.getElem_cons_succ, List.setIfInBounds_toArray, List.set_cons_zero, List.set_cons_succ]
        have HN : Hid (∃ Xn, CaS w1 (w6.setCell ⟨X.b, 6 + t, none⟩ (.slice (some ⟨g, 0, none⟩) (rn + 1) cap)) X1 B t (i + 1) bl Xn) := (show ∃ Xn, CaS _ _ _ _ _ _ _ Xn from ⟨_, Hca.out.next hbr9 Hbi.out hx2.1 (by rw [Hca.out.b, HXb.out]; exact hx2.2.1) hx2.2.2 (fun q hq => by simp [Value.ownBlock] at hq; subst hq; rw [Hrv.out]; exact hg6)⟩)
        clear hx2 hokD ho6 hk6 hg6 hov fv hne6 hln hlb hz7 z9 n1 n2 n3 n4
        go_wp2
        exact ⟨⟨i + 1, by omega, by go_num, HN⟩, by simp [intOf]; omega⟩
      · go_simp
        refine hK.out _ _ (below_at (balloc (Below.refl _ _)) z9) (fun hHeld => ?_)
        clear hK K
        have rv6 := below_at (balloc (o := .cells #[.slice (some ⟨bk, 0, none⟩) bn bn] 25) (Below.refl _ _)) rv
        refine wpAnyH_ready (rs := [7]) (by kernel_rfl) (by simp) ?_
        refine AllReadyH.cons rfl (fun K hK => ?_) AllReadyH.nil
        go_simp
        refine hK.out _ _ (below_at (balloc (Below.refl _ _)) z9) (fun hHeld => ?_)
        clear hK K
        refine wpAnyH_ready (rs := [13]) (by kernel_rfl) (by simp) ?_
        refine AllReadyH.cons rfl (fun K hK => ?_) AllReadyH.nil
        refine step_push rfl (.tmp 110) (.tmp 115) rfl D9 B (.slice ra rn rc) ((Xi.o t).map Bn.v) (.slice (some ⟨bk, 0, none⟩) bn bn) rfl rn (show D9.ownsRow B 25 1 (.slice ra rn rc) rn _ from by have e2 := hokD.rowo (s := t) Ht2.out; rw [Hrv.out, Hrn.out] at e2; exact e2) rfl rfl rfl (by omega) (Nat.le_trans HB1.out (Nat.le_trans Hca.out.kept.size hbr9.size)) (fun g cap w6 ho6 hk6 hg6 _ => ?_)
        obtain ⟨n1, n2, n3, n4⟩ := Hbd.out D9 hbr9
        have hx2 := addO_step (N := fun q => q = bo.k) hokD Ht2.out (y := bnO bo) n1 rfl n2 n3 (n := rn) Hrn.out.symm (show w6.ownsRow _ _ _ _ _ _ from by rw [show (bnO bo).v = .slice (some ⟨bk, 0, none⟩) bn bn from n4]; exact ho6) (by rw [Hrv.out]; exact hk6) (by rw [Hrv.out]; exact hg6)
        rw [Hca.out.b, HXb.out] at hx2
        have hne6 : ¬ (Value.slice ra rn rc).ownBlock = some X.b := fun e => hokD.row_b (i := 6 + t) (by omega) (by omega) (by rw [Hrv.out]; exact e) (by rw [Hca.out.b, HXb.out])
        have hov : w6.cell? ⟨X.b, 6 + t, none⟩ = some (.slice ra rn rc) := kept_cell hk6 hne6 rv
        have fv := frozen_of_row w6 X.b (6 + t) _ _ (hk6.obj (by rw [← HXb.out, ← Hca.out.b]; exact hokD.blk) hne6)
        have hln : ¬ (Value.slice ra rn rc).ownBlock = some lg := fun e => (Hca.out.rb lg (by rw [Hrv.out]; exact e)).elim Hlg.out.1 (fun hh => by have := Hlg.out.2; omega)
        have hlb : lg ≠ X.b := fun e => Hlg.out.1 (.inl (e.trans HXb.out.symm))
        refine hK.out _ _ (kept_cell hk6 hln z9) (fun hHeld => ?_)
        clear hK K
        simp only [Act.put, List.getElem_toArray, List.getElem_cons_zero, List.getElem_cons_succ, List.setIfInBounds_toArray, List.set_cons_zero, List.set_cons_succ]
        refine wpAnyH_take (i := 16) (v := .pointer (some ⟨X.b, 6 + t, none⟩)) rfl (by kernel_rfl) (by kernel_rfl) (by kernel_rfl) (fun _ _ _ h => h) (Or.inl ⟨by rfl, fun w' hS => by go_simp⟩) hHeld ?_
        simp only [Act.put, List.getElem_toArray, List.getElem_cons_zero, List.getElem_cons_succ, List.setIfInBounds_toArray, List.set_cons_zero, List.set_cons_succ]
        have hz7 : (w6.setCell ⟨X.b, 6 + t, none⟩ (.slice (some ⟨g, 0, none⟩) (rn + 1) cap)).cell? ⟨lg, i, none⟩ = some (.slice (some ⟨bk, 0, none⟩) bn bn) := kept_cell (kset (P := fun q => q = X.b) _ _ _ _ rfl) hlb (kept_cell hk6 hln z9)
        refine wpAnyH_ready (rs := [17]) (by kernel_rfl) (by simp) ?_
        refine AllReadyH.cons rfl (fun K hK => ?_) AllReadyH.nil
        go_simp
        refine hK.out _ _ hz7 (fun hHeld => ?_)
        clear hK K
        refine wpAnyH_done (by kernel_rfl) ?_ _
        clear hHeld
        try simp only [Act.put, List.getElem_toArray, List.getElem_cons_zero, List.getElem_cons_succ, List.setIfInBounds_toArray, List.set_cons_zero, List.set_cons_succ]
        have HN : Hid (∃ Xn, CaS w1 (w6.setCell ⟨X.b, 6 + t, none⟩ (.slice (some ⟨g, 0, none⟩) (rn + 1) cap)) X1 B t (i + 1) bl Xn) := (show ∃ Xn, CaS _ _ _ _ _ _ _ Xn from ⟨_, Hca.out.next hbr9 Hbi.out hx2.1 (by rw [Hca.out.b, HXb.out]; exact hx2.2.1) hx2.2.2 (fun q hq => by simp [Value.ownBlock] at hq; subst hq; rw [Hrv.out]; exact hg6)⟩)
        clear hx2 hokD ho6 hk6 hg6 hov fv hne6 hln hlb hz7 z9 n1 n2 n3 n4
        go_wp2
        exact ⟨⟨i + 1, by omega, by go_num, HN⟩, by simp [intOf]; omega⟩
    · obtain rfl : i = ll := by omega
      have hXt : Hid (X.pu.carry s n = Xi.pu) := (show _ = _ from by
        rw [HP.out, ← HCr.out.pu, hcx.pu, List.take_of_length_le (by rw [Hll.out]; exact Nat.le_refl _)])
      have hst : Xstep w wr X Xi B := by
        refine ⟨hXr, HCr.out.st.kept.step hcx.kept (fun j hj => HCr.out.st.own j hj), fun j hj => ?_, hcx.b.trans HXb.out⟩
        have hsz := HCr.out.st.kept.size
        rcases hcx.own j hj with h1 | h1 | ⟨b, hb, h1⟩
        · exact HCr.out.st.own j h1
        · exact .inr (by omega)
        · rw [h1]; exact (HCr.out.bd b hb).2.2
      have HZ : Hid (∀ w9, Below wr.heap.size wr w9 → XO w w9 X B (X.pu.carry s n) (.returned (.bool true))) := fun w9 hb9 => ⟨rfl, Xi, hst.post hb9, hXt.out.symm⟩
      have u0 : wr.cell? ⟨X.b, t, none⟩ = some (.pointer (some ⟨(X.m t).b, 0, none⟩)) := by have e2 := hXr.cm Ht2.out; rw [hcx.m, HCr.out.mb, hcx.b, HXb.out] at e2; exact e2
      have hq := qat2 (hXr.still (drew_bel wr)) (show s < 2 by omega) Hte.out
      have HGt : Hid (Calls Try.prog 20 #[.pointer (some ⟨(X.m t).b, 0, none⟩), .int .i64 (2 + 3 * (s : Int))] wr.drew fun e w' => e = .returned (.int .i64 ((Xi.e t).i.p : Int)) ∧ wr.drew = w') := (show Calls _ _ _ _ _ from by have e1 := got_yes ((hXr.still (drew_bel wr)).mo t Ht2.out) hq; rw [hcx.m, HCr.out.mb] at e1; exact e1)
      have Hgt : Hid ((Xi.e t).i.p = rn) := (show _ = _ from by
        have h1 := HITk.out s (by omega)
        rw [← Hte.out] at h1
        have h2 := h1.got
        rw [← HP.out, hXt.out] at h2
        have h3 : (Xi.e t).i.p = ((Xi.o t).map Bn.bs).length := h2
        rw [List.length_map, hrn] at h3
        exact h3)
      clear hca hcx hXr hrv hrn hrn2 hst hq
      generalize (Xi.e t).i.p = gi at *
      go_wp2
      refine wp_region_held_drew (S := (fun w' => w'.cell? ⟨X.b, t, none⟩ = some (.pointer (some ⟨(X.m t).b, 0, none⟩)) ∧ w'.cell? ⟨X.b, 6 + t, none⟩ = some (.slice ra rn rc))) (by kernel_rfl) ⟨below_at (drew_bel _) u0, below_at (drew_bel _) u1⟩ (fun hHeld => ?_)
      simp only [Act.put, List.size_toArray, List.length_cons, List.length_nil, Nat.zero_add]
      refine wpAnyH_take (i := 0) (v := .pointer (some ⟨X.b, 0, none⟩)) rfl (by kernel_rfl) (by kernel_rfl) (by kernel_rfl) (fun _ _ _ h => h) (Or.inl ⟨by rfl, fun w' hS => by go_simp⟩) hHeld ?_
      simp only [Act.put, List.getElem_toArray, List.getElem_cons_zero, List.getElem_cons_succ, List.setIfInBounds_toArray, List.set_cons_zero, List.set_cons_succ]
      refine wpAnyH_take (i := 1) (v := .int .i64 (t : Int)) rfl (by kernel_rfl) (by kernel_rfl) (by kernel_rfl) (fun _ _ _ h => h) (Or.inl ⟨by rfl, fun w' hS => by go_simp⟩) hHeld ?_
      simp only [Act.put, List.getElem_toArray, List.getElem_cons_zero, List.getElem_cons_succ, List.setIfInBounds_toArray, List.set_cons_zero, List.set_cons_succ]
      refine wpAnyH_take (i := 2) (v := .pointer (some ⟨X.b, 0, none⟩)) rfl (by kernel_rfl) (by kernel_rfl) (by kernel_rfl) (fun _ _ _ h => h) (Or.inl ⟨by rfl, fun w' hS => by go_simp⟩) hHeld ?_
      simp only [Act.put, List.getElem_toArray, List.getElem_cons_zero, List.getElem_cons_succ, List.setIfInBounds_toArray, List.set_cons_zero, List.set_cons_succ]
      refine wpAnyH_take (i := 3) (v := .pointer (some ⟨X.b, 0, none⟩)) rfl (by kernel_rfl) (by kernel_rfl) (by kernel_rfl) (fun _ _ _ h => h) (Or.inl ⟨by rfl, fun w' hS => by go_simp⟩) hHeld ?_
      simp only [Act.put, List.getElem_toArray, List.getElem_cons_zero, List.getElem_cons_succ, List.setIfInBounds_toArray, List.set_cons_zero, List.set_cons_succ]
      refine wpAnyH_take (i := 4) (v := .pointer (some ⟨X.b, t, none⟩)) rfl (by kernel_rfl) (by kernel_rfl) (by kernel_rfl) (fun _ _ _ h => h) (Or.inl ⟨by rfl, fun w' hS => by go_simp⟩) hHeld ?_
      simp only [Act.put, List.getElem_toArray, List.getElem_cons_zero, List.getElem_cons_succ, List.setIfInBounds_toArray, List.set_cons_zero, List.set_cons_succ]
      refine wpAnyH_take (i := 5) (v := .pointer (some ⟨(X.m t).b, 0, none⟩)) rfl (by kernel_rfl) (by kernel_rfl) (by kernel_rfl) (fun _ _ _ h => h) (Or.inl ⟨by rfl, fun w' hS => by (obtain ⟨s0, s1⟩ := hS; go_simp)⟩) hHeld ?_
      simp only [Act.put, List.getElem_toArray, List.getElem_cons_zero, List.getElem_cons_succ, List.setIfInBounds_toArray, List.set_cons_zero, List.set_cons_succ]
      refine wpAnyH_take (i := 6) (v := .int .i64 (s : Int)) rfl (by kernel_rfl) (by kernel_rfl) (by kernel_rfl) (fun _ _ _ h => h) (Or.inl ⟨by rfl, fun w' hS => by go_simp⟩) hHeld ?_
      simp only [Act.put, List.getElem_toArray, List.getElem_cons_zero, List.getElem_cons_succ, List.setIfInBounds_toArray, List.set_cons_zero, List.set_cons_succ]
      refine wpAnyH_take (i := 9) (v := .pointer (some ⟨X.b, 0, none⟩)) rfl (by kernel_rfl) (by kernel_rfl) (by kernel_rfl) (fun _ _ _ h => h) (Or.inl ⟨by rfl, fun w' hS => by go_simp⟩) hHeld ?_
      simp only [Act.put, List.getElem_toArray, List.getElem_cons_zero, List.getElem_cons_succ, List.setIfInBounds_toArray, List.set_cons_zero, List.set_cons_succ]
      refine wpAnyH_take (i := 10) (v := .int .i64 (t : Int)) rfl (by kernel_rfl) (by kernel_rfl) (by kernel_rfl) (fun _ _ _ h => h) (Or.inl ⟨by rfl, fun w' hS => by go_simp⟩) hHeld ?_
      simp only [Act.put, List.getElem_toArray, List.getElem_cons_zero, List.getElem_cons_succ, List.setIfInBounds_toArray, List.set_cons_zero, List.set_cons_succ]
      refine wpAnyH_take (i := 11) (v := .pointer (some ⟨X.b, 0, none⟩)) rfl (by kernel_rfl) (by kernel_rfl) (by kernel_rfl) (fun _ _ _ h => h) (Or.inl ⟨by rfl, fun w' hS => by go_simp⟩) hHeld ?_
      simp only [Act.put, List.getElem_toArray, List.getElem_cons_zero, List.getElem_cons_succ, List.setIfInBounds_toArray, List.set_cons_zero, List.set_cons_succ]
      refine wpAnyH_take (i := 12) (v := .pointer (some ⟨X.b, 6, none⟩)) rfl (by kernel_rfl) (by kernel_rfl) (by kernel_rfl) (fun _ _ _ h => h) (Or.inl ⟨by rfl, fun w' hS => by go_simp⟩) hHeld ?_
      simp only [Act.put, List.getElem_toArray, List.getElem_cons_zero, List.getElem_cons_succ, List.setIfInBounds_toArray, List.set_cons_zero, List.set_cons_succ]
      refine wpAnyH_take (i := 13) (v := .pointer (some ⟨X.b, 6 + t, none⟩)) rfl (by kernel_rfl) (by kernel_rfl) (by kernel_rfl) (fun _ _ _ h => h) (Or.inl ⟨by rfl, fun w' hS => by go_simp⟩) hHeld ?_
      simp only [Act.put, List.getElem_toArray, List.getElem_cons_zero, List.getElem_cons_succ, List.setIfInBounds_toArray, List.set_cons_zero, List.set_cons_succ]
      refine wpAnyH_take (i := 14) (v := .slice ra rn rc) rfl (by kernel_rfl) (by kernel_rfl) (by kernel_rfl) (fun _ _ _ h => h) (Or.inl ⟨by rfl, fun w' hS => by (obtain ⟨s0, s1⟩ := hS; go_simp)⟩) hHeld ?_
      simp only [Act.put, List.getElem_toArray, List.getElem_cons_zero, List.getElem_cons_succ, List.setIfInBounds_toArray, List.set_cons_zero, List.set_cons_succ]
      refine wpAnyH_take (i := 15) (v := .int .i64 (rn : Int)) rfl (by kernel_rfl) (by kernel_rfl) (by kernel_rfl) (fun _ _ _ h => h) (Or.inl ⟨by rfl, fun w' hS => by go_simp⟩) hHeld ?_
      simp only [Act.put, List.getElem_toArray, List.getElem_cons_zero, List.getElem_cons_succ, List.setIfInBounds_toArray, List.set_cons_zero, List.set_cons_succ]
      refine wpAnyH_ready (rs := [7]) (by kernel_rfl) (by simp) ?_
      refine AllReadyH.cons rfl (fun K hK => ?_) AllReadyH.nil
      go_simp
      refine (pid_any i1 (by omega)).mono ?_
      rintro e w2 ⟨rfl, rfl⟩
      refine hK.out _ _ ⟨below_at (drew_bel _) u0, below_at (drew_bel _) u1⟩ (fun hHeld => ?_)
      clear hK K
      refine wpAnyH_ready (rs := [8]) (by kernel_rfl) (by simp) ?_
      refine AllReadyH.cons rfl (fun K hK => ?_) AllReadyH.nil
      go_simp
      refine (HGt.out).mono ?_
      rintro e w2 ⟨rfl, rfl⟩
      refine hK.out _ _ ⟨below_at (drew_bel _) u0, below_at (drew_bel _) u1⟩ (fun hHeld => ?_)
      clear hK K
      refine wpAnyH_take (i := 16) (v := .bool true) rfl (by kernel_rfl) (by kernel_rfl) (by kernel_rfl) (fun _ _ _ h => h) (Or.inl ⟨by rfl, fun w' hS => by (go_simp <;> (have e9 := Hgt.out; omega))⟩) hHeld ?_
      simp only [Act.put, List.getElem_toArray, List.getElem_cons_zero, List.getElem_cons_succ, List.setIfInBounds_toArray, List.set_cons_zero, List.set_cons_succ]
      refine wpAnyH_take (i := 17) (v := .bool true) rfl (by kernel_rfl) (by kernel_rfl) (by kernel_rfl) (fun _ _ _ h => h) (Or.inl ⟨by rfl, fun w' hS => by go_simp⟩) hHeld ?_
      simp only [Act.put, List.getElem_toArray, List.getElem_cons_zero, List.getElem_cons_succ, List.setIfInBounds_toArray, List.set_cons_zero, List.set_cons_succ]
      refine wpAnyH_done (by kernel_rfl) ?_ _
      clear hHeld
      go_wp2
      go_ret
      exact HZ.out _ (drew_bel _)
end
end Go.Proofs.Ytghihdenbdnnjaa.Ln
