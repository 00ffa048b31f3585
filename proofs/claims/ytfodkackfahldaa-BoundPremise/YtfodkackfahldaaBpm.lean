import Derived.Test.YtfodkackfahldaaBpl
namespace Go.Proofs.Ytfodkackfahldaa.Lo
open Go.RowKit
set_option linter.unusedVariables false
set_option linter.unusedSimpArgs false

def haP (f : Nat → Int) (kd a q n : Int) : Nat → Int := if inR a 0 (f 0 - 1) && inR q 0 (f 0 - 1) && !(a == q) then upF f (17 + a.toNat * 16 + q.toNat) (paB (f (17 + a.toNat * 16 + q.toNat)) kd n) else f
set_option maxRecDepth 100000 in
set_option maxHeartbeats 2000000 in
theorem happen_pa (b B : Nat) (f : Nat → Int) (kd a q n : Int) (v4 v5 v6 v7 v8 v9 v10 v11 v12 : Value) (w : World) (h : Nb w b f) (hB : B ≤ b) (hn : 1 ≤ f 0 ∧ f 0 ≤ 16) (hP : ∀ j, 17 ≤ j → j < 273 → -16 ≤ f j ∧ f j ≤ 16) (hk : k3 kd) : Calls Try.prog 25 #[.pointer (some ⟨b, 0, none⟩), .agg #[.int .i64 kd, .int .i64 a, .int .i64 q, .int .i64 n, v4, v5, v6, v7, v8, v9, v10, v11, v12]] w fun e w' => e = .returned (.tuple #[]) ∧ Nb w' b (haP f kd a q n) ∧ Below B w w' := by
  have hlt := h.lt
  have HB : Hid (Below w.heap.size w (w.alloc (.cells #[.int .i64 kd, .int .i64 a, .int .i64 q, .int .i64 n, v4, v5, v6, v7, v8, v9, v10, v11, v12] 36))) := bsp _ _ _
  have hkk := heap_new w #[.int .i64 kd, .int .i64 a, .int .i64 q, .int .i64 n, v4, v5, v6, v7, v8, v9, v10, v11, v12] 36
  generalize hW : w.alloc (.cells #[.int .i64 kd, .int .i64 a, .int .i64 q, .int .i64 n, v4, v5, v6, v7, v8, v9, v10, v11, v12] 36) = W at *
  have c0 : W.cell? ⟨w.heap.size, 0, none⟩ = some (.int .i64 kd) := blk_cell hkk 0
  have c1 : W.cell? ⟨w.heap.size, 1, none⟩ = some (.int .i64 a) := blk_cell hkk 1
  have c2 : W.cell? ⟨w.heap.size, 2, none⟩ = some (.int .i64 q) := blk_cell hkk 2
  have c3 : W.cell? ⟨w.heap.size, 3, none⟩ = some (.int .i64 n) := blk_cell hkk 3
  have c4 : W.cell? ⟨w.heap.size, 4, none⟩ = some v4 := blk_cell hkk 4
  have c5 : W.cell? ⟨w.heap.size, 5, none⟩ = some v5 := blk_cell hkk 5
  have c6 : W.cell? ⟨w.heap.size, 6, none⟩ = some v6 := blk_cell hkk 6
  have c7 : W.cell? ⟨w.heap.size, 7, none⟩ = some v7 := blk_cell hkk 7
  have c8 : W.cell? ⟨w.heap.size, 8, none⟩ = some v8 := blk_cell hkk 8
  have c9 : W.cell? ⟨w.heap.size, 9, none⟩ = some v9 := blk_cell hkk 9
  have c10 : W.cell? ⟨w.heap.size, 10, none⟩ = some v10 := blk_cell hkk 10
  have c11 : W.cell? ⟨w.heap.size, 11, none⟩ = some v11 := blk_cell hkk 11
  have c12 : W.cell? ⟨w.heap.size, 12, none⟩ = some v12 := blk_cell hkk 12
  have hNW : Nb W b f := h.on HB.out
  have HNW : Hid (Nb W b f) := hNW
  have HBW : Hid (Below B w W) := HB.out.mono (by omega)
  unfold haP
  generalize hbn : (inR a 0 (f 0 - 1) && inR q 0 (f 0 - 1) && !(a == q)) = bn
  have HQ : Hid (Calls Try.prog 45 #[.pointer (some ⟨b, 0, none⟩), .int .i64 a, .int .i64 q] W fun e w' => e = .returned (.bool bn) ∧ W = w') := (show Calls _ _ _ _ _ from by
    rw [← hbn]
    exact isPath_any b f a q W hNW hn)
  clear hkk h
  cases bn
  · clear hNW hbn hn c3 c4 c5 c6 c7 c8 c9 c10 c11 c12 hP
    rcases hk with rfl | rfl | rfl
    all_goals
      go_enter Try.func25, Try.ntmps25
      go_wp2_with (first | (go_at_call 45; refine HQ.out.mono ?_; rintro e w' ⟨rfl, rfl⟩) | fail)
      (first | go_end0 | ((try simp only [Exit.inBlock, Exit.then]); refine bodyPost_ret (results_none rfl _ _ _) rfl ?_))
      exact ⟨rfl, HNW.out, HBW.out⟩
  · have ha : (0 ≤ a ∧ a ≤ f 0 - 1) ∧ (0 ≤ q ∧ q ≤ f 0 - 1) := by
      simp [inR] at hbn
      omega
    obtain ⟨m, rfl⟩ : ∃ m : Nat, a = (m : Int) := ⟨a.toNat, by omega⟩
    obtain ⟨r, rfl⟩ : ∃ m : Nat, q = (m : Int) := ⟨q.toNat, by omega⟩
    have a1 : (0 : Int) ≤ (m : Int) := Int.natCast_nonneg _
    have a2 : (m : Int) < 16 := by omega
    have r1 : (0 : Int) ≤ (r : Int) := Int.natCast_nonneg _
    have r2 : (r : Int) < 16 := by omega
    have cx := hNW.cell (i := 17 + m * 16 + r) (by omega)
    have hpx := hP (17 + m * 16 + r) (by omega) (by omega)
    have HM : Hid (m < 16 ∧ r < 16) := (show _ ∧ _ from by omega)
    rw [show ((m : Int).toNat) = m from rfl, show ((r : Int).toNat) = r from rfl]
    have H3 : Hid (Nb W.drew b f) := (show Nb _ _ _ from hNW.on (Below.refl _ _).drew)
    have HB3 : Hid (Below B w W.drew) := HBW.out.drew
    have hvl : b < W.drew.heap.size := H3.out.lt
    have HE : Hid (W.drew.cell? ⟨w.heap.size, 1, none⟩ = some (.int .i64 (m : Int)) ∧ w.heap.size < W.drew.heap.size) := (show _ ∧ _ from ⟨c1, World.block_lt_of_cell? W ⟨w.heap.size, 1, none⟩ c1⟩)
    have HE2 : Hid (W.drew.cell? ⟨w.heap.size, 2, none⟩ = some (.int .i64 (r : Int))) := c2
    have HPX : Hid (-16 ≤ f (17 + m * 16 + r) ∧ f (17 + m * 16 + r) ≤ 16) := (show _ ∧ _ from hpx)
    have hwb : w.heap.size ≠ b := by omega
    have hvl2 : b < W.heap.size := hNW.lt
    clear hNW hbn hn ha hP hlt H3 HB3 hvl HE HE2 hpx
    rcases hk with rfl | rfl | rfl
    · go_enter Try.func25, Try.ntmps25
      go_wp2_with (first | (go_at_call 45; refine HQ.out.mono ?_; rintro e w' ⟨rfl, rfl⟩) | fail)
      refine wp_region_held_drew (S := (fun w' => w'.cell? ⟨w.heap.size, 0, none⟩ = some (.int .i64 8) ∧ w'.cell? ⟨w.heap.size, 1, none⟩ = some (.int .i64 (m : Int)) ∧ w'.cell? ⟨w.heap.size, 2, none⟩ = some (.int .i64 (r : Int)) ∧ w'.cell? ⟨w.heap.size, 3, none⟩ = some (.int .i64 n) ∧ w'.cell? ⟨w.heap.size, 4, none⟩ = some (v4) ∧ w'.cell? ⟨w.heap.size, 5, none⟩ = some (v5) ∧ w'.cell? ⟨w.heap.size, 6, none⟩ = some (v6) ∧ w'.cell? ⟨w.heap.size, 7, none⟩ = some (v7) ∧ w'.cell? ⟨w.heap.size, 8, none⟩ = some (v8) ∧ w'.cell? ⟨w.heap.size, 9, none⟩ = some (v9) ∧ w'.cell? ⟨w.heap.size, 10, none⟩ = some (v10) ∧ w'.cell? ⟨w.heap.size, 11, none⟩ = some (v11) ∧ w'.cell? ⟨w.heap.size, 12, none⟩ = some (v12))) (by kernel_rfl) ⟨(below_at (drew_bel _) c0), (below_at (drew_bel _) c1), (below_at (drew_bel _) c2), (below_at (drew_bel _) c3), (below_at (drew_bel _) c4), (below_at (drew_bel _) c5), (below_at (drew_bel _) c6), (below_at (drew_bel _) c7), (below_at (drew_bel _) c8), (below_at (drew_bel _) c9), (below_at (drew_bel _) c10), (below_at (drew_bel _) c11), (below_at (drew_bel _) c12)⟩ (fun hHeld => ?_)
      simp only [Act.put, List.size_toArray, List.length_cons, List.length_nil, Nat.zero_add]
      refine takeD (i := 0) (d := 40) (v := .pointer (some ⟨b, 0, none⟩)) rfl (by kernel_rfl) (by kernel_rfl) (by kernel_rfl) (by kernel_rfl) (fun _ _ _ h => h) (Or.inl ⟨by rfl, fun w' hS => by go_simp⟩) hHeld ?_
      simp only [Act.put, List.setIfInBounds_toArray, List.set_cons_zero, List.set_cons_succ]
      refine takeD (i := 1) (d := 41) (v := .pointer (some ⟨w.heap.size, 1, none⟩)) rfl (by kernel_rfl) (by kernel_rfl) (by kernel_rfl) (by kernel_rfl) (fun _ _ _ h => h) (Or.inl ⟨by rfl, fun w' hS => by go_simp⟩) hHeld ?_
      simp only [Act.put, List.setIfInBounds_toArray, List.set_cons_zero, List.set_cons_succ]
      refine takeD (i := 2) (d := 42) (v := .int .i64 (m : Int)) rfl (by kernel_rfl) (by kernel_rfl) (by kernel_rfl) (by kernel_rfl) (fun _ _ _ h => h) (Or.inl ⟨by rfl, fun w' hS => by (obtain ⟨s0, s1, s2, s3, s4, s5, s6, s7, s8, s9, s10, s11, s12⟩ := hS; go_simp)⟩) hHeld ?_
      simp only [Act.put, List.setIfInBounds_toArray, List.set_cons_zero, List.set_cons_succ]
      refine takeD (i := 3) (d := 43) (v := .pointer (some ⟨w.heap.size, 2, none⟩)) rfl (by kernel_rfl) (by kernel_rfl) (by kernel_rfl) (by kernel_rfl) (fun _ _ _ h => h) (Or.inl ⟨by rfl, fun w' hS => by go_simp⟩) hHeld ?_
      simp only [Act.put, List.setIfInBounds_toArray, List.set_cons_zero, List.set_cons_succ]
      refine takeD (i := 4) (d := 44) (v := .int .i64 (r : Int)) rfl (by kernel_rfl) (by kernel_rfl) (by kernel_rfl) (by kernel_rfl) (fun _ _ _ h => h) (Or.inl ⟨by rfl, fun w' hS => by (obtain ⟨s0, s1, s2, s3, s4, s5, s6, s7, s8, s9, s10, s11, s12⟩ := hS; go_simp)⟩) hHeld ?_
      simp only [Act.put, List.setIfInBounds_toArray, List.set_cons_zero, List.set_cons_succ]
      refine takeD (i := 5) (d := 45) (v := .pointer (some ⟨b, 0, none⟩)) rfl (by kernel_rfl) (by kernel_rfl) (by kernel_rfl) (by kernel_rfl) (fun _ _ _ h => h) (Or.inl ⟨by rfl, fun w' hS => by go_simp⟩) hHeld ?_
      simp only [Act.put, List.setIfInBounds_toArray, List.set_cons_zero, List.set_cons_succ]
      refine takeD (i := 6) (d := 46) (v := .pointer (some ⟨w.heap.size, 1, none⟩)) rfl (by kernel_rfl) (by kernel_rfl) (by kernel_rfl) (by kernel_rfl) (fun _ _ _ h => h) (Or.inl ⟨by rfl, fun w' hS => by go_simp⟩) hHeld ?_
      simp only [Act.put, List.setIfInBounds_toArray, List.set_cons_zero, List.set_cons_succ]
      refine takeD (i := 7) (d := 47) (v := .int .i64 (m : Int)) rfl (by kernel_rfl) (by kernel_rfl) (by kernel_rfl) (by kernel_rfl) (fun _ _ _ h => h) (Or.inl ⟨by rfl, fun w' hS => by (obtain ⟨s0, s1, s2, s3, s4, s5, s6, s7, s8, s9, s10, s11, s12⟩ := hS; go_simp)⟩) hHeld ?_
      simp only [Act.put, List.setIfInBounds_toArray, List.set_cons_zero, List.set_cons_succ]
      refine takeD (i := 8) (d := 48) (v := .pointer (some ⟨w.heap.size, 2, none⟩)) rfl (by kernel_rfl) (by kernel_rfl) (by kernel_rfl) (by kernel_rfl) (fun _ _ _ h => h) (Or.inl ⟨by rfl, fun w' hS => by go_simp⟩) hHeld ?_
      simp only [Act.put, List.setIfInBounds_toArray, List.set_cons_zero, List.set_cons_succ]
      refine takeD (i := 9) (d := 49) (v := .int .i64 (r : Int)) rfl (by kernel_rfl) (by kernel_rfl) (by kernel_rfl) (by kernel_rfl) (fun _ _ _ h => h) (Or.inl ⟨by rfl, fun w' hS => by (obtain ⟨s0, s1, s2, s3, s4, s5, s6, s7, s8, s9, s10, s11, s12⟩ := hS; go_simp)⟩) hHeld ?_
      simp only [Act.put, List.setIfInBounds_toArray, List.set_cons_zero, List.set_cons_succ]
      refine takeD (i := 10) (d := 50) (v := .pointer (some ⟨b, 0, none⟩)) rfl (by kernel_rfl) (by kernel_rfl) (by kernel_rfl) (by kernel_rfl) (fun _ _ _ h => h) (Or.inl ⟨by rfl, fun w' hS => by go_simp⟩) hHeld ?_
      simp only [Act.put, List.setIfInBounds_toArray, List.set_cons_zero, List.set_cons_succ]
      refine takeD (i := 11) (d := 51) (v := .pointer (some ⟨b, 17, none⟩)) rfl (by kernel_rfl) (by kernel_rfl) (by kernel_rfl) (by kernel_rfl) (fun _ _ _ h => h) (Or.inl ⟨by rfl, fun w' hS => by go_simp⟩) hHeld ?_
      simp only [Act.put, List.setIfInBounds_toArray, List.set_cons_zero, List.set_cons_succ]
      refine takeD (i := 12) (d := 52) (v := .pointer (some ⟨b, 17 + m * 16, none⟩)) rfl (by kernel_rfl) (by kernel_rfl) (by kernel_rfl) (by kernel_rfl) (fun _ _ _ h => h) (Or.inl ⟨by rfl, fun w' hS => by go_simp⟩) hHeld ?_
      simp only [Act.put, List.setIfInBounds_toArray, List.set_cons_zero, List.set_cons_succ]
      refine takeD (i := 13) (d := 53) (v := .pointer (some ⟨b, 17 + m * 16 + r, none⟩)) rfl (by kernel_rfl) (by kernel_rfl) (by kernel_rfl) (by kernel_rfl) (fun _ _ _ h => h) (Or.inl ⟨by rfl, fun w' hS => by go_simp⟩) hHeld ?_
      simp only [Act.put, List.setIfInBounds_toArray, List.set_cons_zero, List.set_cons_succ]
      refine takeD (i := 15) (d := 55) (v := .agg #[.int .i64 8, .int .i64 (m : Int), .int .i64 (r : Int), .int .i64 n, v4, v5, v6, v7, v8, v9, v10, v11, v12]) rfl (by kernel_rfl) (by kernel_rfl) (by kernel_rfl) (by kernel_rfl) (fun _ _ _ h => h) (Or.inl ⟨by rfl, fun w' hS => by (obtain ⟨s0, s1, s2, s3, s4, s5, s6, s7, s8, s9, s10, s11, s12⟩ := hS; go_simp)⟩) hHeld ?_
      simp only [Act.put, List.setIfInBounds_toArray, List.set_cons_zero, List.set_cons_succ]
      refine takeD (i := 17) (d := 57) (v := .pointer (some ⟨b, 0, none⟩)) rfl (by kernel_rfl) (by kernel_rfl) (by kernel_rfl) (by kernel_rfl) (fun _ _ _ h => h) (Or.inl ⟨by rfl, fun w' hS => by go_simp⟩) hHeld ?_
      simp only [Act.put, List.setIfInBounds_toArray, List.set_cons_zero, List.set_cons_succ]
      refine takeD (i := 18) (d := 58) (v := .pointer (some ⟨b, 17, none⟩)) rfl (by kernel_rfl) (by kernel_rfl) (by kernel_rfl) (by kernel_rfl) (fun _ _ _ h => h) (Or.inl ⟨by rfl, fun w' hS => by go_simp⟩) hHeld ?_
      simp only [Act.put, List.setIfInBounds_toArray, List.set_cons_zero, List.set_cons_succ]
      refine takeD (i := 19) (d := 59) (v := .pointer (some ⟨b, 17 + m * 16, none⟩)) rfl (by kernel_rfl) (by kernel_rfl) (by kernel_rfl) (by kernel_rfl) (fun _ _ _ h => h) (Or.inl ⟨by rfl, fun w' hS => by go_simp⟩) hHeld ?_
      simp only [Act.put, List.setIfInBounds_toArray, List.set_cons_zero, List.set_cons_succ]
      have hbD1 : Below W.heap.size W W.drew := drew_bel _
      have q0 := below_at hbD1 c0
      have q1 := below_at hbD1 c1
      have q2 := below_at hbD1 c2
      have q3 := below_at hbD1 c3
      have q4 := below_at hbD1 c4
      have q5 := below_at hbD1 c5
      have q6 := below_at hbD1 c6
      have q7 := below_at hbD1 c7
      have q8 := below_at hbD1 c8
      have q9 := below_at hbD1 c9
      have q10 := below_at hbD1 c10
      have q11 := below_at hbD1 c11
      have q12 := below_at hbD1 c12
      have iq0 := below_at hbD1 cx
      generalize W.drew = D1 at *
      refine wpAnyH_ready (rs := [14]) (by kernel_rfl) (by simp) ?_
      refine AllReadyH.cons rfl (fun K hK => ?_) AllReadyH.nil
      have zim := iq0
      go_simp
      clear zim
      refine hK.out _ _ ⟨q0, q1, q2, q3, q4, q5, q6, q7, q8, q9, q10, q11, q12⟩ (fun hHeld => ?_)
      clear hK K
      refine wpAnyH_ready (rs := [16]) (by kernel_rfl) (by simp) ?_
      refine AllReadyH.cons rfl (fun K hK => ?_) AllReadyH.nil
      go_simp
      refine (path_any _ _ _ _ _ _ _ _ _ _ _ _ _ _ _ HPX.out).mono ?_
      rintro e w5 ⟨rfl, hb5⟩
      have H4 : Hid (Nb w5 b f) := (show Nb _ _ _ from (HNW.out.on hbD1).on hb5)
      have HB4 : Hid (Below B w w5) := HBW.out.trans ((bstep hbD1 hb5).mono (by omega))
      refine hK.out _ _ ⟨(below_at hb5 q0), (below_at hb5 q1), (below_at hb5 q2), (below_at hb5 q3), (below_at hb5 q4), (below_at hb5 q5), (below_at hb5 q6), (below_at hb5 q7), (below_at hb5 q8), (below_at hb5 q9), (below_at hb5 q10), (below_at hb5 q11), (below_at hb5 q12)⟩ (fun hHeld => ?_)
      clear hK K
      refine takeD (i := 20) (d := 60) (v := .pointer (some ⟨b, 17 + m * 16 + r, none⟩)) rfl (by kernel_rfl) (by kernel_rfl) (by kernel_rfl) (by kernel_rfl) (fun _ _ _ h => h) (Or.inl ⟨by rfl, fun w' hS => by go_simp⟩) hHeld ?_
      simp only [Act.put, List.setIfInBounds_toArray, List.set_cons_zero, List.set_cons_succ]
      refine wpAnyH_ready (rs := [21]) (by kernel_rfl) (by simp) ?_
      refine AllReadyH.cons rfl (fun K hK => ?_) AllReadyH.nil
      have z14 := H4.out.cell (i := 17 + m * 16 + r) (by have := HM.out; omega)
      have z15 := H4.out.fz (17 + m * 16 + r)
      go_simp
      refine hK.out _ _ ⟨(cell_ne hwb (below_at hb5 q0)), (cell_ne hwb (below_at hb5 q1)), (cell_ne hwb (below_at hb5 q2)), (cell_ne hwb (below_at hb5 q3)), (cell_ne hwb (below_at hb5 q4)), (cell_ne hwb (below_at hb5 q5)), (cell_ne hwb (below_at hb5 q6)), (cell_ne hwb (below_at hb5 q7)), (cell_ne hwb (below_at hb5 q8)), (cell_ne hwb (below_at hb5 q9)), (cell_ne hwb (below_at hb5 q10)), (cell_ne hwb (below_at hb5 q11)), (cell_ne hwb (below_at hb5 q12))⟩ (fun hHeld => ?_)
      clear hK K
      refine wpAnyH_done (by kernel_rfl) ?_ _
      clear hHeld
      go_wp2_with fail
      (first | go_end0 | ((try simp only [Exit.inBlock, Exit.then]); refine bodyPost_ret (results_none rfl _ _ _) rfl ?_))
      exact ⟨rfl, H4.out.set (by have := HM.out; omega) _, HB4.out.setCell hB _⟩
    · go_enter Try.func25, Try.ntmps25
      go_wp2_with (first | (go_at_call 45; refine HQ.out.mono ?_; rintro e w' ⟨rfl, rfl⟩) | fail)
      refine wp_region_held_drew (S := (fun w' => w'.cell? ⟨w.heap.size, 0, none⟩ = some (.int .i64 9) ∧ w'.cell? ⟨w.heap.size, 1, none⟩ = some (.int .i64 (m : Int)) ∧ w'.cell? ⟨w.heap.size, 2, none⟩ = some (.int .i64 (r : Int)) ∧ w'.cell? ⟨w.heap.size, 3, none⟩ = some (.int .i64 n) ∧ w'.cell? ⟨w.heap.size, 4, none⟩ = some (v4) ∧ w'.cell? ⟨w.heap.size, 5, none⟩ = some (v5) ∧ w'.cell? ⟨w.heap.size, 6, none⟩ = some (v6) ∧ w'.cell? ⟨w.heap.size, 7, none⟩ = some (v7) ∧ w'.cell? ⟨w.heap.size, 8, none⟩ = some (v8) ∧ w'.cell? ⟨w.heap.size, 9, none⟩ = some (v9) ∧ w'.cell? ⟨w.heap.size, 10, none⟩ = some (v10) ∧ w'.cell? ⟨w.heap.size, 11, none⟩ = some (v11) ∧ w'.cell? ⟨w.heap.size, 12, none⟩ = some (v12))) (by kernel_rfl) ⟨(below_at (drew_bel _) c0), (below_at (drew_bel _) c1), (below_at (drew_bel _) c2), (below_at (drew_bel _) c3), (below_at (drew_bel _) c4), (below_at (drew_bel _) c5), (below_at (drew_bel _) c6), (below_at (drew_bel _) c7), (below_at (drew_bel _) c8), (below_at (drew_bel _) c9), (below_at (drew_bel _) c10), (below_at (drew_bel _) c11), (below_at (drew_bel _) c12)⟩ (fun hHeld => ?_)
      simp only [Act.put, List.size_toArray, List.length_cons, List.length_nil, Nat.zero_add]
      refine takeD (i := 0) (d := 40) (v := .pointer (some ⟨b, 0, none⟩)) rfl (by kernel_rfl) (by kernel_rfl) (by kernel_rfl) (by kernel_rfl) (fun _ _ _ h => h) (Or.inl ⟨by rfl, fun w' hS => by go_simp⟩) hHeld ?_
      simp only [Act.put, List.setIfInBounds_toArray, List.set_cons_zero, List.set_cons_succ]
      refine takeD (i := 1) (d := 41) (v := .pointer (some ⟨w.heap.size, 1, none⟩)) rfl (by kernel_rfl) (by kernel_rfl) (by kernel_rfl) (by kernel_rfl) (fun _ _ _ h => h) (Or.inl ⟨by rfl, fun w' hS => by go_simp⟩) hHeld ?_
      simp only [Act.put, List.setIfInBounds_toArray, List.set_cons_zero, List.set_cons_succ]
      refine takeD (i := 2) (d := 42) (v := .int .i64 (m : Int)) rfl (by kernel_rfl) (by kernel_rfl) (by kernel_rfl) (by kernel_rfl) (fun _ _ _ h => h) (Or.inl ⟨by rfl, fun w' hS => by (obtain ⟨s0, s1, s2, s3, s4, s5, s6, s7, s8, s9, s10, s11, s12⟩ := hS; go_simp)⟩) hHeld ?_
      simp only [Act.put, List.setIfInBounds_toArray, List.set_cons_zero, List.set_cons_succ]
      refine takeD (i := 3) (d := 43) (v := .pointer (some ⟨w.heap.size, 2, none⟩)) rfl (by kernel_rfl) (by kernel_rfl) (by kernel_rfl) (by kernel_rfl) (fun _ _ _ h => h) (Or.inl ⟨by rfl, fun w' hS => by go_simp⟩) hHeld ?_
      simp only [Act.put, List.setIfInBounds_toArray, List.set_cons_zero, List.set_cons_succ]
      refine takeD (i := 4) (d := 44) (v := .int .i64 (r : Int)) rfl (by kernel_rfl) (by kernel_rfl) (by kernel_rfl) (by kernel_rfl) (fun _ _ _ h => h) (Or.inl ⟨by rfl, fun w' hS => by (obtain ⟨s0, s1, s2, s3, s4, s5, s6, s7, s8, s9, s10, s11, s12⟩ := hS; go_simp)⟩) hHeld ?_
      simp only [Act.put, List.setIfInBounds_toArray, List.set_cons_zero, List.set_cons_succ]
      refine takeD (i := 5) (d := 45) (v := .pointer (some ⟨b, 0, none⟩)) rfl (by kernel_rfl) (by kernel_rfl) (by kernel_rfl) (by kernel_rfl) (fun _ _ _ h => h) (Or.inl ⟨by rfl, fun w' hS => by go_simp⟩) hHeld ?_
      simp only [Act.put, List.setIfInBounds_toArray, List.set_cons_zero, List.set_cons_succ]
      refine takeD (i := 6) (d := 46) (v := .pointer (some ⟨w.heap.size, 1, none⟩)) rfl (by kernel_rfl) (by kernel_rfl) (by kernel_rfl) (by kernel_rfl) (fun _ _ _ h => h) (Or.inl ⟨by rfl, fun w' hS => by go_simp⟩) hHeld ?_
      simp only [Act.put, List.setIfInBounds_toArray, List.set_cons_zero, List.set_cons_succ]
      refine takeD (i := 7) (d := 47) (v := .int .i64 (m : Int)) rfl (by kernel_rfl) (by kernel_rfl) (by kernel_rfl) (by kernel_rfl) (fun _ _ _ h => h) (Or.inl ⟨by rfl, fun w' hS => by (obtain ⟨s0, s1, s2, s3, s4, s5, s6, s7, s8, s9, s10, s11, s12⟩ := hS; go_simp)⟩) hHeld ?_
      simp only [Act.put, List.setIfInBounds_toArray, List.set_cons_zero, List.set_cons_succ]
      refine takeD (i := 8) (d := 48) (v := .pointer (some ⟨w.heap.size, 2, none⟩)) rfl (by kernel_rfl) (by kernel_rfl) (by kernel_rfl) (by kernel_rfl) (fun _ _ _ h => h) (Or.inl ⟨by rfl, fun w' hS => by go_simp⟩) hHeld ?_
      simp only [Act.put, List.setIfInBounds_toArray, List.set_cons_zero, List.set_cons_succ]
      refine takeD (i := 9) (d := 49) (v := .int .i64 (r : Int)) rfl (by kernel_rfl) (by kernel_rfl) (by kernel_rfl) (by kernel_rfl) (fun _ _ _ h => h) (Or.inl ⟨by rfl, fun w' hS => by (obtain ⟨s0, s1, s2, s3, s4, s5, s6, s7, s8, s9, s10, s11, s12⟩ := hS; go_simp)⟩) hHeld ?_
      simp only [Act.put, List.setIfInBounds_toArray, List.set_cons_zero, List.set_cons_succ]
      refine takeD (i := 10) (d := 50) (v := .pointer (some ⟨b, 0, none⟩)) rfl (by kernel_rfl) (by kernel_rfl) (by kernel_rfl) (by kernel_rfl) (fun _ _ _ h => h) (Or.inl ⟨by rfl, fun w' hS => by go_simp⟩) hHeld ?_
      simp only [Act.put, List.setIfInBounds_toArray, List.set_cons_zero, List.set_cons_succ]
      refine takeD (i := 11) (d := 51) (v := .pointer (some ⟨b, 17, none⟩)) rfl (by kernel_rfl) (by kernel_rfl) (by kernel_rfl) (by kernel_rfl) (fun _ _ _ h => h) (Or.inl ⟨by rfl, fun w' hS => by go_simp⟩) hHeld ?_
      simp only [Act.put, List.setIfInBounds_toArray, List.set_cons_zero, List.set_cons_succ]
      refine takeD (i := 12) (d := 52) (v := .pointer (some ⟨b, 17 + m * 16, none⟩)) rfl (by kernel_rfl) (by kernel_rfl) (by kernel_rfl) (by kernel_rfl) (fun _ _ _ h => h) (Or.inl ⟨by rfl, fun w' hS => by go_simp⟩) hHeld ?_
      simp only [Act.put, List.setIfInBounds_toArray, List.set_cons_zero, List.set_cons_succ]
      refine takeD (i := 13) (d := 53) (v := .pointer (some ⟨b, 17 + m * 16 + r, none⟩)) rfl (by kernel_rfl) (by kernel_rfl) (by kernel_rfl) (by kernel_rfl) (fun _ _ _ h => h) (Or.inl ⟨by rfl, fun w' hS => by go_simp⟩) hHeld ?_
      simp only [Act.put, List.setIfInBounds_toArray, List.set_cons_zero, List.set_cons_succ]
      refine takeD (i := 15) (d := 55) (v := .agg #[.int .i64 9, .int .i64 (m : Int), .int .i64 (r : Int), .int .i64 n, v4, v5, v6, v7, v8, v9, v10, v11, v12]) rfl (by kernel_rfl) (by kernel_rfl) (by kernel_rfl) (by kernel_rfl) (fun _ _ _ h => h) (Or.inl ⟨by rfl, fun w' hS => by (obtain ⟨s0, s1, s2, s3, s4, s5, s6, s7, s8, s9, s10, s11, s12⟩ := hS; go_simp)⟩) hHeld ?_
      simp only [Act.put, List.setIfInBounds_toArray, List.set_cons_zero, List.set_cons_succ]
      refine takeD (i := 17) (d := 57) (v := .pointer (some ⟨b, 0, none⟩)) rfl (by kernel_rfl) (by kernel_rfl) (by kernel_rfl) (by kernel_rfl) (fun _ _ _ h => h) (Or.inl ⟨by rfl, fun w' hS => by go_simp⟩) hHeld ?_
      simp only [Act.put, List.setIfInBounds_toArray, List.set_cons_zero, List.set_cons_succ]
      refine takeD (i := 18) (d := 58) (v := .pointer (some ⟨b, 17, none⟩)) rfl (by kernel_rfl) (by kernel_rfl) (by kernel_rfl) (by kernel_rfl) (fun _ _ _ h => h) (Or.inl ⟨by rfl, fun w' hS => by go_simp⟩) hHeld ?_
      simp only [Act.put, List.setIfInBounds_toArray, List.set_cons_zero, List.set_cons_succ]
      refine takeD (i := 19) (d := 59) (v := .pointer (some ⟨b, 17 + m * 16, none⟩)) rfl (by kernel_rfl) (by kernel_rfl) (by kernel_rfl) (by kernel_rfl) (fun _ _ _ h => h) (Or.inl ⟨by rfl, fun w' hS => by go_simp⟩) hHeld ?_
      simp only [Act.put, List.setIfInBounds_toArray, List.set_cons_zero, List.set_cons_succ]
      have hbD1 : Below W.heap.size W W.drew := drew_bel _
      have q0 := below_at hbD1 c0
      have q1 := below_at hbD1 c1
      have q2 := below_at hbD1 c2
      have q3 := below_at hbD1 c3
      have q4 := below_at hbD1 c4
      have q5 := below_at hbD1 c5
      have q6 := below_at hbD1 c6
      have q7 := below_at hbD1 c7
      have q8 := below_at hbD1 c8
      have q9 := below_at hbD1 c9
      have q10 := below_at hbD1 c10
      have q11 := below_at hbD1 c11
      have q12 := below_at hbD1 c12
      have iq0 := below_at hbD1 cx
      generalize W.drew = D1 at *
      refine wpAnyH_ready (rs := [14]) (by kernel_rfl) (by simp) ?_
      refine AllReadyH.cons rfl (fun K hK => ?_) AllReadyH.nil
      have zim := iq0
      go_simp
      clear zim
      refine hK.out _ _ ⟨q0, q1, q2, q3, q4, q5, q6, q7, q8, q9, q10, q11, q12⟩ (fun hHeld => ?_)
      clear hK K
      refine wpAnyH_ready (rs := [16]) (by kernel_rfl) (by simp) ?_
      refine AllReadyH.cons rfl (fun K hK => ?_) AllReadyH.nil
      go_simp
      refine (path_any _ _ _ _ _ _ _ _ _ _ _ _ _ _ _ HPX.out).mono ?_
      rintro e w5 ⟨rfl, hb5⟩
      have H4 : Hid (Nb w5 b f) := (show Nb _ _ _ from (HNW.out.on hbD1).on hb5)
      have HB4 : Hid (Below B w w5) := HBW.out.trans ((bstep hbD1 hb5).mono (by omega))
      refine hK.out _ _ ⟨(below_at hb5 q0), (below_at hb5 q1), (below_at hb5 q2), (below_at hb5 q3), (below_at hb5 q4), (below_at hb5 q5), (below_at hb5 q6), (below_at hb5 q7), (below_at hb5 q8), (below_at hb5 q9), (below_at hb5 q10), (below_at hb5 q11), (below_at hb5 q12)⟩ (fun hHeld => ?_)
      clear hK K
      refine takeD (i := 20) (d := 60) (v := .pointer (some ⟨b, 17 + m * 16 + r, none⟩)) rfl (by kernel_rfl) (by kernel_rfl) (by kernel_rfl) (by kernel_rfl) (fun _ _ _ h => h) (Or.inl ⟨by rfl, fun w' hS => by go_simp⟩) hHeld ?_
      simp only [Act.put, List.setIfInBounds_toArray, List.set_cons_zero, List.set_cons_succ]
      refine wpAnyH_ready (rs := [21]) (by kernel_rfl) (by simp) ?_
      refine AllReadyH.cons rfl (fun K hK => ?_) AllReadyH.nil
      have z14 := H4.out.cell (i := 17 + m * 16 + r) (by have := HM.out; omega)
      have z15 := H4.out.fz (17 + m * 16 + r)
      go_simp
      refine hK.out _ _ ⟨(cell_ne hwb (below_at hb5 q0)), (cell_ne hwb (below_at hb5 q1)), (cell_ne hwb (below_at hb5 q2)), (cell_ne hwb (below_at hb5 q3)), (cell_ne hwb (below_at hb5 q4)), (cell_ne hwb (below_at hb5 q5)), (cell_ne hwb (below_at hb5 q6)), (cell_ne hwb (below_at hb5 q7)), (cell_ne hwb (below_at hb5 q8)), (cell_ne hwb (below_at hb5 q9)), (cell_ne hwb (below_at hb5 q10)), (cell_ne hwb (below_at hb5 q11)), (cell_ne hwb (below_at hb5 q12))⟩ (fun hHeld => ?_)
      clear hK K
      refine wpAnyH_done (by kernel_rfl) ?_ _
      clear hHeld
      go_wp2_with fail
      (first | go_end0 | ((try simp only [Exit.inBlock, Exit.then]); refine bodyPost_ret (results_none rfl _ _ _) rfl ?_))
      exact ⟨rfl, H4.out.set (by have := HM.out; omega) _, HB4.out.setCell hB _⟩
    · go_enter Try.func25, Try.ntmps25
      go_wp2_with (first | (go_at_call 45; refine HQ.out.mono ?_; rintro e w' ⟨rfl, rfl⟩) | fail)
      refine wp_region_held_drew (S := (fun w' => w'.cell? ⟨w.heap.size, 0, none⟩ = some (.int .i64 10) ∧ w'.cell? ⟨w.heap.size, 1, none⟩ = some (.int .i64 (m : Int)) ∧ w'.cell? ⟨w.heap.size, 2, none⟩ = some (.int .i64 (r : Int)) ∧ w'.cell? ⟨w.heap.size, 3, none⟩ = some (.int .i64 n) ∧ w'.cell? ⟨w.heap.size, 4, none⟩ = some (v4) ∧ w'.cell? ⟨w.heap.size, 5, none⟩ = some (v5) ∧ w'.cell? ⟨w.heap.size, 6, none⟩ = some (v6) ∧ w'.cell? ⟨w.heap.size, 7, none⟩ = some (v7) ∧ w'.cell? ⟨w.heap.size, 8, none⟩ = some (v8) ∧ w'.cell? ⟨w.heap.size, 9, none⟩ = some (v9) ∧ w'.cell? ⟨w.heap.size, 10, none⟩ = some (v10) ∧ w'.cell? ⟨w.heap.size, 11, none⟩ = some (v11) ∧ w'.cell? ⟨w.heap.size, 12, none⟩ = some (v12))) (by kernel_rfl) ⟨(below_at (drew_bel _) c0), (below_at (drew_bel _) c1), (below_at (drew_bel _) c2), (below_at (drew_bel _) c3), (below_at (drew_bel _) c4), (below_at (drew_bel _) c5), (below_at (drew_bel _) c6), (below_at (drew_bel _) c7), (below_at (drew_bel _) c8), (below_at (drew_bel _) c9), (below_at (drew_bel _) c10), (below_at (drew_bel _) c11), (below_at (drew_bel _) c12)⟩ (fun hHeld => ?_)
      simp only [Act.put, List.size_toArray, List.length_cons, List.length_nil, Nat.zero_add]
      refine takeD (i := 0) (d := 40) (v := .pointer (some ⟨b, 0, none⟩)) rfl (by kernel_rfl) (by kernel_rfl) (by kernel_rfl) (by kernel_rfl) (fun _ _ _ h => h) (Or.inl ⟨by rfl, fun w' hS => by go_simp⟩) hHeld ?_
      simp only [Act.put, List.setIfInBounds_toArray, List.set_cons_zero, List.set_cons_succ]
      refine takeD (i := 1) (d := 41) (v := .pointer (some ⟨w.heap.size, 1, none⟩)) rfl (by kernel_rfl) (by kernel_rfl) (by kernel_rfl) (by kernel_rfl) (fun _ _ _ h => h) (Or.inl ⟨by rfl, fun w' hS => by go_simp⟩) hHeld ?_
      simp only [Act.put, List.setIfInBounds_toArray, List.set_cons_zero, List.set_cons_succ]
      refine takeD (i := 2) (d := 42) (v := .int .i64 (m : Int)) rfl (by kernel_rfl) (by kernel_rfl) (by kernel_rfl) (by kernel_rfl) (fun _ _ _ h => h) (Or.inl ⟨by rfl, fun w' hS => by (obtain ⟨s0, s1, s2, s3, s4, s5, s6, s7, s8, s9, s10, s11, s12⟩ := hS; go_simp)⟩) hHeld ?_
      simp only [Act.put, List.setIfInBounds_toArray, List.set_cons_zero, List.set_cons_succ]
      refine takeD (i := 3) (d := 43) (v := .pointer (some ⟨w.heap.size, 2, none⟩)) rfl (by kernel_rfl) (by kernel_rfl) (by kernel_rfl) (by kernel_rfl) (fun _ _ _ h => h) (Or.inl ⟨by rfl, fun w' hS => by go_simp⟩) hHeld ?_
      simp only [Act.put, List.setIfInBounds_toArray, List.set_cons_zero, List.set_cons_succ]
      refine takeD (i := 4) (d := 44) (v := .int .i64 (r : Int)) rfl (by kernel_rfl) (by kernel_rfl) (by kernel_rfl) (by kernel_rfl) (fun _ _ _ h => h) (Or.inl ⟨by rfl, fun w' hS => by (obtain ⟨s0, s1, s2, s3, s4, s5, s6, s7, s8, s9, s10, s11, s12⟩ := hS; go_simp)⟩) hHeld ?_
      simp only [Act.put, List.setIfInBounds_toArray, List.set_cons_zero, List.set_cons_succ]
      refine takeD (i := 5) (d := 45) (v := .pointer (some ⟨b, 0, none⟩)) rfl (by kernel_rfl) (by kernel_rfl) (by kernel_rfl) (by kernel_rfl) (fun _ _ _ h => h) (Or.inl ⟨by rfl, fun w' hS => by go_simp⟩) hHeld ?_
      simp only [Act.put, List.setIfInBounds_toArray, List.set_cons_zero, List.set_cons_succ]
      refine takeD (i := 6) (d := 46) (v := .pointer (some ⟨w.heap.size, 1, none⟩)) rfl (by kernel_rfl) (by kernel_rfl) (by kernel_rfl) (by kernel_rfl) (fun _ _ _ h => h) (Or.inl ⟨by rfl, fun w' hS => by go_simp⟩) hHeld ?_
      simp only [Act.put, List.setIfInBounds_toArray, List.set_cons_zero, List.set_cons_succ]
      refine takeD (i := 7) (d := 47) (v := .int .i64 (m : Int)) rfl (by kernel_rfl) (by kernel_rfl) (by kernel_rfl) (by kernel_rfl) (fun _ _ _ h => h) (Or.inl ⟨by rfl, fun w' hS => by (obtain ⟨s0, s1, s2, s3, s4, s5, s6, s7, s8, s9, s10, s11, s12⟩ := hS; go_simp)⟩) hHeld ?_
      simp only [Act.put, List.setIfInBounds_toArray, List.set_cons_zero, List.set_cons_succ]
      refine takeD (i := 8) (d := 48) (v := .pointer (some ⟨w.heap.size, 2, none⟩)) rfl (by kernel_rfl) (by kernel_rfl) (by kernel_rfl) (by kernel_rfl) (fun _ _ _ h => h) (Or.inl ⟨by rfl, fun w' hS => by go_simp⟩) hHeld ?_
      simp only [Act.put, List.setIfInBounds_toArray, List.set_cons_zero, List.set_cons_succ]
      refine takeD (i := 9) (d := 49) (v := .int .i64 (r : Int)) rfl (by kernel_rfl) (by kernel_rfl) (by kernel_rfl) (by kernel_rfl) (fun _ _ _ h => h) (Or.inl ⟨by rfl, fun w' hS => by (obtain ⟨s0, s1, s2, s3, s4, s5, s6, s7, s8, s9, s10, s11, s12⟩ := hS; go_simp)⟩) hHeld ?_
      simp only [Act.put, List.setIfInBounds_toArray, List.set_cons_zero, List.set_cons_succ]
      refine takeD (i := 10) (d := 50) (v := .pointer (some ⟨b, 0, none⟩)) rfl (by kernel_rfl) (by kernel_rfl) (by kernel_rfl) (by kernel_rfl) (fun _ _ _ h => h) (Or.inl ⟨by rfl, fun w' hS => by go_simp⟩) hHeld ?_
      simp only [Act.put, List.setIfInBounds_toArray, List.set_cons_zero, List.set_cons_succ]
      refine takeD (i := 11) (d := 51) (v := .pointer (some ⟨b, 17, none⟩)) rfl (by kernel_rfl) (by kernel_rfl) (by kernel_rfl) (by kernel_rfl) (fun _ _ _ h => h) (Or.inl ⟨by rfl, fun w' hS => by go_simp⟩) hHeld ?_
      simp only [Act.put, List.setIfInBounds_toArray, List.set_cons_zero, List.set_cons_succ]
      refine takeD (i := 12) (d := 52) (v := .pointer (some ⟨b, 17 + m * 16, none⟩)) rfl (by kernel_rfl) (by kernel_rfl) (by kernel_rfl) (by kernel_rfl) (fun _ _ _ h => h) (Or.inl ⟨by rfl, fun w' hS => by go_simp⟩) hHeld ?_
      simp only [Act.put, List.setIfInBounds_toArray, List.set_cons_zero, List.set_cons_succ]
      refine takeD (i := 13) (d := 53) (v := .pointer (some ⟨b, 17 + m * 16 + r, none⟩)) rfl (by kernel_rfl) (by kernel_rfl) (by kernel_rfl) (by kernel_rfl) (fun _ _ _ h => h) (Or.inl ⟨by rfl, fun w' hS => by go_simp⟩) hHeld ?_
      simp only [Act.put, List.setIfInBounds_toArray, List.set_cons_zero, List.set_cons_succ]
      refine takeD (i := 15) (d := 55) (v := .agg #[.int .i64 10, .int .i64 (m : Int), .int .i64 (r : Int), .int .i64 n, v4, v5, v6, v7, v8, v9, v10, v11, v12]) rfl (by kernel_rfl) (by kernel_rfl) (by kernel_rfl) (by kernel_rfl) (fun _ _ _ h => h) (Or.inl ⟨by rfl, fun w' hS => by (obtain ⟨s0, s1, s2, s3, s4, s5, s6, s7, s8, s9, s10, s11, s12⟩ := hS; go_simp)⟩) hHeld ?_
      simp only [Act.put, List.setIfInBounds_toArray, List.set_cons_zero, List.set_cons_succ]
      refine takeD (i := 17) (d := 57) (v := .pointer (some ⟨b, 0, none⟩)) rfl (by kernel_rfl) (by kernel_rfl) (by kernel_rfl) (by kernel_rfl) (fun _ _ _ h => h) (Or.inl ⟨by rfl, fun w' hS => by go_simp⟩) hHeld ?_
      simp only [Act.put, List.setIfInBounds_toArray, List.set_cons_zero, List.set_cons_succ]
      refine takeD (i := 18) (d := 58) (v := .pointer (some ⟨b, 17, none⟩)) rfl (by kernel_rfl) (by kernel_rfl) (by kernel_rfl) (by kernel_rfl) (fun _ _ _ h => h) (Or.inl ⟨by rfl, fun w' hS => by go_simp⟩) hHeld ?_
      simp only [Act.put, List.setIfInBounds_toArray, List.set_cons_zero, List.set_cons_succ]
      refine takeD (i := 19) (d := 59) (v := .pointer (some ⟨b, 17 + m * 16, none⟩)) rfl (by kernel_rfl) (by kernel_rfl) (by kernel_rfl) (by kernel_rfl) (fun _ _ _ h => h) (Or.inl ⟨by rfl, fun w' hS => by go_simp⟩) hHeld ?_
      simp only [Act.put, List.setIfInBounds_toArray, List.set_cons_zero, List.set_cons_succ]
      have hbD1 : Below W.heap.size W W.drew := drew_bel _
      have q0 := below_at hbD1 c0
      have q1 := below_at hbD1 c1
      have q2 := below_at hbD1 c2
      have q3 := below_at hbD1 c3
      have q4 := below_at hbD1 c4
      have q5 := below_at hbD1 c5
      have q6 := below_at hbD1 c6
      have q7 := below_at hbD1 c7
      have q8 := below_at hbD1 c8
      have q9 := below_at hbD1 c9
      have q10 := below_at hbD1 c10
      have q11 := below_at hbD1 c11
      have q12 := below_at hbD1 c12
      have iq0 := below_at hbD1 cx
      generalize W.drew = D1 at *
      refine wpAnyH_ready (rs := [14]) (by kernel_rfl) (by simp) ?_
      refine AllReadyH.cons rfl (fun K hK => ?_) AllReadyH.nil
      have zim := iq0
      go_simp
      clear zim
      refine hK.out _ _ ⟨q0, q1, q2, q3, q4, q5, q6, q7, q8, q9, q10, q11, q12⟩ (fun hHeld => ?_)
      clear hK K
      refine wpAnyH_ready (rs := [16]) (by kernel_rfl) (by simp) ?_
      refine AllReadyH.cons rfl (fun K hK => ?_) AllReadyH.nil
      go_simp
      refine (path_any _ _ _ _ _ _ _ _ _ _ _ _ _ _ _ HPX.out).mono ?_
      rintro e w5 ⟨rfl, hb5⟩
      have H4 : Hid (Nb w5 b f) := (show Nb _ _ _ from (HNW.out.on hbD1).on hb5)
      have HB4 : Hid (Below B w w5) := HBW.out.trans ((bstep hbD1 hb5).mono (by omega))
      refine hK.out _ _ ⟨(below_at hb5 q0), (below_at hb5 q1), (below_at hb5 q2), (below_at hb5 q3), (below_at hb5 q4), (below_at hb5 q5), (below_at hb5 q6), (below_at hb5 q7), (below_at hb5 q8), (below_at hb5 q9), (below_at hb5 q10), (below_at hb5 q11), (below_at hb5 q12)⟩ (fun hHeld => ?_)
      clear hK K
      refine takeD (i := 20) (d := 60) (v := .pointer (some ⟨b, 17 + m * 16 + r, none⟩)) rfl (by kernel_rfl) (by kernel_rfl) (by kernel_rfl) (by kernel_rfl) (fun _ _ _ h => h) (Or.inl ⟨by rfl, fun w' hS => by go_simp⟩) hHeld ?_
      simp only [Act.put, List.setIfInBounds_toArray, List.set_cons_zero, List.set_cons_succ]
      refine wpAnyH_ready (rs := [21]) (by kernel_rfl) (by simp) ?_
      refine AllReadyH.cons rfl (fun K hK => ?_) AllReadyH.nil
      have z14 := H4.out.cell (i := 17 + m * 16 + r) (by have := HM.out; omega)
      have z15 := H4.out.fz (17 + m * 16 + r)
      go_simp
      refine hK.out _ _ ⟨(cell_ne hwb (below_at hb5 q0)), (cell_ne hwb (below_at hb5 q1)), (cell_ne hwb (below_at hb5 q2)), (cell_ne hwb (below_at hb5 q3)), (cell_ne hwb (below_at hb5 q4)), (cell_ne hwb (below_at hb5 q5)), (cell_ne hwb (below_at hb5 q6)), (cell_ne hwb (below_at hb5 q7)), (cell_ne hwb (below_at hb5 q8)), (cell_ne hwb (below_at hb5 q9)), (cell_ne hwb (below_at hb5 q10)), (cell_ne hwb (below_at hb5 q11)), (cell_ne hwb (below_at hb5 q12))⟩ (fun hHeld => ?_)
      clear hK K
      refine wpAnyH_done (by kernel_rfl) ?_ _
      clear hHeld
      go_wp2_with fail
      (first | go_end0 | ((try simp only [Exit.inBlock, Exit.then]); refine bodyPost_ret (results_none rfl _ _ _) rfl ?_))
      exact ⟨rfl, H4.out.set (by have := HM.out; omega) _, HB4.out.setCell hB _⟩
end Go.Proofs.Ytfodkackfahldaa.Lo
