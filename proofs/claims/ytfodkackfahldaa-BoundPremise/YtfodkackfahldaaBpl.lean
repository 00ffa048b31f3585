import Derived.Test.YtfodkackfahldaaBpi
namespace Go.Proofs.Ytfodkackfahldaa.Lo
open Go.RowKit
set_option linter.unusedVariables false
set_option linter.unusedSimpArgs false

theorem drew_bel (w : World) : Below w.heap.size w w.drew := (Below.refl _ _).drew
theorem below_at {w w' : World} {k i : Nat} {v : Value} (hb : Below w.heap.size w w') (hc : w.cell? ⟨k, i, none⟩ = some v) : w'.cell? ⟨k, i, none⟩ = some v := (hb.cell (World.block_lt_of_cell? w _ hc)).trans hc
theorem bstep {w0 w w' : World} (h : Below w0.heap.size w0 w) (hb : Below w.heap.size w w') : Below w0.heap.size w0 w' := h.trans (hb.mono h.size)
theorem cell_ne {w : World} {k i k' i' : Nat} {v x : Value} (h : k ≠ k') (hc : w.cell? ⟨k, i, none⟩ = some v) : (w.setCell ⟨k', i', none⟩ x).cell? ⟨k, i, none⟩ = some v := by
  unfold World.cell? at *
  rw [Below.heap_setCell w ⟨k', i', none⟩ x k h]
  exact hc
theorem takeD {P : Program} {md : Region.Mode} {ops : Array Oper} {Q : Exit → Act → World → Prop} {S : World → Prop} {i d : Nat} {oi : Oper} {v : Value} {fuel : Nat} {listed : Array Bool} {a : Act} {w : World} (hi : ops[i]? = some oi) (hd : oi.dst = some d)
    (hs : Region.noSelect ops = true) (hf : Region.free md ops listed i = true) (hr : (Region.ready md ops listed).contains i = true)
    (hQ : ∀ c a w, Q (.panic c) (a.put oi.dst v) w → Q (.panic c) a w) (hy : YieldsIf P ops S oi v a) (hS : S w)
    (h : wpAnyH P md ops Q S fuel (listed.setIfInBounds i true) (a.put (some d) v) w) : wpAnyH P md ops Q S (fuel + 1) listed a w :=
  wpAnyH_take hi hs hf hr hQ hy hS (by rw [hd]; exact h)
def haS (f : Nat → Int) (kd a n : Int) : Nat → Int := if inR a 0 (f 0 - 1) then upF f (1 + a.toNat) (stB (f (1 + a.toNat)) kd n) else f
set_option maxRecDepth 100000 in
set_option maxHeartbeats 40000000 in
theorem happen_st (b B : Nat) (f : Nat → Int) (kd a q n : Int) (v4 v5 v6 v7 v8 v9 v10 v11 v12 : Value) (w : World) (h : Nb w b f) (hB : B ≤ b) (hn : 1 ≤ f 0 ∧ f 0 ≤ 16) (hk : k4 kd) : Calls Try.prog 25 #[.pointer (some ⟨b, 0, none⟩), .agg #[.int .i64 kd, .int .i64 a, .int .i64 q, .int .i64 n, v4, v5, v6, v7, v8, v9, v10, v11, v12]] w fun e w' => e = .returned (.tuple #[]) ∧ Nb w' b (haS f kd a n) ∧ Below B w w' := by
  have hlt := h.lt
  have HB : Hid (Below w.heap.size w (w.alloc (.cells #[.int .i64 kd, .int .i64 a, .int .i64 q, .int .i64 n, v4, v5, v6, v7, v8, v9, v10, v11, v12] 36))) := bsp _ _ _
  have hkk := heap_new w #[.int .i64 kd, .int .i64 a, .int .i64 q, .int .i64 n, v4, v5, v6, v7, v8, v9, v10, v11, v12] 36
  generalize hW : w.alloc (.cells #[.int .i64 kd, .int .i64 a, .int .i64 q, .int .i64 n, v4, v5, v6, v7, v8, v9, v10, v11, v12] 36) = W at *
  have c0 : W.cell? ⟨w.heap.size, 0, none⟩ = some (.int .i64 kd) := blk_cell hkk 0
  have c1 : W.cell? ⟨w.heap.size, 1, none⟩ = some (.int .i64 a) := blk_cell hkk 1
  have c2 : W.cell? ⟨w.heap.size, 2, none⟩ = some (.int .i64 q) := blk_cell hkk 2
  have c3 : W.cell? ⟨w.heap.size, 3, none⟩ = some (.int .i64 n) := blk_cell hkk 3
  have c4 : W.cell? ⟨w.heap.size, 4, none⟩ = some v4 := blk_cell hkk 4
  have c5 : W.cell? ⟨w.heap.size, 5, none⟩ = some v5 := blk_cell hkk 5
  have c6 : W.cell? ⟨w.heap.size, 6, none⟩ = some v6 := blk_cell hkk 6
  have c7 : W.cell? ⟨w.heap.size, 7, none⟩ = some v7 := blk_cell hkk 7
  have c8 : W.cell? ⟨w.heap.size, 8, none⟩ = some v8 := blk_cell hkk 8
  have c9 : W.cell? ⟨w.heap.size, 9, none⟩ = some v9 := blk_cell hkk 9
  have c10 : W.cell? ⟨w.heap.size, 10, none⟩ = some v10 := blk_cell hkk 10
  have c11 : W.cell? ⟨w.heap.size, 11, none⟩ = some v11 := blk_cell hkk 11
  have c12 : W.cell? ⟨w.heap.size, 12, none⟩ = some v12 := blk_cell hkk 12
  have hNW : Nb W b f := h.on HB.out
  have HNW : Hid (Nb W b f) := hNW
  have HBW : Hid (Below B w W) := HB.out.mono (by omega)
  unfold haS
  generalize hbn : inR a 0 (f 0 - 1) = bn
  have HQ : Hid (Calls Try.prog 43 #[.pointer (some ⟨b, 0, none⟩), .int .i64 a] W fun e w' => e = .returned (.bool bn) ∧ W = w') := (show Calls _ _ _ _ _ from by
    rw [← hbn]
    exact isNode_any b f a W hNW hn)
  clear hkk h
  cases bn
  · clear hNW hbn hn c2 c3 c4 c5 c6 c7 c8 c9 c10 c11 c12
    rcases hk with rfl | rfl | rfl | rfl
    all_goals
      go_enter Try.func25, Try.ntmps25
      go_wp2_with (first | (go_at_call 43; refine HQ.out.mono ?_; rintro e w' ⟨rfl, rfl⟩) | fail)
      (first | go_end0 | ((try simp only [Exit.inBlock, Exit.then]); refine bodyPost_ret (results_none rfl _ _ _) rfl ?_))
      exact ⟨rfl, HNW.out, HBW.out⟩
  · have ha : 0 ≤ a ∧ a ≤ f 0 - 1 := by simpa [inR] using hbn
    obtain ⟨m, rfl⟩ : ∃ m : Nat, a = (m : Int) := ⟨a.toNat, by omega⟩
    have a1 : (0 : Int) ≤ (m : Int) := Int.natCast_nonneg _
    have a2 : (m : Int) < 16 := by omega
    have cx := hNW.cell (i := 1 + m) (by omega)
    have HM : Hid (m < 16) := (show m < 16 from by omega)
    rw [show ((m : Int).toNat) = m from rfl]
    have H3 : Hid (Nb W.drew b f) := (show Nb _ _ _ from hNW.on (Below.refl _ _).drew)
    have HB3 : Hid (Below B w W.drew) := HBW.out.drew
    have hvl : b < W.drew.heap.size := H3.out.lt
    have HE : Hid (W.drew.cell? ⟨w.heap.size, 1, none⟩ = some (.int .i64 (m : Int)) ∧ w.heap.size < W.drew.heap.size) := (show _ ∧ _ from ⟨c1, World.block_lt_of_cell? W ⟨w.heap.size, 1, none⟩ c1⟩)
    have hwb : w.heap.size ≠ b := by omega
    have hvl2 : b < W.heap.size := hNW.lt
    clear hNW hbn hn ha hlt H3 HB3 hvl HE
    rcases hk with rfl | rfl | rfl | rfl
    · go_enter Try.func25, Try.ntmps25
      go_wp2_with (first | (go_at_call 43; refine HQ.out.mono ?_; rintro e w' ⟨rfl, rfl⟩) | fail)
      refine wp_region_held_drew (S := (fun w' => w'.cell? ⟨w.heap.size, 0, none⟩ = some (.int .i64 5) ∧ w'.cell? ⟨w.heap.size, 1, none⟩ = some (.int .i64 (m : Int)) ∧ w'.cell? ⟨w.heap.size, 2, none⟩ = some (.int .i64 q) ∧ w'.cell? ⟨w.heap.size, 3, none⟩ = some (.int .i64 n) ∧ w'.cell? ⟨w.heap.size, 4, none⟩ = some (v4) ∧ w'.cell? ⟨w.heap.size, 5, none⟩ = some (v5) ∧ w'.cell? ⟨w.heap.size, 6, none⟩ = some (v6) ∧ w'.cell? ⟨w.heap.size, 7, none⟩ = some (v7) ∧ w'.cell? ⟨w.heap.size, 8, none⟩ = some (v8) ∧ w'.cell? ⟨w.heap.size, 9, none⟩ = some (v9) ∧ w'.cell? ⟨w.heap.size, 10, none⟩ = some (v10) ∧ w'.cell? ⟨w.heap.size, 11, none⟩ = some (v11) ∧ w'.cell? ⟨w.heap.size, 12, none⟩ = some (v12))) (by kernel_rfl) ⟨(below_at (drew_bel _) c0), (below_at (drew_bel _) c1), (below_at (drew_bel _) c2), (below_at (drew_bel _) c3), (below_at (drew_bel _) c4), (below_at (drew_bel _) c5), (below_at (drew_bel _) c6), (below_at (drew_bel _) c7), (below_at (drew_bel _) c8), (below_at (drew_bel _) c9), (below_at (drew_bel _) c10), (below_at (drew_bel _) c11), (below_at (drew_bel _) c12)⟩ (fun hHeld => ?_)
      simp only [Act.put, List.size_toArray, List.length_cons, List.length_nil, Nat.zero_add]
      refine takeD (i := 0) (d := 15) (v := .pointer (some ⟨b, 0, none⟩)) rfl (by kernel_rfl) (by kernel_rfl) (by kernel_rfl) (by kernel_rfl) (fun _ _ _ h => h) (Or.inl ⟨by rfl, fun w' hS => by go_simp⟩) hHeld ?_
      simp only [Act.put, List.setIfInBounds_toArray, List.set_cons_zero, List.set_cons_succ]
      refine takeD (i := 1) (d := 16) (v := .pointer (some ⟨w.heap.size, 1, none⟩)) rfl (by kernel_rfl) (by kernel_rfl) (by kernel_rfl) (by kernel_rfl) (fun _ _ _ h => h) (Or.inl ⟨by rfl, fun w' hS => by go_simp⟩) hHeld ?_
      simp only [Act.put, List.setIfInBounds_toArray, List.set_cons_zero, List.set_cons_succ]
      refine takeD (i := 2) (d := 17) (v := .int .i64 (m : Int)) rfl (by kernel_rfl) (by kernel_rfl) (by kernel_rfl) (by kernel_rfl) (fun _ _ _ h => h) (Or.inl ⟨by rfl, fun w' hS => by (obtain ⟨s0, s1, s2, s3, s4, s5, s6, s7, s8, s9, s10, s11, s12⟩ := hS; go_simp)⟩) hHeld ?_
      simp only [Act.put, List.setIfInBounds_toArray, List.set_cons_zero, List.set_cons_succ]
      refine takeD (i := 3) (d := 18) (v := .pointer (some ⟨b, 0, none⟩)) rfl (by kernel_rfl) (by kernel_rfl) (by kernel_rfl) (by kernel_rfl) (fun _ _ _ h => h) (Or.inl ⟨by rfl, fun w' hS => by go_simp⟩) hHeld ?_
      simp only [Act.put, List.setIfInBounds_toArray, List.set_cons_zero, List.set_cons_succ]
      refine takeD (i := 4) (d := 19) (v := .pointer (some ⟨w.heap.size, 1, none⟩)) rfl (by kernel_rfl) (by kernel_rfl) (by kernel_rfl) (by kernel_rfl) (fun _ _ _ h => h) (Or.inl ⟨by rfl, fun w' hS => by go_simp⟩) hHeld ?_
      simp only [Act.put, List.setIfInBounds_toArray, List.set_cons_zero, List.set_cons_succ]
      refine takeD (i := 5) (d := 20) (v := .int .i64 (m : Int)) rfl (by kernel_rfl) (by kernel_rfl) (by kernel_rfl) (by kernel_rfl) (fun _ _ _ h => h) (Or.inl ⟨by rfl, fun w' hS => by (obtain ⟨s0, s1, s2, s3, s4, s5, s6, s7, s8, s9, s10, s11, s12⟩ := hS; go_simp)⟩) hHeld ?_
      simp only [Act.put, List.setIfInBounds_toArray, List.set_cons_zero, List.set_cons_succ]
      refine takeD (i := 6) (d := 21) (v := .pointer (some ⟨b, 0, none⟩)) rfl (by kernel_rfl) (by kernel_rfl) (by kernel_rfl) (by kernel_rfl) (fun _ _ _ h => h) (Or.inl ⟨by rfl, fun w' hS => by go_simp⟩) hHeld ?_
      simp only [Act.put, List.setIfInBounds_toArray, List.set_cons_zero, List.set_cons_succ]
      refine takeD (i := 7) (d := 22) (v := .pointer (some ⟨b, 1, none⟩)) rfl (by kernel_rfl) (by kernel_rfl) (by kernel_rfl) (by kernel_rfl) (fun _ _ _ h => h) (Or.inl ⟨by rfl, fun w' hS => by go_simp⟩) hHeld ?_
      simp only [Act.put, List.setIfInBounds_toArray, List.set_cons_zero, List.set_cons_succ]
      refine takeD (i := 8) (d := 23) (v := .pointer (some ⟨b, 1 + m, none⟩)) rfl (by kernel_rfl) (by kernel_rfl) (by kernel_rfl) (by kernel_rfl) (fun _ _ _ h => h) (Or.inl ⟨by rfl, fun w' hS => by go_simp⟩) hHeld ?_
      simp only [Act.put, List.setIfInBounds_toArray, List.set_cons_zero, List.set_cons_succ]
      refine takeD (i := 10) (d := 25) (v := .agg #[.int .i64 5, .int .i64 (m : Int), .int .i64 q, .int .i64 n, v4, v5, v6, v7, v8, v9, v10, v11, v12]) rfl (by kernel_rfl) (by kernel_rfl) (by kernel_rfl) (by kernel_rfl) (fun _ _ _ h => h) (Or.inl ⟨by rfl, fun w' hS => by (obtain ⟨s0, s1, s2, s3, s4, s5, s6, s7, s8, s9, s10, s11, s12⟩ := hS; go_simp)⟩) hHeld ?_
      simp only [Act.put, List.setIfInBounds_toArray, List.set_cons_zero, List.set_cons_succ]
      refine takeD (i := 12) (d := 27) (v := .pointer (some ⟨b, 0, none⟩)) rfl (by kernel_rfl) (by kernel_rfl) (by kernel_rfl) (by kernel_rfl) (fun _ _ _ h => h) (Or.inl ⟨by rfl, fun w' hS => by go_simp⟩) hHeld ?_
      simp only [Act.put, List.setIfInBounds_toArray, List.set_cons_zero, List.set_cons_succ]
      refine takeD (i := 13) (d := 28) (v := .pointer (some ⟨b, 1, none⟩)) rfl (by kernel_rfl) (by kernel_rfl) (by kernel_rfl) (by kernel_rfl) (fun _ _ _ h => h) (Or.inl ⟨by rfl, fun w' hS => by go_simp⟩) hHeld ?_
      simp only [Act.put, List.setIfInBounds_toArray, List.set_cons_zero, List.set_cons_succ]
      have hbD1 : Below W.heap.size W W.drew := drew_bel _
      have q0 := below_at hbD1 c0
      have q1 := below_at hbD1 c1
      have q2 := below_at hbD1 c2
      have q3 := below_at hbD1 c3
      have q4 := below_at hbD1 c4
      have q5 := below_at hbD1 c5
      have q6 := below_at hbD1 c6
      have q7 := below_at hbD1 c7
      have q8 := below_at hbD1 c8
      have q9 := below_at hbD1 c9
      have q10 := below_at hbD1 c10
      have q11 := below_at hbD1 c11
      have q12 := below_at hbD1 c12
      have iq0 := below_at hbD1 cx
      generalize W.drew = D1 at *
      refine wpAnyH_ready (rs := [9]) (by kernel_rfl) (by simp) ?_
      refine AllReadyH.cons rfl (fun K hK => ?_) AllReadyH.nil
      have zim := iq0
      go_simp
      clear zim
      refine hK.out _ _ ⟨q0, q1, q2, q3, q4, q5, q6, q7, q8, q9, q10, q11, q12⟩ (fun hHeld => ?_)
      clear hK K
      refine wpAnyH_ready (rs := [11]) (by kernel_rfl) (by simp) ?_
      refine AllReadyH.cons rfl (fun K hK => ?_) AllReadyH.nil
      go_simp
      refine (stand_any _ _ _ _ _ _ _ _ _ _ _ _ _ _ _).mono ?_
      rintro e w5 ⟨rfl, hb5⟩
      have H4 : Hid (Nb w5 b f) := (show Nb _ _ _ from (HNW.out.on hbD1).on hb5)
      have HB4 : Hid (Below B w w5) := HBW.out.trans ((bstep hbD1 hb5).mono (by omega))
      refine hK.out _ _ ⟨(below_at hb5 q0), (below_at hb5 q1), (below_at hb5 q2), (below_at hb5 q3), (below_at hb5 q4), (below_at hb5 q5), (below_at hb5 q6), (below_at hb5 q7), (below_at hb5 q8), (below_at hb5 q9), (below_at hb5 q10), (below_at hb5 q11), (below_at hb5 q12)⟩ (fun hHeld => ?_)
      clear hK K
      refine takeD (i := 14) (d := 29) (v := .pointer (some ⟨b, 1 + m, none⟩)) rfl (by kernel_rfl) (by kernel_rfl) (by kernel_rfl) (by kernel_rfl) (fun _ _ _ h => h) (Or.inl ⟨by rfl, fun w' hS => by go_simp⟩) hHeld ?_
      simp only [Act.put, List.setIfInBounds_toArray, List.set_cons_zero, List.set_cons_succ]
      refine wpAnyH_ready (rs := [15]) (by kernel_rfl) (by simp) ?_
      refine AllReadyH.cons rfl (fun K hK => ?_) AllReadyH.nil
      have z14 := H4.out.cell (i := 1 + m) (by have := HM.out; omega)
      have z15 := H4.out.fz (1 + m)
      go_simp
      refine hK.out _ _ ⟨(cell_ne hwb (below_at hb5 q0)), (cell_ne hwb (below_at hb5 q1)), (cell_ne hwb (below_at hb5 q2)), (cell_ne hwb (below_at hb5 q3)), (cell_ne hwb (below_at hb5 q4)), (cell_ne hwb (below_at hb5 q5)), (cell_ne hwb (below_at hb5 q6)), (cell_ne hwb (below_at hb5 q7)), (cell_ne hwb (below_at hb5 q8)), (cell_ne hwb (below_at hb5 q9)), (cell_ne hwb (below_at hb5 q10)), (cell_ne hwb (below_at hb5 q11)), (cell_ne hwb (below_at hb5 q12))⟩ (fun hHeld => ?_)
      clear hK K
      refine wpAnyH_done (by kernel_rfl) ?_ _
      clear hHeld
      go_wp2_with fail
      (first | go_end0 | ((try simp only [Exit.inBlock, Exit.then]); refine bodyPost_ret (results_none rfl _ _ _) rfl ?_))
      exact ⟨rfl, H4.out.set (by have := HM.out; omega) _, HB4.out.setCell hB _⟩
    · go_enter Try.func25, Try.ntmps25
      go_wp2_with (first | (go_at_call 43; refine HQ.out.mono ?_; rintro e w' ⟨rfl, rfl⟩) | fail)
      refine wp_region_held_drew (S := (fun w' => w'.cell? ⟨w.heap.size, 0, none⟩ = some (.int .i64 6) ∧ w'.cell? ⟨w.heap.size, 1, none⟩ = some (.int .i64 (m : Int)) ∧ w'.cell? ⟨w.heap.size, 2, none⟩ = some (.int .i64 q) ∧ w'.cell? ⟨w.heap.size, 3, none⟩ = some (.int .i64 n) ∧ w'.cell? ⟨w.heap.size, 4, none⟩ = some (v4) ∧ w'.cell? ⟨w.heap.size, 5, none⟩ = some (v5) ∧ w'.cell? ⟨w.heap.size, 6, none⟩ = some (v6) ∧ w'.cell? ⟨w.heap.size, 7, none⟩ = some (v7) ∧ w'.cell? ⟨w.heap.size, 8, none⟩ = some (v8) ∧ w'.cell? ⟨w.heap.size, 9, none⟩ = some (v9) ∧ w'.cell? ⟨w.heap.size, 10, none⟩ = some (v10) ∧ w'.cell? ⟨w.heap.size, 11, none⟩ = some (v11) ∧ w'.cell? ⟨w.heap.size, 12, none⟩ = some (v12))) (by kernel_rfl) ⟨(below_at (drew_bel _) c0), (below_at (drew_bel _) c1), (below_at (drew_bel _) c2), (below_at (drew_bel _) c3), (below_at (drew_bel _) c4), (below_at (drew_bel _) c5), (below_at (drew_bel _) c6), (below_at (drew_bel _) c7), (below_at (drew_bel _) c8), (below_at (drew_bel _) c9), (below_at (drew_bel _) c10), (below_at (drew_bel _) c11), (below_at (drew_bel _) c12)⟩ (fun hHeld => ?_)
      simp only [Act.put, List.size_toArray, List.length_cons, List.length_nil, Nat.zero_add]
      refine takeD (i := 0) (d := 15) (v := .pointer (some ⟨b, 0, none⟩)) rfl (by kernel_rfl) (by kernel_rfl) (by kernel_rfl) (by kernel_rfl) (fun _ _ _ h => h) (Or.inl ⟨by rfl, fun w' hS => by go_simp⟩) hHeld ?_
      simp only [Act.put, List.setIfInBounds_toArray, List.set_cons_zero, List.set_cons_succ]
      refine takeD (i := 1) (d := 16) (v := .pointer (some ⟨w.heap.size, 1, none⟩)) rfl (by kernel_rfl) (by kernel_rfl) (by kernel_rfl) (by kernel_rfl) (fun _ _ _ h => h) (Or.inl ⟨by rfl, fun w' hS => by go_simp⟩) hHeld ?_
      simp only [Act.put, List.setIfInBounds_toArray, List.set_cons_zero, List.set_cons_succ]
      refine takeD (i := 2) (d := 17) (v := .int .i64 (m : Int)) rfl (by kernel_rfl) (by kernel_rfl) (by kernel_rfl) (by kernel_rfl) (fun _ _ _ h => h) (Or.inl ⟨by rfl, fun w' hS => by (obtain ⟨s0, s1, s2, s3, s4, s5, s6, s7, s8, s9, s10, s11, s12⟩ := hS; go_simp)⟩) hHeld ?_
      simp only [Act.put, List.setIfInBounds_toArray, List.set_cons_zero, List.set_cons_succ]
      refine takeD (i := 3) (d := 18) (v := .pointer (some ⟨b, 0, none⟩)) rfl (by kernel_rfl) (by kernel_rfl) (by kernel_rfl) (by kernel_rfl) (fun _ _ _ h => h) (Or.inl ⟨by rfl, fun w' hS => by go_simp⟩) hHeld ?_
      simp only [Act.put, List.setIfInBounds_toArray, List.set_cons_zero, List.set_cons_succ]
      refine takeD (i := 4) (d := 19) (v := .pointer (some ⟨w.heap.size, 1, none⟩)) rfl (by kernel_rfl) (by kernel_rfl) (by kernel_rfl) (by kernel_rfl) (fun _ _ _ h => h) (Or.inl ⟨by rfl, fun w' hS => by go_simp⟩) hHeld ?_
      simp only [Act.put, List.setIfInBounds_toArray, List.set_cons_zero, List.set_cons_succ]
      refine takeD (i := 5) (d := 20) (v := .int .i64 (m : Int)) rfl (by kernel_rfl) (by kernel_rfl) (by kernel_rfl) (by kernel_rfl) (fun _ _ _ h => h) (Or.inl ⟨by rfl, fun w' hS => by (obtain ⟨s0, s1, s2, s3, s4, s5, s6, s7, s8, s9, s10, s11, s12⟩ := hS; go_simp)⟩) hHeld ?_
      simp only [Act.put, List.setIfInBounds_toArray, List.set_cons_zero, List.set_cons_succ]
      refine takeD (i := 6) (d := 21) (v := .pointer (some ⟨b, 0, none⟩)) rfl (by kernel_rfl) (by kernel_rfl) (by kernel_rfl) (by kernel_rfl) (fun _ _ _ h => h) (Or.inl ⟨by rfl, fun w' hS => by go_simp⟩) hHeld ?_
      simp only [Act.put, List.setIfInBounds_toArray, List.set_cons_zero, List.set_cons_succ]
      refine takeD (i := 7) (d := 22) (v := .pointer (some ⟨b, 1, none⟩)) rfl (by kernel_rfl) (by kernel_rfl) (by kernel_rfl) (by kernel_rfl) (fun _ _ _ h => h) (Or.inl ⟨by rfl, fun w' hS => by go_simp⟩) hHeld ?_
      simp only [Act.put, List.setIfInBounds_toArray, List.set_cons_zero, List.set_cons_succ]
      refine takeD (i := 8) (d := 23) (v := .pointer (some ⟨b, 1 + m, none⟩)) rfl (by kernel_rfl) (by kernel_rfl) (by kernel_rfl) (by kernel_rfl) (fun _ _ _ h => h) (Or.inl ⟨by rfl, fun w' hS => by go_simp⟩) hHeld ?_
      simp only [Act.put, List.setIfInBounds_toArray, List.set_cons_zero, List.set_cons_succ]
      refine takeD (i := 10) (d := 25) (v := .agg #[.int .i64 6, .int .i64 (m : Int), .int .i64 q, .int .i64 n, v4, v5, v6, v7, v8, v9, v10, v11, v12]) rfl (by kernel_rfl) (by kernel_rfl) (by kernel_rfl) (by kernel_rfl) (fun _ _ _ h => h) (Or.inl ⟨by rfl, fun w' hS => by (obtain ⟨s0, s1, s2, s3, s4, s5, s6, s7, s8, s9, s10, s11, s12⟩ := hS; go_simp)⟩) hHeld ?_
      simp only [Act.put, List.setIfInBounds_toArray, List.set_cons_zero, List.set_cons_succ]
      refine takeD (i := 12) (d := 27) (v := .pointer (some ⟨b, 0, none⟩)) rfl (by kernel_rfl) (by kernel_rfl) (by kernel_rfl) (by kernel_rfl) (fun _ _ _ h => h) (Or.inl ⟨by rfl, fun w' hS => by go_simp⟩) hHeld ?_
      simp only [Act.put, List.setIfInBounds_toArray, List.set_cons_zero, List.set_cons_succ]
      refine takeD (i := 13) (d := 28) (v := .pointer (some ⟨b, 1, none⟩)) rfl (by kernel_rfl) (by kernel_rfl) (by kernel_rfl) (by kernel_rfl) (fun _ _ _ h => h) (Or.inl ⟨by rfl, fun w' hS => by go_simp⟩) hHeld ?_
      simp only [Act.put, List.setIfInBounds_toArray, List.set_cons_zero, List.set_cons_succ]
      have hbD1 : Below W.heap.size W W.drew := drew_bel _
      have q0 := below_at hbD1 c0
      have q1 := below_at hbD1 c1
      have q2 := below_at hbD1 c2
      have q3 := below_at hbD1 c3
      have q4 := below_at hbD1 c4
      have q5 := below_at hbD1 c5
      have q6 := below_at hbD1 c6
      have q7 := below_at hbD1 c7
      have q8 := below_at hbD1 c8
      have q9 := below_at hbD1 c9
      have q10 := below_at hbD1 c10
      have q11 := below_at hbD1 c11
      have q12 := below_at hbD1 c12
      have iq0 := below_at hbD1 cx
      generalize W.drew = D1 at *
      refine wpAnyH_ready (rs := [9]) (by kernel_rfl) (by simp) ?_
      refine AllReadyH.cons rfl (fun K hK => ?_) AllReadyH.nil
      have zim := iq0
      go_simp
      clear zim
      refine hK.out _ _ ⟨q0, q1, q2, q3, q4, q5, q6, q7, q8, q9, q10, q11, q12⟩ (fun hHeld => ?_)
      clear hK K
      refine wpAnyH_ready (rs := [11]) (by kernel_rfl) (by simp) ?_
      refine AllReadyH.cons rfl (fun K hK => ?_) AllReadyH.nil
      go_simp
      refine (stand_any _ _ _ _ _ _ _ _ _ _ _ _ _ _ _).mono ?_
      rintro e w5 ⟨rfl, hb5⟩
      have H4 : Hid (Nb w5 b f) := (show Nb _ _ _ from (HNW.out.on hbD1).on hb5)
      have HB4 : Hid (Below B w w5) := HBW.out.trans ((bstep hbD1 hb5).mono (by omega))
      refine hK.out _ _ ⟨(below_at hb5 q0), (below_at hb5 q1), (below_at hb5 q2), (below_at hb5 q3), (below_at hb5 q4), (below_at hb5 q5), (below_at hb5 q6), (below_at hb5 q7), (below_at hb5 q8), (below_at hb5 q9), (below_at hb5 q10), (below_at hb5 q11), (below_at hb5 q12)⟩ (fun hHeld => ?_)
      clear hK K
      refine takeD (i := 14) (d := 29) (v := .pointer (some ⟨b, 1 + m, none⟩)) rfl (by kernel_rfl) (by kernel_rfl) (by kernel_rfl) (by kernel_rfl) (fun _ _ _ h => h) (Or.inl ⟨by rfl, fun w' hS => by go_simp⟩) hHeld ?_
      simp only [Act.put, List.setIfInBounds_toArray, List.set_cons_zero, List.set_cons_succ]
      refine wpAnyH_ready (rs := [15]) (by kernel_rfl) (by simp) ?_
      refine AllReadyH.cons rfl (fun K hK => ?_) AllReadyH.nil
      have z14 := H4.out.cell (i := 1 + m) (by have := HM.out; omega)
      have z15 := H4.out.fz (1 + m)
      go_simp
      refine hK.out _ _ ⟨(cell_ne hwb (below_at hb5 q0)), (cell_ne hwb (below_at hb5 q1)), (cell_ne hwb (below_at hb5 q2)), (cell_ne hwb (below_at hb5 q3)), (cell_ne hwb (below_at hb5 q4)), (cell_ne hwb (below_at hb5 q5)), (cell_ne hwb (below_at hb5 q6)), (cell_ne hwb (below_at hb5 q7)), (cell_ne hwb (below_at hb5 q8)), (cell_ne hwb (below_at hb5 q9)), (cell_ne hwb (below_at hb5 q10)), (cell_ne hwb (below_at hb5 q11)), (cell_ne hwb (below_at hb5 q12))⟩ (fun hHeld => ?_)
      clear hK K
      refine wpAnyH_done (by kernel_rfl) ?_ _
      clear hHeld
      go_wp2_with fail
      (first | go_end0 | ((try simp only [Exit.inBlock, Exit.then]); refine bodyPost_ret (results_none rfl _ _ _) rfl ?_))
      exact ⟨rfl, H4.out.set (by have := HM.out; omega) _, HB4.out.setCell hB _⟩
    · go_enter Try.func25, Try.ntmps25
      go_wp2_with (first | (go_at_call 43; refine HQ.out.mono ?_; rintro e w' ⟨rfl, rfl⟩) | fail)
      refine wp_region_held_drew (S := (fun w' => w'.cell? ⟨w.heap.size, 0, none⟩ = some (.int .i64 7) ∧ w'.cell? ⟨w.heap.size, 1, none⟩ = some (.int .i64 (m : Int)) ∧ w'.cell? ⟨w.heap.size, 2, none⟩ = some (.int .i64 q) ∧ w'.cell? ⟨w.heap.size, 3, none⟩ = some (.int .i64 n) ∧ w'.cell? ⟨w.heap.size, 4, none⟩ = some (v4) ∧ w'.cell? ⟨w.heap.size, 5, none⟩ = some (v5) ∧ w'.cell? ⟨w.heap.size, 6, none⟩ = some (v6) ∧ w'.cell? ⟨w.heap.size, 7, none⟩ = some (v7) ∧ w'.cell? ⟨w.heap.size, 8, none⟩ = some (v8) ∧ w'.cell? ⟨w.heap.size, 9, none⟩ = some (v9) ∧ w'.cell? ⟨w.heap.size, 10, none⟩ = some (v10) ∧ w'.cell? ⟨w.heap.size, 11, none⟩ = some (v11) ∧ w'.cell? ⟨w.heap.size, 12, none⟩ = some (v12))) (by kernel_rfl) ⟨(below_at (drew_bel _) c0), (below_at (drew_bel _) c1), (below_at (drew_bel _) c2), (below_at (drew_bel _) c3), (below_at (drew_bel _) c4), (below_at (drew_bel _) c5), (below_at (drew_bel _) c6), (below_at (drew_bel _) c7), (below_at (drew_bel _) c8), (below_at (drew_bel _) c9), (below_at (drew_bel _) c10), (below_at (drew_bel _) c11), (below_at (drew_bel _) c12)⟩ (fun hHeld => ?_)
      simp only [Act.put, List.size_toArray, List.length_cons, List.length_nil, Nat.zero_add]
      refine takeD (i := 0) (d := 15) (v := .pointer (some ⟨b, 0, none⟩)) rfl (by kernel_rfl) (by kernel_rfl) (by kernel_rfl) (by kernel_rfl) (fun _ _ _ h => h) (Or.inl ⟨by rfl, fun w' hS => by go_simp⟩) hHeld ?_
      simp only [Act.put, List.setIfInBounds_toArray, List.set_cons_zero, List.set_cons_succ]
      refine takeD (i := 1) (d := 16) (v := .pointer (some ⟨w.heap.size, 1, none⟩)) rfl (by kernel_rfl) (by kernel_rfl) (by kernel_rfl) (by kernel_rfl) (fun _ _ _ h => h) (Or.inl ⟨by rfl, fun w' hS => by go_simp⟩) hHeld ?_
      simp only [Act.put, List.setIfInBounds_toArray, List.set_cons_zero, List.set_cons_succ]
      refine takeD (i := 2) (d := 17) (v := .int .i64 (m : Int)) rfl (by kernel_rfl) (by kernel_rfl) (by kernel_rfl) (by kernel_rfl) (fun _ _ _ h => h) (Or.inl ⟨by rfl, fun w' hS => by (obtain ⟨s0, s1, s2, s3, s4, s5, s6, s7, s8, s9, s10, s11, s12⟩ := hS; go_simp)⟩) hHeld ?_
      simp only [Act.put, List.setIfInBounds_toArray, List.set_cons_zero, List.set_cons_succ]
      refine takeD (i := 3) (d := 18) (v := .pointer (some ⟨b, 0, none⟩)) rfl (by kernel_rfl) (by kernel_rfl) (by kernel_rfl) (by kernel_rfl) (fun _ _ _ h => h) (Or.inl ⟨by rfl, fun w' hS => by go_simp⟩) hHeld ?_
      simp only [Act.put, List.setIfInBounds_toArray, List.set_cons_zero, List.set_cons_succ]
      refine takeD (i := 4) (d := 19) (v := .pointer (some ⟨w.heap.size, 1, none⟩)) rfl (by kernel_rfl) (by kernel_rfl) (by kernel_rfl) (by kernel_rfl) (fun _ _ _ h => h) (Or.inl ⟨by rfl, fun w' hS => by go_simp⟩) hHeld ?_
      simp only [Act.put, List.setIfInBounds_toArray, List.set_cons_zero, List.set_cons_succ]
      refine takeD (i := 5) (d := 20) (v := .int .i64 (m : Int)) rfl (by kernel_rfl) (by kernel_rfl) (by kernel_rfl) (by kernel_rfl) (fun _ _ _ h => h) (Or.inl ⟨by rfl, fun w' hS => by (obtain ⟨s0, s1, s2, s3, s4, s5, s6, s7, s8, s9, s10, s11, s12⟩ := hS; go_simp)⟩) hHeld ?_
      simp only [Act.put, List.setIfInBounds_toArray, List.set_cons_zero, List.set_cons_succ]
      refine takeD (i := 6) (d := 21) (v := .pointer (some ⟨b, 0, none⟩)) rfl (by kernel_rfl) (by kernel_rfl) (by kernel_rfl) (by kernel_rfl) (fun _ _ _ h => h) (Or.inl ⟨by rfl, fun w' hS => by go_simp⟩) hHeld ?_
      simp only [Act.put, List.setIfInBounds_toArray, List.set_cons_zero, List.set_cons_succ]
      refine takeD (i := 7) (d := 22) (v := .pointer (some ⟨b, 1, none⟩)) rfl (by kernel_rfl) (by kernel_rfl) (by kernel_rfl) (by kernel_rfl) (fun _ _ _ h => h) (Or.inl ⟨by rfl, fun w' hS => by go_simp⟩) hHeld ?_
      simp only [Act.put, List.setIfInBounds_toArray, List.set_cons_zero, List.set_cons_succ]
      refine takeD (i := 8) (d := 23) (v := .pointer (some ⟨b, 1 + m, none⟩)) rfl (by kernel_rfl) (by kernel_rfl) (by kernel_rfl) (by kernel_rfl) (fun _ _ _ h => h) (Or.inl ⟨by rfl, fun w' hS => by go_simp⟩) hHeld ?_
      simp only [Act.put, List.setIfInBounds_toArray, List.set_cons_zero, List.set_cons_succ]
      refine takeD (i := 10) (d := 25) (v := .agg #[.int .i64 7, .int .i64 (m : Int), .int .i64 q, .int .i64 n, v4, v5, v6, v7, v8, v9, v10, v11, v12]) rfl (by kernel_rfl) (by kernel_rfl) (by kernel_rfl) (by kernel_rfl) (fun _ _ _ h => h) (Or.inl ⟨by rfl, fun w' hS => by (obtain ⟨s0, s1, s2, s3, s4, s5, s6, s7, s8, s9, s10, s11, s12⟩ := hS; go_simp)⟩) hHeld ?_
      simp only [Act.put, List.setIfInBounds_toArray, List.set_cons_zero, List.set_cons_succ]
      refine takeD (i := 12) (d := 27) (v := .pointer (some ⟨b, 0, none⟩)) rfl (by kernel_rfl) (by kernel_rfl) (by kernel_rfl) (by kernel_rfl) (fun _ _ _ h => h) (Or.inl ⟨by rfl, fun w' hS => by go_simp⟩) hHeld ?_
      simp only [Act.put, List.setIfInBounds_toArray, List.set_cons_zero, List.set_cons_succ]
      refine takeD (i := 13) (d := 28) (v := .pointer (some ⟨b, 1, none⟩)) rfl (by kernel_rfl) (by kernel_rfl) (by kernel_rfl) (by kernel_rfl) (fun _ _ _ h => h) (Or.inl ⟨by rfl, fun w' hS => by go_simp⟩) hHeld ?_
      simp only [Act.put, List.setIfInBounds_toArray, List.set_cons_zero, List.set_cons_succ]
      have hbD1 : Below W.heap.size W W.drew := drew_bel _
      have q0 := below_at hbD1 c0
      have q1 := below_at hbD1 c1
      have q2 := below_at hbD1 c2
      have q3 := below_at hbD1 c3
      have q4 := below_at hbD1 c4
      have q5 := below_at hbD1 c5
      have q6 := below_at hbD1 c6
      have q7 := below_at hbD1 c7
      have q8 := below_at hbD1 c8
      have q9 := below_at hbD1 c9
      have q10 := below_at hbD1 c10
      have q11 := below_at hbD1 c11
      have q12 := below_at hbD1 c12
      have iq0 := below_at hbD1 cx
      generalize W.drew = D1 at *
      refine wpAnyH_ready (rs := [9]) (by kernel_rfl) (by simp) ?_
      refine AllReadyH.cons rfl (fun K hK => ?_) AllReadyH.nil
      have zim := iq0
      go_simp
      clear zim
      refine hK.out _ _ ⟨q0, q1, q2, q3, q4, q5, q6, q7, q8, q9, q10, q11, q12⟩ (fun hHeld => ?_)
      clear hK K
      refine wpAnyH_ready (rs := [11]) (by kernel_rfl) (by simp) ?_
      refine AllReadyH.cons rfl (fun K hK => ?_) AllReadyH.nil
      go_simp
      refine (stand_any _ _ _ _ _ _ _ _ _ _ _ _ _ _ _).mono ?_
      rintro e w5 ⟨rfl, hb5⟩
      have H4 : Hid (Nb w5 b f) := (show Nb _ _ _ from (HNW.out.on hbD1).on hb5)
      have HB4 : Hid (Below B w w5) := HBW.out.trans ((bstep hbD1 hb5).mono (by omega))
      refine hK.out _ _ ⟨(below_at hb5 q0), (below_at hb5 q1), (below_at hb5 q2), (below_at hb5 q3), (below_at hb5 q4), (below_at hb5 q5), (below_at hb5 q6), (below_at hb5 q7), (below_at hb5 q8), (below_at hb5 q9), (below_at hb5 q10), (below_at hb5 q11), (below_at hb5 q12)⟩ (fun hHeld => ?_)
      clear hK K
      refine takeD (i := 14) (d := 29) (v := .pointer (some ⟨b, 1 + m, none⟩)) rfl (by kernel_rfl) (by kernel_rfl) (by kernel_rfl) (by kernel_rfl) (fun _ _ _ h => h) (Or.inl ⟨by rfl, fun w' hS => by go_simp⟩) hHeld ?_
      simp only [Act.put, List.setIfInBounds_toArray, List.set_cons_zero, List.set_cons_succ]
      refine wpAnyH_ready (rs := [15]) (by kernel_rfl) (by simp) ?_
      refine AllReadyH.cons rfl (fun K hK => ?_) AllReadyH.nil
      have z14 := H4.out.cell (i := 1 + m) (by have := HM.out; omega)
      have z15 := H4.out.fz (1 + m)
      go_simp
      refine hK.out _ _ ⟨(cell_ne hwb (below_at hb5 q0)), (cell_ne hwb (below_at hb5 q1)), (cell_ne hwb (below_at hb5 q2)), (cell_ne hwb (below_at hb5 q3)), (cell_ne hwb (below_at hb5 q4)), (cell_ne hwb (below_at hb5 q5)), (cell_ne hwb (below_at hb5 q6)), (cell_ne hwb (below_at hb5 q7)), (cell_ne hwb (below_at hb5 q8)), (cell_ne hwb (below_at hb5 q9)), (cell_ne hwb (below_at hb5 q10)), (cell_ne hwb (below_at hb5 q11)), (cell_ne hwb (below_at hb5 q12))⟩ (fun hHeld => ?_)
      clear hK K
      refine wpAnyH_done (by kernel_rfl) ?_ _
      clear hHeld
      go_wp2_with fail
      (first | go_end0 | ((try simp only [Exit.inBlock, Exit.then]); refine bodyPost_ret (results_none rfl _ _ _) rfl ?_))
      exact ⟨rfl, H4.out.set (by have := HM.out; omega) _, HB4.out.setCell hB _⟩
    · go_enter Try.func25, Try.ntmps25
      go_wp2_with (first | (go_at_call 43; refine HQ.out.mono ?_; rintro e w' ⟨rfl, rfl⟩) | fail)
      refine wp_region_held_drew (S := (fun w' => w'.cell? ⟨w.heap.size, 0, none⟩ = some (.int .i64 18) ∧ w'.cell? ⟨w.heap.size, 1, none⟩ = some (.int .i64 (m : Int)) ∧ w'.cell? ⟨w.heap.size, 2, none⟩ = some (.int .i64 q) ∧ w'.cell? ⟨w.heap.size, 3, none⟩ = some (.int .i64 n) ∧ w'.cell? ⟨w.heap.size, 4, none⟩ = some (v4) ∧ w'.cell? ⟨w.heap.size, 5, none⟩ = some (v5) ∧ w'.cell? ⟨w.heap.size, 6, none⟩ = some (v6) ∧ w'.cell? ⟨w.heap.size, 7, none⟩ = some (v7) ∧ w'.cell? ⟨w.heap.size, 8, none⟩ = some (v8) ∧ w'.cell? ⟨w.heap.size, 9, none⟩ = some (v9) ∧ w'.cell? ⟨w.heap.size, 10, none⟩ = some (v10) ∧ w'.cell? ⟨w.heap.size, 11, none⟩ = some (v11) ∧ w'.cell? ⟨w.heap.size, 12, none⟩ = some (v12))) (by kernel_rfl) ⟨(below_at (drew_bel _) c0), (below_at (drew_bel _) c1), (below_at (drew_bel _) c2), (below_at (drew_bel _) c3), (below_at (drew_bel _) c4), (below_at (drew_bel _) c5), (below_at (drew_bel _) c6), (below_at (drew_bel _) c7), (below_at (drew_bel _) c8), (below_at (drew_bel _) c9), (below_at (drew_bel _) c10), (below_at (drew_bel _) c11), (below_at (drew_bel _) c12)⟩ (fun hHeld => ?_)
      simp only [Act.put, List.size_toArray, List.length_cons, List.length_nil, Nat.zero_add]
      refine takeD (i := 0) (d := 15) (v := .pointer (some ⟨b, 0, none⟩)) rfl (by kernel_rfl) (by kernel_rfl) (by kernel_rfl) (by kernel_rfl) (fun _ _ _ h => h) (Or.inl ⟨by rfl, fun w' hS => by go_simp⟩) hHeld ?_
      simp only [Act.put, List.setIfInBounds_toArray, List.set_cons_zero, List.set_cons_succ]
      refine takeD (i := 1) (d := 16) (v := .pointer (some ⟨w.heap.size, 1, none⟩)) rfl (by kernel_rfl) (by kernel_rfl) (by kernel_rfl) (by kernel_rfl) (fun _ _ _ h => h) (Or.inl ⟨by rfl, fun w' hS => by go_simp⟩) hHeld ?_
      simp only [Act.put, List.setIfInBounds_toArray, List.set_cons_zero, List.set_cons_succ]
      refine takeD (i := 2) (d := 17) (v := .int .i64 (m : Int)) rfl (by kernel_rfl) (by kernel_rfl) (by kernel_rfl) (by kernel_rfl) (fun _ _ _ h => h) (Or.inl ⟨by rfl, fun w' hS => by (obtain ⟨s0, s1, s2, s3, s4, s5, s6, s7, s8, s9, s10, s11, s12⟩ := hS; go_simp)⟩) hHeld ?_
      simp only [Act.put, List.setIfInBounds_toArray, List.set_cons_zero, List.set_cons_succ]
      refine takeD (i := 3) (d := 18) (v := .pointer (some ⟨b, 0, none⟩)) rfl (by kernel_rfl) (by kernel_rfl) (by kernel_rfl) (by kernel_rfl) (fun _ _ _ h => h) (Or.inl ⟨by rfl, fun w' hS => by go_simp⟩) hHeld ?_
      simp only [Act.put, List.setIfInBounds_toArray, List.set_cons_zero, List.set_cons_succ]
      refine takeD (i := 4) (d := 19) (v := .pointer (some ⟨w.heap.size, 1, none⟩)) rfl (by kernel_rfl) (by kernel_rfl) (by kernel_rfl) (by kernel_rfl) (fun _ _ _ h => h) (Or.inl ⟨by rfl, fun w' hS => by go_simp⟩) hHeld ?_
      simp only [Act.put, List.setIfInBounds_toArray, List.set_cons_zero, List.set_cons_succ]
      refine takeD (i := 5) (d := 20) (v := .int .i64 (m : Int)) rfl (by kernel_rfl) (by kernel_rfl) (by kernel_rfl) (by kernel_rfl) (fun _ _ _ h => h) (Or.inl ⟨by rfl, fun w' hS => by (obtain ⟨s0, s1, s2, s3, s4, s5, s6, s7, s8, s9, s10, s11, s12⟩ := hS; go_simp)⟩) hHeld ?_
      simp only [Act.put, List.setIfInBounds_toArray, List.set_cons_zero, List.set_cons_succ]
      refine takeD (i := 6) (d := 21) (v := .pointer (some ⟨b, 0, none⟩)) rfl (by kernel_rfl) (by kernel_rfl) (by kernel_rfl) (by kernel_rfl) (fun _ _ _ h => h) (Or.inl ⟨by rfl, fun w' hS => by go_simp⟩) hHeld ?_
      simp only [Act.put, List.setIfInBounds_toArray, List.set_cons_zero, List.set_cons_succ]
      refine takeD (i := 7) (d := 22) (v := .pointer (some ⟨b, 1, none⟩)) rfl (by kernel_rfl) (by kernel_rfl) (by kernel_rfl) (by kernel_rfl) (fun _ _ _ h => h) (Or.inl ⟨by rfl, fun w' hS => by go_simp⟩) hHeld ?_
      simp only [Act.put, List.setIfInBounds_toArray, List.set_cons_zero, List.set_cons_succ]
      refine takeD (i := 8) (d := 23) (v := .pointer (some ⟨b, 1 + m, none⟩)) rfl (by kernel_rfl) (by kernel_rfl) (by kernel_rfl) (by kernel_rfl) (fun _ _ _ h => h) (Or.inl ⟨by rfl, fun w' hS => by go_simp⟩) hHeld ?_
      simp only [Act.put, List.setIfInBounds_toArray, List.set_cons_zero, List.set_cons_succ]
      refine takeD (i := 10) (d := 25) (v := .agg #[.int .i64 18, .int .i64 (m : Int), .int .i64 q, .int .i64 n, v4, v5, v6, v7, v8, v9, v10, v11, v12]) rfl (by kernel_rfl) (by kernel_rfl) (by kernel_rfl) (by kernel_rfl) (fun _ _ _ h => h) (Or.inl ⟨by rfl, fun w' hS => by (obtain ⟨s0, s1, s2, s3, s4, s5, s6, s7, s8, s9, s10, s11, s12⟩ := hS; go_simp)⟩) hHeld ?_
      simp only [Act.put, List.setIfInBounds_toArray, List.set_cons_zero, List.set_cons_succ]
      refine takeD (i := 12) (d := 27) (v := .pointer (some ⟨b, 0, none⟩)) rfl (by kernel_rfl) (by kernel_rfl) (by kernel_rfl) (by kernel_rfl) (fun _ _ _ h => h) (Or.inl ⟨by rfl, fun w' hS => by go_simp⟩) hHeld ?_
      simp only [Act.put, List.setIfInBounds_toArray, List.set_cons_zero, List.set_cons_succ]
      refine takeD (i := 13) (d := 28) (v := .pointer (some ⟨b, 1, none⟩)) rfl (by kernel_rfl) (by kernel_rfl) (by kernel_rfl) (by kernel_rfl) (fun _ _ _ h => h) (Or.inl ⟨by rfl, fun w' hS => by go_simp⟩) hHeld ?_
      simp only [Act.put, List.setIfInBounds_toArray, List.set_cons_zero, List.set_cons_succ]
      have hbD1 : Below W.heap.size W W.drew := drew_bel _
      have q0 := below_at hbD1 c0
      have q1 := below_at hbD1 c1
      have q2 := below_at hbD1 c2
      have q3 := below_at hbD1 c3
      have q4 := below_at hbD1 c4
      have q5 := below_at hbD1 c5
      have q6 := below_at hbD1 c6
      have q7 := below_at hbD1 c7
      have q8 := below_at hbD1 c8
      have q9 := below_at hbD1 c9
      have q10 := below_at hbD1 c10
      have q11 := below_at hbD1 c11
      have q12 := below_at hbD1 c12
      have iq0 := below_at hbD1 cx
      generalize W.drew = D1 at *
      refine wpAnyH_ready (rs := [9]) (by kernel_rfl) (by simp) ?_
      refine AllReadyH.cons rfl (fun K hK => ?_) AllReadyH.nil
      have zim := iq0
      go_simp
      clear zim
      refine hK.out _ _ ⟨q0, q1, q2, q3, q4, q5, q6, q7, q8, q9, q10, q11, q12⟩ (fun hHeld => ?_)
      clear hK K
      refine wpAnyH_ready (rs := [11]) (by kernel_rfl) (by simp) ?_
      refine AllReadyH.cons rfl (fun K hK => ?_) AllReadyH.nil
      go_simp
      refine (stand_any _ _ _ _ _ _ _ _ _ _ _ _ _ _ _).mono ?_
      rintro e w5 ⟨rfl, hb5⟩
      have H4 : Hid (Nb w5 b f) := (show Nb _ _ _ from (HNW.out.on hbD1).on hb5)
      have HB4 : Hid (Below B w w5) := HBW.out.trans ((bstep hbD1 hb5).mono (by omega))
      refine hK.out _ _ ⟨(below_at hb5 q0), (below_at hb5 q1), (below_at hb5 q2), (below_at hb5 q3), (below_at hb5 q4), (below_at hb5 q5), (below_at hb5 q6), (below_at hb5 q7), (below_at hb5 q8), (below_at hb5 q9), (below_at hb5 q10), (below_at hb5 q11), (below_at hb5 q12)⟩ (fun hHeld => ?_)
      clear hK K
      refine takeD (i := 14) (d := 29) (v := .pointer (some ⟨b, 1 + m, none⟩)) rfl (by kernel_rfl) (by kernel_rfl) (by kernel_rfl) (by kernel_rfl) (fun _ _ _ h => h) (Or.inl ⟨by rfl, fun w' hS => by go_simp⟩) hHeld ?_
      simp only [Act.put, List.setIfInBounds_toArray, List.set_cons_zero, List.set_cons_succ]
      refine wpAnyH_ready (rs := [15]) (by kernel_rfl) (by simp) ?_
      refine AllReadyH.cons rfl (fun K hK => ?_) AllReadyH.nil
      have z14 := H4.out.cell (i := 1 + m) (by have := HM.out; omega)
      have z15 := H4.out.fz (1 + m)
      go_simp
      refine hK.out _ _ ⟨(cell_ne hwb (below_at hb5 q0)), (cell_ne hwb (below_at hb5 q1)), (cell_ne hwb (below_at hb5 q2)), (cell_ne hwb (below_at hb5 q3)), (cell_ne hwb (below_at hb5 q4)), (cell_ne hwb (below_at hb5 q5)), (cell_ne hwb (below_at hb5 q6)), (cell_ne hwb (below_at hb5 q7)), (cell_ne hwb (below_at hb5 q8)), (cell_ne hwb (below_at hb5 q9)), (cell_ne hwb (below_at hb5 q10)), (cell_ne hwb (below_at hb5 q11)), (cell_ne hwb (below_at hb5 q12))⟩ (fun hHeld => ?_)
      clear hK K
      refine wpAnyH_done (by kernel_rfl) ?_ _
      clear hHeld
      go_wp2_with fail
      (first | go_end0 | ((try simp only [Exit.inBlock, Exit.then]); refine bodyPost_ret (results_none rfl _ _ _) rfl ?_))
      exact ⟨rfl, H4.out.set (by have := HM.out; omega) _, HB4.out.setCell hB _⟩
end Go.Proofs.Ytfodkackfahldaa.Lo
