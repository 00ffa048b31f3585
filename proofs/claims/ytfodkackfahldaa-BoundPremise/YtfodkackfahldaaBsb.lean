import Derived.Test.YtfodkackfahldaaBsa
namespace Go.Proofs.Ytfodkackfahldaa.Lo
open Go.RowKit
set_option linter.unusedVariables false
set_option linter.unusedSimpArgs false

theorem zCfg : (Try.prog.info? 24).map (·.zero) = some (some (.agg #[.int .i64 0, .int .i64 0, .int .i64 0, .int .i64 0, .int .i64 0, .int .i64 0, .int .i64 0, .slice none 0 0])) := by kernel_rfl
theorem iCfg : (Try.prog.info? 24).map (·.size) = some 8 := by kernel_rfl
theorem one8 (no wi ba st ca ro fl : Int) (va : Option Addr) (vn vc : Nat) : ∀ u ∈ ([.int .i64 no, .int .i64 wi, .int .i64 ba, .int .i64 st, .int .i64 ca, .int .i64 ro, .int .i64 fl, .slice va vn vc] : List Value), u.oneCell' = true := by
  intro u hu
  simp only [List.mem_cons, List.not_mem_nil, or_false] at hu
  rcases hu with rfl | rfl | rfl | rfl | rfl | rfl | rfl | rfl <;> rfl
structure EvB (w : World) (ea : Option Addr) (en : Nat) (es : List Em) : Prop where
  r : EvR w ea en es
  bd : ∀ i, i < en → Ln.Rd w (es.getD i em0).ba (es.getD i em0).bn (es.getD i em0).bc (es.getD i em0).bs
theorem EvB.on {w w' : World} {ea : Option Addr} {en : Nat} {es : List Em} (h : EvB w ea en es) (hb : Below w.heap.size w w') : EvB w' ea en es := ⟨h.r.on hb, fun i hi => (h.bd i hi).still hb⟩
set_option maxRecDepth 100000 in
set_option maxHeartbeats 4000000 in
theorem sameScript_any (no wi ba st ca ro fl : Int) (va va2 : Option Addr) (vn vc vc2 : Nat) (vs : List Int) (ea ea2 : Option Addr) (en ec ec2 : Nat) (es es2 : List Em) (w : World) (hv : Ri w va vn vc vs) (hv2 : Ri w va2 vn vc2 vs) (hvn : vn ≤ 140737488355328) (hen : en ≤ 140737488355328) (he : EvB w ea en es) (he2 : EvB w ea2 en es2) (hm : Sms en es es2) : Calls Try.prog 36 #[.agg #[.int .i64 no, .int .i64 wi, .int .i64 ba, .int .i64 st, .int .i64 ca, .int .i64 ro, .int .i64 fl, .slice va vn vc, .slice ea en ec], .agg #[.int .i64 no, .int .i64 wi, .int .i64 ba, .int .i64 st, .int .i64 ca, .int .i64 ro, .int .i64 fl, .slice va2 vn vc2, .slice ea2 en ec2]] w fun r w' => r = .returned (.bool true) ∧ Below w.heap.size w w' := by
  have hk1 := heap_new w #[.int .i64 no, .int .i64 wi, .int .i64 ba, .int .i64 st, .int .i64 ca, .int .i64 ro, .int .i64 fl, .slice va vn vc, .slice ea en ec] 27
  have hb1 := bsp w #[.int .i64 no, .int .i64 wi, .int .i64 ba, .int .i64 st, .int .i64 ca, .int .i64 ro, .int .i64 fl, .slice va vn vc, .slice ea en ec] 27
  generalize hW1 : w.alloc (.cells #[.int .i64 no, .int .i64 wi, .int .i64 ba, .int .i64 st, .int .i64 ca, .int .i64 ro, .int .i64 fl, .slice va vn vc, .slice ea en ec] 27) = W1 at *
  have hk2 := heap_new W1 #[.int .i64 no, .int .i64 wi, .int .i64 ba, .int .i64 st, .int .i64 ca, .int .i64 ro, .int .i64 fl, .slice va2 vn vc2, .slice ea2 en ec2] 27
  have hb2 := bsp W1 #[.int .i64 no, .int .i64 wi, .int .i64 ba, .int .i64 st, .int .i64 ca, .int .i64 ro, .int .i64 fl, .slice va2 vn vc2, .slice ea2 en ec2] 27
  generalize hW2 : W1.alloc (.cells #[.int .i64 no, .int .i64 wi, .int .i64 ba, .int .i64 st, .int .i64 ca, .int .i64 ro, .int .i64 fl, .slice va2 vn vc2, .slice ea2 en ec2] 27) = W2 at *
  have HB2 : Hid (Below w.heap.size w W2) := bst hb1 hb2
  have c0 : W2.cell? ⟨w.heap.size, 0, none⟩ = some (.int .i64 no) := below_at hb2 (blk_cell hk1 0)
  have c1 : W2.cell? ⟨w.heap.size, 1, none⟩ = some (.int .i64 wi) := below_at hb2 (blk_cell hk1 1)
  have c2 : W2.cell? ⟨w.heap.size, 2, none⟩ = some (.int .i64 ba) := below_at hb2 (blk_cell hk1 2)
  have c3 : W2.cell? ⟨w.heap.size, 3, none⟩ = some (.int .i64 st) := below_at hb2 (blk_cell hk1 3)
  have c4 : W2.cell? ⟨w.heap.size, 4, none⟩ = some (.int .i64 ca) := below_at hb2 (blk_cell hk1 4)
  have c5 : W2.cell? ⟨w.heap.size, 5, none⟩ = some (.int .i64 ro) := below_at hb2 (blk_cell hk1 5)
  have c6 : W2.cell? ⟨w.heap.size, 6, none⟩ = some (.int .i64 fl) := below_at hb2 (blk_cell hk1 6)
  have c7 : W2.cell? ⟨w.heap.size, 7, none⟩ = some (.slice va vn vc) := below_at hb2 (blk_cell hk1 7)
  have c8 : W2.cell? ⟨w.heap.size, 8, none⟩ = some (.slice ea en ec) := below_at hb2 (blk_cell hk1 8)
  have d0 : W2.cell? ⟨W1.heap.size, 0, none⟩ = some (.int .i64 no) := blk_cell hk2 0
  have d1 : W2.cell? ⟨W1.heap.size, 1, none⟩ = some (.int .i64 wi) := blk_cell hk2 1
  have d2 : W2.cell? ⟨W1.heap.size, 2, none⟩ = some (.int .i64 ba) := blk_cell hk2 2
  have d3 : W2.cell? ⟨W1.heap.size, 3, none⟩ = some (.int .i64 st) := blk_cell hk2 3
  have d4 : W2.cell? ⟨W1.heap.size, 4, none⟩ = some (.int .i64 ca) := blk_cell hk2 4
  have d5 : W2.cell? ⟨W1.heap.size, 5, none⟩ = some (.int .i64 ro) := blk_cell hk2 5
  have d6 : W2.cell? ⟨W1.heap.size, 6, none⟩ = some (.int .i64 fl) := blk_cell hk2 6
  have d7 : W2.cell? ⟨W1.heap.size, 7, none⟩ = some (.slice va2 vn vc2) := blk_cell hk2 7
  have d8 : W2.cell? ⟨W1.heap.size, 8, none⟩ = some (.slice ea2 en ec2) := blk_cell hk2 8
  have hwb2 : W1.heap.size < W2.heap.size := World.block_lt_of_cell? W2 _ d0
  have hwb1 : w.heap.size < W2.heap.size := World.block_lt_of_cell? W2 _ c0
  have HV1 : Hid (Ri W2 va vn vc vs) := hv.below HB2.out
  have HV2 : Hid (Ri W2 va2 vn vc2 vs) := hv2.below HB2.out
  have HE1 : Hid (EvB W2 ea en es) := he.on HB2.out
  have HE2 : Hid (EvB W2 ea2 en es2) := he2.on HB2.out
  have HM : Hid (Sms en es es2) := hm
  clear hk1 hk2 hb1 hb2 hv hv2 he he2 hm
  go_enter Try.func36, Try.ntmps36
  go_wp2_with (first | (refine wl_allocZ rfl 24 rfl zCfg ?_) | fail)
  intro Y1 k1 b1 s1
  go_wp2_with (first | (refine Ln.at_store 24 _ _ rfl ?_; refine wl_storeZ rfl 24 _ _ rfl (L := [.int .i64 no, .int .i64 wi, .int .i64 ba, .int .i64 st, .int .i64 ca, .int .i64 ro, .int .i64 fl, .slice va vn vc]) rfl rfl k1 iCfg rfl (one8 _ _ _ _ _ _ _ _ _ _) ?_) | fail)
  intro Y2 k2 kk2
  have hbY2 : Below W2.heap.size W2 Y2 := b1.trans (kn kk2 (Nat.le_refl _) b1.size)
  have d0 := below_at hbY2 d0
  have d1 := below_at hbY2 d1
  have d2 := below_at hbY2 d2
  have d3 := below_at hbY2 d3
  have d4 := below_at hbY2 d4
  have d5 := below_at hbY2 d5
  have d6 := below_at hbY2 d6
  have d7 := below_at hbY2 d7
  have d8 := below_at hbY2 d8
  go_wp2_with (first | (refine wl_allocZ rfl 24 rfl zCfg ?_) | fail)
  intro Y3 k3 b3 s3
  go_wp2_with (first | (refine Ln.at_store 24 _ _ rfl ?_; refine wl_storeZ rfl 24 _ _ rfl (L := [.int .i64 no, .int .i64 wi, .int .i64 ba, .int .i64 st, .int .i64 ca, .int .i64 ro, .int .i64 fl, .slice va2 vn vc2]) rfl rfl k3 iCfg rfl (one8 _ _ _ _ _ _ _ _ _ _) ?_) | fail)
  intro W4 k4 kk4
  have hbY4 : Below Y2.heap.size Y2 W4 := b3.trans (kn kk4 (Nat.le_refl _) b3.size)
  have kx := blk_on hbY4 k2
  have hbW4 : Below W2.heap.size W2 W4 := bst hbY2 hbY4
  have x0 : W4.cell? ⟨W2.heap.size, 0, none⟩ = some (.int .i64 no) := blk_cell kx 0
  have x0 : W4.cell? ⟨W2.heap.size, 0, none⟩ = some (.int .i64 no) := blk_cell kx 0
  have y0 : W4.cell? ⟨Y2.heap.size, 0, none⟩ = some (.int .i64 no) := blk_cell k4 0
  have x1 : W4.cell? ⟨W2.heap.size, 1, none⟩ = some (.int .i64 wi) := blk_cell kx 1
  have y1 : W4.cell? ⟨Y2.heap.size, 1, none⟩ = some (.int .i64 wi) := blk_cell k4 1
  have x2 : W4.cell? ⟨W2.heap.size, 2, none⟩ = some (.int .i64 ba) := blk_cell kx 2
  have y2 : W4.cell? ⟨Y2.heap.size, 2, none⟩ = some (.int .i64 ba) := blk_cell k4 2
  have x3 : W4.cell? ⟨W2.heap.size, 3, none⟩ = some (.int .i64 st) := blk_cell kx 3
  have y3 : W4.cell? ⟨Y2.heap.size, 3, none⟩ = some (.int .i64 st) := blk_cell k4 3
  have x4 : W4.cell? ⟨W2.heap.size, 4, none⟩ = some (.int .i64 ca) := blk_cell kx 4
  have y4 : W4.cell? ⟨Y2.heap.size, 4, none⟩ = some (.int .i64 ca) := blk_cell k4 4
  have x5 : W4.cell? ⟨W2.heap.size, 5, none⟩ = some (.int .i64 ro) := blk_cell kx 5
  have y5 : W4.cell? ⟨Y2.heap.size, 5, none⟩ = some (.int .i64 ro) := blk_cell k4 5
  have x6 : W4.cell? ⟨W2.heap.size, 6, none⟩ = some (.int .i64 fl) := blk_cell kx 6
  have y6 : W4.cell? ⟨Y2.heap.size, 6, none⟩ = some (.int .i64 fl) := blk_cell k4 6
  have x7 : W4.cell? ⟨W2.heap.size, 7, none⟩ = some (.slice va vn vc) := blk_cell kx 7
  have y7 : W4.cell? ⟨Y2.heap.size, 7, none⟩ = some (.slice va2 vn vc2) := blk_cell k4 7
  have m1 : W4.cell? ⟨w.heap.size, 8, none⟩ = some (.slice ea en ec) := below_at hbW4 c8
  have m2 : W4.cell? ⟨W1.heap.size, 8, none⟩ = some (.slice ea2 en ec2) := below_at hbY4 d8
  have HB4 : Hid (Below w.heap.size w W4) := bst HB2.out hbW4
  have HU1 : Hid (Ri W4 va vn vc vs) := HV1.out.below hbW4
  have HU2 : Hid (Ri W4 va2 vn vc2 vs) := HV2.out.below hbW4
  have HF1 : Hid (EvB W4 ea en es) := HE1.out.on hbW4
  have HF2 : Hid (EvB W4 ea2 en es2) := HE2.out.on hbW4
  clear c0 c1 c2 c3 c4 c5 c6 c7 c8 d0 d1 d2 d3 d4 d5 d6 d7 d8 k1 b1 s1 k2 kk2 hbY2 k3 b3 s3 k4 kk4 hbY4 kx hbW4 HV1 HV2 HE1 HE2 HB2
  generalize W1.heap.size = wb2 at *
  generalize W2.heap.size = xb at *
  generalize Y2.heap.size = yb at *
  go_wp2_with fail
  clear x0 x1 x2 x3 x4 x5 x6 y0 y1 y2 y3 y4 y5 y6
  go_loopw [7] (fun x wr => ∃ (j : Nat), j ≤ vn ∧ x = .int .i64 j ∧ Hid (Below W4.heap.size W4 wr)) (fun x _ => vn - (intOf x).toNat)
  case atStart => exact ⟨0, Nat.zero_le _, rfl, Below.refl _ _⟩
  case round =>
    obtain ⟨j, hj, rfl, hb⟩ := hrel
    have x7w := below_at hb.out x7
    have y7w := below_at hb.out y7
    have m1w := below_at hb.out m1
    have m2w := below_at hb.out m2
    by_cases hjn : j < vn
    · have j1 : (0 : Int) ≤ (j : Int) := Int.natCast_nonneg _
      have j3 : (j : Int) < (vn : Int) := by omega
      rcases HU1.out.2.2 with h0 | ⟨lb, lo, hla, hlc⟩
      · omega
      rcases HU2.out.2.2 with h0 | ⟨mb, mo, hma, hmc⟩
      · omega
      rw [hla] at x7w
      rw [hma] at y7w
      have e1 := below_at hb.out (hlc j hjn)
      have e2 := below_at hb.out (hmc j hjn)
      generalize vs.getD j 0 = y at *
      clear hlc hmc hla hma x7 y7 m1 m2
      go_wp2_with fail
      go_quiet (fail)
      go_wp2_with fail
      have HB3 : Hid (Below W4.heap.size W4 (wr.drewN nq)) := (show Below _ _ _ from hb.out.trans (bel_dN _ _ nq))
      go_roundw
      case rel => exact ⟨j + 1, by omega, by go_num, HB3⟩
      case measure => simp [intOf]; omega
    · obtain rfl : vn = j := by omega
      clear x7 y7
      go_wp2_with fail
      clear x7w y7w m1w m2w
      go_loopw [8] (fun x wr => ∃ (j : Nat), j ≤ en ∧ x = .int .i64 j ∧ Hid (Below W4.heap.size W4 wr)) (fun x _ => en - (intOf x).toNat)
      case atStart => exact ⟨0, Nat.zero_le _, rfl, hb⟩
      case round =>
        obtain ⟨j, hj, rfl, hb⟩ := hrel
        have n1 := below_at hb.out m1
        have n2 := below_at hb.out m2
        by_cases hjn : j < en
        · have j1 : (0 : Int) ≤ (j : Int) := Int.natCast_nonneg _
          have j3 : (j : Int) < (en : Int) := by omega
          rcases HF1.out.r.row with h0 | ⟨eb, eo, hea, hrow⟩
          · omega
          rcases HF2.out.r.row with h0 | ⟨fb, fo, hfa, hrow2⟩
          · omega
          rw [hea] at n1
          rw [hfa] at n2
          have HEV : Hid (wr.rangeAt eb (eo + j * 13) (es.getD j em0).cs) := (show wr.rangeAt _ _ _ from range_on (hrow j hjn) hb.out)
          have HEV2 : Hid (wr.rangeAt fb (fo + j * 13) (es2.getD j em0).cs) := (show wr.rangeAt _ _ _ from range_on (hrow2 j hjn) hb.out)
          have HSm : Hid (Sm (es.getD j em0) (es2.getD j em0)) := HM.out.2 j hjn
          have HR1 : Hid (Ri wr (es.getD j em0).sa (es.getD j em0).sn (es.getD j em0).sc (es.getD j em0).xs) := (HF1.out.r.sd j hjn).1.below hb.out
          have HR2 : Hid (Ri wr (es2.getD j em0).sa (es2.getD j em0).sn (es2.getD j em0).sc (es2.getD j em0).xs) := (HF2.out.r.sd j hjn).1.below hb.out
          have HG1 : Hid (Ln.Rd wr (es.getD j em0).ba (es.getD j em0).bn (es.getD j em0).bc (es.getD j em0).bs) := (HF1.out.bd j hjn).still hb.out
          have HG2 : Hid (Ln.Rd wr (es2.getD j em0).ba (es2.getD j em0).bn (es2.getD j em0).bc (es2.getD j em0).bs) := (HF2.out.bd j hjn).still hb.out
          have hsn : (es.getD j em0).sn ≤ 140737488355328 := (HF1.out.r.sd j hjn).2
          clear hrow hrow2 hea hfa m1 m2
          generalize es.getD j em0 = e at *
          generalize es2.getD j em0 = e2 at *
          have m1 := n1
          have m2 := n2
          clear n1 n2
          go_wp2_with fail
          refine wp_region_held_drew (S := (fun w' => w'.cell? ⟨w.heap.size, 8, none⟩ = some (.slice (some ⟨eb, eo, none⟩) en ec) ∧ w'.cell? ⟨wb2, 8, none⟩ = some (.slice (some ⟨fb, fo, none⟩) en ec2) ∧ w'.rangeAt eb (eo + j * 13) e.cs ∧ w'.rangeAt fb (fo + j * 13) e2.cs)) (by kernel_rfl) ⟨(below_at (drew_bel _) m1), (below_at (drew_bel _) m2), (range_on HEV.out (drew_bel _)), (range_on HEV2.out (drew_bel _))⟩ (fun hHeld => ?_)
          simp only [Act.put, List.size_toArray, List.length_cons, List.length_nil, Nat.zero_add]
          refine takeD (i := 0) (d := 101) (v := .pointer (some ⟨w.heap.size, 8, none⟩)) rfl (by kernel_rfl) (by kernel_rfl) (by kernel_rfl) (by kernel_rfl) (fun _ _ _ h => h) (Or.inl ⟨by rfl, fun w' hS => by go_simp⟩) hHeld ?_
          simp only [Act.put, List.setIfInBounds_toArray, List.set_cons_zero, List.set_cons_succ]
          refine takeD (i := 1) (d := 102) (v := .slice (some ⟨eb, eo, none⟩) en ec) rfl (by kernel_rfl) (by kernel_rfl) (by kernel_rfl) (by kernel_rfl) (fun _ _ _ h => h) (Or.inl ⟨by rfl, fun w' hS => by (obtain ⟨s0, s1, s2, s3⟩ := hS; go_simp)⟩) hHeld ?_
          simp only [Act.put, List.setIfInBounds_toArray, List.set_cons_zero, List.set_cons_succ]
          refine takeD (i := 2) (d := 103) (v := .int .i64 (j : Int)) rfl (by kernel_rfl) (by kernel_rfl) (by kernel_rfl) (by kernel_rfl) (fun _ _ _ h => h) (Or.inl ⟨by rfl, fun w' hS => by go_simp⟩) hHeld ?_
          simp only [Act.put, List.setIfInBounds_toArray, List.set_cons_zero, List.set_cons_succ]
          refine takeD (i := 3) (d := 104) (v := .pointer (some ⟨eb, eo + j * 13, none⟩)) rfl (by kernel_rfl) (by kernel_rfl) (by kernel_rfl) (by kernel_rfl) (fun _ _ _ h => h) (Or.inl ⟨by rfl, fun w' hS => by go_simp⟩) hHeld ?_
          simp only [Act.put, List.setIfInBounds_toArray, List.set_cons_zero, List.set_cons_succ]
          refine takeD (i := 4) (d := 105) (v := .agg (e.cs).toArray) rfl (by kernel_rfl) (by kernel_rfl) (by kernel_rfl) (by kernel_rfl) (fun _ _ _ h => h) (Or.inl ⟨by rfl, fun w' hS => by (obtain ⟨s0, s1, s2, s3⟩ := hS; exact run_loadop 36 _ rfl rfl s2 Try.underlying36 rfl (iEv e))⟩) hHeld ?_
          simp only [Act.put, List.setIfInBounds_toArray, List.set_cons_zero, List.set_cons_succ]
          refine takeD (i := 5) (d := 106) (v := .pointer (some ⟨wb2, 8, none⟩)) rfl (by kernel_rfl) (by kernel_rfl) (by kernel_rfl) (by kernel_rfl) (fun _ _ _ h => h) (Or.inl ⟨by rfl, fun w' hS => by go_simp⟩) hHeld ?_
          simp only [Act.put, List.setIfInBounds_toArray, List.set_cons_zero, List.set_cons_succ]
          refine takeD (i := 6) (d := 107) (v := .slice (some ⟨fb, fo, none⟩) en ec2) rfl (by kernel_rfl) (by kernel_rfl) (by kernel_rfl) (by kernel_rfl) (fun _ _ _ h => h) (Or.inl ⟨by rfl, fun w' hS => by (obtain ⟨s0, s1, s2, s3⟩ := hS; go_simp)⟩) hHeld ?_
          simp only [Act.put, List.setIfInBounds_toArray, List.set_cons_zero, List.set_cons_succ]
          refine takeD (i := 7) (d := 108) (v := .int .i64 (j : Int)) rfl (by kernel_rfl) (by kernel_rfl) (by kernel_rfl) (by kernel_rfl) (fun _ _ _ h => h) (Or.inl ⟨by rfl, fun w' hS => by go_simp⟩) hHeld ?_
          simp only [Act.put, List.setIfInBounds_toArray, List.set_cons_zero, List.set_cons_succ]
          refine takeD (i := 8) (d := 109) (v := .pointer (some ⟨fb, fo + j * 13, none⟩)) rfl (by kernel_rfl) (by kernel_rfl) (by kernel_rfl) (by kernel_rfl) (fun _ _ _ h => h) (Or.inl ⟨by rfl, fun w' hS => by go_simp⟩) hHeld ?_
          simp only [Act.put, List.setIfInBounds_toArray, List.set_cons_zero, List.set_cons_succ]
          refine takeD (i := 9) (d := 110) (v := .agg (e2.cs).toArray) rfl (by kernel_rfl) (by kernel_rfl) (by kernel_rfl) (by kernel_rfl) (fun _ _ _ h => h) (Or.inl ⟨by rfl, fun w' hS => by (obtain ⟨s0, s1, s2, s3⟩ := hS; exact run_loadop 36 _ rfl rfl s3 Try.underlying36 rfl (iEv e2))⟩) hHeld ?_
          simp only [Act.put, List.setIfInBounds_toArray, List.set_cons_zero, List.set_cons_succ]
          have hbD1 : Below wr.heap.size wr wr.drew := drew_bel _
          have q0 := below_at hbD1 m1
          have q1 := below_at hbD1 m2
          generalize wr.drew = D1 at *
          refine wpAnyH_ready (rs := [10]) (by kernel_rfl) (by simp) ?_
          refine AllReadyH.cons rfl (fun K hK => ?_) AllReadyH.nil
          go_simp
          refine (sameEv_any e e2 _ HSm.out (HR1.out.below hbD1) (HR2.out.below hbD1) (HG1.out.still hbD1) (HG2.out.still hbD1) hsn).mono ?_
          rintro r5 w5 ⟨rfl, hb5⟩
          refine hK.out _ _ ⟨(below_at hb5 q0), (below_at hb5 q1), (range_on (range_on HEV.out hbD1) hb5), (range_on (range_on HEV2.out hbD1) hb5)⟩ (fun hHeld => ?_)
          clear hK K
          refine takeD (i := 11) (d := 112) (v := .bool false) rfl (by kernel_rfl) (by kernel_rfl) (by kernel_rfl) (by kernel_rfl) (fun _ _ _ h => h) (Or.inl ⟨by rfl, fun w' hS => by go_simp⟩) hHeld ?_
          simp only [Act.put, List.setIfInBounds_toArray, List.set_cons_zero, List.set_cons_succ]
          refine wpAnyH_done (by kernel_rfl) ?_ _
          clear hHeld
          have HB5 : Hid (Below W4.heap.size W4 w5) := (show Below _ _ _ from bst hb.out (bstep hbD1 hb5))
          clear hbD1 hb5 HEV HEV2 HSm HR1 HR2 HG1 HG2
          try clear q0 q1
          clear m1 m2
          go_wp2_with fail
          go_roundw
          case rel => exact ⟨j + 1, by omega, by go_num, HB5⟩
          case measure => simp [intOf]; omega
        · obtain rfl : en = j := by omega
          have HBX : Hid (Below w.heap.size w wr) := bst HB4.out hb.out
          go_wp2_with fail
          go_ret
          exact ⟨rfl, HBX.out⟩
end Go.Proofs.Ytfodkackfahldaa.Lo
