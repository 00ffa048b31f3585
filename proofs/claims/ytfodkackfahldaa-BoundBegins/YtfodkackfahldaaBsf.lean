import Derived.Test.YtfodkackfahldaaBse
namespace Go.Proofs.Ytfodkackfahldaa.Lo
open Go.RowKit
set_option linter.unusedVariables false
set_option linter.unusedSimpArgs false

theorem bEv1 (k : Int) : Try.prog.built 36 [(0, .int .i64 k)] = some (evS k none 0 0 []).cs.toArray := by kernel_rfl
theorem bEvC (a : Int) : Try.prog.built 36 [(0, .int .i64 5), (1, .int .i64 a)] = some (evC a).cs.toArray := by kernel_rfl
set_option maxRecDepth 100000 in
set_option maxHeartbeats 8000000 in
theorem begins_any (no wi ba st ca ro fl : Int) (va : Option Addr) (vn vc : Nat) (vs : List Int) (r : Bool) (E : Int) (ea : Option Addr) (en ec : Nat) (es : List Em) (so : Option Addr) (sn sc : Nat) (ss : List Int) (w : World) (h : Cf w no wi ba st ca ro fl va vn vc vs r E) (hvn : vn * 8 ≤ 140737488351232) (hev : EvF w ea en es) (hss : Ri w so sn sc ss) (hsn : sn * 8 ≤ 140737488351232) : Calls Try.prog 5 #[.agg #[.int .i64 no, .int .i64 wi, .int .i64 ba, .int .i64 st, .int .i64 ca, .int .i64 ro, .int .i64 fl, .slice va vn vc, .slice ea en ec, .slice so sn sc]] w fun e w' => e = .returned (.bool true) ∧ Below w.heap.size w w' := by
  have HB : Hid (Below w.heap.size w (w.alloc (.cells #[.int .i64 no, .int .i64 wi, .int .i64 ba, .int .i64 st, .int .i64 ca, .int .i64 ro, .int .i64 fl, .slice va vn vc, .slice ea en ec, .slice so sn sc] 29))) := bsp _ _ _
  have hk := heap_new w #[.int .i64 no, .int .i64 wi, .int .i64 ba, .int .i64 st, .int .i64 ca, .int .i64 ro, .int .i64 fl, .slice va vn vc, .slice ea en ec, .slice so sn sc] 29
  have hWs : w.heap.size < (w.alloc (.cells #[.int .i64 no, .int .i64 wi, .int .i64 ba, .int .i64 st, .int .i64 ca, .int .i64 ro, .int .i64 fl, .slice va vn vc, .slice ea en ec, .slice so sn sc] 29)).heap.size := by simp
  generalize hW : w.alloc (.cells #[.int .i64 no, .int .i64 wi, .int .i64 ba, .int .i64 st, .int .i64 ca, .int .i64 ro, .int .i64 fl, .slice va vn vc, .slice ea en ec, .slice so sn sc] 29) = W at *
  have c0 : W.cell? ⟨w.heap.size, 0, none⟩ = some (.int .i64 no) := blk_cell hk 0
  have c1 : W.cell? ⟨w.heap.size, 1, none⟩ = some (.int .i64 wi) := blk_cell hk 1
  have c2 : W.cell? ⟨w.heap.size, 2, none⟩ = some (.int .i64 ba) := blk_cell hk 2
  have c3 : W.cell? ⟨w.heap.size, 3, none⟩ = some (.int .i64 st) := blk_cell hk 3
  have c4 : W.cell? ⟨w.heap.size, 4, none⟩ = some (.int .i64 ca) := blk_cell hk 4
  have c5 : W.cell? ⟨w.heap.size, 5, none⟩ = some (.int .i64 ro) := blk_cell hk 5
  have c6 : W.cell? ⟨w.heap.size, 6, none⟩ = some (.int .i64 fl) := blk_cell hk 6
  have c7 : W.cell? ⟨w.heap.size, 7, none⟩ = some (.slice va vn vc) := blk_cell hk 7
  have c8 : W.cell? ⟨w.heap.size, 8, none⟩ = some (.slice ea en ec) := blk_cell hk 8
  have c9 : W.cell? ⟨w.heap.size, 9, none⟩ = some (.slice so sn sc) := blk_cell hk 9
  have hCW := h.below HB.out
  have HCk : Hid (Calls Try.prog 7 #[.agg #[.int .i64 no, .int .i64 wi, .int .i64 ba, .int .i64 st, .int .i64 ca, .int .i64 ro, .int .i64 fl, .slice va vn vc]] W fun e w' => e = .returned (.int .i64 E) ∧ Below W.heap.size W w') := rcheck_eq no wi ba st ca ro fl va vn vc vs r E W hCW.rd hCW.le hCW.vt hCW.er
  rcases h.two with rfl | ⟨rfl, hg⟩
  · clear hk h hCW hev hss hvn
    go_enter Try.func5, Try.ntmps5
    go_wp2_with fail
    refine HCk.out.mono ?_
    rintro e w1 ⟨rfl, hb1⟩
    have d6 := below_at hb1 c6
    have d8 := below_at hb1 c8
    have HBx : Hid (Below w.heap.size w w1) := bst HB.out hb1
    clear hb1 HCk
    go_wp2_with fail
    go_ret
    exact ⟨rfl, HBx.out⟩
  · have hh := headC_true hg
    by_cases hfl : fl ≤ 2305843009213693952
    case neg =>
      have hf1 : (2305843009213693952 : Int) < fl := by omega
      clear hk h hCW hev hss hh hg hvn
      go_enter Try.func5, Try.ntmps5
      go_wp2_with fail
      refine HCk.out.mono ?_
      rintro e w1 ⟨rfl, hb1⟩
      have d6 := below_at hb1 c6
      have d8 := below_at hb1 c8
      have HBx : Hid (Below w.heap.size w w1) := bst HB.out hb1
      clear hb1 HCk
      go_wp2_with fail
      go_ret
      exact ⟨rfl, HBx.out⟩
    have hf1 : ¬ (2305843009213693952 : Int) < fl := by omega
    by_cases hen : en ≤ 3990
    case neg =>
      have hf2 : (3990 : Int) < (en : Int) := by omega
      clear hk h hCW hev hss hh hg hvn
      go_enter Try.func5, Try.ntmps5
      go_wp2_with fail
      refine HCk.out.mono ?_
      rintro e w1 ⟨rfl, hb1⟩
      have d6 := below_at hb1 c6
      have d8 := below_at hb1 c8
      have HBx : Hid (Below w.heap.size w w1) := bst HB.out hb1
      clear hb1 HCk
      go_wp2_with fail
      go_ret
      exact ⟨rfl, HBx.out⟩
    have hf2 : ¬ (3990 : Int) < (en : Int) := by omega
    obtain ⟨N, rfl⟩ : ∃ N : Nat, no = (N : Int) := ⟨no.toNat, by omega⟩
    have n1 : 1 ≤ N := by omega
    have n2 : N ≤ 16 := by omega
    have hba : 1 ≤ ba := by omega
    have HCf : Hid (Cf W (N : Int) wi ba st ca ro fl va vn vc vs r 0) := hCW
    have HEv : Hid (EvF W ea en es) := hev.on HB.out
    have HSs : Hid (Ri W so sn sc ss) := hss.below HB.out
    have HCA : Hid (∀ w', Below W.heap.size W w' → w'.cell? ⟨w.heap.size, 0, none⟩ = some (.int .i64 (N : Int)) ∧ w'.cell? ⟨w.heap.size, 1, none⟩ = some (.int .i64 wi) ∧ w'.cell? ⟨w.heap.size, 2, none⟩ = some (.int .i64 ba) ∧ w'.cell? ⟨w.heap.size, 3, none⟩ = some (.int .i64 st) ∧ w'.cell? ⟨w.heap.size, 4, none⟩ = some (.int .i64 ca) ∧ w'.cell? ⟨w.heap.size, 5, none⟩ = some (.int .i64 ro) ∧ w'.cell? ⟨w.heap.size, 6, none⟩ = some (.int .i64 fl) ∧ w'.cell? ⟨w.heap.size, 7, none⟩ = some (.slice va vn vc) ∧ w'.cell? ⟨w.heap.size, 8, none⟩ = some (.slice ea en ec) ∧ w'.cell? ⟨w.heap.size, 9, none⟩ = some (.slice so sn sc)) := (show ∀ w', _ from fun w' hb => ⟨belowB_at hb hWs c0, belowB_at hb hWs c1, belowB_at hb hWs c2, belowB_at hb hWs c3, belowB_at hb hWs c4, belowB_at hb hWs c5, belowB_at hb hWs c6, belowB_at hb hWs c7, belowB_at hb hWs c8, belowB_at hb hWs c9⟩)
    clear hk h hCW hev hss hh hg
    go_enter Try.func5, Try.ntmps5
    go_wp2_with fail
    refine HCk.out.mono ?_
    rintro e w1 ⟨rfl, hb1⟩
    have d6 := below_at hb1 c6
    have d8 := below_at hb1 c8
    have HX1 : Hid (Below W.heap.size W w1) := hb1
    have HEb : Hid (Calls Try.prog 10 #[.int .i64 N] w1 fun r w' => ∃ (a : Option Addr) (c : Nat), r = .returned (.slice a N c) ∧ OwI w' w1.heap.size (.slice a N c) (rg N) ∧ Below w1.heap.size w1 w') := everybody_any N w1 n2
    clear hb1 HCk c0 c1 c2 c3 c4 c5 c6 c7 c8 c9
    go_wp2_with fail
    refine HEb.out.mono ?_
    rintro e w2 ⟨ya, yc, rfl, oy, hb2⟩
    have HX2 : Hid (Below W.heap.size W w2) := HX1.out.trans (hb2.mono HX1.out.size)
    have HOY : Hid (Ri w2 ya N yc (rg N)) := oy.ri
    have hycN : N ≤ yc := ow_cap oy
    have hyb : ∃ yb, ya = some ⟨yb, 0, none⟩ := by
      rcases oy.2 with ⟨e, e0⟩ | ⟨g, cap, cur, e, _⟩
      · rw [rg_len] at e0; omega
      · simp only [Value.slice.injEq] at e; exact ⟨g, e.1⟩
    obtain ⟨yb, rfl⟩ := hyb
    obtain ⟨d0, d1, d2, d3, d4, d5, d6, d7, d8, d9⟩ := HCA.out w2 HX2.out
    have HP0 : Hid (Calls Try.prog 9 #[.agg #[.int .i64 (N : Int), .int .i64 wi, .int .i64 ba, .int .i64 st, .int .i64 ca, .int .i64 ro, .int .i64 fl, .slice va vn vc, .slice none 0 0], .slice (some ⟨yb, 0, none⟩) N yc] w2 fun e w' => e = .returned (.tuple #[.int .i64 0, .int .i64 1, .int .i64 0]) ∧ Below w2.heap.size w2 w') := (show Calls _ _ _ _ _  from by
      have h1 := premise_any (N : Int) wi ba st ca ro fl va vn vc vs r 0 none 0 0 [] (some ⟨yb, 0, none⟩) N yc (rg N) w2 (HCf.out.below HX2.out) ⟨rfl, .inl rfl, fun i hi => by omega⟩ HOY.out (by omega)
      rw [begins1 n1 n2 hba hfl] at h1
      exact h1)
    clear d8 d9 hb2 oy HEb HX1
    go_wp2_with fail
    refine HP0.out.mono ?_
    rintro e w3 ⟨rfl, hb3⟩
    have HX3 : Hid (Below W.heap.size W w3) := HX2.out.trans (hb3.mono HX2.out.size)
    have HOY3 : Hid (Ri w3 (some ⟨yb, 0, none⟩) N yc (rg N)) := HOY.out.below hb3
    clear hb3 HP0 HX2 HOY d0 d1 d2 d3 d4 d5 d6 d7
    by_cases hN2 : 2 ≤ N
    · have k1 : (1 : Int) < (N : Int) := by omega
      obtain ⟨d0, d1, d2, d3, d4, d5, d6, d7, d8, d9⟩ := HCA.out w3 HX3.out
      obtain ⟨⟨tt4, dd4, x4⟩, hq4⟩ : ∃ q : Int × Int × Int, pm 0 0 N ba fl [] ((rg N).drop 1) = q := ⟨_, rfl⟩
      have hx4 := begins2 (N := N) (ba := ba) (fl := fl) hN2 n2 hfl
      rw [hq4] at hx4
      have hx4' : x4 = 180 := hx4
      subst hx4'
      have HPq : Hid (∀ D, Below w3.heap.size w3 D → Calls Try.prog 9 #[.agg #[.int .i64 (N : Int), .int .i64 wi, .int .i64 ba, .int .i64 st, .int .i64 ca, .int .i64 ro, .int .i64 fl, .slice va vn vc, .slice none 0 0], .slice (some ⟨yb, 1, none⟩) (N - 1) (yc - 1)] D fun e w' => e = .returned (.tuple #[.int .i64 tt4, .int .i64 dd4, .int .i64 180]) ∧ Below D.heap.size D w') := (show ∀ D, _ from fun D hb => by
        have hD := HOY3.out.below hb
        have hcell : ∀ i, i < N - 1 → D.cell? ⟨yb, 1 + i, none⟩ = some (.int .i64 (((rg N).drop 1).getD i 0)) := fun i hi => by
          rcases hD.2.2 with h0 | ⟨b', o', e', hc⟩
          · omega
          · cases e'
            have := hc (1 + i) (by omega)
            rw [Nat.zero_add] at this
            rw [this]
            simp [List.getD, List.getElem?_drop, Nat.add_comm 1 i]
        have h1 := premise_any (N : Int) wi ba st ca ro fl va vn vc vs r 0 none 0 0 [] (some ⟨yb, 1, none⟩) (N - 1) (yc - 1) ((rg N).drop 1) D (HCf.out.below (HX3.out.trans (hb.mono HX3.out.size))) ⟨rfl, .inl rfl, fun i hi => by omega⟩ ⟨by rw [List.length_drop, rg_len], fun h => (by cases h), .inr ⟨yb, 1, rfl, hcell⟩⟩ (by omega)
        rw [hq4] at h1
        exact h1)
      clear hq4 hx4 d8 d9
      have hyc1 : ¬ yc = 1 := by omega
      go_wp2_with fail
      refine wp_region_held_drew (S := (fun w' => w'.cell? ⟨w.heap.size, 0, none⟩ = some (.int .i64 (N : Int)) ∧ w'.cell? ⟨w.heap.size, 1, none⟩ = some (.int .i64 wi) ∧ w'.cell? ⟨w.heap.size, 2, none⟩ = some (.int .i64 ba) ∧ w'.cell? ⟨w.heap.size, 3, none⟩ = some (.int .i64 st) ∧ w'.cell? ⟨w.heap.size, 4, none⟩ = some (.int .i64 ca) ∧ w'.cell? ⟨w.heap.size, 5, none⟩ = some (.int .i64 ro) ∧ w'.cell? ⟨w.heap.size, 6, none⟩ = some (.int .i64 fl) ∧ w'.cell? ⟨w.heap.size, 7, none⟩ = some (.slice va vn vc))) (by kernel_rfl) ⟨(below_at (drew_bel _) d0), (below_at (drew_bel _) d1), (below_at (drew_bel _) d2), (below_at (drew_bel _) d3), (below_at (drew_bel _) d4), (below_at (drew_bel _) d5), (below_at (drew_bel _) d6), (below_at (drew_bel _) d7)⟩ (fun hHeld => ?_)
      simp only [Act.put, List.size_toArray, List.length_cons, List.length_nil, Nat.zero_add]
      refine takeD (i := 0) (d := 63) (v := .pointer (some ⟨w.heap.size, 0, none⟩)) rfl (by kernel_rfl) (by kernel_rfl) (by kernel_rfl) (by kernel_rfl) (fun _ _ _ h => h) (Or.inl ⟨by rfl, fun w' hS => by go_simp⟩) hHeld ?_
      simp only [Act.put, List.setIfInBounds_toArray, List.set_cons_zero, List.set_cons_succ]
      refine takeD (i := 1) (d := 64) (v := .pointer (some ⟨w.heap.size, 0, none⟩)) rfl (by kernel_rfl) (by kernel_rfl) (by kernel_rfl) (by kernel_rfl) (fun _ _ _ h => h) (Or.inl ⟨by rfl, fun w' hS => by go_simp⟩) hHeld ?_
      simp only [Act.put, List.setIfInBounds_toArray, List.set_cons_zero, List.set_cons_succ]
      refine takeD (i := 2) (d := 65) (v := .agg #[.int .i64 (N : Int), .int .i64 wi, .int .i64 ba, .int .i64 st, .int .i64 ca, .int .i64 ro, .int .i64 fl, .slice va vn vc]) rfl (by kernel_rfl) (by kernel_rfl) (by kernel_rfl) (by kernel_rfl) (fun _ _ _ h => h) (Or.inl ⟨by rfl, fun w' hS => by (obtain ⟨s0, s1, s2, s3, s4, s5, s6, s7⟩ := hS; go_simp)⟩) hHeld ?_
      simp only [Act.put, List.setIfInBounds_toArray, List.set_cons_zero, List.set_cons_succ]
      refine takeD (i := 3) (d := 66) (v := .agg #[.int .i64 (N : Int), .int .i64 wi, .int .i64 ba, .int .i64 st, .int .i64 ca, .int .i64 ro, .int .i64 fl, .slice va vn vc, .slice none 0 0]) rfl (by kernel_rfl) (by kernel_rfl) (by kernel_rfl) (by kernel_rfl) (fun _ _ _ h => h) (Or.inl ⟨by rfl, fun w' hS => by go_simp⟩) hHeld ?_
      simp only [Act.put, List.setIfInBounds_toArray, List.set_cons_zero, List.set_cons_succ]
      refine takeD (i := 4) (d := 67) (v := .slice (some ⟨yb, 0, none⟩) N yc) rfl (by kernel_rfl) (by kernel_rfl) (by kernel_rfl) (by kernel_rfl) (fun _ _ _ h => h) (Or.inl ⟨by rfl, fun w' hS => by go_simp⟩) hHeld ?_
      simp only [Act.put, List.setIfInBounds_toArray, List.set_cons_zero, List.set_cons_succ]
      refine takeD (i := 5) (d := 68) (v := .slice (some ⟨yb, 1, none⟩) (N - 1) (yc - 1)) rfl (by kernel_rfl) (by kernel_rfl) (by kernel_rfl) (by kernel_rfl) (fun _ _ _ h => h) (Or.inl ⟨by rfl, fun w' hS => by (go_simp <;> (first | omega | (simp [hyc1]; omega) | simp_all))⟩) hHeld ?_
      simp only [Act.put, List.setIfInBounds_toArray, List.set_cons_zero, List.set_cons_succ]
      have hbD1 : Below w3.heap.size w3 w3.drew := drew_bel _
      have q0 := below_at hbD1 d0
      have q1 := below_at hbD1 d1
      have q2 := below_at hbD1 d2
      have q3 := below_at hbD1 d3
      have q4 := below_at hbD1 d4
      have q5 := below_at hbD1 d5
      have q6 := below_at hbD1 d6
      have q7 := below_at hbD1 d7
      generalize w3.drew = D1 at *
      refine wpAnyH_ready (rs := [6]) (by kernel_rfl) (by simp) ?_
      refine AllReadyH.cons rfl (fun K hK => ?_) AllReadyH.nil
      go_simp
      refine (HPq.out D1 hbD1).mono ?_
      rintro r6 w4 ⟨rfl, hb4⟩
      refine hK.out _ _ ⟨(below_at hb4 q0), (below_at hb4 q1), (below_at hb4 q2), (below_at hb4 q3), (below_at hb4 q4), (below_at hb4 q5), (below_at hb4 q6), (below_at hb4 q7)⟩ (fun hHeld => ?_)
      clear hK K
      refine takeD (i := 7) (d := 62) (v := .tuple #[.int .i64 tt4, .int .i64 dd4, .int .i64 180]) rfl (by kernel_rfl) (by kernel_rfl) (by kernel_rfl) (by kernel_rfl) (fun _ _ _ h => h) (Or.inl ⟨by rfl, fun w' hS => by go_simp⟩) hHeld ?_
      simp only [Act.put, List.setIfInBounds_toArray, List.set_cons_zero, List.set_cons_succ]
      refine takeD (i := 8) (d := 70) (v := .int .i64 tt4) rfl (by kernel_rfl) (by kernel_rfl) (by kernel_rfl) (by kernel_rfl) (fun _ _ _ h => h) (Or.inl ⟨by rfl, fun w' hS => by go_simp⟩) hHeld ?_
      simp only [Act.put, List.setIfInBounds_toArray, List.set_cons_zero, List.set_cons_succ]
      refine takeD (i := 9) (d := 71) (v := .int .i64 dd4) rfl (by kernel_rfl) (by kernel_rfl) (by kernel_rfl) (by kernel_rfl) (fun _ _ _ h => h) (Or.inl ⟨by rfl, fun w' hS => by go_simp⟩) hHeld ?_
      simp only [Act.put, List.setIfInBounds_toArray, List.set_cons_zero, List.set_cons_succ]
      refine takeD (i := 10) (d := 72) (v := .int .i64 180) rfl (by kernel_rfl) (by kernel_rfl) (by kernel_rfl) (by kernel_rfl) (fun _ _ _ h => h) (Or.inl ⟨by rfl, fun w' hS => by go_simp⟩) hHeld ?_
      simp only [Act.put, List.setIfInBounds_toArray, List.set_cons_zero, List.set_cons_succ]
      refine takeD (i := 11) (d := 8) (v := .int .i64 180) rfl (by kernel_rfl) (by kernel_rfl) (by kernel_rfl) (by kernel_rfl) (fun _ _ _ h => h) (Or.inl ⟨by rfl, fun w' hS => by go_simp⟩) hHeld ?_
      simp only [Act.put, List.setIfInBounds_toArray, List.set_cons_zero, List.set_cons_succ]
      refine wpAnyH_done (by kernel_rfl) ?_ _
      clear hHeld
      have HX4 : Hid (Below W.heap.size W w4) := (show Below _ _ _ from HX3.out.trans ((bstep hbD1 hb4).mono HX3.out.size))
      clear hbD1 hb4 HPq d0 d1 d2 d3 d4 d5 d6 d7
      try clear q0 q1 q2 q3 q4 q5 q6 q7
      clear HOY3 HX3
      obtain ⟨d0, d1, d2, d3, d4, d5, d6, d7, d8, d9⟩ := HCA.out w4 HX4.out
      obtain ⟨⟨tq, dq, xq⟩, hq⟩ : ∃ q : Int × Int × Int, pm 0 en N ba fl es ss = q := ⟨_, rfl⟩
      have HQ : Hid (pm 0 en N ba fl es ss = (tq, dq, xq)) := hq
      have HLp : Hid (Calls Try.prog 19 #[.agg #[.int .i64 (N : Int), .int .i64 wi, .int .i64 ba, .int .i64 st, .int .i64 ca, .int .i64 ro, .int .i64 fl, .slice va vn vc, .slice ea en ec, .slice so sn sc]] w4 fun e w' => e = .returned (.tuple #[.int .i64 tq, .int .i64 dq, .int .i64 xq, .bool true]) ∧ Below w4.heap.size w4 w') := (show Calls _ _ _ _ _  from by
        have h1 := lprem_any (N : Int) wi ba st ca ro fl va vn vc vs r 0 ea en ec es so sn sc ss w4 (HCf.out.below HX4.out) hvn (HEv.out.on HX4.out) (HSs.out.below HX4.out) hsn
        rw [hq] at h1
        exact h1)
      clear hq
      go_wp2_with fail
      refine HLp.out.mono ?_
      rintro e w5 ⟨rfl, hb5⟩
      have HX5 : Hid (Below W.heap.size W w5) := HX4.out.trans (hb5.mono HX4.out.size)
      clear hb5 HLp d0 d1 d2 d3 d4 d5 d6 d7 d8 d9
      obtain ⟨d0, d1, d2, d3, d4, d5, d6, d7, d8, d9⟩ := HCA.out w5 HX5.out
      have HCp : Hid (Calls Try.prog 8 #[.agg #[.int .i64 (N : Int), .int .i64 wi, .int .i64 ba, .int .i64 st, .int .i64 ca, .int .i64 ro, .int .i64 fl, .slice va vn vc, .slice ea en ec]] w5 fun r w' => ∃ (va' : Option Addr) (vc' : Nat) (ea' : Option Addr) (ec' : Nat) (es' : List Em), r = .returned (.agg #[.int .i64 (N : Int), .int .i64 wi, .int .i64 ba, .int .i64 st, .int .i64 ca, .int .i64 ro, .int .i64 fl, .slice va' vn vc', .slice ea' en ec']) ∧ OwI w' w5.heap.size (.slice va' vn vc') vs ∧ OwE w' w5.heap.size (.slice ea' en ec') es' ∧ Rws w' w5.heap.size es' ∧ Sms en es es' ∧ Below w5.heap.size w5 w') := copied_any (N : Int) wi ba st ca ro fl va vn vc vs ea en ec es w5 (HCf.out.rd.below HX5.out) hvn (HEv.out.on HX5.out)
      go_wp2_with fail
      refine HCp.out.mono ?_
      rintro e w6 ⟨va1, vc1, ea1, ec1, es1, rfl, o1, o2, o3, o4, hb2⟩
      clear d0 d1 d2 d3 d4 d5 d6 d7 d8 d9 HCp
      go_wp2_with (first | (refine wl_allocZ rfl 27 rfl zScr ?_) | fail)
      intro W2 k2 b2 s2
      go_wp2_with (first | (refine Ln.at_store 27 _ _ rfl ?_; refine wl_storeZ rfl 27 _ _ rfl (L := [.int .i64 (N : Int), .int .i64 wi, .int .i64 ba, .int .i64 st, .int .i64 ca, .int .i64 ro, .int .i64 fl, .slice va1 vn vc1, .slice ea1 en ec1]) rfl rfl k2 iScr rfl (one9 _ _ _ _ _ _ _ _ _ _ _ _ _ ) ?_) | fail)
      intro W3 k3 kk3
      have hsw1 : W.heap.size ≤ w5.heap.size := HX5.out.size
      have hz2 : W.heap.size ≤ w6.heap.size := Nat.le_trans hsw1 hb2.size
      have hbb : Below W.heap.size W W3 := ((HX5.out.trans (hb2.mono hsw1)).trans (b2.mono hz2)).trans (kn kk3 hz2 (by have := b2.size; omega))
      have hk2 : Below w6.heap.size w6 W3 := b2.trans (kn kk3 (Nat.le_refl _) b2.size)
      have hA3 : AS W W3 w6.heap.size N wi ba st ca ro fl va1 vn vc1 vs ea1 en ec1 es1 :=
        ⟨k3, Mb.own_lower (Mb.own_still o1 hk2) hsw1, Mb.own_lower (Mb.own_still o2 hk2) hsw1, (o3.keep (Mb.Kept.ofBelow hk2 (fun _ => False)) (fun j hj => hj.elim)).lower hsw1, o4.1, fun i hi => (by
          have h1 := (o3.sd _ (getD_mem (by rw [o4.1]; exact hi))).len
          have h2 := (o4.2 i hi).xs
          have h3 := (HEv.out.r.sd i hi)
          rw [← h1, h2, h3.1.1]
          exact h3.2), hbb, hz2⟩
      have HQ3 : Hid (pm 0 (en + 1) N ba fl (es1 ++ [evS 1 none 0 0 []]) ss = (tq, dq, xq)) := (show _ = _ from by rw [begins3 n2 o4.1 hen, pm_congr o4]; exact HQ.out)
      have HA3 : Hid (AS W W3 w6.heap.size N wi ba st ca ro fl va1 vn vc1 vs ea1 en ec1 es1) := hA3
      have htw : w.heap.size ≠ w6.heap.size := by omega
      clear hA3 hk2 hbb hz2 hsw1 o1 o2 o3 o4 hb2 k2 b2 s2 k3 kk3 HX5
      generalize w6.heap.size = tb at *
      have t8 : W3.cell? ⟨tb, 8, none⟩ = some (.slice ea1 en ec1) := blk_cell HA3.out.t 8
      have hml : es1.length = en := HA3.out.m
      have hzz : W.heap.size ≤ W3.heap.size := HA3.out.b.size
      go_wp2_with (first
    | (refine wl_buildZ rfl 36 _ rfl (built_eq (by kernel_rfl) (bEv1 1)) ?_)
    | (refine Go.Great.wpList_buildSliceTo rfl 25 36 1 _ rfl W3.heap.size rfl _ rfl Try.underlying25 (evS 1 none 0 0 []).cs.toArray (bsl_eq (by kernel_rfl) (builtSl _)) ?_)
    | (at_builtin; refine app_E rfl _ _ rfl rfl HA3.out.o (evS 1 none 0 0 []) rfl rfl (by rw [hml]; omega) hzz ?_)
    | fail)
      intro v8 X1 o8 kk8 _
      obtain ⟨ea2, ec2, hv8⟩ := ow_shape o8.out
      rw [List.length_append, hml] at hv8
      have hv8' : v8 = .slice ea2 (en + 1) ec2 := hv8
      clear hv8
      subst hv8'
      have kT1 := blk_app HA3.out.t HA3.out.o (by decide) kk8.out
      have t8b : X1.cell? ⟨tb, 8, none⟩ = some (.slice ea1 en ec1) := blk_cell kT1 8
      have z8 : X1.frozen? ⟨tb, 8, none⟩ = false := frozen_of_row X1 tb 8 _ _ kT1
      obtain ⟨X2, hX2⟩ : ∃ X2, X1.setCell ⟨tb, 8, none⟩ (.slice ea2 (en + 1) ec2) = X2 := ⟨_, rfl⟩
      have hA2 : AS W X2 tb N wi ba st ca ro fl va1 vn vc1 vs ea2 (en + 1) ec2 (es1 ++ [evS 1 none 0 0 []]) := HA3.out.add (e := evS 1 none 0 0 []) (ow_nil _ _ _ _) (ow_nil _ _ _ _) Ln.By.nil (show 0 ≤ 140737488355328 by omega) o8.out kk8.out hX2
      obtain ⟨l1, hl1⟩ : ∃ l1, es1 ++ [evS 1 none 0 0 []] = l1 := ⟨_, rfl⟩
      rw [hl1] at hA2 HQ3
      have HA2 : Hid (AS W X2 tb N wi ba st ca ro fl va1 vn vc1 vs ea2 (en + 1) ec2 l1) := hA2
      clear t8
      have t0 : X2.cell? ⟨tb, 0, none⟩ = some (.int .i64 (N : Int)) := blk_cell hA2.t 0
      have t1 : X2.cell? ⟨tb, 1, none⟩ = some (.int .i64 wi) := blk_cell hA2.t 1
      have t2 : X2.cell? ⟨tb, 2, none⟩ = some (.int .i64 ba) := blk_cell hA2.t 2
      have t3 : X2.cell? ⟨tb, 3, none⟩ = some (.int .i64 st) := blk_cell hA2.t 3
      have t4 : X2.cell? ⟨tb, 4, none⟩ = some (.int .i64 ca) := blk_cell hA2.t 4
      have t5 : X2.cell? ⟨tb, 5, none⟩ = some (.int .i64 ro) := blk_cell hA2.t 5
      have t6 : X2.cell? ⟨tb, 6, none⟩ = some (.int .i64 fl) := blk_cell hA2.t 6
      have t7 : X2.cell? ⟨tb, 7, none⟩ = some (.slice va1 vn vc1) := blk_cell hA2.t 7
      have t8 : X2.cell? ⟨tb, 8, none⟩ = some (.slice ea2 (en + 1) ec2) := blk_cell hA2.t 8
      have b9 : X2.cell? ⟨w.heap.size, 9, none⟩ = some (.slice so sn sc) := (HCA.out X2 hA2.b).2.2.2.2.2.2.2.2.2
      have HPa : Hid (Calls Try.prog 9 #[.agg #[.int .i64 (N : Int), .int .i64 wi, .int .i64 ba, .int .i64 st, .int .i64 ca, .int .i64 ro, .int .i64 fl, .slice va1 vn vc1, .slice ea2 (en + 1) ec2], .slice so sn sc] X2 fun e w' => e = .returned (.tuple #[.int .i64 tq, .int .i64 dq, .int .i64 xq]) ∧ Below X2.heap.size X2 w') := (show Calls _ _ _ _ _  from by
        have h1 := premise_any (N : Int) wi ba st ca ro fl va1 vn vc1 vs r 0 ea2 (en + 1) ec2 l1 so sn sc ss X2 ⟨hA2.v.ri, HCf.out.le, HCf.out.vt, HCf.out.er⟩ hA2.evr (HSs.out.below hA2.b) (by omega)
        rw [HQ3.out] at h1
        exact h1)
      clear hl1 hA2 kT1 kk8 o8 HA3 hml hzz HQ
      go_wp2_with fail
      refine HPa.out.mono ?_
      rintro e w8 ⟨rfl, hb8⟩
      have HA8 : Hid (AS W w8 tb N wi ba st ca ro fl va1 vn vc1 vs ea2 (en + 1) ec2 l1) := (show AS _ _ _ _ _ _ _ _ _ _ _ _ _ _ _ _ _ _  from HA2.out.on hb8)
      clear t8b z8 hX2 t0 t1 t2 t3 t4 t5 t6 t7 t8 b9 hb8 HPa HA2
      by_cases hxq : xq = 0
      case neg =>
        have hx1 : (xq == 0) = false := by rw [beq_eq_false_iff_ne]; exact hxq
        have hx2 : (xq != 0) = true := by simpa using hxq
        have HBq : Hid (Below w.heap.size w w8) := bst HB.out HA8.out.b
        clear hxq
        go_wp2_with fail
        go_ret
        exact ⟨rfl, HBq.out⟩
      subst hxq
      have t8 : w8.cell? ⟨tb, 8, none⟩ = some (.slice ea2 (en + 1) ec2) := blk_cell HA8.out.t 8
      have hml : l1.length = en + 1 := HA8.out.m
      have hzz : W.heap.size ≤ w8.heap.size := HA8.out.b.size
      go_wp2_with (first
    | (refine wl_buildZ rfl 36 _ rfl (built_eq (by kernel_rfl) (bEv1 12)) ?_)
    | (refine Go.Great.wpList_buildSliceTo rfl 25 36 1 _ rfl w8.heap.size rfl _ rfl Try.underlying25 (evS 12 none 0 0 []).cs.toArray (bsl_eq (by kernel_rfl) (builtSl _)) ?_)
    | (at_builtin; refine app_E rfl _ _ rfl rfl HA8.out.o (evS 12 none 0 0 []) rfl rfl (by rw [hml]; omega) hzz ?_)
    | fail)
      intro v8 X3 o8 kk8 _
      obtain ⟨ea3, ec3, hv8⟩ := ow_shape o8.out
      rw [List.length_append, hml] at hv8
      have hv8' : v8 = .slice ea3 (en + 1 + 1) ec3 := hv8
      clear hv8
      subst hv8'
      have kT1 := blk_app HA8.out.t HA8.out.o (by decide) kk8.out
      have t8b : X3.cell? ⟨tb, 8, none⟩ = some (.slice ea2 (en + 1) ec2) := blk_cell kT1 8
      have z8 : X3.frozen? ⟨tb, 8, none⟩ = false := frozen_of_row X3 tb 8 _ _ kT1
      obtain ⟨X9, hX9⟩ : ∃ X9, X3.setCell ⟨tb, 8, none⟩ (.slice ea3 (en + 1 + 1) ec3) = X9 := ⟨_, rfl⟩
      have hA9 : AS W X9 tb N wi ba st ca ro fl va1 vn vc1 vs ea3 (en + 1 + 1) ec3 (l1 ++ [evS 12 none 0 0 []]) := HA8.out.add (e := evS 12 none 0 0 []) (ow_nil _ _ _ _) (ow_nil _ _ _ _) Ln.By.nil (show 0 ≤ 140737488355328 by omega) o8.out kk8.out hX9
      have hb4 := begins4 (ba := ba) (fl := fl) n2 hml (by omega) (xs := ss) (by rw [HQ3.out])
      obtain ⟨l2, hl2⟩ : ∃ l2, l1 ++ [evS 12 none 0 0 []] = l2 := ⟨_, rfl⟩
      rw [hl2] at hA9 hb4
      have hml2 : l2.length = en + 1 + 1 := hA9.m
      have HB5 : Hid ((pm 0 (en + 1 + 1 + 1) N ba fl (l2 ++ [evC (ss.getD 0 0)]) ss).2.2 = 180) := (show _ = _ from begins5 n2 hml2 (by omega) hb4.2)
      have hsne : 0 < sn := by
        have h1 := pE_set (pm_zero hb4.2).1
        have h2 := HSs.out.1
        cases ss with
        | nil => simp [setB] at h1
        | cons x t => simp at h2; omega
      obtain ⟨⟨uq, gq, fq⟩, hqu⟩ : ∃ q : Int × Int × Int, pm 0 (en + 1 + 1) N ba fl l2 ss = q := ⟨_, rfl⟩
      rw [hqu] at hb4
      have huq : uq = ((en + 1 + 1 : Nat) : Int) := by
        have : uq = ((en + 1 : Nat) : Int) + 1 := hb4.1
        omega
      have hfq : fq = 0 := hb4.2
      subst huq
      subst hfq
      have HA9 : Hid (AS W X9 tb N wi ba st ca ro fl va1 vn vc1 vs ea3 (en + 1 + 1) ec3 l2) := hA9
      clear t8
      have t0 : X9.cell? ⟨tb, 0, none⟩ = some (.int .i64 (N : Int)) := blk_cell hA9.t 0
      have t1 : X9.cell? ⟨tb, 1, none⟩ = some (.int .i64 wi) := blk_cell hA9.t 1
      have t2 : X9.cell? ⟨tb, 2, none⟩ = some (.int .i64 ba) := blk_cell hA9.t 2
      have t3 : X9.cell? ⟨tb, 3, none⟩ = some (.int .i64 st) := blk_cell hA9.t 3
      have t4 : X9.cell? ⟨tb, 4, none⟩ = some (.int .i64 ca) := blk_cell hA9.t 4
      have t5 : X9.cell? ⟨tb, 5, none⟩ = some (.int .i64 ro) := blk_cell hA9.t 5
      have t6 : X9.cell? ⟨tb, 6, none⟩ = some (.int .i64 fl) := blk_cell hA9.t 6
      have t7 : X9.cell? ⟨tb, 7, none⟩ = some (.slice va1 vn vc1) := blk_cell hA9.t 7
      have t8 : X9.cell? ⟨tb, 8, none⟩ = some (.slice ea3 (en + 1 + 1) ec3) := blk_cell hA9.t 8
      have b9 : X9.cell? ⟨w.heap.size, 9, none⟩ = some (.slice so sn sc) := (HCA.out X9 hA9.b).2.2.2.2.2.2.2.2.2
      have HPb : Hid (Calls Try.prog 9 #[.agg #[.int .i64 (N : Int), .int .i64 wi, .int .i64 ba, .int .i64 st, .int .i64 ca, .int .i64 ro, .int .i64 fl, .slice va1 vn vc1, .slice ea3 (en + 1 + 1) ec3], .slice so sn sc] X9 fun e w' => e = .returned (.tuple #[.int .i64 ((en + 1 + 1 : Nat) : Int), .int .i64 gq, .int .i64 0]) ∧ Below X9.heap.size X9 w') := (show Calls _ _ _ _ _  from by
        have h1 := premise_any (N : Int) wi ba st ca ro fl va1 vn vc1 vs r 0 ea3 (en + 1 + 1) ec3 l2 so sn sc ss X9 ⟨hA9.v.ri, HCf.out.le, HCf.out.vt, HCf.out.er⟩ hA9.evr (HSs.out.below hA9.b) (by omega)
        rw [hqu] at h1
        exact h1)
      clear hl2 hA9 kT1 kk8 o8 HA8 hml hzz HQ3 hb4 hqu
      go_wp2_with fail
      refine HPb.out.mono ?_
      rintro e X4 ⟨rfl, hb10⟩
      have HA5 : Hid (AS W X4 tb N wi ba st ca ro fl va1 vn vc1 vs ea3 (en + 1 + 1) ec3 l2) := (show AS _ _ _ _ _ _ _ _ _ _ _ _ _ _ _ _ _ _  from HA9.out.on hb10)
      clear t8b z8 hX9 t0 t1 t2 t3 t4 t5 t6 t7 t8 b9 hb10 HPb HA9
      rcases HSs.out.2.2 with h0 | ⟨sb, sof, rfl, hsc⟩
      · omega
      have hsbW : sb < W.heap.size := World.block_lt_of_cell? W _ (hsc 0 hsne)
      have s0c : X4.cell? ⟨sb, sof, none⟩ = some (.int .i64 (ss.getD 0 0)) := belowB_at HA5.out.b hsbW (hsc 0 hsne)
      generalize ss.getD 0 0 = s0 at *
      have b9 : X4.cell? ⟨w.heap.size, 9, none⟩ = some (.slice (some ⟨sb, sof, none⟩) sn sc) := (HCA.out X4 HA5.out.b).2.2.2.2.2.2.2.2.2
      have t8 : X4.cell? ⟨tb, 8, none⟩ = some (.slice ea3 (en + 1 + 1) ec3) := blk_cell HA5.out.t 8
      have hml5 : l2.length = en + 1 + 1 := HA5.out.m
      have hnq1 : ¬ ((Value.slice ea3 (en + 1 + 1) ec3).ownBlock = some w.heap.size) := fun e => by have := (World.ownsRow.lt HA5.out.o _ e).1; omega
      have hnq2 : ¬ ((Value.slice ea3 (en + 1 + 1) ec3).ownBlock = some sb) := fun e => by have := (World.ownsRow.lt HA5.out.o _ e).1; omega
      have hntb1 : w.heap.size ≠ tb := by have := HA5.out.z; omega
      have hntb2 : sb ≠ tb := by have := HA5.out.z; omega
      have hsn1 : (0 : Int) < (sn : Int) := by omega
      clear hsc htw
      go_wp2_with fail
      refine wp_region_held_drew (S := (fun w' => w'.cell? ⟨w.heap.size, 9, none⟩ = some (.slice (some ⟨sb, sof, none⟩) sn sc) ∧ w'.cell? ⟨sb, sof, none⟩ = some (.int .i64 s0))) (by kernel_rfl) ⟨(below_at (drew_bel _) b9), (below_at (drew_bel _) s0c)⟩ (fun hHeld => ?_)
      simp only [Act.put, List.size_toArray, List.length_cons, List.length_nil, Nat.zero_add]
      refine takeD (i := 0) (d := 139) (v := .pointer (some ⟨tb, 8, none⟩)) rfl (by kernel_rfl) (by kernel_rfl) (by kernel_rfl) (by kernel_rfl) (fun _ _ _ h => h) (Or.inl ⟨by rfl, fun w' hS => by go_simp⟩) hHeld ?_
      simp only [Act.put, List.setIfInBounds_toArray, List.set_cons_zero, List.set_cons_succ]
      refine takeD (i := 2) (d := 141) (v := .pointer (some ⟨w.heap.size, 9, none⟩)) rfl (by kernel_rfl) (by kernel_rfl) (by kernel_rfl) (by kernel_rfl) (fun _ _ _ h => h) (Or.inl ⟨by rfl, fun w' hS => by go_simp⟩) hHeld ?_
      simp only [Act.put, List.setIfInBounds_toArray, List.set_cons_zero, List.set_cons_succ]
      refine takeD (i := 3) (d := 142) (v := .slice (some ⟨sb, sof, none⟩) sn sc) rfl (by kernel_rfl) (by kernel_rfl) (by kernel_rfl) (by kernel_rfl) (fun _ _ _ h => h) (Or.inl ⟨by rfl, fun w' hS => by (obtain ⟨s0, s1⟩ := hS; go_simp)⟩) hHeld ?_
      simp only [Act.put, List.setIfInBounds_toArray, List.set_cons_zero, List.set_cons_succ]
      refine takeD (i := 4) (d := 143) (v := .pointer (some ⟨sb, sof, none⟩)) rfl (by kernel_rfl) (by kernel_rfl) (by kernel_rfl) (by kernel_rfl) (fun _ _ _ h => h) (Or.inl ⟨by rfl, fun w' hS => by go_simp⟩) hHeld ?_
      simp only [Act.put, List.setIfInBounds_toArray, List.set_cons_zero, List.set_cons_succ]
      refine takeD (i := 5) (d := 144) (v := .int .i64 s0) rfl (by kernel_rfl) (by kernel_rfl) (by kernel_rfl) (by kernel_rfl) (fun _ _ _ h => h) (Or.inl ⟨by rfl, fun w' hS => by (obtain ⟨s0, s1⟩ := hS; go_simp)⟩) hHeld ?_
      simp only [Act.put, List.setIfInBounds_toArray, List.set_cons_zero, List.set_cons_succ]
      refine takeD (i := 6) (d := 145) (v := .agg ([.int .i64 5, .int .i64 s0, .int .i64 0, .int .i64 0, .slice none 0 0, .int .i64 0, .int .i64 0, .int .i64 0, .int .i64 0, .string ⟨#[]⟩, .string ⟨#[]⟩, .string ⟨#[]⟩, .slice none 0 0] : List Value).toArray) rfl (by kernel_rfl) (by kernel_rfl) (by kernel_rfl) (by kernel_rfl) (fun _ _ _ h => h) (Or.inl ⟨by rfl, fun w' hS => by (exact run_buildop 36 _ rfl _ (built_eq (by kernel_rfl) (bEvC s0)))⟩) hHeld ?_
      simp only [Act.put, List.setIfInBounds_toArray, List.set_cons_zero, List.set_cons_succ]
      have hbD1 : Below X4.heap.size X4 X4.drew := drew_bel _
      have q0 := below_at hbD1 b9
      have q1 := below_at hbD1 s0c
      have iq0 := below_at hbD1 t8
      generalize X4.drew = D1 at *
      refine wpAnyH_ready (rs := [1, 7]) (by kernel_rfl) (by simp) ?_
      refine AllReadyH.cons rfl (fun K hK => ?_) (AllReadyH.cons rfl (fun K hK => ?_) AllReadyH.nil)
      · have zim := iq0
        go_simp
        clear zim
        refine hK.out _ _ ⟨q0, q1⟩ (fun hHeld => ?_)
        clear hK K
        refine wpAnyH_ready (rs := [7]) (by kernel_rfl) (by simp) ?_
        refine AllReadyH.cons rfl (fun K hK => ?_) AllReadyH.nil
        go_simp
        refine hK.out _ _ ⟨(below_at (w' := D1.alloc (.cells ([.int .i64 5, .int .i64 s0, .int .i64 0, .int .i64 0, .slice none 0 0, .int .i64 0, .int .i64 0, .int .i64 0, .int .i64 0, .string ⟨#[]⟩, .string ⟨#[]⟩, .string ⟨#[]⟩, .slice none 0 0] : List Value).toArray 36)) (bsp _ _ _) q0), (below_at (w' := D1.alloc (.cells ([.int .i64 5, .int .i64 s0, .int .i64 0, .int .i64 0, .slice none 0 0, .int .i64 0, .int .i64 0, .int .i64 0, .int .i64 0, .string ⟨#[]⟩, .string ⟨#[]⟩, .string ⟨#[]⟩, .slice none 0 0] : List Value).toArray 36)) (bsp _ _ _) q1)⟩ (fun hHeld => ?_)
        clear hK K
        obtain ⟨wA, hwA⟩ : ∃ x, D1.alloc (.cells ([.int .i64 5, .int .i64 s0, .int .i64 0, .int .i64 0, .slice none 0 0, .int .i64 0, .int .i64 0, .int .i64 0, .int .i64 0, .string ⟨#[]⟩, .string ⟨#[]⟩, .string ⟨#[]⟩, .slice none 0 0] : List Value).toArray 36) = x := ⟨_, rfl⟩
        have hbA : Below D1.heap.size D1 wA := by rw [← hwA]; exact bsp _ _ _
        rw [hwA] at hHeld ⊢
        refine wpAnyH_ready (rs := [8]) (by kernel_rfl) (by simp) ?_
        refine AllReadyH.cons rfl (fun K hK => ?_) AllReadyH.nil
        refine step_E rfl _ _ rfl rfl (HA5.out.on hbD1).o (evC s0) hwA.symm rfl (by rw [hml5]; omega) (HA5.out.on hbD1).b.size ?_
        intro v9 X5 o9 kk9
        obtain ⟨ea4, ec4, hv9⟩ := ow_shape o9
        rw [List.length_append, hml5] at hv9
        have hv9' : v9 = .slice ea4 (en + 1 + 1 + 1) ec4 := hv9
        clear hv9
        subst hv9'
        have z9 := Ln.kept_cell kk9 hnq1 q0
        have zs := Ln.kept_cell kk9 hnq2 q1
        have kT5 := blk_app (HA5.out.on hbD1).t (HA5.out.on hbD1).o (by decide) kk9
        refine hK.out _ _ ⟨z9, zs⟩ (fun hHeld => ?_)
        clear hK K
        refine takeD (i := 9) (d := 148) (v := .pointer (some ⟨tb, 8, none⟩)) rfl (by kernel_rfl) (by kernel_rfl) (by kernel_rfl) (by kernel_rfl) (fun _ _ _ h => h) (Or.inl ⟨by rfl, fun w' hS => by go_simp⟩) hHeld ?_
        simp only [Act.put, List.setIfInBounds_toArray, List.set_cons_zero, List.set_cons_succ]
        refine wpAnyH_ready (rs := [10]) (by kernel_rfl) (by simp) ?_
        refine AllReadyH.cons rfl (fun K hK => ?_) AllReadyH.nil
        have z1 : X5.cell? ⟨tb, 8, none⟩ = some (.slice ea3 (en + 1 + 1) ec3) := blk_cell kT5 8
        have z2 : X5.frozen? ⟨tb, 8, none⟩ = false := frozen_of_row X5 tb 8 _ _ kT5
        go_simp
        refine hK.out _ _ ⟨(cell_ne hntb1 z9), (cell_ne hntb2 zs)⟩ (fun hHeld => ?_)
        clear hK K
        refine wpAnyH_done (by kernel_rfl) ?_ _
        clear hHeld
        have hA7 := (HA5.out.on hbD1).add (e := evC s0) (Y := X5.setCell ⟨tb, 8, none⟩ (.slice ea4 (en + 1 + 1 + 1) ec4)) (ow_nil _ _ _ _) (ow_nil _ _ _ _) Ln.By.nil (show 0 ≤ 140737488355328 by omega) o9 kk9 rfl
        have HA7 : Hid (AS W (X5.setCell ⟨tb, 8, none⟩ (.slice ea4 (en + 1 + 1 + 1) ec4)) tb N wi ba st ca ro fl va1 vn vc1 vs ea4 (en + 1 + 1 + 1) ec4 (l2 ++ [evC s0])) := hA7
        clear hA7 o9 kk9 kT5 z9 zs q0 q1 hwA hbA hbD1
        try clear z1 z2
        try clear iq0
        clear t8 b9 s0c
        generalize X5.setCell ⟨tb, 8, none⟩ (.slice ea4 (en + 1 + 1 + 1) ec4) = X7 at *
        have t0 : X7.cell? ⟨tb, 0, none⟩ = some (.int .i64 (N : Int)) := blk_cell HA7.out.t 0
        have t1 : X7.cell? ⟨tb, 1, none⟩ = some (.int .i64 wi) := blk_cell HA7.out.t 1
        have t2 : X7.cell? ⟨tb, 2, none⟩ = some (.int .i64 ba) := blk_cell HA7.out.t 2
        have t3 : X7.cell? ⟨tb, 3, none⟩ = some (.int .i64 st) := blk_cell HA7.out.t 3
        have t4 : X7.cell? ⟨tb, 4, none⟩ = some (.int .i64 ca) := blk_cell HA7.out.t 4
        have t5 : X7.cell? ⟨tb, 5, none⟩ = some (.int .i64 ro) := blk_cell HA7.out.t 5
        have t6 : X7.cell? ⟨tb, 6, none⟩ = some (.int .i64 fl) := blk_cell HA7.out.t 6
        have t7 : X7.cell? ⟨tb, 7, none⟩ = some (.slice va1 vn vc1) := blk_cell HA7.out.t 7
        have t8 : X7.cell? ⟨tb, 8, none⟩ = some (.slice ea4 (en + 1 + 1 + 1) ec4) := blk_cell HA7.out.t 8
        have b9 : X7.cell? ⟨w.heap.size, 9, none⟩ = some (.slice (some ⟨sb, sof, none⟩) sn sc) := (HCA.out X7 HA7.out.b).2.2.2.2.2.2.2.2.2
        obtain ⟨⟨t9, d9, x9⟩, hq9⟩ : ∃ q : Int × Int × Int, pm 0 (en + 1 + 1 + 1) N ba fl (l2 ++ [evC s0]) ss = q := ⟨_, rfl⟩
        have hx9 := HB5.out
        rw [hq9] at hx9
        have hx9' : x9 = 180 := hx9
        subst hx9'
        have HPz : Hid (Calls Try.prog 9 #[.agg #[.int .i64 (N : Int), .int .i64 wi, .int .i64 ba, .int .i64 st, .int .i64 ca, .int .i64 ro, .int .i64 fl, .slice va1 vn vc1, .slice ea4 (en + 1 + 1 + 1) ec4], .slice (some ⟨sb, sof, none⟩) sn sc] X7 fun e w' => e = .returned (.tuple #[.int .i64 t9, .int .i64 d9, .int .i64 180]) ∧ Below X7.heap.size X7 w') := (show Calls _ _ _ _ _  from by
          have h1 := premise_any (N : Int) wi ba st ca ro fl va1 vn vc1 vs r 0 ea4 (en + 1 + 1 + 1) ec4 (l2 ++ [evC s0]) (some ⟨sb, sof, none⟩) sn sc ss X7 ⟨HA7.out.v.ri, HCf.out.le, HCf.out.vt, HCf.out.er⟩ HA7.out.evr (HSs.out.below HA7.out.b) (by omega)
          rw [hq9] at h1
          exact h1)
        have HBz : Hid (Below W.heap.size W X7) := HA7.out.b
        clear hq9 hx9 HA7
        go_wp2_with fail
        refine HPz.out.mono ?_
        rintro e w9 ⟨rfl, hb9⟩
        have HBq : Hid (Below w.heap.size w w9) := bst HB.out (HBz.out.trans (hb9.mono HBz.out.size))
        clear hb9
        go_wp2_with fail
        go_ret
        exact ⟨rfl, HBq.out⟩
      · go_simp
        refine hK.out _ _ ⟨(below_at (w' := D1.alloc (.cells ([.int .i64 5, .int .i64 s0, .int .i64 0, .int .i64 0, .slice none 0 0, .int .i64 0, .int .i64 0, .int .i64 0, .int .i64 0, .string ⟨#[]⟩, .string ⟨#[]⟩, .string ⟨#[]⟩, .slice none 0 0] : List Value).toArray 36)) (bsp _ _ _) q0), (below_at (w' := D1.alloc (.cells ([.int .i64 5, .int .i64 s0, .int .i64 0, .int .i64 0, .slice none 0 0, .int .i64 0, .int .i64 0, .int .i64 0, .int .i64 0, .string ⟨#[]⟩, .string ⟨#[]⟩, .string ⟨#[]⟩, .slice none 0 0] : List Value).toArray 36)) (bsp _ _ _) q1)⟩ (fun hHeld => ?_)
        clear hK K
        obtain ⟨wA, hwA⟩ : ∃ x, D1.alloc (.cells ([.int .i64 5, .int .i64 s0, .int .i64 0, .int .i64 0, .slice none 0 0, .int .i64 0, .int .i64 0, .int .i64 0, .int .i64 0, .string ⟨#[]⟩, .string ⟨#[]⟩, .string ⟨#[]⟩, .slice none 0 0] : List Value).toArray 36) = x := ⟨_, rfl⟩
        have hbA : Below D1.heap.size D1 wA := by rw [← hwA]; exact bsp _ _ _
        rw [hwA] at hHeld ⊢
        refine wpAnyH_ready (rs := [1]) (by kernel_rfl) (by simp) ?_
        refine AllReadyH.cons rfl (fun K hK => ?_) AllReadyH.nil
        have zim := (below_at hbA iq0)
        go_simp
        clear zim
        refine hK.out _ _ ⟨(below_at hbA q0), (below_at hbA q1)⟩ (fun hHeld => ?_)
        clear hK K
        refine wpAnyH_ready (rs := [8]) (by kernel_rfl) (by simp) ?_
        refine AllReadyH.cons rfl (fun K hK => ?_) AllReadyH.nil
        refine step_E rfl _ _ rfl rfl (HA5.out.on hbD1).o (evC s0) hwA.symm rfl (by rw [hml5]; omega) (HA5.out.on hbD1).b.size ?_
        intro v9 X5 o9 kk9
        obtain ⟨ea4, ec4, hv9⟩ := ow_shape o9
        rw [List.length_append, hml5] at hv9
        have hv9' : v9 = .slice ea4 (en + 1 + 1 + 1) ec4 := hv9
        clear hv9
        subst hv9'
        have z9 := Ln.kept_cell kk9 hnq1 q0
        have zs := Ln.kept_cell kk9 hnq2 q1
        have kT5 := blk_app (HA5.out.on hbD1).t (HA5.out.on hbD1).o (by decide) kk9
        refine hK.out _ _ ⟨z9, zs⟩ (fun hHeld => ?_)
        clear hK K
        refine takeD (i := 9) (d := 148) (v := .pointer (some ⟨tb, 8, none⟩)) rfl (by kernel_rfl) (by kernel_rfl) (by kernel_rfl) (by kernel_rfl) (fun _ _ _ h => h) (Or.inl ⟨by rfl, fun w' hS => by go_simp⟩) hHeld ?_
        simp only [Act.put, List.setIfInBounds_toArray, List.set_cons_zero, List.set_cons_succ]
        refine wpAnyH_ready (rs := [10]) (by kernel_rfl) (by simp) ?_
        refine AllReadyH.cons rfl (fun K hK => ?_) AllReadyH.nil
        have z1 : X5.cell? ⟨tb, 8, none⟩ = some (.slice ea3 (en + 1 + 1) ec3) := blk_cell kT5 8
        have z2 : X5.frozen? ⟨tb, 8, none⟩ = false := frozen_of_row X5 tb 8 _ _ kT5
        go_simp
        refine hK.out _ _ ⟨(cell_ne hntb1 z9), (cell_ne hntb2 zs)⟩ (fun hHeld => ?_)
        clear hK K
        refine wpAnyH_done (by kernel_rfl) ?_ _
        clear hHeld
        have hA7 := (HA5.out.on hbD1).add (e := evC s0) (Y := X5.setCell ⟨tb, 8, none⟩ (.slice ea4 (en + 1 + 1 + 1) ec4)) (ow_nil _ _ _ _) (ow_nil _ _ _ _) Ln.By.nil (show 0 ≤ 140737488355328 by omega) o9 kk9 rfl
        have HA7 : Hid (AS W (X5.setCell ⟨tb, 8, none⟩ (.slice ea4 (en + 1 + 1 + 1) ec4)) tb N wi ba st ca ro fl va1 vn vc1 vs ea4 (en + 1 + 1 + 1) ec4 (l2 ++ [evC s0])) := hA7
        clear hA7 o9 kk9 kT5 z9 zs q0 q1 hwA hbA hbD1
        try clear z1 z2
        try clear iq0
        clear t8 b9 s0c
        generalize X5.setCell ⟨tb, 8, none⟩ (.slice ea4 (en + 1 + 1 + 1) ec4) = X7 at *
        have t0 : X7.cell? ⟨tb, 0, none⟩ = some (.int .i64 (N : Int)) := blk_cell HA7.out.t 0
        have t1 : X7.cell? ⟨tb, 1, none⟩ = some (.int .i64 wi) := blk_cell HA7.out.t 1
        have t2 : X7.cell? ⟨tb, 2, none⟩ = some (.int .i64 ba) := blk_cell HA7.out.t 2
        have t3 : X7.cell? ⟨tb, 3, none⟩ = some (.int .i64 st) := blk_cell HA7.out.t 3
        have t4 : X7.cell? ⟨tb, 4, none⟩ = some (.int .i64 ca) := blk_cell HA7.out.t 4
        have t5 : X7.cell? ⟨tb, 5, none⟩ = some (.int .i64 ro) := blk_cell HA7.out.t 5
        have t6 : X7.cell? ⟨tb, 6, none⟩ = some (.int .i64 fl) := blk_cell HA7.out.t 6
        have t7 : X7.cell? ⟨tb, 7, none⟩ = some (.slice va1 vn vc1) := blk_cell HA7.out.t 7
        have t8 : X7.cell? ⟨tb, 8, none⟩ = some (.slice ea4 (en + 1 + 1 + 1) ec4) := blk_cell HA7.out.t 8
        have b9 : X7.cell? ⟨w.heap.size, 9, none⟩ = some (.slice (some ⟨sb, sof, none⟩) sn sc) := (HCA.out X7 HA7.out.b).2.2.2.2.2.2.2.2.2
        obtain ⟨⟨t9, d9, x9⟩, hq9⟩ : ∃ q : Int × Int × Int, pm 0 (en + 1 + 1 + 1) N ba fl (l2 ++ [evC s0]) ss = q := ⟨_, rfl⟩
        have hx9 := HB5.out
        rw [hq9] at hx9
        have hx9' : x9 = 180 := hx9
        subst hx9'
        have HPz : Hid (Calls Try.prog 9 #[.agg #[.int .i64 (N : Int), .int .i64 wi, .int .i64 ba, .int .i64 st, .int .i64 ca, .int .i64 ro, .int .i64 fl, .slice va1 vn vc1, .slice ea4 (en + 1 + 1 + 1) ec4], .slice (some ⟨sb, sof, none⟩) sn sc] X7 fun e w' => e = .returned (.tuple #[.int .i64 t9, .int .i64 d9, .int .i64 180]) ∧ Below X7.heap.size X7 w') := (show Calls _ _ _ _ _  from by
          have h1 := premise_any (N : Int) wi ba st ca ro fl va1 vn vc1 vs r 0 ea4 (en + 1 + 1 + 1) ec4 (l2 ++ [evC s0]) (some ⟨sb, sof, none⟩) sn sc ss X7 ⟨HA7.out.v.ri, HCf.out.le, HCf.out.vt, HCf.out.er⟩ HA7.out.evr (HSs.out.below HA7.out.b) (by omega)
          rw [hq9] at h1
          exact h1)
        have HBz : Hid (Below W.heap.size W X7) := HA7.out.b
        clear hq9 hx9 HA7
        go_wp2_with fail
        refine HPz.out.mono ?_
        rintro e w9 ⟨rfl, hb9⟩
        have HBq : Hid (Below w.heap.size w w9) := bst HB.out (HBz.out.trans (hb9.mono HBz.out.size))
        clear hb9
        go_wp2_with fail
        go_ret
        exact ⟨rfl, HBq.out⟩
    · have k1 : ¬ (1 : Int) < (N : Int) := by omega
      clear HOY3
      obtain ⟨d0, d1, d2, d3, d4, d5, d6, d7, d8, d9⟩ := HCA.out w3 HX3.out
      obtain ⟨⟨tq, dq, xq⟩, hq⟩ : ∃ q : Int × Int × Int, pm 0 en N ba fl es ss = q := ⟨_, rfl⟩
      have HQ : Hid (pm 0 en N ba fl es ss = (tq, dq, xq)) := hq
      have HLp : Hid (Calls Try.prog 19 #[.agg #[.int .i64 (N : Int), .int .i64 wi, .int .i64 ba, .int .i64 st, .int .i64 ca, .int .i64 ro, .int .i64 fl, .slice va vn vc, .slice ea en ec, .slice so sn sc]] w3 fun e w' => e = .returned (.tuple #[.int .i64 tq, .int .i64 dq, .int .i64 xq, .bool true]) ∧ Below w3.heap.size w3 w') := (show Calls _ _ _ _ _  from by
        have h1 := lprem_any (N : Int) wi ba st ca ro fl va vn vc vs r 0 ea en ec es so sn sc ss w3 (HCf.out.below HX3.out) hvn (HEv.out.on HX3.out) (HSs.out.below HX3.out) hsn
        rw [hq] at h1
        exact h1)
      clear hq
      go_wp2_with fail
      refine HLp.out.mono ?_
      rintro e w5 ⟨rfl, hb5⟩
      have HX5 : Hid (Below W.heap.size W w5) := HX3.out.trans (hb5.mono HX3.out.size)
      clear hb5 HLp d0 d1 d2 d3 d4 d5 d6 d7 d8 d9
      obtain ⟨d0, d1, d2, d3, d4, d5, d6, d7, d8, d9⟩ := HCA.out w5 HX5.out
      have HCp : Hid (Calls Try.prog 8 #[.agg #[.int .i64 (N : Int), .int .i64 wi, .int .i64 ba, .int .i64 st, .int .i64 ca, .int .i64 ro, .int .i64 fl, .slice va vn vc, .slice ea en ec]] w5 fun r w' => ∃ (va' : Option Addr) (vc' : Nat) (ea' : Option Addr) (ec' : Nat) (es' : List Em), r = .returned (.agg #[.int .i64 (N : Int), .int .i64 wi, .int .i64 ba, .int .i64 st, .int .i64 ca, .int .i64 ro, .int .i64 fl, .slice va' vn vc', .slice ea' en ec']) ∧ OwI w' w5.heap.size (.slice va' vn vc') vs ∧ OwE w' w5.heap.size (.slice ea' en ec') es' ∧ Rws w' w5.heap.size es' ∧ Sms en es es' ∧ Below w5.heap.size w5 w') := copied_any (N : Int) wi ba st ca ro fl va vn vc vs ea en ec es w5 (HCf.out.rd.below HX5.out) hvn (HEv.out.on HX5.out)
      go_wp2_with fail
      refine HCp.out.mono ?_
      rintro e w6 ⟨va1, vc1, ea1, ec1, es1, rfl, o1, o2, o3, o4, hb2⟩
      clear d0 d1 d2 d3 d4 d5 d6 d7 d8 d9 HCp
      go_wp2_with (first | (refine wl_allocZ rfl 27 rfl zScr ?_) | fail)
      intro W2 k2 b2 s2
      go_wp2_with (first | (refine Ln.at_store 27 _ _ rfl ?_; refine wl_storeZ rfl 27 _ _ rfl (L := [.int .i64 (N : Int), .int .i64 wi, .int .i64 ba, .int .i64 st, .int .i64 ca, .int .i64 ro, .int .i64 fl, .slice va1 vn vc1, .slice ea1 en ec1]) rfl rfl k2 iScr rfl (one9 _ _ _ _ _ _ _ _ _ _ _ _ _ ) ?_) | fail)
      intro W3 k3 kk3
      have hsw1 : W.heap.size ≤ w5.heap.size := HX5.out.size
      have hz2 : W.heap.size ≤ w6.heap.size := Nat.le_trans hsw1 hb2.size
      have hbb : Below W.heap.size W W3 := ((HX5.out.trans (hb2.mono hsw1)).trans (b2.mono hz2)).trans (kn kk3 hz2 (by have := b2.size; omega))
      have hk2 : Below w6.heap.size w6 W3 := b2.trans (kn kk3 (Nat.le_refl _) b2.size)
      have hA3 : AS W W3 w6.heap.size N wi ba st ca ro fl va1 vn vc1 vs ea1 en ec1 es1 :=
        ⟨k3, Mb.own_lower (Mb.own_still o1 hk2) hsw1, Mb.own_lower (Mb.own_still o2 hk2) hsw1, (o3.keep (Mb.Kept.ofBelow hk2 (fun _ => False)) (fun j hj => hj.elim)).lower hsw1, o4.1, fun i hi => (by
          have h1 := (o3.sd _ (getD_mem (by rw [o4.1]; exact hi))).len
          have h2 := (o4.2 i hi).xs
          have h3 := (HEv.out.r.sd i hi)
          rw [← h1, h2, h3.1.1]
          exact h3.2), hbb, hz2⟩
      have HQ3 : Hid (pm 0 (en + 1) N ba fl (es1 ++ [evS 1 none 0 0 []]) ss = (tq, dq, xq)) := (show _ = _ from by rw [begins3 n2 o4.1 hen, pm_congr o4]; exact HQ.out)
      have HA3 : Hid (AS W W3 w6.heap.size N wi ba st ca ro fl va1 vn vc1 vs ea1 en ec1 es1) := hA3
      have htw : w.heap.size ≠ w6.heap.size := by omega
      clear hA3 hk2 hbb hz2 hsw1 o1 o2 o3 o4 hb2 k2 b2 s2 k3 kk3 HX5
      generalize w6.heap.size = tb at *
      have t8 : W3.cell? ⟨tb, 8, none⟩ = some (.slice ea1 en ec1) := blk_cell HA3.out.t 8
      have hml : es1.length = en := HA3.out.m
      have hzz : W.heap.size ≤ W3.heap.size := HA3.out.b.size
      go_wp2_with (first
    | (refine wl_buildZ rfl 36 _ rfl (built_eq (by kernel_rfl) (bEv1 1)) ?_)
    | (refine Go.Great.wpList_buildSliceTo rfl 25 36 1 _ rfl W3.heap.size rfl _ rfl Try.underlying25 (evS 1 none 0 0 []).cs.toArray (bsl_eq (by kernel_rfl) (builtSl _)) ?_)
    | (at_builtin; refine app_E rfl _ _ rfl rfl HA3.out.o (evS 1 none 0 0 []) rfl rfl (by rw [hml]; omega) hzz ?_)
    | fail)
      intro v8 X1 o8 kk8 _
      obtain ⟨ea2, ec2, hv8⟩ := ow_shape o8.out
      rw [List.length_append, hml] at hv8
      have hv8' : v8 = .slice ea2 (en + 1) ec2 := hv8
      clear hv8
      subst hv8'
      have kT1 := blk_app HA3.out.t HA3.out.o (by decide) kk8.out
      have t8b : X1.cell? ⟨tb, 8, none⟩ = some (.slice ea1 en ec1) := blk_cell kT1 8
      have z8 : X1.frozen? ⟨tb, 8, none⟩ = false := frozen_of_row X1 tb 8 _ _ kT1
      obtain ⟨X2, hX2⟩ : ∃ X2, X1.setCell ⟨tb, 8, none⟩ (.slice ea2 (en + 1) ec2) = X2 := ⟨_, rfl⟩
      have hA2 : AS W X2 tb N wi ba st ca ro fl va1 vn vc1 vs ea2 (en + 1) ec2 (es1 ++ [evS 1 none 0 0 []]) := HA3.out.add (e := evS 1 none 0 0 []) (ow_nil _ _ _ _) (ow_nil _ _ _ _) Ln.By.nil (show 0 ≤ 140737488355328 by omega) o8.out kk8.out hX2
      obtain ⟨l1, hl1⟩ : ∃ l1, es1 ++ [evS 1 none 0 0 []] = l1 := ⟨_, rfl⟩
      rw [hl1] at hA2 HQ3
      have HA2 : Hid (AS W X2 tb N wi ba st ca ro fl va1 vn vc1 vs ea2 (en + 1) ec2 l1) := hA2
      clear t8
      have t0 : X2.cell? ⟨tb, 0, none⟩ = some (.int .i64 (N : Int)) := blk_cell hA2.t 0
      have t1 : X2.cell? ⟨tb, 1, none⟩ = some (.int .i64 wi) := blk_cell hA2.t 1
      have t2 : X2.cell? ⟨tb, 2, none⟩ = some (.int .i64 ba) := blk_cell hA2.t 2
      have t3 : X2.cell? ⟨tb, 3, none⟩ = some (.int .i64 st) := blk_cell hA2.t 3
      have t4 : X2.cell? ⟨tb, 4, none⟩ = some (.int .i64 ca) := blk_cell hA2.t 4
      have t5 : X2.cell? ⟨tb, 5, none⟩ = some (.int .i64 ro) := blk_cell hA2.t 5
      have t6 : X2.cell? ⟨tb, 6, none⟩ = some (.int .i64 fl) := blk_cell hA2.t 6
      have t7 : X2.cell? ⟨tb, 7, none⟩ = some (.slice va1 vn vc1) := blk_cell hA2.t 7
      have t8 : X2.cell? ⟨tb, 8, none⟩ = some (.slice ea2 (en + 1) ec2) := blk_cell hA2.t 8
      have b9 : X2.cell? ⟨w.heap.size, 9, none⟩ = some (.slice so sn sc) := (HCA.out X2 hA2.b).2.2.2.2.2.2.2.2.2
      have HPa : Hid (Calls Try.prog 9 #[.agg #[.int .i64 (N : Int), .int .i64 wi, .int .i64 ba, .int .i64 st, .int .i64 ca, .int .i64 ro, .int .i64 fl, .slice va1 vn vc1, .slice ea2 (en + 1) ec2], .slice so sn sc] X2 fun e w' => e = .returned (.tuple #[.int .i64 tq, .int .i64 dq, .int .i64 xq]) ∧ Below X2.heap.size X2 w') := (show Calls _ _ _ _ _  from by
        have h1 := premise_any (N : Int) wi ba st ca ro fl va1 vn vc1 vs r 0 ea2 (en + 1) ec2 l1 so sn sc ss X2 ⟨hA2.v.ri, HCf.out.le, HCf.out.vt, HCf.out.er⟩ hA2.evr (HSs.out.below hA2.b) (by omega)
        rw [HQ3.out] at h1
        exact h1)
      clear hl1 hA2 kT1 kk8 o8 HA3 hml hzz HQ
      go_wp2_with fail
      refine HPa.out.mono ?_
      rintro e w8 ⟨rfl, hb8⟩
      have HA8 : Hid (AS W w8 tb N wi ba st ca ro fl va1 vn vc1 vs ea2 (en + 1) ec2 l1) := (show AS _ _ _ _ _ _ _ _ _ _ _ _ _ _ _ _ _ _  from HA2.out.on hb8)
      clear t8b z8 hX2 t0 t1 t2 t3 t4 t5 t6 t7 t8 b9 hb8 HPa HA2
      by_cases hxq : xq = 0
      case neg =>
        have hx1 : (xq == 0) = false := by rw [beq_eq_false_iff_ne]; exact hxq
        have hx2 : (xq != 0) = true := by simpa using hxq
        have HBq : Hid (Below w.heap.size w w8) := bst HB.out HA8.out.b
        clear hxq
        go_wp2_with fail
        go_ret
        exact ⟨rfl, HBq.out⟩
      subst hxq
      have t8 : w8.cell? ⟨tb, 8, none⟩ = some (.slice ea2 (en + 1) ec2) := blk_cell HA8.out.t 8
      have hml : l1.length = en + 1 := HA8.out.m
      have hzz : W.heap.size ≤ w8.heap.size := HA8.out.b.size
      go_wp2_with (first
    | (refine wl_buildZ rfl 36 _ rfl (built_eq (by kernel_rfl) (bEv1 12)) ?_)
    | (refine Go.Great.wpList_buildSliceTo rfl 25 36 1 _ rfl w8.heap.size rfl _ rfl Try.underlying25 (evS 12 none 0 0 []).cs.toArray (bsl_eq (by kernel_rfl) (builtSl _)) ?_)
    | (at_builtin; refine app_E rfl _ _ rfl rfl HA8.out.o (evS 12 none 0 0 []) rfl rfl (by rw [hml]; omega) hzz ?_)
    | fail)
      intro v8 X3 o8 kk8 _
      obtain ⟨ea3, ec3, hv8⟩ := ow_shape o8.out
      rw [List.length_append, hml] at hv8
      have hv8' : v8 = .slice ea3 (en + 1 + 1) ec3 := hv8
      clear hv8
      subst hv8'
      have kT1 := blk_app HA8.out.t HA8.out.o (by decide) kk8.out
      have t8b : X3.cell? ⟨tb, 8, none⟩ = some (.slice ea2 (en + 1) ec2) := blk_cell kT1 8
      have z8 : X3.frozen? ⟨tb, 8, none⟩ = false := frozen_of_row X3 tb 8 _ _ kT1
      obtain ⟨X9, hX9⟩ : ∃ X9, X3.setCell ⟨tb, 8, none⟩ (.slice ea3 (en + 1 + 1) ec3) = X9 := ⟨_, rfl⟩
      have hA9 : AS W X9 tb N wi ba st ca ro fl va1 vn vc1 vs ea3 (en + 1 + 1) ec3 (l1 ++ [evS 12 none 0 0 []]) := HA8.out.add (e := evS 12 none 0 0 []) (ow_nil _ _ _ _) (ow_nil _ _ _ _) Ln.By.nil (show 0 ≤ 140737488355328 by omega) o8.out kk8.out hX9
      have hb4 := begins4 (ba := ba) (fl := fl) n2 hml (by omega) (xs := ss) (by rw [HQ3.out])
      obtain ⟨l2, hl2⟩ : ∃ l2, l1 ++ [evS 12 none 0 0 []] = l2 := ⟨_, rfl⟩
      rw [hl2] at hA9 hb4
      have hml2 : l2.length = en + 1 + 1 := hA9.m
      have HB5 : Hid ((pm 0 (en + 1 + 1 + 1) N ba fl (l2 ++ [evC (ss.getD 0 0)]) ss).2.2 = 180) := (show _ = _ from begins5 n2 hml2 (by omega) hb4.2)
      have hsne : 0 < sn := by
        have h1 := pE_set (pm_zero hb4.2).1
        have h2 := HSs.out.1
        cases ss with
        | nil => simp [setB] at h1
        | cons x t => simp at h2; omega
      obtain ⟨⟨uq, gq, fq⟩, hqu⟩ : ∃ q : Int × Int × Int, pm 0 (en + 1 + 1) N ba fl l2 ss = q := ⟨_, rfl⟩
      rw [hqu] at hb4
      have huq : uq = ((en + 1 + 1 : Nat) : Int) := by
        have : uq = ((en + 1 : Nat) : Int) + 1 := hb4.1
        omega
      have hfq : fq = 0 := hb4.2
      subst huq
      subst hfq
      have HA9 : Hid (AS W X9 tb N wi ba st ca ro fl va1 vn vc1 vs ea3 (en + 1 + 1) ec3 l2) := hA9
      clear t8
      have t0 : X9.cell? ⟨tb, 0, none⟩ = some (.int .i64 (N : Int)) := blk_cell hA9.t 0
      have t1 : X9.cell? ⟨tb, 1, none⟩ = some (.int .i64 wi) := blk_cell hA9.t 1
      have t2 : X9.cell? ⟨tb, 2, none⟩ = some (.int .i64 ba) := blk_cell hA9.t 2
      have t3 : X9.cell? ⟨tb, 3, none⟩ = some (.int .i64 st) := blk_cell hA9.t 3
      have t4 : X9.cell? ⟨tb, 4, none⟩ = some (.int .i64 ca) := blk_cell hA9.t 4
      have t5 : X9.cell? ⟨tb, 5, none⟩ = some (.int .i64 ro) := blk_cell hA9.t 5
      have t6 : X9.cell? ⟨tb, 6, none⟩ = some (.int .i64 fl) := blk_cell hA9.t 6
      have t7 : X9.cell? ⟨tb, 7, none⟩ = some (.slice va1 vn vc1) := blk_cell hA9.t 7
      have t8 : X9.cell? ⟨tb, 8, none⟩ = some (.slice ea3 (en + 1 + 1) ec3) := blk_cell hA9.t 8
      have b9 : X9.cell? ⟨w.heap.size, 9, none⟩ = some (.slice so sn sc) := (HCA.out X9 hA9.b).2.2.2.2.2.2.2.2.2
      have HPb : Hid (Calls Try.prog 9 #[.agg #[.int .i64 (N : Int), .int .i64 wi, .int .i64 ba, .int .i64 st, .int .i64 ca, .int .i64 ro, .int .i64 fl, .slice va1 vn vc1, .slice ea3 (en + 1 + 1) ec3], .slice so sn sc] X9 fun e w' => e = .returned (.tuple #[.int .i64 ((en + 1 + 1 : Nat) : Int), .int .i64 gq, .int .i64 0]) ∧ Below X9.heap.size X9 w') := (show Calls _ _ _ _ _  from by
        have h1 := premise_any (N : Int) wi ba st ca ro fl va1 vn vc1 vs r 0 ea3 (en + 1 + 1) ec3 l2 so sn sc ss X9 ⟨hA9.v.ri, HCf.out.le, HCf.out.vt, HCf.out.er⟩ hA9.evr (HSs.out.below hA9.b) (by omega)
        rw [hqu] at h1
        exact h1)
      clear hl2 hA9 kT1 kk8 o8 HA8 hml hzz HQ3 hb4 hqu
      go_wp2_with fail
      refine HPb.out.mono ?_
      rintro e X4 ⟨rfl, hb10⟩
      have HA5 : Hid (AS W X4 tb N wi ba st ca ro fl va1 vn vc1 vs ea3 (en + 1 + 1) ec3 l2) := (show AS _ _ _ _ _ _ _ _ _ _ _ _ _ _ _ _ _ _  from HA9.out.on hb10)
      clear t8b z8 hX9 t0 t1 t2 t3 t4 t5 t6 t7 t8 b9 hb10 HPb HA9
      rcases HSs.out.2.2 with h0 | ⟨sb, sof, rfl, hsc⟩
      · omega
      have hsbW : sb < W.heap.size := World.block_lt_of_cell? W _ (hsc 0 hsne)
      have s0c : X4.cell? ⟨sb, sof, none⟩ = some (.int .i64 (ss.getD 0 0)) := belowB_at HA5.out.b hsbW (hsc 0 hsne)
      generalize ss.getD 0 0 = s0 at *
      have b9 : X4.cell? ⟨w.heap.size, 9, none⟩ = some (.slice (some ⟨sb, sof, none⟩) sn sc) := (HCA.out X4 HA5.out.b).2.2.2.2.2.2.2.2.2
      have t8 : X4.cell? ⟨tb, 8, none⟩ = some (.slice ea3 (en + 1 + 1) ec3) := blk_cell HA5.out.t 8
      have hml5 : l2.length = en + 1 + 1 := HA5.out.m
      have hnq1 : ¬ ((Value.slice ea3 (en + 1 + 1) ec3).ownBlock = some w.heap.size) := fun e => by have := (World.ownsRow.lt HA5.out.o _ e).1; omega
      have hnq2 : ¬ ((Value.slice ea3 (en + 1 + 1) ec3).ownBlock = some sb) := fun e => by have := (World.ownsRow.lt HA5.out.o _ e).1; omega
      have hntb1 : w.heap.size ≠ tb := by have := HA5.out.z; omega
      have hntb2 : sb ≠ tb := by have := HA5.out.z; omega
      have hsn1 : (0 : Int) < (sn : Int) := by omega
      clear hsc htw
      go_wp2_with fail
      refine wp_region_held_drew (S := (fun w' => w'.cell? ⟨w.heap.size, 9, none⟩ = some (.slice (some ⟨sb, sof, none⟩) sn sc) ∧ w'.cell? ⟨sb, sof, none⟩ = some (.int .i64 s0))) (by kernel_rfl) ⟨(below_at (drew_bel _) b9), (below_at (drew_bel _) s0c)⟩ (fun hHeld => ?_)
      simp only [Act.put, List.size_toArray, List.length_cons, List.length_nil, Nat.zero_add]
      refine takeD (i := 0) (d := 139) (v := .pointer (some ⟨tb, 8, none⟩)) rfl (by kernel_rfl) (by kernel_rfl) (by kernel_rfl) (by kernel_rfl) (fun _ _ _ h => h) (Or.inl ⟨by rfl, fun w' hS => by go_simp⟩) hHeld ?_
      simp only [Act.put, List.setIfInBounds_toArray, List.set_cons_zero, List.set_cons_succ]
      refine takeD (i := 2) (d := 141) (v := .pointer (some ⟨w.heap.size, 9, none⟩)) rfl (by kernel_rfl) (by kernel_rfl) (by kernel_rfl) (by kernel_rfl) (fun _ _ _ h => h) (Or.inl ⟨by rfl, fun w' hS => by go_simp⟩) hHeld ?_
      simp only [Act.put, List.setIfInBounds_toArray, List.set_cons_zero, List.set_cons_succ]
      refine takeD (i := 3) (d := 142) (v := .slice (some ⟨sb, sof, none⟩) sn sc) rfl (by kernel_rfl) (by kernel_rfl) (by kernel_rfl) (by kernel_rfl) (fun _ _ _ h => h) (Or.inl ⟨by rfl, fun w' hS => by (obtain ⟨s0, s1⟩ := hS; go_simp)⟩) hHeld ?_
      simp only [Act.put, List.setIfInBounds_toArray, List.set_cons_zero, List.set_cons_succ]
      refine takeD (i := 4) (d := 143) (v := .pointer (some ⟨sb, sof, none⟩)) rfl (by kernel_rfl) (by kernel_rfl) (by kernel_rfl) (by kernel_rfl) (fun _ _ _ h => h) (Or.inl ⟨by rfl, fun w' hS => by go_simp⟩) hHeld ?_
      simp only [Act.put, List.setIfInBounds_toArray, List.set_cons_zero, List.set_cons_succ]
      refine takeD (i := 5) (d := 144) (v := .int .i64 s0) rfl (by kernel_rfl) (by kernel_rfl) (by kernel_rfl) (by kernel_rfl) (fun _ _ _ h => h) (Or.inl ⟨by rfl, fun w' hS => by (obtain ⟨s0, s1⟩ := hS; go_simp)⟩) hHeld ?_
      simp only [Act.put, List.setIfInBounds_toArray, List.set_cons_zero, List.set_cons_succ]
      refine takeD (i := 6) (d := 145) (v := .agg ([.int .i64 5, .int .i64 s0, .int .i64 0, .int .i64 0, .slice none 0 0, .int .i64 0, .int .i64 0, .int .i64 0, .int .i64 0, .string ⟨#[]⟩, .string ⟨#[]⟩, .string ⟨#[]⟩, .slice none 0 0] : List Value).toArray) rfl (by kernel_rfl) (by kernel_rfl) (by kernel_rfl) (by kernel_rfl) (fun _ _ _ h => h) (Or.inl ⟨by rfl, fun w' hS => by (exact run_buildop 36 _ rfl _ (built_eq (by kernel_rfl) (bEvC s0)))⟩) hHeld ?_
      simp only [Act.put, List.setIfInBounds_toArray, List.set_cons_zero, List.set_cons_succ]
      have hbD1 : Below X4.heap.size X4 X4.drew := drew_bel _
      have q0 := below_at hbD1 b9
      have q1 := below_at hbD1 s0c
      have iq0 := below_at hbD1 t8
      generalize X4.drew = D1 at *
      refine wpAnyH_ready (rs := [1, 7]) (by kernel_rfl) (by simp) ?_
      refine AllReadyH.cons rfl (fun K hK => ?_) (AllReadyH.cons rfl (fun K hK => ?_) AllReadyH.nil)
      · have zim := iq0
        go_simp
        clear zim
        refine hK.out _ _ ⟨q0, q1⟩ (fun hHeld => ?_)
        clear hK K
        refine wpAnyH_ready (rs := [7]) (by kernel_rfl) (by simp) ?_
        refine AllReadyH.cons rfl (fun K hK => ?_) AllReadyH.nil
        go_simp
        refine hK.out _ _ ⟨(below_at (w' := D1.alloc (.cells ([.int .i64 5, .int .i64 s0, .int .i64 0, .int .i64 0, .slice none 0 0, .int .i64 0, .int .i64 0, .int .i64 0, .int .i64 0, .string ⟨#[]⟩, .string ⟨#[]⟩, .string ⟨#[]⟩, .slice none 0 0] : List Value).toArray 36)) (bsp _ _ _) q0), (below_at (w' := D1.alloc (.cells ([.int .i64 5, .int .i64 s0, .int .i64 0, .int .i64 0, .slice none 0 0, .int .i64 0, .int .i64 0, .int .i64 0, .int .i64 0, .string ⟨#[]⟩, .string ⟨#[]⟩, .string ⟨#[]⟩, .slice none 0 0] : List Value).toArray 36)) (bsp _ _ _) q1)⟩ (fun hHeld => ?_)
        clear hK K
        obtain ⟨wA, hwA⟩ : ∃ x, D1.alloc (.cells ([.int .i64 5, .int .i64 s0, .int .i64 0, .int .i64 0, .slice none 0 0, .int .i64 0, .int .i64 0, .int .i64 0, .int .i64 0, .string ⟨#[]⟩, .string ⟨#[]⟩, .string ⟨#[]⟩, .slice none 0 0] : List Value).toArray 36) = x := ⟨_, rfl⟩
        have hbA : Below D1.heap.size D1 wA := by rw [← hwA]; exact bsp _ _ _
        rw [hwA] at hHeld ⊢
        refine wpAnyH_ready (rs := [8]) (by kernel_rfl) (by simp) ?_
        refine AllReadyH.cons rfl (fun K hK => ?_) AllReadyH.nil
        refine step_E rfl _ _ rfl rfl (HA5.out.on hbD1).o (evC s0) hwA.symm rfl (by rw [hml5]; omega) (HA5.out.on hbD1).b.size ?_
        intro v9 X5 o9 kk9
        obtain ⟨ea4, ec4, hv9⟩ := ow_shape o9
        rw [List.length_append, hml5] at hv9
        have hv9' : v9 = .slice ea4 (en + 1 + 1 + 1) ec4 := hv9
        clear hv9
        subst hv9'
        have z9 := Ln.kept_cell kk9 hnq1 q0
        have zs := Ln.kept_cell kk9 hnq2 q1
        have kT5 := blk_app (HA5.out.on hbD1).t (HA5.out.on hbD1).o (by decide) kk9
        refine hK.out _ _ ⟨z9, zs⟩ (fun hHeld => ?_)
        clear hK K
        refine takeD (i := 9) (d := 148) (v := .pointer (some ⟨tb, 8, none⟩)) rfl (by kernel_rfl) (by kernel_rfl) (by kernel_rfl) (by kernel_rfl) (fun _ _ _ h => h) (Or.inl ⟨by rfl, fun w' hS => by go_simp⟩) hHeld ?_
        simp only [Act.put, List.setIfInBounds_toArray, List.set_cons_zero, List.set_cons_succ]
        refine wpAnyH_ready (rs := [10]) (by kernel_rfl) (by simp) ?_
        refine AllReadyH.cons rfl (fun K hK => ?_) AllReadyH.nil
        have z1 : X5.cell? ⟨tb, 8, none⟩ = some (.slice ea3 (en + 1 + 1) ec3) := blk_cell kT5 8
        have z2 : X5.frozen? ⟨tb, 8, none⟩ = false := frozen_of_row X5 tb 8 _ _ kT5
        go_simp
        refine hK.out _ _ ⟨(cell_ne hntb1 z9), (cell_ne hntb2 zs)⟩ (fun hHeld => ?_)
        clear hK K
        refine wpAnyH_done (by kernel_rfl) ?_ _
        clear hHeld
        have hA7 := (HA5.out.on hbD1).add (e := evC s0) (Y := X5.setCell ⟨tb, 8, none⟩ (.slice ea4 (en + 1 + 1 + 1) ec4)) (ow_nil _ _ _ _) (ow_nil _ _ _ _) Ln.By.nil (show 0 ≤ 140737488355328 by omega) o9 kk9 rfl
        have HA7 : Hid (AS W (X5.setCell ⟨tb, 8, none⟩ (.slice ea4 (en + 1 + 1 + 1) ec4)) tb N wi ba st ca ro fl va1 vn vc1 vs ea4 (en + 1 + 1 + 1) ec4 (l2 ++ [evC s0])) := hA7
        clear hA7 o9 kk9 kT5 z9 zs q0 q1 hwA hbA hbD1
        try clear z1 z2
        try clear iq0
        clear t8 b9 s0c
        generalize X5.setCell ⟨tb, 8, none⟩ (.slice ea4 (en + 1 + 1 + 1) ec4) = X7 at *
        have t0 : X7.cell? ⟨tb, 0, none⟩ = some (.int .i64 (N : Int)) := blk_cell HA7.out.t 0
        have t1 : X7.cell? ⟨tb, 1, none⟩ = some (.int .i64 wi) := blk_cell HA7.out.t 1
        have t2 : X7.cell? ⟨tb, 2, none⟩ = some (.int .i64 ba) := blk_cell HA7.out.t 2
        have t3 : X7.cell? ⟨tb, 3, none⟩ = some (.int .i64 st) := blk_cell HA7.out.t 3
        have t4 : X7.cell? ⟨tb, 4, none⟩ = some (.int .i64 ca) := blk_cell HA7.out.t 4
        have t5 : X7.cell? ⟨tb, 5, none⟩ = some (.int .i64 ro) := blk_cell HA7.out.t 5
        have t6 : X7.cell? ⟨tb, 6, none⟩ = some (.int .i64 fl) := blk_cell HA7.out.t 6
        have t7 : X7.cell? ⟨tb, 7, none⟩ = some (.slice va1 vn vc1) := blk_cell HA7.out.t 7
        have t8 : X7.cell? ⟨tb, 8, none⟩ = some (.slice ea4 (en + 1 + 1 + 1) ec4) := blk_cell HA7.out.t 8
        have b9 : X7.cell? ⟨w.heap.size, 9, none⟩ = some (.slice (some ⟨sb, sof, none⟩) sn sc) := (HCA.out X7 HA7.out.b).2.2.2.2.2.2.2.2.2
        obtain ⟨⟨t9, d9, x9⟩, hq9⟩ : ∃ q : Int × Int × Int, pm 0 (en + 1 + 1 + 1) N ba fl (l2 ++ [evC s0]) ss = q := ⟨_, rfl⟩
        have hx9 := HB5.out
        rw [hq9] at hx9
        have hx9' : x9 = 180 := hx9
        subst hx9'
        have HPz : Hid (Calls Try.prog 9 #[.agg #[.int .i64 (N : Int), .int .i64 wi, .int .i64 ba, .int .i64 st, .int .i64 ca, .int .i64 ro, .int .i64 fl, .slice va1 vn vc1, .slice ea4 (en + 1 + 1 + 1) ec4], .slice (some ⟨sb, sof, none⟩) sn sc] X7 fun e w' => e = .returned (.tuple #[.int .i64 t9, .int .i64 d9, .int .i64 180]) ∧ Below X7.heap.size X7 w') := (show Calls _ _ _ _ _  from by
          have h1 := premise_any (N : Int) wi ba st ca ro fl va1 vn vc1 vs r 0 ea4 (en + 1 + 1 + 1) ec4 (l2 ++ [evC s0]) (some ⟨sb, sof, none⟩) sn sc ss X7 ⟨HA7.out.v.ri, HCf.out.le, HCf.out.vt, HCf.out.er⟩ HA7.out.evr (HSs.out.below HA7.out.b) (by omega)
          rw [hq9] at h1
          exact h1)
        have HBz : Hid (Below W.heap.size W X7) := HA7.out.b
        clear hq9 hx9 HA7
        go_wp2_with fail
        refine HPz.out.mono ?_
        rintro e w9 ⟨rfl, hb9⟩
        have HBq : Hid (Below w.heap.size w w9) := bst HB.out (HBz.out.trans (hb9.mono HBz.out.size))
        clear hb9
        go_wp2_with fail
        go_ret
        exact ⟨rfl, HBq.out⟩
      · go_simp
        refine hK.out _ _ ⟨(below_at (w' := D1.alloc (.cells ([.int .i64 5, .int .i64 s0, .int .i64 0, .int .i64 0, .slice none 0 0, .int .i64 0, .int .i64 0, .int .i64 0, .int .i64 0, .string ⟨#[]⟩, .string ⟨#[]⟩, .string ⟨#[]⟩, .slice none 0 0] : List Value).toArray 36)) (bsp _ _ _) q0), (below_at (w' := D1.alloc (.cells ([.int .i64 5, .int .i64 s0, .int .i64 0, .int .i64 0, .slice none 0 0, .int .i64 0, .int .i64 0, .int .i64 0, .int .i64 0, .string ⟨#[]⟩, .string ⟨#[]⟩, .string ⟨#[]⟩, .slice none 0 0] : List Value).toArray 36)) (bsp _ _ _) q1)⟩ (fun hHeld => ?_)
        clear hK K
        obtain ⟨wA, hwA⟩ : ∃ x, D1.alloc (.cells ([.int .i64 5, .int .i64 s0, .int .i64 0, .int .i64 0, .slice none 0 0, .int .i64 0, .int .i64 0, .int .i64 0, .int .i64 0, .string ⟨#[]⟩, .string ⟨#[]⟩, .string ⟨#[]⟩, .slice none 0 0] : List Value).toArray 36) = x := ⟨_, rfl⟩
        have hbA : Below D1.heap.size D1 wA := by rw [← hwA]; exact bsp _ _ _
        rw [hwA] at hHeld ⊢
        refine wpAnyH_ready (rs := [1]) (by kernel_rfl) (by simp) ?_
        refine AllReadyH.cons rfl (fun K hK => ?_) AllReadyH.nil
        have zim := (below_at hbA iq0)
        go_simp
        clear zim
        refine hK.out _ _ ⟨(below_at hbA q0), (below_at hbA q1)⟩ (fun hHeld => ?_)
        clear hK K
        refine wpAnyH_ready (rs := [8]) (by kernel_rfl) (by simp) ?_
        refine AllReadyH.cons rfl (fun K hK => ?_) AllReadyH.nil
        refine step_E rfl _ _ rfl rfl (HA5.out.on hbD1).o (evC s0) hwA.symm rfl (by rw [hml5]; omega) (HA5.out.on hbD1).b.size ?_
        intro v9 X5 o9 kk9
        obtain ⟨ea4, ec4, hv9⟩ := ow_shape o9
        rw [List.length_append, hml5] at hv9
        have hv9' : v9 = .slice ea4 (en + 1 + 1 + 1) ec4 := hv9
        clear hv9
        subst hv9'
        have z9 := Ln.kept_cell kk9 hnq1 q0
        have zs := Ln.kept_cell kk9 hnq2 q1
        have kT5 := blk_app (HA5.out.on hbD1).t (HA5.out.on hbD1).o (by decide) kk9
        refine hK.out _ _ ⟨z9, zs⟩ (fun hHeld => ?_)
        clear hK K
        refine takeD (i := 9) (d := 148) (v := .pointer (some ⟨tb, 8, none⟩)) rfl (by kernel_rfl) (by kernel_rfl) (by kernel_rfl) (by kernel_rfl) (fun _ _ _ h => h) (Or.inl ⟨by rfl, fun w' hS => by go_simp⟩) hHeld ?_
        simp only [Act.put, List.setIfInBounds_toArray, List.set_cons_zero, List.set_cons_succ]
        refine wpAnyH_ready (rs := [10]) (by kernel_rfl) (by simp) ?_
        refine AllReadyH.cons rfl (fun K hK => ?_) AllReadyH.nil
        have z1 : X5.cell? ⟨tb, 8, none⟩ = some (.slice ea3 (en + 1 + 1) ec3) := blk_cell kT5 8
        have z2 : X5.frozen? ⟨tb, 8, none⟩ = false := frozen_of_row X5 tb 8 _ _ kT5
        go_simp
        refine hK.out _ _ ⟨(cell_ne hntb1 z9), (cell_ne hntb2 zs)⟩ (fun hHeld => ?_)
        clear hK K
        refine wpAnyH_done (by kernel_rfl) ?_ _
        clear hHeld
        have hA7 := (HA5.out.on hbD1).add (e := evC s0) (Y := X5.setCell ⟨tb, 8, none⟩ (.slice ea4 (en + 1 + 1 + 1) ec4)) (ow_nil _ _ _ _) (ow_nil _ _ _ _) Ln.By.nil (show 0 ≤ 140737488355328 by omega) o9 kk9 rfl
        have HA7 : Hid (AS W (X5.setCell ⟨tb, 8, none⟩ (.slice ea4 (en + 1 + 1 + 1) ec4)) tb N wi ba st ca ro fl va1 vn vc1 vs ea4 (en + 1 + 1 + 1) ec4 (l2 ++ [evC s0])) := hA7
        clear hA7 o9 kk9 kT5 z9 zs q0 q1 hwA hbA hbD1
        try clear z1 z2
        try clear iq0
        clear t8 b9 s0c
        generalize X5.setCell ⟨tb, 8, none⟩ (.slice ea4 (en + 1 + 1 + 1) ec4) = X7 at *
        have t0 : X7.cell? ⟨tb, 0, none⟩ = some (.int .i64 (N : Int)) := blk_cell HA7.out.t 0
        have t1 : X7.cell? ⟨tb, 1, none⟩ = some (.int .i64 wi) := blk_cell HA7.out.t 1
        have t2 : X7.cell? ⟨tb, 2, none⟩ = some (.int .i64 ba) := blk_cell HA7.out.t 2
        have t3 : X7.cell? ⟨tb, 3, none⟩ = some (.int .i64 st) := blk_cell HA7.out.t 3
        have t4 : X7.cell? ⟨tb, 4, none⟩ = some (.int .i64 ca) := blk_cell HA7.out.t 4
        have t5 : X7.cell? ⟨tb, 5, none⟩ = some (.int .i64 ro) := blk_cell HA7.out.t 5
        have t6 : X7.cell? ⟨tb, 6, none⟩ = some (.int .i64 fl) := blk_cell HA7.out.t 6
        have t7 : X7.cell? ⟨tb, 7, none⟩ = some (.slice va1 vn vc1) := blk_cell HA7.out.t 7
        have t8 : X7.cell? ⟨tb, 8, none⟩ = some (.slice ea4 (en + 1 + 1 + 1) ec4) := blk_cell HA7.out.t 8
        have b9 : X7.cell? ⟨w.heap.size, 9, none⟩ = some (.slice (some ⟨sb, sof, none⟩) sn sc) := (HCA.out X7 HA7.out.b).2.2.2.2.2.2.2.2.2
        obtain ⟨⟨t9, d9, x9⟩, hq9⟩ : ∃ q : Int × Int × Int, pm 0 (en + 1 + 1 + 1) N ba fl (l2 ++ [evC s0]) ss = q := ⟨_, rfl⟩
        have hx9 := HB5.out
        rw [hq9] at hx9
        have hx9' : x9 = 180 := hx9
        subst hx9'
        have HPz : Hid (Calls Try.prog 9 #[.agg #[.int .i64 (N : Int), .int .i64 wi, .int .i64 ba, .int .i64 st, .int .i64 ca, .int .i64 ro, .int .i64 fl, .slice va1 vn vc1, .slice ea4 (en + 1 + 1 + 1) ec4], .slice (some ⟨sb, sof, none⟩) sn sc] X7 fun e w' => e = .returned (.tuple #[.int .i64 t9, .int .i64 d9, .int .i64 180]) ∧ Below X7.heap.size X7 w') := (show Calls _ _ _ _ _  from by
          have h1 := premise_any (N : Int) wi ba st ca ro fl va1 vn vc1 vs r 0 ea4 (en + 1 + 1 + 1) ec4 (l2 ++ [evC s0]) (some ⟨sb, sof, none⟩) sn sc ss X7 ⟨HA7.out.v.ri, HCf.out.le, HCf.out.vt, HCf.out.er⟩ HA7.out.evr (HSs.out.below HA7.out.b) (by omega)
          rw [hq9] at h1
          exact h1)
        have HBz : Hid (Below W.heap.size W X7) := HA7.out.b
        clear hq9 hx9 HA7
        go_wp2_with fail
        refine HPz.out.mono ?_
        rintro e w9 ⟨rfl, hb9⟩
        have HBq : Hid (Below w.heap.size w w9) := bst HB.out (HBz.out.trans (hb9.mono HBz.out.size))
        clear hb9
        go_wp2_with fail
        go_ret
        exact ⟨rfl, HBq.out⟩
end Go.Proofs.Ytfodkackfahldaa.Lo
