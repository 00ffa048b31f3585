import Derived.Test.YtfbgoidhgkcgjaaAvi
namespace Go.Proofs.Ytfbgoidhgkcgjaa.Lo
open Go.RowKit Go.Maps
set_option linter.unusedVariables false
set_option linter.unusedSimpArgs false
section
variable {w w' W : World} {B : Nat} {P : Nat → Prop}
def lz2 (e : Mk) (ma : Option Addr) (mc : Nat) (ta : Option Addr) (tc : Nat) (ba : Option Addr) (bc : Nat) : Mk := { e with ma := ma, mc := mc, ta := ta, tc := tc, ba := ba, bc := bc }
set_option maxRecDepth 100000 in
set_option maxHeartbeats 8000000 in
theorem sameMk_any (e : Mk) (ma : Option Addr) (mc : Nat) (ta : Option Addr) (tc : Nat) (ba : Option Addr) (bc : Nat) (w : World) (h1 : RdM w ma e.mn mc e.ms) (h2 : RdM w e.ma e.mn e.mc e.ms) (t1 : Ri w ta e.tn tc e.ts) (t2 : Ri w e.ta e.tn e.tc e.ts) (g1 : Ln.Rd w ba e.bn bc e.bs) (g2 : Ln.Rd w e.ba e.bn e.bc e.bs) (hn : e.mn ≤ 140737488355328) (hn2 : e.tn ≤ 140737488355328) : Calls Try.prog 19 #[.agg (lz2 e ma mc ta tc ba bc).cs.toArray, .agg e.cs.toArray] w fun r w' => r = .returned (.bool true) ∧ Below w.heap.size w w' := by
  have hk1 := heap_new w (lz2 e ma mc ta tc ba bc).cs.toArray 50
  have hb1 := bsp w (lz2 e ma mc ta tc ba bc).cs.toArray 50
  generalize hW1 : w.alloc (.cells (lz2 e ma mc ta tc ba bc).cs.toArray 50) = W1 at *
  have hk2 := heap_new W1 e.cs.toArray 50
  have hb2 := bsp W1 e.cs.toArray 50
  generalize hW2 : W1.alloc (.cells e.cs.toArray 50) = W2 at *
  have HB2 : Hid (Below w.heap.size w W2) := bst hb1 hb2
  have c0 : W2.cell? ⟨w.heap.size, 0, none⟩ = some (.int .i64 e.a) := below_at hb2 (blk_cell hk1 0)
  have c1 : W2.cell? ⟨w.heap.size, 1, none⟩ = some (.int .i64 e.k) := below_at hb2 (blk_cell hk1 1)
  have c2 : W2.cell? ⟨w.heap.size, 2, none⟩ = some (.int .i64 e.nd) := below_at hb2 (blk_cell hk1 2)
  have c3 : W2.cell? ⟨w.heap.size, 3, none⟩ = some (.int .i64 e.ic) := below_at hb2 (blk_cell hk1 3)
  have c4 : W2.cell? ⟨w.heap.size, 4, none⟩ = some (.int .i64 e.i0) := below_at hb2 (blk_cell hk1 4)
  have c5 : W2.cell? ⟨w.heap.size, 5, none⟩ = some (.int .i64 e.i1) := below_at hb2 (blk_cell hk1 5)
  have c6 : W2.cell? ⟨w.heap.size, 6, none⟩ = some (.int .i64 e.i2) := below_at hb2 (blk_cell hk1 6)
  have c7 : W2.cell? ⟨w.heap.size, 7, none⟩ = some (.int .i64 e.i3) := below_at hb2 (blk_cell hk1 7)
  have c8 : W2.cell? ⟨w.heap.size, 8, none⟩ = some (.slice ma e.mn mc) := below_at hb2 (blk_cell hk1 8)
  have c9 : W2.cell? ⟨w.heap.size, 9, none⟩ = some (.slice ta e.tn tc) := below_at hb2 (blk_cell hk1 9)
  have c10 : W2.cell? ⟨w.heap.size, 10, none⟩ = some (.int .i64 e.sr) := below_at hb2 (blk_cell hk1 10)
  have c11 : W2.cell? ⟨w.heap.size, 11, none⟩ = some (.int .i64 e.sq) := below_at hb2 (blk_cell hk1 11)
  have c12 : W2.cell? ⟨w.heap.size, 12, none⟩ = some (.int .i64 e.ps) := below_at hb2 (blk_cell hk1 12)
  have c13 : W2.cell? ⟨w.heap.size, 13, none⟩ = some (.int .i64 e.n) := below_at hb2 (blk_cell hk1 13)
  have c14 : W2.cell? ⟨w.heap.size, 14, none⟩ = some (.slice ba e.bn bc) := below_at hb2 (blk_cell hk1 14)
  have c15 : W2.cell? ⟨w.heap.size, 15, none⟩ = some (.int .i64 e.cm.c0) := below_at hb2 (blk_cell hk1 15)
  have c16 : W2.cell? ⟨w.heap.size, 16, none⟩ = some (.int .i64 e.cm.c1) := below_at hb2 (blk_cell hk1 16)
  have c17 : W2.cell? ⟨w.heap.size, 17, none⟩ = some (.int .i64 e.cm.c2) := below_at hb2 (blk_cell hk1 17)
  have c18 : W2.cell? ⟨w.heap.size, 18, none⟩ = some (.int .i64 e.cm.c3) := below_at hb2 (blk_cell hk1 18)
  have c19 : W2.cell? ⟨w.heap.size, 19, none⟩ = some (.string e.cm.ky) := below_at hb2 (blk_cell hk1 19)
  have c20 : W2.cell? ⟨w.heap.size, 20, none⟩ = some (.string e.cm.vl) := below_at hb2 (blk_cell hk1 20)
  have c21 : W2.cell? ⟨w.heap.size, 21, none⟩ = some (.string e.cm.od) := below_at hb2 (blk_cell hk1 21)
  have c22 : W2.cell? ⟨w.heap.size, 22, none⟩ = some (.int .i64 e.rc) := below_at hb2 (blk_cell hk1 22)
  have c23 : W2.cell? ⟨w.heap.size, 23, none⟩ = some (.string e.rv) := below_at hb2 (blk_cell hk1 23)
  have c24 : W2.cell? ⟨w.heap.size, 24, none⟩ = some (.int .i64 e.rn) := below_at hb2 (blk_cell hk1 24)
  have c25 : W2.cell? ⟨w.heap.size, 25, none⟩ = some (.int .i64 e.er) := below_at hb2 (blk_cell hk1 25)
  have d0 : W2.cell? ⟨W1.heap.size, 0, none⟩ = some (.int .i64 e.a) := blk_cell hk2 0
  have d1 : W2.cell? ⟨W1.heap.size, 1, none⟩ = some (.int .i64 e.k) := blk_cell hk2 1
  have d2 : W2.cell? ⟨W1.heap.size, 2, none⟩ = some (.int .i64 e.nd) := blk_cell hk2 2
  have d3 : W2.cell? ⟨W1.heap.size, 3, none⟩ = some (.int .i64 e.ic) := blk_cell hk2 3
  have d4 : W2.cell? ⟨W1.heap.size, 4, none⟩ = some (.int .i64 e.i0) := blk_cell hk2 4
  have d5 : W2.cell? ⟨W1.heap.size, 5, none⟩ = some (.int .i64 e.i1) := blk_cell hk2 5
  have d6 : W2.cell? ⟨W1.heap.size, 6, none⟩ = some (.int .i64 e.i2) := blk_cell hk2 6
  have d7 : W2.cell? ⟨W1.heap.size, 7, none⟩ = some (.int .i64 e.i3) := blk_cell hk2 7
  have d8 : W2.cell? ⟨W1.heap.size, 8, none⟩ = some (.slice e.ma e.mn e.mc) := blk_cell hk2 8
  have d9 : W2.cell? ⟨W1.heap.size, 9, none⟩ = some (.slice e.ta e.tn e.tc) := blk_cell hk2 9
  have d10 : W2.cell? ⟨W1.heap.size, 10, none⟩ = some (.int .i64 e.sr) := blk_cell hk2 10
  have d11 : W2.cell? ⟨W1.heap.size, 11, none⟩ = some (.int .i64 e.sq) := blk_cell hk2 11
  have d12 : W2.cell? ⟨W1.heap.size, 12, none⟩ = some (.int .i64 e.ps) := blk_cell hk2 12
  have d13 : W2.cell? ⟨W1.heap.size, 13, none⟩ = some (.int .i64 e.n) := blk_cell hk2 13
  have d14 : W2.cell? ⟨W1.heap.size, 14, none⟩ = some (.slice e.ba e.bn e.bc) := blk_cell hk2 14
  have d15 : W2.cell? ⟨W1.heap.size, 15, none⟩ = some (.int .i64 e.cm.c0) := blk_cell hk2 15
  have d16 : W2.cell? ⟨W1.heap.size, 16, none⟩ = some (.int .i64 e.cm.c1) := blk_cell hk2 16
  have d17 : W2.cell? ⟨W1.heap.size, 17, none⟩ = some (.int .i64 e.cm.c2) := blk_cell hk2 17
  have d18 : W2.cell? ⟨W1.heap.size, 18, none⟩ = some (.int .i64 e.cm.c3) := blk_cell hk2 18
  have d19 : W2.cell? ⟨W1.heap.size, 19, none⟩ = some (.string e.cm.ky) := blk_cell hk2 19
  have d20 : W2.cell? ⟨W1.heap.size, 20, none⟩ = some (.string e.cm.vl) := blk_cell hk2 20
  have d21 : W2.cell? ⟨W1.heap.size, 21, none⟩ = some (.string e.cm.od) := blk_cell hk2 21
  have d22 : W2.cell? ⟨W1.heap.size, 22, none⟩ = some (.int .i64 e.rc) := blk_cell hk2 22
  have d23 : W2.cell? ⟨W1.heap.size, 23, none⟩ = some (.string e.rv) := blk_cell hk2 23
  have d24 : W2.cell? ⟨W1.heap.size, 24, none⟩ = some (.int .i64 e.rn) := blk_cell hk2 24
  have d25 : W2.cell? ⟨W1.heap.size, 25, none⟩ = some (.int .i64 e.er) := blk_cell hk2 25
  have q1 := conv_of (g1.still HB2.out)
  have q2 := conv_of (g2.still HB2.out)
  have HM1 : Hid (RdM W2 ma e.mn mc e.ms) := h1.on HB2.out
  have HM2 : Hid (RdM W2 e.ma e.mn e.mc e.ms) := h2.on HB2.out
  have HR1 : Hid (Ri W2 ta e.tn tc e.ts) := t1.below HB2.out
  have HR2 : Hid (Ri W2 e.ta e.tn e.tc e.ts) := t2.below HB2.out
  clear hk1 hk2 hb1 hb2 h1 h2 g1 g2 t1 t2
  go_enter Try.func19, Try.ntmps19
  go_wp2_with fail
  have HC : Hid (W2.cell? ⟨w.heap.size, 8, none⟩ = some (.slice ma e.mn mc) ∧ W2.cell? ⟨w.heap.size, 9, none⟩ = some (.slice ta e.tn tc) ∧ W2.cell? ⟨W1.heap.size, 8, none⟩ = some (.slice e.ma e.mn e.mc) ∧ W2.cell? ⟨W1.heap.size, 9, none⟩ = some (.slice e.ta e.tn e.tc)) := (show _ ∧ _ from ⟨c8, c9, d8, d9⟩)
  clear c0 d0 c1 d1 c2 d2 c3 d3 c4 d4 c5 d5 c6 d6 c7 d7 c8 d8 c9 d9 c10 d10 c11 d11 c12 d12 c13 d13 c14 d14 c15 d15 c16 d16 c17 d17 c18 d18 c19 d19 c20 d20 c21 d21 c22 d22 c23 d23 c24 d24 c25 d25 q1 q2
  go_loopw [5] (fun x wr => ∃ (j : Nat), j ≤ e.mn ∧ x = .int .i64 j ∧ Hid (Below W2.heap.size W2 wr)) (fun x _ => e.mn - (intOf x).toNat)
  case atStart => exact ⟨0, Nat.zero_le _, rfl, Below.refl _ _⟩
  case round =>
    obtain ⟨j, hj, rfl, hb⟩ := hrel
    have x8 := below_at hb.out HC.out.1
    have y8 := below_at hb.out HC.out.2.2.1
    by_cases hjn : j < e.mn
    · have j1 : (0 : Int) ≤ (j : Int) := Int.natCast_nonneg _
      have j3 : (j : Int) < (e.mn : Int) := by omega
      rcases HM1.out.row with h0 | ⟨lb, lo, hla, hlc⟩
      · omega
      rcases HM2.out.row with h0 | ⟨mb, mo, hma, hmc⟩
      · omega
      rw [hla] at x8
      rw [hma] at y8
      have e0 : wr.cell? ⟨lb, lo + j * 3, none⟩ = some (.int .i64 (e.ms.getD (j * 3) 0)) := below_at hb.out (hlc (j * 3) (by omega))
      have e1 : wr.cell? ⟨lb, lo + j * 3 + 1, none⟩ = some (.int .i64 (e.ms.getD (j * 3 + 1) 0)) := below_at hb.out (hlc (j * 3 + 1) (by omega))
      have e2 : wr.cell? ⟨lb, lo + j * 3 + 2, none⟩ = some (.int .i64 (e.ms.getD (j * 3 + 2) 0)) := below_at hb.out (hlc (j * 3 + 2) (by omega))
      have f0 : wr.cell? ⟨mb, mo + j * 3, none⟩ = some (.int .i64 (e.ms.getD (j * 3) 0)) := below_at hb.out (hmc (j * 3) (by omega))
      have f1 : wr.cell? ⟨mb, mo + j * 3 + 1, none⟩ = some (.int .i64 (e.ms.getD (j * 3 + 1) 0)) := below_at hb.out (hmc (j * 3 + 1) (by omega))
      have f2 : wr.cell? ⟨mb, mo + j * 3 + 2, none⟩ = some (.int .i64 (e.ms.getD (j * 3 + 2) 0)) := below_at hb.out (hmc (j * 3 + 2) (by omega))
      generalize e.ms.getD (j * 3) 0 = y0 at *
      generalize e.ms.getD (j * 3 + 1) 0 = y1 at *
      generalize e.ms.getD (j * 3 + 2) 0 = y2 at *
      clear hlc hmc hla hma
      go_wp2_with fail
      go_quiet (fail)
      go_wp2_with fail
      have HB3 : Hid (Below W2.heap.size W2 (wr.drewN nq)) := (show Below _ _ _ from hb.out.trans (bel_dN _ _ nq))
      go_roundw
      case rel => exact ⟨j + 1, by omega, by go_num, HB3⟩
      case measure => simp [intOf]; omega
    · have hjN : j = e.mn := by omega
      have j3 : ¬ (j : Int) < (e.mn : Int) := by omega
      go_wp2_with fail
      clear x8 y8 hjn hjN j3
      go_loopw [6] (fun x wr => ∃ (j : Nat), j ≤ e.tn ∧ x = .int .i64 j ∧ Hid (Below W2.heap.size W2 wr)) (fun x _ => e.tn - (intOf x).toNat)
      case atStart => exact ⟨0, Nat.zero_le _, rfl, hb⟩
      case round =>
        obtain ⟨j, hj, rfl, hb⟩ := hrel
        have x9 := below_at hb.out HC.out.2.1
        have y9 := below_at hb.out HC.out.2.2.2
        by_cases hjn : j < e.tn
        · have j1 : (0 : Int) ≤ (j : Int) := Int.natCast_nonneg _
          have j3 : (j : Int) < (e.tn : Int) := by omega
          rcases HR1.out.2.2 with h0 | ⟨lb, lo, hla, hlc⟩
          · omega
          rcases HR2.out.2.2 with h0 | ⟨mb, mo, hma, hmc⟩
          · omega
          rw [hla] at x9
          rw [hma] at y9
          have e1 := below_at hb.out (hlc j hjn)
          have e2 := below_at hb.out (hmc j hjn)
          generalize e.ts.getD j 0 = y at *
          clear hlc hmc hla hma
          go_wp2_with fail
          go_quiet (fail)
          go_wp2_with fail
          have HB3 : Hid (Below W2.heap.size W2 (wr.drewN nq)) := (show Below _ _ _ from hb.out.trans (bel_dN _ _ nq))
          go_roundw
          case rel => exact ⟨j + 1, by omega, by go_num, HB3⟩
          case measure => simp [intOf]; omega
        · have hjN : j = e.tn := by omega
          have HBX : Hid (Below w.heap.size w wr) := bst HB2.out hb.out
          have j3 : ¬ (j : Int) < (e.tn : Int) := by omega
          go_wp2_with fail
          go_ret
          exact ⟨rfl, HBX.out⟩
set_option maxRecDepth 100000 in
set_option maxHeartbeats 8000000 in
theorem sameMks_any (a1 a2 : Option Addr) (n c1 c2 : Nat) (l2 l : List Mk) (w : World) (hr2 : MkR w a1 n l2) (hr : MkR w a2 n l) (hn : n ≤ 140737488355328) (hc : ∀ j, j < n → ∀ D, Below w.heap.size w D → Calls Try.prog 19 #[.agg (l2.getD j mk0).cs.toArray, .agg (l.getD j mk0).cs.toArray] D fun r w' => r = .returned (.bool true) ∧ Below D.heap.size D w') : Calls Try.prog 16 #[.slice a1 n c1, .slice a2 n c2] w fun r w' => r = .returned (.bool true) ∧ Below w.heap.size w w' := by
  have HR1 : Hid (MkR w a1 n l2) := hr2
  have HR2 : Hid (MkR w a2 n l) := hr
  have HCa : Hid (∀ j, j < n → ∀ D, Below w.heap.size w D → Calls Try.prog 19 #[.agg (l2.getD j mk0).cs.toArray, .agg (l.getD j mk0).cs.toArray] D fun r w' => r = .returned (.bool true) ∧ Below D.heap.size D w') := hc
  clear hr2 hr hc
  go_enter Try.func16, Try.ntmps16
  go_wp2_with fail
  go_loopw [5] (fun x wr => ∃ (j : Nat), j ≤ n ∧ x = .int .i64 j ∧ Hid (Below w.heap.size w wr)) (fun x _ => n - (intOf x).toNat)
  case atStart => exact ⟨0, Nat.zero_le _, rfl, Below.refl _ _⟩
  case round =>
    obtain ⟨j, hj, rfl, hb⟩ := hrel
    by_cases hjn : j < n
    · have j1 : (0 : Int) ≤ (j : Int) := Int.natCast_nonneg _
      have j3 : (j : Int) < (n : Int) := by omega
      rcases HR1.out.row with h0 | ⟨ab, ao, ha, hr1⟩
      · omega
      rcases HR2.out.row with h0 | ⟨bb, bo, hb', hr2⟩
      · omega
      subst ha hb'
      have HE1 : Hid (wr.rangeAt ab (ao + j * 26) (l2.getD j mk0).cs) := (show wr.rangeAt _ _ _ from range_on (hr1 j hjn) hb.out)
      have HE2 : Hid (wr.rangeAt bb (bo + j * 26) (l.getD j mk0).cs) := (show wr.rangeAt _ _ _ from range_on (hr2 j hjn) hb.out)
      have HC : Hid (∀ D, Below wr.heap.size wr D → Calls Try.prog 19 #[.agg (l2.getD j mk0).cs.toArray, .agg (l.getD j mk0).cs.toArray] D fun r w' => r = .returned (.bool true) ∧ Below D.heap.size D w') := (show ∀ D, _ from fun D hD => HCa.out j hjn D (bst hb.out hD))
      clear hr1 hr2
      generalize l2.getD j mk0 = e2 at *
      generalize l.getD j mk0 = e at *
      go_wp2_with fail
      refine wp_region_held_drew (S := (fun w' => w'.rangeAt ab (ao + j * 26) e2.cs ∧ w'.rangeAt bb (bo + j * 26) e.cs)) (by kernel_rfl) ⟨(range_on HE1.out (drew_bel _)), (range_on HE2.out (drew_bel _))⟩ (fun hHeld => ?_)
      simp only [Act.put, List.size_toArray, List.length_cons, List.length_nil, Nat.zero_add]
      refine takeD (i := 0) (d := 17) (v := .slice (some ⟨ab, ao, none⟩) n c1) rfl (by kernel_rfl) (by kernel_rfl) (by kernel_rfl) (by kernel_rfl) (fun _ _ _ h => h) (Or.inl ⟨by rfl, fun w' hS => by go_simp⟩) hHeld ?_
      simp only [Act.put, List.setIfInBounds_toArray, List.set_cons_zero, List.set_cons_succ]
      refine takeD (i := 1) (d := 18) (v := .int .i64 (j : Int)) rfl (by kernel_rfl) (by kernel_rfl) (by kernel_rfl) (by kernel_rfl) (fun _ _ _ h => h) (Or.inl ⟨by rfl, fun w' hS => by go_simp⟩) hHeld ?_
      simp only [Act.put, List.setIfInBounds_toArray, List.set_cons_zero, List.set_cons_succ]
      refine takeD (i := 2) (d := 19) (v := .pointer (some ⟨ab, ao + j * 26, none⟩)) rfl (by kernel_rfl) (by kernel_rfl) (by kernel_rfl) (by kernel_rfl) (fun _ _ _ h => h) (Or.inl ⟨by rfl, fun w' hS => by go_simp⟩) hHeld ?_
      simp only [Act.put, List.setIfInBounds_toArray, List.set_cons_zero, List.set_cons_succ]
      refine takeD (i := 3) (d := 20) (v := .agg e2.cs.toArray) rfl (by kernel_rfl) (by kernel_rfl) (by kernel_rfl) (by kernel_rfl) (fun _ _ _ h => h) (Or.inl ⟨by rfl, fun w' hS => by (obtain ⟨s0, s1⟩ := hS; exact run_loadop 50 _ rfl rfl s0 Try.underlying50 rfl (iMk e2))⟩) hHeld ?_
      simp only [Act.put, List.setIfInBounds_toArray, List.set_cons_zero, List.set_cons_succ]
      refine takeD (i := 4) (d := 21) (v := .slice (some ⟨bb, bo, none⟩) n c2) rfl (by kernel_rfl) (by kernel_rfl) (by kernel_rfl) (by kernel_rfl) (fun _ _ _ h => h) (Or.inl ⟨by rfl, fun w' hS => by go_simp⟩) hHeld ?_
      simp only [Act.put, List.setIfInBounds_toArray, List.set_cons_zero, List.set_cons_succ]
      refine takeD (i := 5) (d := 22) (v := .int .i64 (j : Int)) rfl (by kernel_rfl) (by kernel_rfl) (by kernel_rfl) (by kernel_rfl) (fun _ _ _ h => h) (Or.inl ⟨by rfl, fun w' hS => by go_simp⟩) hHeld ?_
      simp only [Act.put, List.setIfInBounds_toArray, List.set_cons_zero, List.set_cons_succ]
      refine takeD (i := 6) (d := 23) (v := .pointer (some ⟨bb, bo + j * 26, none⟩)) rfl (by kernel_rfl) (by kernel_rfl) (by kernel_rfl) (by kernel_rfl) (fun _ _ _ h => h) (Or.inl ⟨by rfl, fun w' hS => by go_simp⟩) hHeld ?_
      simp only [Act.put, List.setIfInBounds_toArray, List.set_cons_zero, List.set_cons_succ]
      refine takeD (i := 7) (d := 24) (v := .agg e.cs.toArray) rfl (by kernel_rfl) (by kernel_rfl) (by kernel_rfl) (by kernel_rfl) (fun _ _ _ h => h) (Or.inl ⟨by rfl, fun w' hS => by (obtain ⟨s0, s1⟩ := hS; exact run_loadop 50 _ rfl rfl s1 Try.underlying50 rfl (iMk e))⟩) hHeld ?_
      simp only [Act.put, List.setIfInBounds_toArray, List.set_cons_zero, List.set_cons_succ]
      have hbD : Below wr.heap.size wr wr.drew := drew_bel _
      generalize wr.drew = D0 at *
      refine wpAnyH_ready (rs := [8]) (by kernel_rfl) (by simp) ?_
      refine AllReadyH.cons rfl (fun K hK => ?_) AllReadyH.nil
      go_simp
      refine (HC.out _ hbD).mono ?_
      rintro r5 w5 ⟨rfl, hb5⟩
      refine hK.out _ _ ⟨(range_on (range_on HE1.out hbD) hb5), (range_on (range_on HE2.out hbD) hb5)⟩ (fun hHeld => ?_)
      clear hK K
      refine takeD (i := 9) (d := 26) (v := .bool false) rfl (by kernel_rfl) (by kernel_rfl) (by kernel_rfl) (by kernel_rfl) (fun _ _ _ h => h) (Or.inl ⟨by rfl, fun w' hS => by go_simp⟩) hHeld ?_
      simp only [Act.put, List.setIfInBounds_toArray, List.set_cons_zero, List.set_cons_succ]
      refine wpAnyH_done (by kernel_rfl) ?_ _
      clear hHeld
      have HB5 : Hid (Below w.heap.size w w5) := (show Below _ _ _ from bst hb.out (bstep hbD hb5))
      clear hbD hb5 HE1 HE2 HC
      go_wp2_with fail
      go_roundw
      case rel => exact ⟨j + 1, by omega, by go_num, HB5⟩
      case measure => simp [intOf]; omega
    · obtain rfl : n = j := by omega
      go_wp2_with fail
      go_ret
      exact ⟨rfl, hb.out⟩
end
end Go.Proofs.Ytfbgoidhgkcgjaa.Lo
