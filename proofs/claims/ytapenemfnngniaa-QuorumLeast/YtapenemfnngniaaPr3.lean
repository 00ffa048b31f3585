import Derived.Test.YtapenemfnngniaaPp3
import Derived.Test.YtapenemfnngniaaPq3
namespace Go.Proofs.Ytapenemfnngniaa.Qm
open Go.RowKit Mb
set_option linter.unusedVariables false
set_option maxRecDepth 100000
set_option linter.unusedSimpArgs false
section
variable {w w' W : World} {B : Nat}
theorem mnL_len (xs : List Int) : (mnL xs).length ≤ 65536 := by
  unfold mnL
  cases h : okI xs with
  | false => simp
  | true =>
    have ho := okI_ok h
    have := frm_len ho.1 (xs.length + 1) 0 0 (by simp) (Nat.zero_le _) (by rw [nv_len]; omega)
    simpa using this
def Lh (w : World) (n g : Nat) (wr : World) : Prop := ∃ L, Rw wr g 3 L ∧ L.length = n ∧ Below w.heap.size w wr
set_option maxHeartbeats 8000000 in
theorem place_any {ao : Option Addr} {n0 c0 : Nat} {xs : List Int} {bo : Option Addr} {m0 d0 : Nat} {ys : List Int} {so : Option Addr} {q0 f0 : Nat} {zs : List Int} (hr : RdI w ao n0 c0 xs) (hr2 : RdI w bo m0 d0 ys) (hr3 : RdI w so q0 f0 zs) (hn0 : n0 ≤ 17592186044416) (hm0 : m0 ≤ 17592186044416) (hq0 : q0 ≤ 17592186044416) : Calls Try.prog 6 #[.slice ao n0 c0, .slice bo m0 d0, .slice so q0 f0] w fun e w' => e = .returned (.bool true) ∧ Below w.heap.size w w' := by
  have HR : Hid (RdI w ao n0 c0 xs) := hr
  have HR2 : Hid (RdI w bo m0 d0 ys) := hr2
  have HR3 : Hid (RdI w so q0 f0 zs) := hr3
  have hcap : n0 ≤ c0 := hr.cap
  clear hr hr2 hr3
  go_enter Try.func6, Try.ntmps6
  go_upto_if 33 with (fail)
  go_cut [7] (fun r wx => ∃ n : Nat, r = .int .i64 (n : Int) ∧ n ≤ n0 ∧ n ≤ m0 ∧ w = wx)
  case first =>
    by_cases h9 : m0 < n0
    · have j2 : (m0 : Int) < (n0 : Int) := by omega
      go_wp2_with (fail)
      go_meet
      exact ⟨m0, rfl, by omega, by omega, rfl⟩
    · have j2 : ¬ (m0 : Int) < (n0 : Int) := by omega
      go_wp2_with (fail)
      go_meet
      exact ⟨n0, rfl, by omega, by omega, rfl⟩
  case rest =>
  obtain ⟨n, rfl, hnn, hnm, rfl⟩ := hcut
  have j1 : (n : Int) ≤ (c0 : Int) := by omega
  have j0 : (0 : Int) ≤ (n : Int) := Int.natCast_nonneg _
  have HCp : Hid (Calls Try.prog 10 #[.slice ao n c0] w fun e w' => e = .returned (.slice (some ⟨w.heap.size, 0, none⟩) n n) ∧ Rw w' w.heap.size 3 (xs.take n) ∧ Below w.heap.size w w') := copied_any (RdI.take HR.out hnn) (by omega)
  go_wp2_with (fail)
  refine HCp.out.mono ?_
  rintro e w1 ⟨rfl, hrw1, hb1⟩
  have Hl0 : (xs.take n).length = n := by have := HR.out.len; rw [List.length_take]; omega
  have HL1 : Hid (Lh w n w.heap.size w1) := ⟨_, hrw1, Hl0, hb1⟩
  clear hrw1 hb1 HCp Hl0
  go_wp2_with (fail)
  go_loopw [9, 10, 11, 12, 13, 14, 15, 16, 17, 18, 19, 20, 21, 22, 23, 24, 25, 26, 27] (fun t _ _ _ _ _ _ _ _ _ _ _ _ _ _ _ _ _ _ wr => ∃ k : Nat, k ≤ 3 ∧ t = .int .i64 (k : Int) ∧ Hid (Lh w n w.heap.size wr)) (fun t _ _ _ _ _ _ _ _ _ _ _ _ _ _ _ _ _ _ _ => 3 - (intOf t).toNat)
  case atStart => exact ⟨0, Nat.zero_le _, rfl, HL1.out⟩
  case round =>
  obtain ⟨k, hk, rfl, HI⟩ := hrel
  clear HL1
  by_cases hlt : k < 3
  · have i2 : (k : Int) < 3 := by omega
    go_wp2_with (fail)
    go_loopw [10] (fun j wr => ∃ q : Nat, q ≤ n ∧ j = .int .i64 (q : Int) ∧ Hid (Lh w n w.heap.size wr)) (fun j _ => n - (intOf j).toNat)
    case atStart => exact ⟨0, Nat.zero_le _, rfl, HI.out⟩
    case round =>
    obtain ⟨q, hq, rfl, HJ⟩ := hrel
    clear HI
    by_cases hql : q < n
    · have k1 : (0 : Int) ≤ (q : Int) := Int.natCast_nonneg _
      have k2 : (q : Int) < (n : Int) := by omega
      have k3 : (q : Int) < (n0 : Int) := by omega
      have k4 : (q : Int) < (m0 : Int) := by omega
      obtain ⟨L, hL, hLn, hB⟩ := HJ.out
      obtain ⟨b1, o1, g1, e1⟩ := (HR.out.still hB).at (show q < n0 by omega)
      obtain ⟨b2, o2, g2, e2⟩ := (HR2.out.still hB).at (show q < m0 by omega)
      have u0 := hL.cell (i := q) (by omega)
      have u1 := hL.fz q
      have hne2 : b2 ≠ w.heap.size := by
        obtain ⟨b3, o3, g3, e3⟩ := HR2.out.at (show q < m0 by omega)
        rw [g2] at g3
        simp only [Option.some.injEq, Addr.mk.injEq] at g3
        have := World.block_lt_of_cell? w _ e3
        rw [g3.1]
        simp at this
        omega
      obtain ⟨Y, hY⟩ : ∃ Y, wr.setCell ⟨w.heap.size, q, none⟩ (.int .i64 (xs.getD q 0)) = Y := ⟨_, rfl⟩
      have hLY : Rw Y w.heap.size 3 (L.set q (xs.getD q 0)) := by rw [← hY]; exact hL.set q _
      have hBY : Below w.heap.size w Y := by rw [← hY]; exact bset hB (Nat.le_refl _) _ _
      have HLY : Hid (Lh w n w.heap.size Y) := ⟨_, hLY, by simpa using hLn, hBY⟩
      have e2Y : Y.cell? ⟨b2, o2 + q, none⟩ = some (.int .i64 (ys.getD q 0)) := by
        obtain ⟨b3, o3, g3, e3⟩ := (HR2.out.still hBY).at (show q < m0 by omega)
        rw [g2] at g3
        simp only [Option.some.injEq, Addr.mk.injEq] at g3
        rw [g3.1, g3.2.1]
        exact e3
      have u2 := hLY.cell (i := q) (by rw [List.length_set]; omega)
      have u3 := hLY.fz q
      obtain ⟨Z, hZ⟩ : ∃ Z, Y.setCell ⟨w.heap.size, q, none⟩ (.int .i64 (ys.getD q 0)) = Z := ⟨_, rfl⟩
      have HLZ : Hid (Lh w n w.heap.size Z) := ⟨_, by rw [← hZ]; exact hLY.set q (ys.getD q 0), by simpa using hLn, by rw [← hZ]; exact bset hBY (Nat.le_refl _) _ _⟩
      have Hg1 : Hid (ao = some ⟨b1, o1, none⟩) := g1
      have Hg2 : Hid (bo = some ⟨b2, o2, none⟩) := g2
      rw [g1, g2]
      generalize xs.getD q 0 = x at *
      generalize ys.getD q 0 = y at *
      generalize (L.set q x).getD q 0 = x' at *
      generalize L.getD q 0 = x'' at *
      clear hL hLY hBY hB hLn g1 g2 e2 hne2
      subst hZ
      subst hY
      by_cases h1 : k = 1
      · subst h1
        go_wp2_with (fail)
        exact ⟨⟨q + 1, by omega, by go_num, HLZ.out⟩, by simp [intOf]; omega⟩
      · have h1b : ((k : Int) == 1) = false := by rw [beq_eq_false_iff_ne]; omega
        go_wp2_with (fail)
        exact ⟨⟨q + 1, by omega, by go_num, HLY.out⟩, by simp [intOf]; omega⟩
    · have k2 : ¬ (q : Int) < (n : Int) := by omega
      obtain ⟨L, hL, hLn, hB⟩ := HJ.out
      have hr1 : RdI wr (some ⟨w.heap.size, 0, none⟩) n n L := Rw.rd hL hLn (Nat.le_refl _)
      have HCp : Hid (Calls Try.prog 10 #[.slice (some ⟨w.heap.size, 0, none⟩) n n] wr fun e w' => e = .returned (.slice (some ⟨wr.heap.size, 0, none⟩) n n) ∧ Rw w' wr.heap.size 3 L ∧ Below wr.heap.size wr w') := copied_any hr1 (by omega)
      have HLw : Hid (Rw wr w.heap.size 3 L ∧ L.length = n ∧ Below w.heap.size w wr) := ⟨hL, hLn, hB⟩
      clear hr1 hL hLn hB
      go_wp2_with (fail)
      refine HCp.out.mono ?_
      rintro e w2 ⟨rfl, hrw2, hb2⟩
      have hv : RdI w2 (some ⟨wr.heap.size, 0, none⟩) n n L := Rw.rd hrw2 HLw.out.2.1 (Nat.le_refl _)
      have hl : RdI w2 (some ⟨w.heap.size, 0, none⟩) n n L := (Rw.rd HLw.out.1 HLw.out.2.1 (Nat.le_refl _)).still hb2
      have hs : RdI w2 so q0 f0 zs := HR3.out.still (bstep HLw.out.2.2 hb2)
      have hBw : Below w.heap.size w w2 := bstep HLw.out.2.2 hb2
      have HBw : Hid (Below w.heap.size w w2) := hBw
      generalize hga : wr.heap.size = ga at *
      have HMi : Hid (∀ V, Below w2.heap.size w2 V → Calls Try.prog 9 #[.slice (some ⟨w.heap.size, 0, none⟩) n n] V fun e w' => ∃ x E, e = .returned (.tuple #[x, .int .i64 (chkE L)]) ∧ E.map El.s = mnL L ∧ Ll w' V.heap.size n x E ∧ Below V.heap.size V w') := fun V hV => minT (hl.still hV)
      have HQi : Hid (∀ V, Below w2.heap.size w2 V → Calls Try.prog 13 #[.slice (some ⟨ga, 0, none⟩) n n] V fun e w' => ∃ x E, e = .returned (.tuple #[x, .int .i64 (chkE L)]) ∧ E.map El.s = mnL L ∧ Ll w' V.heap.size n x E ∧ Below V.heap.size V w') := fun V hV => rminT (hv.still hV)
      have HPW : Hid (∀ V, Below w2.heap.size w2 V → Calls Try.prog 19 #[.slice (some ⟨w.heap.size, 0, none⟩) n n] V fun e w' => e = .returned (.tuple #[.int .i64 (winN L), .int .i64 (chkE L)]) ∧ Below V.heap.size V w') := fun V hV => winT (hl.still hV)
      have HPT : Hid (∀ V, Below w2.heap.size w2 V → Calls Try.prog 21 #[.slice (some ⟨w.heap.size, 0, none⟩) n n] V fun e w' => e = .returned (.tuple #[.int .i64 (tolN L), .int .i64 (chkE L)]) ∧ Below V.heap.size V w') := fun V hV => tolT (hl.still hV)
      have HRW : Hid (∀ V, Below w2.heap.size w2 V → Calls Try.prog 20 #[.slice (some ⟨ga, 0, none⟩) n n] V fun e w' => e = .returned (.tuple #[.int .i64 (winN L), .int .i64 (chkE L)]) ∧ V = w') := fun V hV => rwinT (hv.still hV)
      have HRT : Hid (∀ V, Below w2.heap.size w2 V → Calls Try.prog 22 #[.slice (some ⟨ga, 0, none⟩) n n] V fun e w' => e = .returned (.tuple #[.int .i64 (tolN L), .int .i64 (chkE L)]) ∧ V = w') := fun V hV => rtolT (hv.still hV)
      have HCs : Hid (∀ V, Below w2.heap.size w2 V → Calls Try.prog 10 #[.slice so q0 f0] V fun e w' => e = .returned (.slice (some ⟨V.heap.size, 0, none⟩) q0 q0) ∧ Rw w' V.heap.size 3 zs ∧ Below V.heap.size V w') := fun V hV => copied_any (hs.still hV) (by omega)
      have HPQ : Hid (∀ V g, Below w2.heap.size w2 V → Rw V g 3 zs → Calls Try.prog 23 #[.slice (some ⟨w.heap.size, 0, none⟩) n n, .slice (some ⟨g, 0, none⟩) q0 q0] V fun e w' => e = .returned (.tuple #[.bool (quoB L zs), .int .i64 (quoE L zs)]) ∧ Below V.heap.size V w') := fun V g hV hg => quorate_any (hl.still hV) (Rw.rd hg hs.len (Nat.le_refl _)) (by omega)
      have HRQ : Hid (∀ V, Below w2.heap.size w2 V → Calls Try.prog 24 #[.slice (some ⟨ga, 0, none⟩) n n, .slice so q0 f0] V fun e w' => e = .returned (.tuple #[.bool (quoB L zs), .int .i64 (quoE L zs)]) ∧ V = w') := fun V hV => rquorate_any (hv.still hV) (hs.still hV) (by omega)
      have HPC : Hid (∀ V, Below w2.heap.size w2 V → Calls Try.prog 25 #[.slice (some ⟨w.heap.size, 0, none⟩) n n] V fun e w' => e = .returned (.int .i64 (chkE L)) ∧ Below V.heap.size V w') := fun V hV => check_any (hl.still hV)
      have HRC : Hid (∀ V, Below w2.heap.size w2 V → Calls Try.prog 26 #[.slice (some ⟨ga, 0, none⟩) n n] V fun e w' => e = .returned (.int .i64 (chkE L)) ∧ V = w') := fun V hV => rcheck_any (hv.still hV)
      have HNu : Hid (∀ V x, Calls Try.prog 14 #[.int .i64 x] V fun e w' => e = .returned (.int .i64 x) ∧ V = w') := fun V x => num_any x
      have HLk : Hid (∀ Y, Below w2.heap.size w2 Y → Lh w n w.heap.size Y) := fun Y hY => ⟨L, (show Rw Y w.heap.size 3 L from by
        have h1 : Rw w2 w.heap.size 3 L := (hb2.block _ (by rw [← hga]; exact lt_heap HLw.out.1)).trans HLw.out.1
        exact (hY.block _ (lt_heap h1)).trans h1), HLw.out.2.1, bstep HBw.out hY⟩
      have HB : Hid (Below w2.heap.size w2 w2) := Below.refl _ _
      have HMl : Hid ((mnL L).length ≤ 65536) := mnL_len L
      clear hrw2 hb2 hv hl hs hBw HCp HLw HJ hga
      generalize winN L = wv at *
      generalize tolN L = tv at *
      generalize chkE L = ev at *
      generalize quoB L zs = qb at *
      generalize quoE L zs = qe at *
      generalize mnL L = MM at *
      go_wp2_with (fail)
      refine (HMi.out _ HB.out).mono ?_
      rintro e w3 ⟨x1, E1, rfl, hE1, hL1, hb3⟩
      have HA1 : Hid (∀ V, Below w3.heap.size w3 V → Ll V w2.heap.size n x1 E1) := fun V hV => hL1.still hV
      have HE1 : Hid (E1.map El.s = MM) := hE1
      replace HB : Hid (Below w2.heap.size w2 w3) := bstep HB.out hb3
      clear hE1 hL1 hb3
      go_wp2_with (fail)
      refine (HQi.out _ HB.out).mono ?_
      rintro e w4 ⟨x2, E2, rfl, hE2, hL2, hb4⟩
      have HLi : Hid (∀ V, Below w4.heap.size w4 V → Calls Try.prog 15 #[x1, x2] V fun e w' => e = .returned (.bool true) ∧ Below V.heap.size V w') := fun V hV => lists_yes (HA1.out V (bstep hb4 hV)) (hL2.still hV) (HE1.out.trans hE2.symm) (by omega) (by have := congrArg List.length HE1.out; rw [List.length_map] at this; have := HMl.out; omega)
      have HB24 : Hid (Below w2.heap.size w2 w4) := bstep HB.out hb4
      clear hE2 hL2 hb4 HB HA1 HE1 HMi HQi
      have HB : Hid (Below w4.heap.size w4 w4) := Below.refl _ _
      go_wp2_with (first
        | (go_at_call 19; refine (HPW.out _ (bstep HB24.out HB.out)).mono ?_; rintro e wn ⟨rfl, hbn⟩; replace HB : Hid (Below w4.heap.size w4 wn) := bstep HB.out hbn; clear hbn)
        | (go_at_call 21; refine (HPT.out _ (bstep HB24.out HB.out)).mono ?_; rintro e wn ⟨rfl, hbn⟩; replace HB : Hid (Below w4.heap.size w4 wn) := bstep HB.out hbn; clear hbn)
        | (go_at_call 20; refine (HRW.out _ (bstep HB24.out HB.out)).mono ?_; rintro e wn ⟨rfl, rfl⟩)
        | (go_at_call 22; refine (HRT.out _ (bstep HB24.out HB.out)).mono ?_; rintro e wn ⟨rfl, rfl⟩)
        | (go_at_call 10; refine (HCs.out _ (bstep HB24.out HB.out)).mono ?_; rintro e wn ⟨rfl, hrz, hbn⟩; have HRz : Hid (Rw wn _ 3 zs) := hrz; replace HB : Hid (Below w4.heap.size w4 wn) := bstep HB.out hbn; clear hbn hrz)
        | (go_at_call 23; refine (HPQ.out _ _ (bstep HB24.out HB.out) HRz.out).mono ?_; rintro e wn ⟨rfl, hbn⟩; replace HB : Hid (Below w4.heap.size w4 wn) := bstep HB.out hbn; clear hbn HRz)
        | (go_at_call 24; refine (HRQ.out _ (bstep HB24.out HB.out)).mono ?_; rintro e wn ⟨rfl, rfl⟩)
        | (go_at_call 14; refine (HNu.out _ _).mono ?_; rintro e wn ⟨rfl, rfl⟩)
        | (go_at_call 15; refine (HLi.out _ HB.out).mono ?_; rintro e wn ⟨rfl, hbn⟩; replace HB : Hid (Below w4.heap.size w4 wn) := bstep HB.out hbn; clear hbn)
        | (go_at_call 25; refine (HPC.out _ (bstep HB24.out HB.out)).mono ?_; rintro e wn ⟨rfl, hbn⟩; replace HB : Hid (Below w4.heap.size w4 wn) := bstep HB.out hbn; clear hbn)
        | (go_at_call 26; refine (HRC.out _ (bstep HB24.out HB.out)).mono ?_; rintro e wn ⟨rfl, rfl⟩)
        | fail)
      exact ⟨⟨k + 1, by omega, by go_num, HLk.out _ (bstep HB24.out HB.out)⟩, by simp [intOf]; omega⟩
  · have i2 : ¬ (k : Int) < 3 := by omega
    obtain ⟨L, hL, hLn, hB⟩ := HI.out
    go_wp2
    go_ret
    exact ⟨rfl, hB⟩
end
end Go.Proofs.Ytapenemfnngniaa.Qm
