import Derived.Test.YtfbollifegngjaaXz
namespace Go.Proofs.Ytfbollifegngjaa.Dt
open Go.RowKit
set_option linter.unusedVariables false
set_option maxRecDepth 100000
set_option linter.unusedSimpArgs false
section
variable {D D' C : De} {R R' M : Rf} {w w' W V : World} {B m : Nat}
set_option maxHeartbeats 4000000 in
theorem turns_ok (n s : Nat) (inc base step lim : Int) (oa : Option Addr) (on oc : Nat) (n2 s2 : Nat) (inc2 base2 step2 lim2 : Int) (oa2 : Option Addr) (on2 oc2 : Nat) (os os2 : Nat → Opx) (ho : RdOps w oa on os) (ho2 : RdOps w oa2 on2 os2) (h43 : ∀ i, i < on → (os i).hn ≤ 17592186043904) (h432 : ∀ i, i < on2 → (os2 i).hn ≤ 17592186043904) (hon : on ≤ 2513169434916) (hon2 : on2 ≤ 2513169434916) (hok : newOk n s inc base step lim = true) (hok2 : newOk n2 s2 inc2 base2 step2 lim2 = true) : Calls Try.prog 4 #[.agg (rc n s inc base step lim oa on oc), .agg (rc n2 s2 inc2 base2 step2 lim2 oa2 on2 oc2)] w fun e w' => e = .returned (.bool true) ∧ Below w.heap.size w w' := by
  have hn16 : n ≤ 16 := by
    have hk := hok
    unfold newOk at hk
    simp only [Bool.and_eq_true] at hk
    have := of_decide_eq_true hk.1
    omega
  have hn216 : n2 ≤ 16 := by
    have hk := hok2
    unfold newOk at hk
    simp only [Bool.and_eq_true] at hk
    have := of_decide_eq_true hk.1
    omega
  generalize hA : w.alloc (.cells (rc n s inc base step lim oa on oc) 31) = A
  have hbA : Below w.heap.size w A := by rw [← hA]; exact balloc (Below.refl _ w)
  have hkA : A.heap[w.heap.size]? = some (.cells (rc n s inc base step lim oa on oc) 31 (0, 0)) := by rw [← hA]; exact heap_alloc_new w _
  generalize hW : A.alloc (.cells (rc n2 s2 inc2 base2 step2 lim2 oa2 on2 oc2) 31) = W
  have hbW : Below A.heap.size A W := by rw [← hW]; exact balloc (Below.refl _ A)
  have hkW : W.heap[A.heap.size]? = some (.cells (rc n2 s2 inc2 base2 step2 lim2 oa2 on2 oc2) 31 (0, 0)) := by rw [← hW]; exact heap_alloc_new A _
  have hkA2 := (hbW.block _ (lt_heap hkA)).trans hkA
  obtain ⟨c0, c1, c2, c3, c4, c5, c6⟩ := run_cells hkA2
  obtain ⟨d0, d1, d2, d3, d4, d5, d6⟩ := run_cells hkW
  have Hb : Hid (Below w.heap.size w W) := bstep hbA hbW
  have HkW : Hid (W.heap[A.heap.size]? = some (.cells (rc n2 s2 inc2 base2 step2 lim2 oa2 on2 oc2) 31 (0, 0))) := hkW
  have HkA : Hid (W.heap[w.heap.size]? = some (.cells (rc n s inc base step lim oa on oc) 31 (0, 0))) := hkA2
  have hwA := lt_heap hkA2
  have hwW := lt_heap hkW
  obtain ⟨ka, hka⟩ : ∃ k, w.heap.size = k := ⟨_, rfl⟩
  obtain ⟨kb, hkb⟩ : ∃ k, A.heap.size = k := ⟨_, rfl⟩
  rw [hka] at c0 c1 c2 c3 c4 c5 c6 HkA hwA
  rw [hkb] at d0 d1 d2 d3 d4 d5 d6 HkW hwW
  have HM1 := made_ok (w := W) n s inc base step lim oa on oc hok
  have HM2 : Hid (∀ w', Calls Try.prog 15 #[.agg (rc n2 s2 inc2 base2 step2 lim2 oa2 on2 oc2)] w' fun e w2 => ∃ D R, e = .returned (.tuple #[.pointer (some ⟨D.b, 0, none⟩), .pointer (some ⟨R.b, 0, none⟩), .bool true]) ∧ Below w'.heap.size w' w2 ∧ Du D R w2 w'.heap.size 0) := fun w' => made_ok n2 s2 inc2 base2 step2 lim2 oa2 on2 oc2 hok2
  have HO : Hid (RdOps w oa on os) := ho
  have HO2 : Hid (RdOps w oa2 on2 os2) := ho2
  have H43 : Hid (∀ i, i < on → (os i).hn ≤ 17592186043904) := h43
  have H432 : Hid (∀ i, i < on2 → (os2 i).hn ≤ 17592186043904) := h432
  unfold rc at hA hW HM1 HM2 ⊢
  clear hbA hbW hkA hkW hkA2 hok hok2 ho ho2 h43 h432
  go_enter Try.func4, Try.ntmps4
  go_wp2_with (fail)
  refine HM1.mono ?_
  rintro e w1 ⟨D, R, rfl, hb1, hd1⟩
  have B1 : Hid (Below W.heap.size W w1) := hb1
  have HD1 : Hid (Du D R w1 W.heap.size 0) := hd1
  have HX := (hb1.block _ (lt_heap HkW.out)).trans HkW.out
  obtain ⟨e0, e1, e2, e3, e4, e5, e6⟩ := run_cells HX
  clear hb1 hd1 HM1 HX c0 c1 c2 c3 c4 c5 c6 d0 d1 d2 d3 d4 d5 d6
  go_wp2_with (fail)
  refine (HM2.out _).mono ?_
  rintro e w2 ⟨C, M, rfl, hb2, hd2⟩
  obtain ⟨B, hB⟩ : ∃ B, W.heap.size = B := ⟨_, rfl⟩
  rw [hB] at HD1 hwA hwW
  have HT0 := Tx.start HD1.out hb2 hd2
  obtain ⟨w3, hw3⟩ : ∃ w3, w2.alloc (.cells #[.slice none 0 0, .slice none 0 0, .slice none 0 0, .slice none 0 0] 55) = w3 := ⟨_, rfl⟩
  obtain ⟨hb, hhb⟩ : ∃ hb, w2.heap.size = hb := ⟨_, rfl⟩
  rw [hw3, hhb] at HT0
  have B3 : Hid (Below B W w3) := by
    rw [← hB, ← hw3]
    exact balloc (bstep B1.out hb2)
  have Hw3 : Hid (Below w.heap.size w w3) := Hb.out.trans (B3.out.mono (by have := Hb.out.size; omega))
  have HwB : Hid (w.heap.size ≤ B) := by rw [← hB]; exact Hb.out.size
  have C3 : Hid (w3.cell? ⟨ka, 0, none⟩ = some (.int .i64 (n : Int)) ∧ w3.cell? ⟨ka, 6, none⟩ = some (.slice oa on oc) ∧ w3.cell? ⟨kb, 0, none⟩ = some (.int .i64 (n2 : Int)) ∧ w3.cell? ⟨kb, 6, none⟩ = some (.slice oa2 on2 oc2)) :=
    ⟨below_to B3.out hwA (blk_cell HkA.out 0), below_to B3.out hwA (blk_cell HkA.out 6), below_to B3.out hwW (blk_cell HkW.out 0), below_to B3.out hwW (blk_cell HkW.out 6)⟩
  obtain ⟨db, hdb⟩ : ∃ x, D.b = x := ⟨_, rfl⟩
  obtain ⟨rb, hrb⟩ : ∃ x, R.b = x := ⟨_, rfl⟩
  obtain ⟨cb, hcb⟩ : ∃ x, C.b = x := ⟨_, rfl⟩
  obtain ⟨mb, hmb⟩ : ∃ x, M.b = x := ⟨_, rfl⟩
  rw [hdb, hrb, hcb, hmb] at HT0
  rw [hdb, hrb, hcb, hmb]
  have HT : Hid (Tx w3 B hb 0 db rb cb mb 0) := HT0
  clear hb2 hd2 e0 e1 e2 e3 e4 e5 e6 hdb hrb hcb hmb HT0 HM2 HD1
  go_wp2_with (fail)
  clear hw3 hhb hB hA hW hka hkb
  go_loopw [12] (fun v12 wr => ∃ k : Nat, k ≤ 90 ∧ v12 = .int .i64 (k : Int) ∧ Hid (Tx wr B hb (2 * k) db rb cb mb (4 * k)) ∧ Hid (Below B w3 wr)) (fun v12 _ => 90 - (intOf v12).toNat)
  case atStart => exact ⟨0, Nat.zero_le _, rfl, HT.out, Below.refl _ _⟩
  case round =>
  obtain ⟨k, hk, rfl, HI, HBl⟩ := hrel
  clear HT
  have x0 : wr.cell? ⟨ka, 6, none⟩ = some (.slice oa on oc) := below_to HBl.out hwA C3.out.2.1
  have x1 : wr.cell? ⟨kb, 6, none⟩ = some (.slice oa2 on2 oc2) := below_to HBl.out hwW C3.out.2.2.2
  have Hlw : Hid (Below w.heap.size w wr) := Hw3.out.trans (HBl.out.mono HwB.out)
  have i1 : (0 : Int) ≤ (k : Int) := Int.natCast_nonneg _
  by_cases h9 : k < 90
  · by_cases h1 : k < on
    · by_cases h2 : k < on2
      · skip
        have l90 : (k : Int) < 90 := by omega
        have i2 : (k : Int) < (on : Int) := by omega
        have i3 : (k : Int) < (on2 : Int) := by omega
        obtain ⟨ob, off, hoa, v0, v1, v2, v3, v4⟩ := HO.out.at Hlw.out h1
        have hin := HO.out.2 k h1
        have h43k := H43.out k h1
        have hroK : ∀ w', Below B wr w' → RdI w' (os k).ha (os k).hn (os k).hs := fun w' hb => hin.1.still (Hlw.out.trans (hb.mono HwB.out))
        generalize os k = o at v0 v1 v2 v3 v4 hin h43k hroK
        have HH := held_t HI.out (by omega) (by omega) o hroK h43k
        unfold Opx.cs at HH
        rw [hoa] at x0
        clear hin h43k hroK HI hoa
        go_wp2_with (fail)
        refine HH.mono ?_
        rintro e w4 ⟨rfl, t4, b4⟩
        have HI4 : Hid (Tx w4 B hb (2 * k + 1) db rb cb mb (4 * k + 2)) := t4
        have HB4 : Hid (Below B w3 w4) := HBl.out.trans b4
        clear t4 b4 HH HBl v0 v1 v2 v3 v4
        have x1 : w4.cell? ⟨kb, 6, none⟩ = some (.slice oa2 on2 oc2) := below_to HB4.out hwW C3.out.2.2.2
        have Hlw4 : Hid (Below w.heap.size w w4) := Hw3.out.trans (HB4.out.mono HwB.out)
        obtain ⟨ob2, off2, hoa2, u0, u1, u2, u3, u4⟩ := HO2.out.at Hlw4.out h2
        have hin := HO2.out.2 k h2
        have h43k := H432.out k h2
        have hroK : ∀ w', Below B w4 w' → RdI w' (os2 k).ha (os2 k).hn (os2 k).hs := fun w' hb => hin.1.still (Hlw4.out.trans (hb.mono HwB.out))
        generalize os2 k = o2 at u0 u1 u2 u3 u4 hin h43k hroK
        have HH2 := held_t HI4.out.swap (by omega) (by omega) o2 hroK h43k
        unfold Opx.cs at HH2
        rw [hoa2] at x1
        clear hin h43k hroK HI4 hoa2
        go_wp2_with (fail)
        refine HH2.mono ?_
        rintro e w5 ⟨rfl, t5, b5⟩
        have HI5 : Hid (Tx w5 B hb (2 * (k + 1)) db rb cb mb (4 * (k + 1))) := t5.swap.more (by omega) (by omega) (by omega)
        have HB5 : Hid (Below B w3 w5) := HB4.out.trans b5
        clear t5 b5 HH2 HB4 u0 u1 u2 u3 u4
        go_wp2_with (fail)
        first
          | exact ⟨⟨k + 1, by omega, by go_num, HI5.out, HB5.out⟩, by simp [intOf]; omega⟩
          | (go_roundw
             case rel => exact ⟨k + 1, by omega, by go_num, HI5.out, HB5.out⟩
             case measure => simp [intOf]; omega)
      · skip
        have l90 : (k : Int) < 90 := by omega
        have i2 : (k : Int) < (on : Int) := by omega
        have i3 : ¬ (k : Int) < (on2 : Int) := by omega
        obtain ⟨ob, off, hoa, v0, v1, v2, v3, v4⟩ := HO.out.at Hlw.out h1
        have hin := HO.out.2 k h1
        have h43k := H43.out k h1
        have hroK : ∀ w', Below B wr w' → RdI w' (os k).ha (os k).hn (os k).hs := fun w' hb => hin.1.still (Hlw.out.trans (hb.mono HwB.out))
        generalize os k = o at v0 v1 v2 v3 v4 hin h43k hroK
        have HH := held_t HI.out (by omega) (by omega) o hroK h43k
        unfold Opx.cs at HH
        rw [hoa] at x0
        clear hin h43k hroK HI hoa
        go_wp2_with (fail)
        refine HH.mono ?_
        rintro e w4 ⟨rfl, t4, b4⟩
        have HI4 : Hid (Tx w4 B hb (2 * k + 1) db rb cb mb (4 * k + 2)) := t4
        have HB4 : Hid (Below B w3 w4) := HBl.out.trans b4
        clear t4 b4 HH HBl v0 v1 v2 v3 v4
        have x1 : w4.cell? ⟨kb, 6, none⟩ = some (.slice oa2 on2 oc2) := below_to HB4.out hwW C3.out.2.2.2
        have Hlw4 : Hid (Below w.heap.size w w4) := Hw3.out.trans (HB4.out.mono HwB.out)
        have HI5 : Hid (Tx w4 B hb (2 * (k + 1)) db rb cb mb (4 * (k + 1))) := HI4.out.more (by omega) (by omega) (by omega)
        have HB5 : Hid (Below B w3 w4) := HB4.out
        clear HI4 HB4
        go_wp2_with (fail)
        first
          | exact ⟨⟨k + 1, by omega, by go_num, HI5.out, HB5.out⟩, by simp [intOf]; omega⟩
          | (go_roundw
             case rel => exact ⟨k + 1, by omega, by go_num, HI5.out, HB5.out⟩
             case measure => simp [intOf]; omega)
    · by_cases h2 : k < on2
      · skip
        have l90 : (k : Int) < 90 := by omega
        have i2 : ¬ (k : Int) < (on : Int) := by omega
        have i3 : (k : Int) < (on2 : Int) := by omega
        have HI4 : Hid (Tx wr B hb (2 * k + 1) db rb cb mb (4 * k + 2)) := HI.out.more (by omega) (by omega) (by omega)
        have HB4 : Hid (Below B w3 wr) := HBl.out
        have Hlw4 : Hid (Below w.heap.size w wr) := Hlw.out
        clear HI HBl
        obtain ⟨ob2, off2, hoa2, u0, u1, u2, u3, u4⟩ := HO2.out.at Hlw4.out h2
        have hin := HO2.out.2 k h2
        have h43k := H432.out k h2
        have hroK : ∀ w', Below B wr w' → RdI w' (os2 k).ha (os2 k).hn (os2 k).hs := fun w' hb => hin.1.still (Hlw4.out.trans (hb.mono HwB.out))
        generalize os2 k = o2 at u0 u1 u2 u3 u4 hin h43k hroK
        have HH2 := held_t HI4.out.swap (by omega) (by omega) o2 hroK h43k
        unfold Opx.cs at HH2
        rw [hoa2] at x1
        clear hin h43k hroK HI4 hoa2
        go_wp2_with (fail)
        refine HH2.mono ?_
        rintro e w5 ⟨rfl, t5, b5⟩
        have HI5 : Hid (Tx w5 B hb (2 * (k + 1)) db rb cb mb (4 * (k + 1))) := t5.swap.more (by omega) (by omega) (by omega)
        have HB5 : Hid (Below B w3 w5) := HB4.out.trans b5
        clear t5 b5 HH2 HB4 u0 u1 u2 u3 u4
        go_wp2_with (fail)
        first
          | exact ⟨⟨k + 1, by omega, by go_num, HI5.out, HB5.out⟩, by simp [intOf]; omega⟩
          | (go_roundw
             case rel => exact ⟨k + 1, by omega, by go_num, HI5.out, HB5.out⟩
             case measure => simp [intOf]; omega)
      · skip
        have i2 : ¬ (k : Int) < (on : Int) := by omega
        have i3 : ¬ (k : Int) < (on2 : Int) := by omega
        have HT2 : Hid (Tx wr B hb 200 db rb cb mb 400) := HI.out.more (by omega) (by omega) (by omega)
        have HBx : Hid (Below B w3 wr) := HBl.out
        clear HI HBl
        go_wp2_with (fail)
        clear x0 x1
        obtain ⟨wz, hwz⟩ : ∃ w0, w0 = wr := ⟨_, rfl⟩
        rw [← hwz] at HT2 HBx ⊢
        clear hwz Hlw
        go_loopw [13] (fun v13 wr => ∃ q : Nat, q ≤ 4 ∧ v13 = .int .i64 ((q : Int) + 4) ∧ Hid (Tx wr B hb (200 + 2 * q) db rb cb mb (400 + 4 * q)) ∧ Hid (Below B w3 wr)) (fun v13 _ => 8 - (intOf v13).toNat)
        case atStart => exact ⟨0, Nat.zero_le _, rfl, HT2.out, HBx.out⟩
        case round =>
        obtain ⟨q, hq, rfl, HJ, HBj⟩ := hrel
        clear HT2 HBx
        by_cases hql : q < 4
        · obtain ⟨kd, hkd⟩ : ∃ kd : Int, (q : Int) + 4 = kd := ⟨_, rfl⟩
          rw [hkd]
          have l7 : kd ≤ 7 := by omega
          have l4 : 4 ≤ kd := by omega
          have HH := held_t HJ.out (by omega) (by omega) ⟨kd, 0, 0, 0, none, 0, 0, []⟩ (fun w' _ => ⟨rfl, .inl rfl⟩) (by simp)
          unfold Opx.cs at HH
          have Hkd : Hid ((q : Int) + 4 = kd) := hkd
          clear HJ hkd
          go_wp2_with (fail)
          refine HH.mono ?_
          rintro e w4 ⟨rfl, t4, b4⟩
          have HB4 : Hid (Below B w3 w4) := HBj.out.trans b4
          have HH2 := held_t t4.swap (by omega) (by omega) ⟨kd, 0, 0, 0, none, 0, 0, []⟩ (fun w' _ => ⟨rfl, .inl rfl⟩) (by simp)
          unfold Opx.cs at HH2
          clear t4 b4 HH HBj
          go_wp2_with (fail)
          refine HH2.mono ?_
          rintro e w5 ⟨rfl, t5, b5⟩
          have HI5 : Hid (Tx w5 B hb (200 + 2 * (q + 1)) db rb cb mb (400 + 4 * (q + 1))) := t5.swap.more (by omega) (by omega) (by omega)
          have HB5 : Hid (Below B w3 w5) := HB4.out.trans b5
          have hwk : IntKind.i64.wrap (kd + 1) = kd + 1 := wrap_id (by omega) (by omega)
          clear t5 b5 HH2 HB4
          go_wp2_with (fail)
          exact ⟨⟨q + 1, by omega, by have := Hkd.out; simp only [Value.int.injEq, true_and]; omega, HI5.out, HB5.out⟩, by have := Hkd.out; simp [intOf]; omega⟩
        · obtain rfl : q = 4 := by omega
          have HAl := alone_t HJ.out (by omega)
          clear HJ
          go_wp2_with (fail)
          refine HAl.mono ?_
          rintro e w6 ⟨rfl, b6, D6, R6, C6, M6, d6, f6, rfl, rfl, rfl, rfl⟩
          have HB6 : Hid (Below B w3 w6) := HBj.out.trans b6
          have HA1 := all_any d6 (by omega) n hn16
          have HA2 : Hid (∀ w', Below w6.heap.size w6 w' → Calls Try.prog 18 #[.pointer (some ⟨C6.b, 0, none⟩), .pointer (some ⟨M6.b, 0, none⟩), .int .i64 (n2 : Int)] w' fun e w2 => e = .returned (.bool true) ∧ Below w'.heap.size w' w2) := fun w' hb => all_any (f6.still hb) (by omega) n2 hn216
          have r0 : w6.cell? ⟨ka, 0, none⟩ = some (.int .i64 (n : Int)) := below_to HB6.out hwA C3.out.1
          have HR1 : Hid (w6.cell? ⟨kb, 0, none⟩ = some (.int .i64 (n2 : Int))) := below_to HB6.out hwW C3.out.2.2.1
          have Hlw6 : Hid (Below w.heap.size w w6) := Hw3.out.trans (HB6.out.mono HwB.out)
          clear b6 d6 f6 HAl HBj
          go_wp2_with (fail)
          refine HA1.mono ?_
          rintro e w7 ⟨rfl, b7⟩
          have HB7 : Hid (Below w6.heap.size w6 w7) := b7
          have r1 := below_at b7 HR1.out
          clear b7 HA1
          go_wp2_with (fail)
          refine (HA2.out _ HB7.out).mono ?_
          rintro e w8 ⟨rfl, b8⟩
          have HF : Hid (Below w.heap.size w w8) := bstep (bstep Hlw6.out HB7.out) b8
          clear b8
          go_wp2_with (fail)
          go_ret
          exact ⟨rfl, HF.out⟩
  · have l90 : ¬ (k : Int) < 90 := by omega
    by_cases h1 : k < on
    · skip
      have i2 : (k : Int) < (on : Int) := by omega
      have HT2 : Hid (Tx wr B hb 200 db rb cb mb 400) := HI.out.more (by omega) (by omega) (by omega)
      have HBx : Hid (Below B w3 wr) := HBl.out
      clear HI HBl
      go_wp2_with (fail)
      clear x0 x1
      obtain ⟨wz, hwz⟩ : ∃ w0, w0 = wr := ⟨_, rfl⟩
      rw [← hwz] at HT2 HBx ⊢
      clear hwz Hlw
      go_loopw [13] (fun v13 wr => ∃ q : Nat, q ≤ 4 ∧ v13 = .int .i64 ((q : Int) + 4) ∧ Hid (Tx wr B hb (200 + 2 * q) db rb cb mb (400 + 4 * q)) ∧ Hid (Below B w3 wr)) (fun v13 _ => 8 - (intOf v13).toNat)
      case atStart => exact ⟨0, Nat.zero_le _, rfl, HT2.out, HBx.out⟩
      case round =>
      obtain ⟨q, hq, rfl, HJ, HBj⟩ := hrel
      clear HT2 HBx
      by_cases hql : q < 4
      · obtain ⟨kd, hkd⟩ : ∃ kd : Int, (q : Int) + 4 = kd := ⟨_, rfl⟩
        rw [hkd]
        have l7 : kd ≤ 7 := by omega
        have l4 : 4 ≤ kd := by omega
        have HH := held_t HJ.out (by omega) (by omega) ⟨kd, 0, 0, 0, none, 0, 0, []⟩ (fun w' _ => ⟨rfl, .inl rfl⟩) (by simp)
        unfold Opx.cs at HH
        have Hkd : Hid ((q : Int) + 4 = kd) := hkd
        clear HJ hkd
        go_wp2_with (fail)
        refine HH.mono ?_
        rintro e w4 ⟨rfl, t4, b4⟩
        have HB4 : Hid (Below B w3 w4) := HBj.out.trans b4
        have HH2 := held_t t4.swap (by omega) (by omega) ⟨kd, 0, 0, 0, none, 0, 0, []⟩ (fun w' _ => ⟨rfl, .inl rfl⟩) (by simp)
        unfold Opx.cs at HH2
        clear t4 b4 HH HBj
        go_wp2_with (fail)
        refine HH2.mono ?_
        rintro e w5 ⟨rfl, t5, b5⟩
        have HI5 : Hid (Tx w5 B hb (200 + 2 * (q + 1)) db rb cb mb (400 + 4 * (q + 1))) := t5.swap.more (by omega) (by omega) (by omega)
        have HB5 : Hid (Below B w3 w5) := HB4.out.trans b5
        have hwk : IntKind.i64.wrap (kd + 1) = kd + 1 := wrap_id (by omega) (by omega)
        clear t5 b5 HH2 HB4
        go_wp2_with (fail)
        exact ⟨⟨q + 1, by omega, by have := Hkd.out; simp only [Value.int.injEq, true_and]; omega, HI5.out, HB5.out⟩, by have := Hkd.out; simp [intOf]; omega⟩
      · obtain rfl : q = 4 := by omega
        have HAl := alone_t HJ.out (by omega)
        clear HJ
        go_wp2_with (fail)
        refine HAl.mono ?_
        rintro e w6 ⟨rfl, b6, D6, R6, C6, M6, d6, f6, rfl, rfl, rfl, rfl⟩
        have HB6 : Hid (Below B w3 w6) := HBj.out.trans b6
        have HA1 := all_any d6 (by omega) n hn16
        have HA2 : Hid (∀ w', Below w6.heap.size w6 w' → Calls Try.prog 18 #[.pointer (some ⟨C6.b, 0, none⟩), .pointer (some ⟨M6.b, 0, none⟩), .int .i64 (n2 : Int)] w' fun e w2 => e = .returned (.bool true) ∧ Below w'.heap.size w' w2) := fun w' hb => all_any (f6.still hb) (by omega) n2 hn216
        have r0 : w6.cell? ⟨ka, 0, none⟩ = some (.int .i64 (n : Int)) := below_to HB6.out hwA C3.out.1
        have HR1 : Hid (w6.cell? ⟨kb, 0, none⟩ = some (.int .i64 (n2 : Int))) := below_to HB6.out hwW C3.out.2.2.1
        have Hlw6 : Hid (Below w.heap.size w w6) := Hw3.out.trans (HB6.out.mono HwB.out)
        clear b6 d6 f6 HAl HBj
        go_wp2_with (fail)
        refine HA1.mono ?_
        rintro e w7 ⟨rfl, b7⟩
        have HB7 : Hid (Below w6.heap.size w6 w7) := b7
        have r1 := below_at b7 HR1.out
        clear b7 HA1
        go_wp2_with (fail)
        refine (HA2.out _ HB7.out).mono ?_
        rintro e w8 ⟨rfl, b8⟩
        have HF : Hid (Below w.heap.size w w8) := bstep (bstep Hlw6.out HB7.out) b8
        clear b8
        go_wp2_with (fail)
        go_ret
        exact ⟨rfl, HF.out⟩
    · by_cases h2 : k < on2
      · skip
        have i2 : ¬ (k : Int) < (on : Int) := by omega
        have i3 : (k : Int) < (on2 : Int) := by omega
        have HT2 : Hid (Tx wr B hb 200 db rb cb mb 400) := HI.out.more (by omega) (by omega) (by omega)
        have HBx : Hid (Below B w3 wr) := HBl.out
        clear HI HBl
        go_wp2_with (fail)
        clear x0 x1
        obtain ⟨wz, hwz⟩ : ∃ w0, w0 = wr := ⟨_, rfl⟩
        rw [← hwz] at HT2 HBx ⊢
        clear hwz Hlw
        go_loopw [13] (fun v13 wr => ∃ q : Nat, q ≤ 4 ∧ v13 = .int .i64 ((q : Int) + 4) ∧ Hid (Tx wr B hb (200 + 2 * q) db rb cb mb (400 + 4 * q)) ∧ Hid (Below B w3 wr)) (fun v13 _ => 8 - (intOf v13).toNat)
        case atStart => exact ⟨0, Nat.zero_le _, rfl, HT2.out, HBx.out⟩
        case round =>
        obtain ⟨q, hq, rfl, HJ, HBj⟩ := hrel
        clear HT2 HBx
        by_cases hql : q < 4
        · obtain ⟨kd, hkd⟩ : ∃ kd : Int, (q : Int) + 4 = kd := ⟨_, rfl⟩
          rw [hkd]
          have l7 : kd ≤ 7 := by omega
          have l4 : 4 ≤ kd := by omega
          have HH := held_t HJ.out (by omega) (by omega) ⟨kd, 0, 0, 0, none, 0, 0, []⟩ (fun w' _ => ⟨rfl, .inl rfl⟩) (by simp)
          unfold Opx.cs at HH
          have Hkd : Hid ((q : Int) + 4 = kd) := hkd
          clear HJ hkd
          go_wp2_with (fail)
          refine HH.mono ?_
          rintro e w4 ⟨rfl, t4, b4⟩
          have HB4 : Hid (Below B w3 w4) := HBj.out.trans b4
          have HH2 := held_t t4.swap (by omega) (by omega) ⟨kd, 0, 0, 0, none, 0, 0, []⟩ (fun w' _ => ⟨rfl, .inl rfl⟩) (by simp)
          unfold Opx.cs at HH2
          clear t4 b4 HH HBj
          go_wp2_with (fail)
          refine HH2.mono ?_
          rintro e w5 ⟨rfl, t5, b5⟩
          have HI5 : Hid (Tx w5 B hb (200 + 2 * (q + 1)) db rb cb mb (400 + 4 * (q + 1))) := t5.swap.more (by omega) (by omega) (by omega)
          have HB5 : Hid (Below B w3 w5) := HB4.out.trans b5
          have hwk : IntKind.i64.wrap (kd + 1) = kd + 1 := wrap_id (by omega) (by omega)
          clear t5 b5 HH2 HB4
          go_wp2_with (fail)
          exact ⟨⟨q + 1, by omega, by have := Hkd.out; simp only [Value.int.injEq, true_and]; omega, HI5.out, HB5.out⟩, by have := Hkd.out; simp [intOf]; omega⟩
        · obtain rfl : q = 4 := by omega
          have HAl := alone_t HJ.out (by omega)
          clear HJ
          go_wp2_with (fail)
          refine HAl.mono ?_
          rintro e w6 ⟨rfl, b6, D6, R6, C6, M6, d6, f6, rfl, rfl, rfl, rfl⟩
          have HB6 : Hid (Below B w3 w6) := HBj.out.trans b6
          have HA1 := all_any d6 (by omega) n hn16
          have HA2 : Hid (∀ w', Below w6.heap.size w6 w' → Calls Try.prog 18 #[.pointer (some ⟨C6.b, 0, none⟩), .pointer (some ⟨M6.b, 0, none⟩), .int .i64 (n2 : Int)] w' fun e w2 => e = .returned (.bool true) ∧ Below w'.heap.size w' w2) := fun w' hb => all_any (f6.still hb) (by omega) n2 hn216
          have r0 : w6.cell? ⟨ka, 0, none⟩ = some (.int .i64 (n : Int)) := below_to HB6.out hwA C3.out.1
          have HR1 : Hid (w6.cell? ⟨kb, 0, none⟩ = some (.int .i64 (n2 : Int))) := below_to HB6.out hwW C3.out.2.2.1
          have Hlw6 : Hid (Below w.heap.size w w6) := Hw3.out.trans (HB6.out.mono HwB.out)
          clear b6 d6 f6 HAl HBj
          go_wp2_with (fail)
          refine HA1.mono ?_
          rintro e w7 ⟨rfl, b7⟩
          have HB7 : Hid (Below w6.heap.size w6 w7) := b7
          have r1 := below_at b7 HR1.out
          clear b7 HA1
          go_wp2_with (fail)
          refine (HA2.out _ HB7.out).mono ?_
          rintro e w8 ⟨rfl, b8⟩
          have HF : Hid (Below w.heap.size w w8) := bstep (bstep Hlw6.out HB7.out) b8
          clear b8
          go_wp2_with (fail)
          go_ret
          exact ⟨rfl, HF.out⟩
      · skip
        have i2 : ¬ (k : Int) < (on : Int) := by omega
        have i3 : ¬ (k : Int) < (on2 : Int) := by omega
        have HT2 : Hid (Tx wr B hb 200 db rb cb mb 400) := HI.out.more (by omega) (by omega) (by omega)
        have HBx : Hid (Below B w3 wr) := HBl.out
        clear HI HBl
        go_wp2_with (fail)
        clear x0 x1
        obtain ⟨wz, hwz⟩ : ∃ w0, w0 = wr := ⟨_, rfl⟩
        rw [← hwz] at HT2 HBx ⊢
        clear hwz Hlw
        go_loopw [13] (fun v13 wr => ∃ q : Nat, q ≤ 4 ∧ v13 = .int .i64 ((q : Int) + 4) ∧ Hid (Tx wr B hb (200 + 2 * q) db rb cb mb (400 + 4 * q)) ∧ Hid (Below B w3 wr)) (fun v13 _ => 8 - (intOf v13).toNat)
        case atStart => exact ⟨0, Nat.zero_le _, rfl, HT2.out, HBx.out⟩
        case round =>
        obtain ⟨q, hq, rfl, HJ, HBj⟩ := hrel
        clear HT2 HBx
        by_cases hql : q < 4
        · obtain ⟨kd, hkd⟩ : ∃ kd : Int, (q : Int) + 4 = kd := ⟨_, rfl⟩
          rw [hkd]
          have l7 : kd ≤ 7 := by omega
          have l4 : 4 ≤ kd := by omega
          have HH := held_t HJ.out (by omega) (by omega) ⟨kd, 0, 0, 0, none, 0, 0, []⟩ (fun w' _ => ⟨rfl, .inl rfl⟩) (by simp)
          unfold Opx.cs at HH
          have Hkd : Hid ((q : Int) + 4 = kd) := hkd
          clear HJ hkd
          go_wp2_with (fail)
          refine HH.mono ?_
          rintro e w4 ⟨rfl, t4, b4⟩
          have HB4 : Hid (Below B w3 w4) := HBj.out.trans b4
          have HH2 := held_t t4.swap (by omega) (by omega) ⟨kd, 0, 0, 0, none, 0, 0, []⟩ (fun w' _ => ⟨rfl, .inl rfl⟩) (by simp)
          unfold Opx.cs at HH2
          clear t4 b4 HH HBj
          go_wp2_with (fail)
          refine HH2.mono ?_
          rintro e w5 ⟨rfl, t5, b5⟩
          have HI5 : Hid (Tx w5 B hb (200 + 2 * (q + 1)) db rb cb mb (400 + 4 * (q + 1))) := t5.swap.more (by omega) (by omega) (by omega)
          have HB5 : Hid (Below B w3 w5) := HB4.out.trans b5
          have hwk : IntKind.i64.wrap (kd + 1) = kd + 1 := wrap_id (by omega) (by omega)
          clear t5 b5 HH2 HB4
          go_wp2_with (fail)
          exact ⟨⟨q + 1, by omega, by have := Hkd.out; simp only [Value.int.injEq, true_and]; omega, HI5.out, HB5.out⟩, by have := Hkd.out; simp [intOf]; omega⟩
        · obtain rfl : q = 4 := by omega
          have HAl := alone_t HJ.out (by omega)
          clear HJ
          go_wp2_with (fail)
          refine HAl.mono ?_
          rintro e w6 ⟨rfl, b6, D6, R6, C6, M6, d6, f6, rfl, rfl, rfl, rfl⟩
          have HB6 : Hid (Below B w3 w6) := HBj.out.trans b6
          have HA1 := all_any d6 (by omega) n hn16
          have HA2 : Hid (∀ w', Below w6.heap.size w6 w' → Calls Try.prog 18 #[.pointer (some ⟨C6.b, 0, none⟩), .pointer (some ⟨M6.b, 0, none⟩), .int .i64 (n2 : Int)] w' fun e w2 => e = .returned (.bool true) ∧ Below w'.heap.size w' w2) := fun w' hb => all_any (f6.still hb) (by omega) n2 hn216
          have r0 : w6.cell? ⟨ka, 0, none⟩ = some (.int .i64 (n : Int)) := below_to HB6.out hwA C3.out.1
          have HR1 : Hid (w6.cell? ⟨kb, 0, none⟩ = some (.int .i64 (n2 : Int))) := below_to HB6.out hwW C3.out.2.2.1
          have Hlw6 : Hid (Below w.heap.size w w6) := Hw3.out.trans (HB6.out.mono HwB.out)
          clear b6 d6 f6 HAl HBj
          go_wp2_with (fail)
          refine HA1.mono ?_
          rintro e w7 ⟨rfl, b7⟩
          have HB7 : Hid (Below w6.heap.size w6 w7) := b7
          have r1 := below_at b7 HR1.out
          clear b7 HA1
          go_wp2_with (fail)
          refine (HA2.out _ HB7.out).mono ?_
          rintro e w8 ⟨rfl, b8⟩
          have HF : Hid (Below w.heap.size w w8) := bstep (bstep Hlw6.out HB7.out) b8
          clear b8
          go_wp2_with (fail)
          go_ret
          exact ⟨rfl, HF.out⟩
end
end Go.Proofs.Ytfbollifegngjaa.Dt
