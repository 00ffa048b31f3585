import Derived.Test.YthanifbimndhaaaM32
namespace Go.Proofs.Ythanifbimndhaaa.Ln
set_option maxHeartbeats 40000000
open Go.RowKit Mb
set_option linter.unusedVariables false
set_option maxRecDepth 100000
set_option linter.unusedSimpArgs false
section
variable {w w' W : World} {B T : Nat} {Y : Pl}
theorem put3 {k bn bc pn pc : Nat} {pe nn mm ww : Int} {t : Tg} {ba pa : Option Addr} {M : Mx} {R : Rx} (h : PlOk Y w B T) (ht : Y.tn ≤ (Y.os.length : Int)) (hT : T + 1 ≤ 450) (hk : k < 3) (hM : Y.M k = some (M, R)) {bs xs : List Int} (hA : ArgOk w B ba bn bc bs pa pn pc xs) : Calls Try.prog 15 #[.pointer (some ⟨Y.b, 0, none⟩), .agg #[.int .i64 (k : Int), .int .i64 3, .int .i64 pe, .int .i64 nn, .int .i64 mm, .int .i64 ww, .int .i64 t.e, .int .i64 t.l, .int .i64 t.i, .int .i64 t.c, .slice ba bn bc, .slice pa pn pc]] w fun e w' => e = .returned (.bool true) /\ YsO w w' B T Y := by
 have H : Hid (PlOk Y w B T) := h
 have Ht : Hid (Y.tn ≤ (Y.os.length : Int)) := ht
 have HT : Hid (T + 1 ≤ 450) := hT
 have Hk : Hid (k < 3) := hk
 have HM : Hid (Y.M k = some (M, R)) := hM
 obtain ⟨yb, hyb⟩ : ∃ b, Y.b = b := ⟨_, rfl⟩
 have Hyb : Hid (Y.b = yb) := hyb
 have i1 : (0 : Int) ≤ (k : Int) := Int.natCast_nonneg _
 have i2 : (k : Int) < 3 := by omega
 have HA : Hid (ArgOk w B ba bn bc bs pa pn pc xs) := hA
 clear hA
 generalize hW : w.alloc (.cells #[.int .i64 (k : Int), .int .i64 3, .int .i64 pe, .int .i64 nn, .int .i64 mm, .int .i64 ww, .int .i64 t.e, .int .i64 t.l, .int .i64 t.i, .int .i64 t.c, .slice ba bn bc, .slice pa pn pc] 43) = W
 have hbW := bW0 hW
 have HbW : Hid (Below w.heap.size w W) := hbW
 have hblk := hQ0 hW
 have b0 : W.cell? ⟨w.heap.size, 0, none⟩ = some (.int .i64 (k : Int)) := bC hblk 0
 have b1 : W.cell? ⟨w.heap.size, 1, none⟩ = some (.int .i64 3) := bC hblk 1
 have b2 : W.cell? ⟨w.heap.size, 2, none⟩ = some (.int .i64 pe) := bC hblk 2
 have b3 : W.cell? ⟨w.heap.size, 3, none⟩ = some (.int .i64 nn) := bC hblk 3
 have b4 : W.cell? ⟨w.heap.size, 4, none⟩ = some (.int .i64 mm) := bC hblk 4
 have b5 : W.cell? ⟨w.heap.size, 5, none⟩ = some (.int .i64 ww) := bC hblk 5
 have b6 : W.cell? ⟨w.heap.size, 6, none⟩ = some (.int .i64 t.e) := bC hblk 6
 have b7 : W.cell? ⟨w.heap.size, 7, none⟩ = some (.int .i64 t.l) := bC hblk 7
 have b8 : W.cell? ⟨w.heap.size, 8, none⟩ = some (.int .i64 t.i) := bC hblk 8
 have b9 : W.cell? ⟨w.heap.size, 9, none⟩ = some (.int .i64 t.c) := bC hblk 9
 have b10 : W.cell? ⟨w.heap.size, 10, none⟩ = some (.slice ba bn bc) := bC hblk 10
 have b11 : W.cell? ⟨w.heap.size, 11, none⟩ = some (.slice pa pn pc) := bC hblk 11
 have cM := (h.still hbW).cM hk
 rw [hM, hyb] at cM
 have cP : W.cell? ⟨yb, k, none⟩ = some (.pointer (some ⟨M.b, 0, none⟩)) := cM.1
 have cD : W.cell? ⟨yb, 3 + k, none⟩ = some (.pointer (some ⟨R.b, 0, none⟩)) := cM.2
 rw [hyb]
 clear h ht hT hk hM hyb hbW hblk cM
 go_enter Try.func15, Try.ntmps15
 go_wp2
 refine wp_region_held_drew (S := (fun w' => w'.cell? ⟨w.heap.size, 0, none⟩ = some (.int .i64 (k : Int)) /\ w'.cell? ⟨yb, k, none⟩ = some (.pointer (some ⟨M.b, 0, none⟩)))) (by kernel_rfl) ⟨(dW0 b0), (dW0 cP)⟩ (fun hH => ?_)
 simp only [Act.put, lA, lC, lN, zA]
 refine tG 0 23 (.pointer (some ⟨yb, 0, none⟩)) rfl hH ?_
 simp only [aP, sA, sZ, sC]
 refine tG 1 24 (.pointer (some ⟨w.heap.size, 0, none⟩)) rfl hH ?_
 simp only [aP, sA, sZ, sC]
 refine tL 2 25 (.int .i64 (k : Int)) rfl hH ?_
 simp only [aP, sA, sZ, sC]
 refine tG 3 26 (.pointer (some ⟨yb, 0, none⟩)) rfl hH ?_
 simp only [aP, sA, sZ, sC]
 refine tG 4 27 (.pointer (some ⟨yb, 0, none⟩)) rfl hH ?_
 simp only [aP, sA, sZ, sC]
 refine tG 5 28 (.pointer (some ⟨yb, k, none⟩)) rfl hH ?_
 simp only [aP, sA, sZ, sC]
 refine tL 6 29 (.pointer (some ⟨M.b, 0, none⟩)) rfl hH ?_
 simp only [aP, sA, sZ, sC]
 refine tG 7 5 (.pointer (some ⟨M.b, 0, none⟩)) rfl hH ?_
 simp only [aP, sA, sZ, sC]
 refine wpAnyH_done (by kernel_rfl) ?_ _
 clear hH
 have hbq1 : Below W.heap.size W W.drew := dB _
 have d0 := bA hbq1 b0
 have d1 := bA hbq1 b1
 have d2 := bA hbq1 b2
 have d3 := bA hbq1 b3
 have d4 := bA hbq1 b4
 have d5 := bA hbq1 b5
 have d6 := bA hbq1 b6
 have d7 := bA hbq1 b7
 have d8 := bA hbq1 b8
 have d9 := bA hbq1 b9
 have d10 := bA hbq1 b10
 have d11 := bA hbq1 b11
 have eP := bA hbq1 cP
 have eD := bA hbq1 cD
 have HD1 : Hid (Below w.heap.size w W.drew) := (show Below _ _ _ from bstep HbW.out hbq1)
 clear hbq1 b0 b1 b2 b3 b4 b5 b6 b7 b8 b9 b10 b11 cP cD HbW
 generalize W.drew = D1 at HD1 d0 d1 d2 d3 d4 d5 d6 d7 d8 d9 d10 d11 eP eD ⊢
 have HbD1 := HD1
 clear HD1
 go_wp2
 refine wp_region_held_drew (S := (fun w' => w'.cell? ⟨w.heap.size, 0, none⟩ = some (.int .i64 (k : Int)) /\ w'.cell? ⟨yb, 3 + k, none⟩ = some (.pointer (some ⟨R.b, 0, none⟩)))) (by kernel_rfl) ⟨(dW0 d0), (dW0 eD)⟩ (fun hH => ?_)
 simp only [Act.put, lA, lC, lN, zA]
 refine tG 0 30 (.pointer (some ⟨yb, 0, none⟩)) rfl hH ?_
 simp only [aP, sA, sZ, sC]
 refine tG 1 31 (.pointer (some ⟨w.heap.size, 0, none⟩)) rfl hH ?_
 simp only [aP, sA, sZ, sC]
 refine tL 2 32 (.int .i64 (k : Int)) rfl hH ?_
 simp only [aP, sA, sZ, sC]
 refine tG 3 33 (.pointer (some ⟨yb, 0, none⟩)) rfl hH ?_
 simp only [aP, sA, sZ, sC]
 refine tG 4 34 (.pointer (some ⟨yb, 3, none⟩)) rfl hH ?_
 simp only [aP, sA, sZ, sC]
 refine tG 5 35 (.pointer (some ⟨yb, 3 + k, none⟩)) rfl hH ?_
 simp only [aP, sA, sZ, sC]
 refine tL 6 36 (.pointer (some ⟨R.b, 0, none⟩)) rfl hH ?_
 simp only [aP, sA, sZ, sC]
 refine tG 7 6 (.pointer (some ⟨R.b, 0, none⟩)) rfl hH ?_
 simp only [aP, sA, sZ, sC]
 refine wpAnyH_done (by kernel_rfl) ?_ _
 clear hH
 have hbq2 : Below D1.heap.size D1 D1.drew := dB _
 have o0 := bA hbq2 d0
 have o1 := bA hbq2 d1
 have o2 := bA hbq2 d2
 have o3 := bA hbq2 d3
 have o4 := bA hbq2 d4
 have o5 := bA hbq2 d5
 have o6 := bA hbq2 d6
 have o7 := bA hbq2 d7
 have o8 := bA hbq2 d8
 have o9 := bA hbq2 d9
 have o10 := bA hbq2 d10
 have o11 := bA hbq2 d11
 have fP := bA hbq2 eP
 have fD := bA hbq2 eD
 have HD2 : Hid (Below w.heap.size w D1.drew) := (show Below _ _ _ from bstep HbD1.out hbq2)
 clear hbq2 d0 d1 d2 d3 d4 d5 d6 d7 d8 d9 d10 d11 eP eD HbD1
 generalize D1.drew = D2 at HD2 o0 o1 o2 o3 o4 o5 o6 o7 o8 o9 o10 o11 fP fD ⊢
 have HbD2 := HD2
 clear HD2
 clear fP fD
 have HLo : Hid (Calls Try.prog 33 #[.slice ba bn bc] D2 fun e w' => LsO D2 w' bn bs e) := (show Calls _ _ _ _ _ from loose_at (HA.out.on (HbD2.out.mono H.out.bk.b)).rb HA.out.nb)
 go_wp2_with fail
 refine HLo.out.mono ?_
 rintro e w3 ⟨g, cap, rfl, hls, hb3⟩
 have HLs : Hid (Lo.Own w3 D2.heap.size (lsv g bn cap) (bs ++ Lo.marks 64)) := hls
 have HRd : Hid (Rd w3 (some ⟨g, 0, none⟩) bn cap bs) := (show Rd _ _ _ _ _ from ls_rd hls HA.out.rb.len HA.out.rb.by_)
 have Hb3 : Hid (Below w.heap.size w w3) := (show Below _ _ _ from bstep HbD2.out hb3)
 have Hg : Hid (w.heap.size ≤ g /\ g < w3.heap.size) := (show _ /\ _ from ⟨Nat.le_trans HbD2.out.size (ls_lo hls).1, (ls_lo hls).2⟩)
 obtain ⟨m, hm⟩ : ∃ m, bn + 64 = m := ⟨_, rfl⟩
 have Hm : Hid (bn + 64 = m) := hm
 rw [hm]
 have HJ : Hid ((m : Int) ≤ 140737488351296) := (show _ ≤ _ from by have := HA.out.nb; omega)
 have hSl : ∀ X : World, (Instr.slice 40 (.slice (some ⟨g, 0, none⟩) m cap) none (some (.int .i64 (bn : Int))) none).run Try.prog X = .ok (.slice (some ⟨g, 0, none⟩) bn cap) X := slice_hi HRd.out.cap
 have HoM : Hid (¬ M.own w.heap.size /\ ¬ R.own w.heap.size) := (show _ /\ _ from ⟨fun e => by have := ((H.out.duo k M R Hk.out HM.out).lt (.inl e)).2; omega, fun e => by have := ((H.out.duo k M R Hk.out HM.out).lt (.inr e)).2; omega⟩)
 have HgM : Hid (¬ (M.own g ∨ R.own g)) := (show ¬ _ from fun e => by have := ((H.out.duo k M R Hk.out HM.out).lt e).2; have := Hg.out.1; omega)
 have p0 := bA hb3 o0
 have p1 := bA hb3 o1
 have p2 := bA hb3 o2
 have p3 := bA hb3 o3
 have p4 := bA hb3 o4
 have p5 := bA hb3 o5
 have p6 := bA hb3 o6
 have p7 := bA hb3 o7
 have p8 := bA hb3 o8
 have p9 := bA hb3 o9
 have p10 := bA hb3 o10
 have p11 := bA hb3 o11
 clear hls hb3 hm o0 o1 o2 o3 o4 o5 o6 o7 o8 o9 o10 o11 HLo
 as_aux_lemma =>
 have hd3 := (H.out.still Hb3.out).duo k M R Hk.out HM.out
 obtain ⟨v, hB⟩ := both_push hd3 (Nat.le_trans H.out.bk.b Hb3.out.size) (by have := HT.out; omega) pe HRd.out (a2 := ba) (c2 := bc)
 have HP : Hid (Calls Try.prog 26 #[.pointer (some ⟨M.b, 0, none⟩), .int .i64 pe, .slice (some ⟨g, 0, none⟩) bn cap] w3 fun e w1 => e = .returned (.int .i64 v) /\ (∃ P : Nat -> Prop, Kept w3 w1 P /\ ∀ j, P j -> M.own j) /\ ∀ D, Below w1.heap.size w1 D -> Rd D ba bn bc bs -> Calls Try.prog 37 #[.pointer (some ⟨R.b, 0, none⟩), .int .i64 pe, .slice ba bn bc] D fun e w2 => e = .returned (.int .i64 v) /\ ∃ M' R', DStep w3 w2 B (T + 1) M R M' R') := hB
 clear hB hd3
 go_wp2_with fail
 refine HP.out.mono ?_
 rintro e w4 ⟨rfl, ⟨P, hkP, hPM⟩, hq⟩
 have HQ : Hid (Calls Try.prog 37 #[.pointer (some ⟨R.b, 0, none⟩), .int .i64 pe, .slice ba bn bc] w4 fun e w2 => e = .returned (.int .i64 v) /\ ∃ M' R', DStep w3 w2 B (T + 1) M R M' R') := (show Calls _ _ _ _ _ from hq w4 (Below.refl _ _) (HA.out.on ((Hb3.out.mono H.out.bk.b).trans (hkP.below (Nat.le_trans H.out.bk.b Hb3.out.size) fun j hj e => by have := ((H.out.duo k M R Hk.out HM.out).lt (.inl (hPM j e))).1; omega))).rb)
 have q0 := kC hkP (fun e => HoM.out.1 (hPM _ e)) p0
 have q1 := kC hkP (fun e => HoM.out.1 (hPM _ e)) p1
 have q2 := kC hkP (fun e => HoM.out.1 (hPM _ e)) p2
 have q3 := kC hkP (fun e => HoM.out.1 (hPM _ e)) p3
 have q4 := kC hkP (fun e => HoM.out.1 (hPM _ e)) p4
 have q5 := kC hkP (fun e => HoM.out.1 (hPM _ e)) p5
 have q6 := kC hkP (fun e => HoM.out.1 (hPM _ e)) p6
 have q7 := kC hkP (fun e => HoM.out.1 (hPM _ e)) p7
 have q8 := kC hkP (fun e => HoM.out.1 (hPM _ e)) p8
 have q9 := kC hkP (fun e => HoM.out.1 (hPM _ e)) p9
 have q10 := kC hkP (fun e => HoM.out.1 (hPM _ e)) p10
 have q11 := kC hkP (fun e => HoM.out.1 (hPM _ e)) p11
 clear hkP hPM hq HP
 as_aux_lemma =>
 go_wp2_with fail
 refine HQ.out.mono ?_
 rintro e w5 ⟨rfl, M', R', hs5⟩
 have HG : Hid (YsG w w5 B T Y g) := (show YsG _ _ _ _ _ _ from YsG.pre Hb3.out H.out.bk.b (ysg_mux (H.out.still Hb3.out) Ht.out HT.out Hk.out HM.out hs5 Hg.out.2 (out_above H.out Hg.out.1)))
 have HLx : Hid (Lo.Own w5 D2.heap.size (lsv g bn cap) (bs ++ Lo.marks 64)) := ls_keep HLs.out hs5.kept HgM.out
 have r0 := kC hs5.kept (fun e => e.elim HoM.out.1 HoM.out.2) p0
 have r1 := kC hs5.kept (fun e => e.elim HoM.out.1 HoM.out.2) p1
 have r2 := kC hs5.kept (fun e => e.elim HoM.out.1 HoM.out.2) p2
 have r3 := kC hs5.kept (fun e => e.elim HoM.out.1 HoM.out.2) p3
 have r4 := kC hs5.kept (fun e => e.elim HoM.out.1 HoM.out.2) p4
 have r5 := kC hs5.kept (fun e => e.elim HoM.out.1 HoM.out.2) p5
 have r6 := kC hs5.kept (fun e => e.elim HoM.out.1 HoM.out.2) p6
 have r7 := kC hs5.kept (fun e => e.elim HoM.out.1 HoM.out.2) p7
 have r8 := kC hs5.kept (fun e => e.elim HoM.out.1 HoM.out.2) p8
 have r9 := kC hs5.kept (fun e => e.elim HoM.out.1 HoM.out.2) p9
 have r10 := kC hs5.kept (fun e => e.elim HoM.out.1 HoM.out.2) p10
 have r11 := kC hs5.kept (fun e => e.elim HoM.out.1 HoM.out.2) p11
 clear hs5 HQ q0 q1 q2 q3 q4 q5 q6 q7 q8 q9 q10 q11 p0 p1 p2 p3 p4 p5 p6 p7 p8 p9 p10 p11
 as_aux_lemma =>
 have HBB : Hid (Below B w w5) := (show Below _ _ _ from by obtain ⟨_, _, _, _, h4, _⟩ := HG.out.out; exact h4)
 have HU : Hid (∀ D, Below w5.heap.size w5 D -> Calls Try.prog 42 #[.slice (some ⟨g, 0, none⟩) m cap, .slice ba bn bc] D fun e w' => e = .returned (.bool true) /\ Below D.heap.size D w') := fun D hb => (show Calls _ _ _ _ _ from by
  rw [<- Hm.out]
  exact unsp_at ((HA.out.on HBB.out).rb.still hb) HA.out.nb (own_still HLx.out hb))
 go_wp2_with (first
  | (go_at_call 24; refine (num_any _).mono ?_; rintro e w9 ⟨rfl, rfl⟩)
  | (go_at_call 42; refine (HU.out _ (Below.refl _ _)).mono ?_; rintro e w6 ⟨rfl, hb6⟩; have HG6 : Hid (YsG w w6 B T Y g) := (show YsG _ _ _ _ _ _ from HG.out.on hb6); have HL6 : Hid (Lo.Own w6 D2.heap.size (lsv g bn cap) (bs ++ Lo.marks 64)) := own_still HLx.out hb6; clear hb6)
  | fail)
 have HF0 : Hid (FlS w6 w6 g 5 m) := (show FlS _ _ _ _ _ from ⟨by rw [<- Hm.out]; exact ls_blk HL6.out, Kept.ofBelow (Below.refl _ _) _⟩)
 clear HU HLx HBB HG
 as_aux_lemma =>
 go_loopw [22] (fun v22 wr => ∃ i : Nat, i ≤ m /\ v22 = .int .i64 (i : Int) /\ Hid (FlS w6 wr g 5 m)) (fun v22 _ => m - (intOf v22).toNat)
 case atStart => exact ⟨0, by omega, rfl, HF0⟩
 case round =>
  clear HF0
  obtain ⟨i, hi, rfl, hs⟩ := hrel
  by_cases hlt : i < m
  ·have l1 : (0 : Int) ≤ (i : Int) := Int.natCast_nonneg _
   have l2 : (i : Int) < (m : Int) := by omega
   have j3 := HJ.out
   obtain ⟨⟨zv, hzv⟩, hzf⟩ := hs.out.cell hlt
   have HN : Hid (FlS w6 (wr.setCell ⟨g, i, none⟩ (.int .u8 238)) g 5 m) := (show FlS _ _ _ _ _ from hs.out.set)
   clear hs hlt
   as_aux_lemma =>
   go_wp2
   exact ⟨⟨i + 1, by omega, by go_num, HN⟩, by simp [intOf]; omega⟩
  ·have l2 : ¬ (i : Int) < (m : Int) := by omega
   have HO : Hid (YsO w wr B T Y) := (show YsO _ _ _ _ _ from by
    obtain ⟨C, hC, _⟩ := ls_blk HL6.out
    exact ys_fill HG6.out (Nat.le_trans H.out.bk.b Hg.out.1) (.inl rfl) ⟨C, hC⟩ hs.out)
   clear hs hlt
   as_aux_lemma =>
   go_wp2
   go_ret
   exact ⟨rfl, HO.out⟩
end
section
variable {w w' W : World} {B T : Nat} {Y : Pl}
theorem put8 {k bn bc pn pc : Nat} {pe nn mm ww : Int} {t : Tg} {ba pa : Option Addr} {M : Mx} {R : Rx} (h : PlOk Y w B T) (ht : Y.tn ≤ (Y.os.length : Int)) (hT : T + 1 ≤ 450) (hk : k < 3) (hM : Y.M k = some (M, R)) {bs xs : List Int} (hA : ArgOk w B ba bn bc bs pa pn pc xs) : Calls Try.prog 15 #[.pointer (some ⟨Y.b, 0, none⟩), .agg #[.int .i64 (k : Int), .int .i64 8, .int .i64 pe, .int .i64 nn, .int .i64 mm, .int .i64 ww, .int .i64 t.e, .int .i64 t.l, .int .i64 t.i, .int .i64 t.c, .slice ba bn bc, .slice pa pn pc]] w fun e w' => e = .returned (.bool true) /\ YsO w w' B T Y := by
 have H : Hid (PlOk Y w B T) := h
 have Ht : Hid (Y.tn ≤ (Y.os.length : Int)) := ht
 have HT : Hid (T + 1 ≤ 450) := hT
 have Hk : Hid (k < 3) := hk
 have HM : Hid (Y.M k = some (M, R)) := hM
 obtain ⟨yb, hyb⟩ : ∃ b, Y.b = b := ⟨_, rfl⟩
 have Hyb : Hid (Y.b = yb) := hyb
 have i1 : (0 : Int) ≤ (k : Int) := Int.natCast_nonneg _
 have i2 : (k : Int) < 3 := by omega
 have HA : Hid (ArgOk w B ba bn bc bs pa pn pc xs) := hA
 clear hA
 generalize hW : w.alloc (.cells #[.int .i64 (k : Int), .int .i64 8, .int .i64 pe, .int .i64 nn, .int .i64 mm, .int .i64 ww, .int .i64 t.e, .int .i64 t.l, .int .i64 t.i, .int .i64 t.c, .slice ba bn bc, .slice pa pn pc] 43) = W
 have hbW := bW0 hW
 have HbW : Hid (Below w.heap.size w W) := hbW
 have hblk := hQ0 hW
 have b0 : W.cell? ⟨w.heap.size, 0, none⟩ = some (.int .i64 (k : Int)) := bC hblk 0
 have b1 : W.cell? ⟨w.heap.size, 1, none⟩ = some (.int .i64 8) := bC hblk 1
 have b2 : W.cell? ⟨w.heap.size, 2, none⟩ = some (.int .i64 pe) := bC hblk 2
 have b3 : W.cell? ⟨w.heap.size, 3, none⟩ = some (.int .i64 nn) := bC hblk 3
 have b4 : W.cell? ⟨w.heap.size, 4, none⟩ = some (.int .i64 mm) := bC hblk 4
 have b5 : W.cell? ⟨w.heap.size, 5, none⟩ = some (.int .i64 ww) := bC hblk 5
 have b6 : W.cell? ⟨w.heap.size, 6, none⟩ = some (.int .i64 t.e) := bC hblk 6
 have b7 : W.cell? ⟨w.heap.size, 7, none⟩ = some (.int .i64 t.l) := bC hblk 7
 have b8 : W.cell? ⟨w.heap.size, 8, none⟩ = some (.int .i64 t.i) := bC hblk 8
 have b9 : W.cell? ⟨w.heap.size, 9, none⟩ = some (.int .i64 t.c) := bC hblk 9
 have b10 : W.cell? ⟨w.heap.size, 10, none⟩ = some (.slice ba bn bc) := bC hblk 10
 have b11 : W.cell? ⟨w.heap.size, 11, none⟩ = some (.slice pa pn pc) := bC hblk 11
 have cM := (h.still hbW).cM hk
 rw [hM, hyb] at cM
 have cP : W.cell? ⟨yb, k, none⟩ = some (.pointer (some ⟨M.b, 0, none⟩)) := cM.1
 have cD : W.cell? ⟨yb, 3 + k, none⟩ = some (.pointer (some ⟨R.b, 0, none⟩)) := cM.2
 rw [hyb]
 clear h ht hT hk hM hyb hbW hblk cM
 go_enter Try.func15, Try.ntmps15
 go_wp2
 refine wp_region_held_drew (S := (fun w' => w'.cell? ⟨w.heap.size, 0, none⟩ = some (.int .i64 (k : Int)) /\ w'.cell? ⟨yb, k, none⟩ = some (.pointer (some ⟨M.b, 0, none⟩)))) (by kernel_rfl) ⟨(dW0 b0), (dW0 cP)⟩ (fun hH => ?_)
 simp only [Act.put, lA, lC, lN, zA]
 refine tG 0 23 (.pointer (some ⟨yb, 0, none⟩)) rfl hH ?_
 simp only [aP, sA, sZ, sC]
 refine tG 1 24 (.pointer (some ⟨w.heap.size, 0, none⟩)) rfl hH ?_
 simp only [aP, sA, sZ, sC]
 refine tL 2 25 (.int .i64 (k : Int)) rfl hH ?_
 simp only [aP, sA, sZ, sC]
 refine tG 3 26 (.pointer (some ⟨yb, 0, none⟩)) rfl hH ?_
 simp only [aP, sA, sZ, sC]
 refine tG 4 27 (.pointer (some ⟨yb, 0, none⟩)) rfl hH ?_
 simp only [aP, sA, sZ, sC]
 refine tG 5 28 (.pointer (some ⟨yb, k, none⟩)) rfl hH ?_
 simp only [aP, sA, sZ, sC]
 refine tL 6 29 (.pointer (some ⟨M.b, 0, none⟩)) rfl hH ?_
 simp only [aP, sA, sZ, sC]
 refine tG 7 5 (.pointer (some ⟨M.b, 0, none⟩)) rfl hH ?_
 simp only [aP, sA, sZ, sC]
 refine wpAnyH_done (by kernel_rfl) ?_ _
 clear hH
 have hbq1 : Below W.heap.size W W.drew := dB _
 have d0 := bA hbq1 b0
 have d1 := bA hbq1 b1
 have d2 := bA hbq1 b2
 have d3 := bA hbq1 b3
 have d4 := bA hbq1 b4
 have d5 := bA hbq1 b5
 have d6 := bA hbq1 b6
 have d7 := bA hbq1 b7
 have d8 := bA hbq1 b8
 have d9 := bA hbq1 b9
 have d10 := bA hbq1 b10
 have d11 := bA hbq1 b11
 have eP := bA hbq1 cP
 have eD := bA hbq1 cD
 have HD1 : Hid (Below w.heap.size w W.drew) := (show Below _ _ _ from bstep HbW.out hbq1)
 clear hbq1 b0 b1 b2 b3 b4 b5 b6 b7 b8 b9 b10 b11 cP cD HbW
 generalize W.drew = D1 at HD1 d0 d1 d2 d3 d4 d5 d6 d7 d8 d9 d10 d11 eP eD ⊢
 have HbD1 := HD1
 clear HD1
 go_wp2
 refine wp_region_held_drew (S := (fun w' => w'.cell? ⟨w.heap.size, 0, none⟩ = some (.int .i64 (k : Int)) /\ w'.cell? ⟨yb, 3 + k, none⟩ = some (.pointer (some ⟨R.b, 0, none⟩)))) (by kernel_rfl) ⟨(dW0 d0), (dW0 eD)⟩ (fun hH => ?_)
 simp only [Act.put, lA, lC, lN, zA]
 refine tG 0 30 (.pointer (some ⟨yb, 0, none⟩)) rfl hH ?_
 simp only [aP, sA, sZ, sC]
 refine tG 1 31 (.pointer (some ⟨w.heap.size, 0, none⟩)) rfl hH ?_
 simp only [aP, sA, sZ, sC]
 refine tL 2 32 (.int .i64 (k : Int)) rfl hH ?_
 simp only [aP, sA, sZ, sC]
 refine tG 3 33 (.pointer (some ⟨yb, 0, none⟩)) rfl hH ?_
 simp only [aP, sA, sZ, sC]
 refine tG 4 34 (.pointer (some ⟨yb, 3, none⟩)) rfl hH ?_
 simp only [aP, sA, sZ, sC]
 refine tG 5 35 (.pointer (some ⟨yb, 3 + k, none⟩)) rfl hH ?_
 simp only [aP, sA, sZ, sC]
 refine tL 6 36 (.pointer (some ⟨R.b, 0, none⟩)) rfl hH ?_
 simp only [aP, sA, sZ, sC]
 refine tG 7 6 (.pointer (some ⟨R.b, 0, none⟩)) rfl hH ?_
 simp only [aP, sA, sZ, sC]
 refine wpAnyH_done (by kernel_rfl) ?_ _
 clear hH
 have hbq2 : Below D1.heap.size D1 D1.drew := dB _
 have o0 := bA hbq2 d0
 have o1 := bA hbq2 d1
 have o2 := bA hbq2 d2
 have o3 := bA hbq2 d3
 have o4 := bA hbq2 d4
 have o5 := bA hbq2 d5
 have o6 := bA hbq2 d6
 have o7 := bA hbq2 d7
 have o8 := bA hbq2 d8
 have o9 := bA hbq2 d9
 have o10 := bA hbq2 d10
 have o11 := bA hbq2 d11
 have fP := bA hbq2 eP
 have fD := bA hbq2 eD
 have HD2 : Hid (Below w.heap.size w D1.drew) := (show Below _ _ _ from bstep HbD1.out hbq2)
 clear hbq2 d0 d1 d2 d3 d4 d5 d6 d7 d8 d9 d10 d11 eP eD HbD1
 generalize D1.drew = D2 at HD2 o0 o1 o2 o3 o4 o5 o6 o7 o8 o9 o10 o11 fP fD ⊢
 have HbD2 := HD2
 clear HD2
 clear fP fD
 have HLo : Hid (Calls Try.prog 33 #[.slice ba bn bc] D2 fun e w' => LsO D2 w' bn bs e) := (show Calls _ _ _ _ _ from loose_at (HA.out.on (HbD2.out.mono H.out.bk.b)).rb HA.out.nb)
 go_wp2_with fail
 refine HLo.out.mono ?_
 rintro e w3 ⟨g, cap, rfl, hls, hb3⟩
 have HLs : Hid (Lo.Own w3 D2.heap.size (lsv g bn cap) (bs ++ Lo.marks 64)) := hls
 have HRd : Hid (Rd w3 (some ⟨g, 0, none⟩) bn cap bs) := (show Rd _ _ _ _ _ from ls_rd hls HA.out.rb.len HA.out.rb.by_)
 have Hb3 : Hid (Below w.heap.size w w3) := (show Below _ _ _ from bstep HbD2.out hb3)
 have Hg : Hid (w.heap.size ≤ g /\ g < w3.heap.size) := (show _ /\ _ from ⟨Nat.le_trans HbD2.out.size (ls_lo hls).1, (ls_lo hls).2⟩)
 obtain ⟨m, hm⟩ : ∃ m, bn + 64 = m := ⟨_, rfl⟩
 have Hm : Hid (bn + 64 = m) := hm
 rw [hm]
 have HJ : Hid ((m : Int) ≤ 140737488351296) := (show _ ≤ _ from by have := HA.out.nb; omega)
 have hSl : ∀ X : World, (Instr.slice 40 (.slice (some ⟨g, 0, none⟩) m cap) none (some (.int .i64 (bn : Int))) none).run Try.prog X = .ok (.slice (some ⟨g, 0, none⟩) bn cap) X := slice_hi HRd.out.cap
 have HoM : Hid (¬ M.own w.heap.size /\ ¬ R.own w.heap.size) := (show _ /\ _ from ⟨fun e => by have := ((H.out.duo k M R Hk.out HM.out).lt (.inl e)).2; omega, fun e => by have := ((H.out.duo k M R Hk.out HM.out).lt (.inr e)).2; omega⟩)
 have HgM : Hid (¬ (M.own g ∨ R.own g)) := (show ¬ _ from fun e => by have := ((H.out.duo k M R Hk.out HM.out).lt e).2; have := Hg.out.1; omega)
 have p0 := bA hb3 o0
 have p1 := bA hb3 o1
 have p2 := bA hb3 o2
 have p3 := bA hb3 o3
 have p4 := bA hb3 o4
 have p5 := bA hb3 o5
 have p6 := bA hb3 o6
 have p7 := bA hb3 o7
 have p8 := bA hb3 o8
 have p9 := bA hb3 o9
 have p10 := bA hb3 o10
 have p11 := bA hb3 o11
 clear hls hb3 hm o0 o1 o2 o3 o4 o5 o6 o7 o8 o9 o10 o11 HLo
 as_aux_lemma =>
 have hd3 := (H.out.still Hb3.out).duo k M R Hk.out HM.out
 obtain ⟨v, hB⟩ := both_acked hd3 (by have := HT.out; omega) pe t nn
 have HP : Hid (Calls Try.prog 38 #[.pointer (some ⟨M.b, 0, none⟩), .int .i64 pe, .agg #[.int .i64 t.e, .int .i64 t.l, .int .i64 t.i, .int .i64 t.c, .int .i64 nn]] w3 fun e w1 => e = .returned (.int .i64 v) /\ (∃ P : Nat -> Prop, Kept w3 w1 P /\ ∀ j, P j -> M.own j) /\ ∀ D, Below w1.heap.size w1 D -> True -> Calls Try.prog 39 #[.pointer (some ⟨R.b, 0, none⟩), .int .i64 pe, .agg #[.int .i64 t.e, .int .i64 t.l, .int .i64 t.i, .int .i64 t.c, .int .i64 nn]] D fun e w2 => e = .returned (.int .i64 v) /\ ∃ M' R', DStep w3 w2 B (T + 1) M R M' R') := hB
 clear hB hd3
 have HBu : Hid (Try.prog.built 74 [(0, .agg #[.int .i64 t.e, .int .i64 t.l, .int .i64 t.i, .int .i64 t.c]), (1, .int .i64 nn)] = some #[.int .i64 t.e, .int .i64 t.l, .int .i64 t.i, .int .i64 t.c, .int .i64 nn]) := (show _ = _ from by kernel_rfl)
 go_wp2_with (first | (refine bstp2 74 0 1 (.tmp 109) (.tmp 111) _ _ _ HBu.out rfl rfl rfl rfl ?_) | fail)
 refine HP.out.mono ?_
 rintro e w4 ⟨rfl, ⟨P, hkP, hPM⟩, hq⟩
 have HQ : Hid (Calls Try.prog 39 #[.pointer (some ⟨R.b, 0, none⟩), .int .i64 pe, .agg #[.int .i64 t.e, .int .i64 t.l, .int .i64 t.i, .int .i64 t.c, .int .i64 nn]] w4 fun e w2 => e = .returned (.int .i64 v) /\ ∃ M' R', DStep w3 w2 B (T + 1) M R M' R') := (show Calls _ _ _ _ _ from hq w4 (Below.refl _ _) trivial)
 have q0 := kC hkP (fun e => HoM.out.1 (hPM _ e)) p0
 have q1 := kC hkP (fun e => HoM.out.1 (hPM _ e)) p1
 have q2 := kC hkP (fun e => HoM.out.1 (hPM _ e)) p2
 have q3 := kC hkP (fun e => HoM.out.1 (hPM _ e)) p3
 have q4 := kC hkP (fun e => HoM.out.1 (hPM _ e)) p4
 have q5 := kC hkP (fun e => HoM.out.1 (hPM _ e)) p5
 have q6 := kC hkP (fun e => HoM.out.1 (hPM _ e)) p6
 have q7 := kC hkP (fun e => HoM.out.1 (hPM _ e)) p7
 have q8 := kC hkP (fun e => HoM.out.1 (hPM _ e)) p8
 have q9 := kC hkP (fun e => HoM.out.1 (hPM _ e)) p9
 have q10 := kC hkP (fun e => HoM.out.1 (hPM _ e)) p10
 have q11 := kC hkP (fun e => HoM.out.1 (hPM _ e)) p11
 clear hkP hPM hq HP
 as_aux_lemma =>
 go_wp2_with (first | (refine bstp2 74 0 1 (.tmp 118) (.tmp 120) _ _ _ HBu.out rfl rfl rfl rfl ?_) | fail)
 refine HQ.out.mono ?_
 rintro e w5 ⟨rfl, M', R', hs5⟩
 have HG : Hid (YsG w w5 B T Y g) := (show YsG _ _ _ _ _ _ from YsG.pre Hb3.out H.out.bk.b (ysg_mux (H.out.still Hb3.out) Ht.out HT.out Hk.out HM.out hs5 Hg.out.2 (out_above H.out Hg.out.1)))
 have HLx : Hid (Lo.Own w5 D2.heap.size (lsv g bn cap) (bs ++ Lo.marks 64)) := ls_keep HLs.out hs5.kept HgM.out
 have r0 := kC hs5.kept (fun e => e.elim HoM.out.1 HoM.out.2) p0
 have r1 := kC hs5.kept (fun e => e.elim HoM.out.1 HoM.out.2) p1
 have r2 := kC hs5.kept (fun e => e.elim HoM.out.1 HoM.out.2) p2
 have r3 := kC hs5.kept (fun e => e.elim HoM.out.1 HoM.out.2) p3
 have r4 := kC hs5.kept (fun e => e.elim HoM.out.1 HoM.out.2) p4
 have r5 := kC hs5.kept (fun e => e.elim HoM.out.1 HoM.out.2) p5
 have r6 := kC hs5.kept (fun e => e.elim HoM.out.1 HoM.out.2) p6
 have r7 := kC hs5.kept (fun e => e.elim HoM.out.1 HoM.out.2) p7
 have r8 := kC hs5.kept (fun e => e.elim HoM.out.1 HoM.out.2) p8
 have r9 := kC hs5.kept (fun e => e.elim HoM.out.1 HoM.out.2) p9
 have r10 := kC hs5.kept (fun e => e.elim HoM.out.1 HoM.out.2) p10
 have r11 := kC hs5.kept (fun e => e.elim HoM.out.1 HoM.out.2) p11
 clear hs5 HQ q0 q1 q2 q3 q4 q5 q6 q7 q8 q9 q10 q11 p0 p1 p2 p3 p4 p5 p6 p7 p8 p9 p10 p11
 as_aux_lemma =>
 have HBB : Hid (Below B w w5) := (show Below _ _ _ from by obtain ⟨_, _, _, _, h4, _⟩ := HG.out.out; exact h4)
 have HU : Hid (∀ D, Below w5.heap.size w5 D -> Calls Try.prog 42 #[.slice (some ⟨g, 0, none⟩) m cap, .slice ba bn bc] D fun e w' => e = .returned (.bool true) /\ Below D.heap.size D w') := fun D hb => (show Calls _ _ _ _ _ from by
  rw [<- Hm.out]
  exact unsp_at ((HA.out.on HBB.out).rb.still hb) HA.out.nb (own_still HLx.out hb))
 go_wp2_with (first
  | (go_at_call 24; refine (num_any _).mono ?_; rintro e w9 ⟨rfl, rfl⟩)
  | (go_at_call 42; refine (HU.out _ (Below.refl _ _)).mono ?_; rintro e w6 ⟨rfl, hb6⟩; have HG6 : Hid (YsG w w6 B T Y g) := (show YsG _ _ _ _ _ _ from HG.out.on hb6); have HL6 : Hid (Lo.Own w6 D2.heap.size (lsv g bn cap) (bs ++ Lo.marks 64)) := own_still HLx.out hb6; clear hb6)
  | fail)
 have HF0 : Hid (FlS w6 w6 g 5 m) := (show FlS _ _ _ _ _ from ⟨by rw [<- Hm.out]; exact ls_blk HL6.out, Kept.ofBelow (Below.refl _ _) _⟩)
 clear HU HLx HBB HG
 as_aux_lemma =>
 go_loopw [22] (fun v22 wr => ∃ i : Nat, i ≤ m /\ v22 = .int .i64 (i : Int) /\ Hid (FlS w6 wr g 5 m)) (fun v22 _ => m - (intOf v22).toNat)
 case atStart => exact ⟨0, by omega, rfl, HF0⟩
 case round =>
  clear HF0
  obtain ⟨i, hi, rfl, hs⟩ := hrel
  by_cases hlt : i < m
  ·have l1 : (0 : Int) ≤ (i : Int) := Int.natCast_nonneg _
   have l2 : (i : Int) < (m : Int) := by omega
   have j3 := HJ.out
   obtain ⟨⟨zv, hzv⟩, hzf⟩ := hs.out.cell hlt
   have HN : Hid (FlS w6 (wr.setCell ⟨g, i, none⟩ (.int .u8 238)) g 5 m) := (show FlS _ _ _ _ _ from hs.out.set)
   clear hs hlt
   as_aux_lemma =>
   go_wp2
   exact ⟨⟨i + 1, by omega, by go_num, HN⟩, by simp [intOf]; omega⟩
  ·have l2 : ¬ (i : Int) < (m : Int) := by omega
   have HO : Hid (YsO w wr B T Y) := (show YsO _ _ _ _ _ from by
    obtain ⟨C, hC, _⟩ := ls_blk HL6.out
    exact ys_fill HG6.out (Nat.le_trans H.out.bk.b Hg.out.1) (.inl rfl) ⟨C, hC⟩ hs.out)
   clear hs hlt
   as_aux_lemma =>
   go_wp2
   go_ret
   exact ⟨rfl, HO.out⟩
end
end Go.Proofs.Ythanifbimndhaaa.Ln
