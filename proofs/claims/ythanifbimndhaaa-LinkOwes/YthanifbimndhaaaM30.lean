import Derived.Test.YthanifbimndhaaaM26
import Derived.Test.YthanifbimndhaaaM29
import Derived.Test.YthanifbimndhaaaM19
namespace Go.Proofs.Ythanifbimndhaaa.Ln
set_option maxHeartbeats 40000000
open Go.RowKit Mb
set_option linter.unusedVariables false
set_option maxRecDepth 100000
set_option linter.unusedSimpArgs false
section
variable {w w' W : World} {B T : Nat} {Y : Pl}
theorem ask7 {k bn bc pn pc : Nat} {pe nn mm ww : Int} {t : Tg} {ba pa : Option Addr} {M : Mx} {R : Rx} (h : PlOk Y w B T) (ht : Y.tn ≤ (Y.os.length : Int)) (hT : T + 1 ≤ 450) (hk : k < 3) (hM : Y.M k = some (M, R)) : Calls Try.prog 16 #[.pointer (some ⟨Y.b, 0, none⟩), .agg #[.int .i64 (k : Int), .int .i64 7, .int .i64 pe, .int .i64 nn, .int .i64 mm, .int .i64 ww, .int .i64 t.e, .int .i64 t.l, .int .i64 t.i, .int .i64 t.c, .slice ba bn bc, .slice pa pn pc]] w fun e w' => e = .returned (.bool true) /\ YsO w w' B T Y := by
 have H : Hid (PlOk Y w B T) := h
 have Ht : Hid (Y.tn ≤ (Y.os.length : Int)) := ht
 have HT : Hid (T + 1 ≤ 450) := hT
 have Hk : Hid (k < 3) := hk
 have HM : Hid (Y.M k = some (M, R)) := hM
 obtain ⟨yb, hyb⟩ : ∃ b, Y.b = b := ⟨_, rfl⟩
 have Hyb : Hid (Y.b = yb) := hyb
 have i1 : (0 : Int) ≤ (k : Int) := Int.natCast_nonneg _
 have i2 : (k : Int) < 3 := by omega
 obtain ⟨sp, hsp, hF⟩ := frames_pair (h.duo k M R hk hM) pe
 obtain ⟨n, hn⟩ : ∃ n, sp.length = n := ⟨_, rfl⟩
 have Hn : Hid (sp.length = n) := hn
 have Hn1 : Hid (n ≤ 1000) := (show _ ≤ _ from by omega)
 have HF : Hid (∀ D, Below w.heap.size w D -> (Calls Try.prog 20 #[.pointer (some ⟨M.b, 0, none⟩), .int .i64 pe] D fun e w' => FrPo D w' sp e) /\ (Calls Try.prog 21 #[.pointer (some ⟨R.b, 0, none⟩), .int .i64 pe] D fun e w' => FrQo D w' sp e)) := hF
 have HX : Hid (∀ D q, Below w.heap.size w D -> Calls Try.prog 20 #[.pointer (some ⟨M.b, 0, none⟩), .int .i64 q] D fun e w' => ∃ v, e = .returned v /\ Below D.heap.size D w') := fun D q hb => (show Calls _ _ _ _ _ from by
  obtain ⟨sp2, _, hF2⟩ := frames_pair (h.duo k M R hk hM) q
  refine (hF2 D hb).1.mono ?_
  rintro e w' ⟨fs, la, c, rfl, _, _, _, _, hb2⟩
  exact ⟨_, rfl, hb2⟩)
 clear hsp hF hn
 generalize hW : w.alloc (.cells #[.int .i64 (k : Int), .int .i64 7, .int .i64 pe, .int .i64 nn, .int .i64 mm, .int .i64 ww, .int .i64 t.e, .int .i64 t.l, .int .i64 t.i, .int .i64 t.c, .slice ba bn bc, .slice pa pn pc] 43) = W
 have hbW := bW0 hW
 have HbW : Hid (Below w.heap.size w W) := hbW
 have hblk := hQ0 hW
 have b0 : W.cell? ⟨w.heap.size, 0, none⟩ = some (.int .i64 (k : Int)) := bC hblk 0
 have b1 : W.cell? ⟨w.heap.size, 1, none⟩ = some (.int .i64 7) := bC hblk 1
 have b2 : W.cell? ⟨w.heap.size, 2, none⟩ = some (.int .i64 pe) := bC hblk 2
 have cM := (h.still hbW).cM hk
 rw [hM, hyb] at cM
 have cP : W.cell? ⟨yb, k, none⟩ = some (.pointer (some ⟨M.b, 0, none⟩)) := cM.1
 have cD : W.cell? ⟨yb, 3 + k, none⟩ = some (.pointer (some ⟨R.b, 0, none⟩)) := cM.2
 rw [hyb]
 clear h ht hT hk hM hyb hbW hblk cM
 go_enter Try.func16, Try.ntmps16
 go_wp2
 refine wp_region_held_drew (S := (fun w' => w'.cell? ⟨w.heap.size, 0, none⟩ = some (.int .i64 (k : Int)) /\ w'.cell? ⟨yb, k, none⟩ = some (.pointer (some ⟨M.b, 0, none⟩)))) (by kernel_rfl) ⟨(dW0 b0), (dW0 cP)⟩ (fun hH => ?_)
 simp only [Act.put, lA, lC, lN, zA]
 refine tG 0 14 (.pointer (some ⟨yb, 0, none⟩)) rfl hH ?_
 simp only [aP, sA, sZ, sC]
 refine tG 1 15 (.pointer (some ⟨w.heap.size, 0, none⟩)) rfl hH ?_
 simp only [aP, sA, sZ, sC]
 refine tL 2 16 (.int .i64 (k : Int)) rfl hH ?_
 simp only [aP, sA, sZ, sC]
 refine tG 3 17 (.pointer (some ⟨yb, 0, none⟩)) rfl hH ?_
 simp only [aP, sA, sZ, sC]
 refine tG 4 18 (.pointer (some ⟨yb, 0, none⟩)) rfl hH ?_
 simp only [aP, sA, sZ, sC]
 refine tG 5 19 (.pointer (some ⟨yb, k, none⟩)) rfl hH ?_
 simp only [aP, sA, sZ, sC]
 refine tL 6 20 (.pointer (some ⟨M.b, 0, none⟩)) rfl hH ?_
 simp only [aP, sA, sZ, sC]
 refine tG 7 5 (.pointer (some ⟨M.b, 0, none⟩)) rfl hH ?_
 simp only [aP, sA, sZ, sC]
 refine wpAnyH_done (by kernel_rfl) ?_ _
 clear hH
 have hbq1 : Below W.heap.size W W.drew := dB _
 have d0 := bA hbq1 b0
 have d1 := bA hbq1 b1
 have d2 := bA hbq1 b2
 have eP := bA hbq1 cP
 have eD := bA hbq1 cD
 have HD1 : Hid (Below w.heap.size w W.drew) := (show Below _ _ _ from bstep HbW.out hbq1)
 clear hbq1 b0 b1 b2 cP cD HbW
 generalize W.drew = D1 at HD1 d0 d1 d2 eP eD ⊢
 have HbD1 := HD1
 clear HD1
 go_wp2
 refine wp_region_held_drew (S := (fun w' => w'.cell? ⟨w.heap.size, 0, none⟩ = some (.int .i64 (k : Int)) /\ w'.cell? ⟨yb, 3 + k, none⟩ = some (.pointer (some ⟨R.b, 0, none⟩)))) (by kernel_rfl) ⟨(dW0 d0), (dW0 eD)⟩ (fun hH => ?_)
 simp only [Act.put, lA, lC, lN, zA]
 refine tG 0 21 (.pointer (some ⟨yb, 0, none⟩)) rfl hH ?_
 simp only [aP, sA, sZ, sC]
 refine tG 1 22 (.pointer (some ⟨w.heap.size, 0, none⟩)) rfl hH ?_
 simp only [aP, sA, sZ, sC]
 refine tL 2 23 (.int .i64 (k : Int)) rfl hH ?_
 simp only [aP, sA, sZ, sC]
 refine tG 3 24 (.pointer (some ⟨yb, 0, none⟩)) rfl hH ?_
 simp only [aP, sA, sZ, sC]
 refine tG 4 25 (.pointer (some ⟨yb, 3, none⟩)) rfl hH ?_
 simp only [aP, sA, sZ, sC]
 refine tG 5 26 (.pointer (some ⟨yb, 3 + k, none⟩)) rfl hH ?_
 simp only [aP, sA, sZ, sC]
 refine tL 6 27 (.pointer (some ⟨R.b, 0, none⟩)) rfl hH ?_
 simp only [aP, sA, sZ, sC]
 refine tG 7 6 (.pointer (some ⟨R.b, 0, none⟩)) rfl hH ?_
 simp only [aP, sA, sZ, sC]
 refine wpAnyH_done (by kernel_rfl) ?_ _
 clear hH
 have hbq2 : Below D1.heap.size D1 D1.drew := dB _
 have o0 := bA hbq2 d0
 have o1 := bA hbq2 d1
 have o2 := bA hbq2 d2
 have fP := bA hbq2 eP
 have fD := bA hbq2 eD
 have HD2 : Hid (Below w.heap.size w D1.drew) := (show Below _ _ _ from bstep HbD1.out hbq2)
 clear hbq2 d0 d1 d2 eP eD HbD1
 generalize D1.drew = D2 at HD2 o0 o1 o2 fP fD ⊢
 have HbD2 := HD2
 clear HD2
 clear fP fD
 go_wp2_with fail
 refine (HF.out _ HbD2.out).1.mono ?_
 rintro e w3 ⟨fs, la, lc, rfl, hfs, hfr, hfb, hfn, hb3⟩
 have hl1 : fs.length = n := by rw [<- Hn.out, <- hfs, List.length_map]
 rw [hl1] at hfr ⊢
 have H3 : Hid (fs.map fmS = sp /\ w3.ownsRow D2.heap.size 55 6 (.slice la n lc) n (fmR fs) /\ (∀ f ∈ fs, Body w3 D2.heap.size ⟨f.y.k, f.y.bs⟩ /\ f.y.c = f.y.bs.length) /\ (fs.map fun f => f.y.k).Nodup /\ Below D2.heap.size D2 w3) := (show _ /\ _ /\ _ /\ _ /\ _ from ⟨hfs, hfr, hfb, hfn, hb3⟩)
 have p2 := bA hb3 o2
 clear hfs hfr hfb hfn hb3 hl1 o0 o1 o2
 go_wp2_with fail
 refine (HX.out _ _ (bstep HbD2.out H3.out.2.2.2.2)).mono ?_
 rintro e w4 ⟨vx, rfl, hb4⟩
 have H4 : Hid (Below w3.heap.size w3 w4) := hb4
 have p3 := bA hb4 p2
 clear hb4 p2 HX
 go_wp2_with fail
 refine (HF.out _ (bstep (bstep HbD2.out H3.out.2.2.2.2) H4.out)).1.mono ?_
 rintro e w5 ⟨fs2, la2, lc2, rfl, hfs, hfr, hfb, hfn, hb5⟩
 have hl1 : fs2.length = n := by rw [<- Hn.out, <- hfs, List.length_map]
 rw [hl1] at hfr ⊢
 have H5 : Hid (fs2.map fmS = sp /\ w5.ownsRow w4.heap.size 55 6 (.slice la2 n lc2) n (fmR fs2) /\ (∀ f ∈ fs2, Body w5 w4.heap.size ⟨f.y.k, f.y.bs⟩ /\ f.y.c = f.y.bs.length) /\ (fs2.map fun f => f.y.k).Nodup /\ Below w4.heap.size w4 w5) := (show _ /\ _ /\ _ /\ _ /\ _ from ⟨hfs, hfr, hfb, hfn, hb5⟩)
 have p4 := bA hb5 p3
 clear hfs hfr hfb hfn hb5 hl1 p3
 go_wp2_with fail
 refine (HF.out _ (bstep (bstep (bstep HbD2.out H3.out.2.2.2.2) H4.out) H5.out.2.2.2.2)).2.mono ?_
 rintro e w6 ⟨gs, wa, wc, rfl, hgs, hgr, hgb, hb6⟩
 have hl2 : gs.length = n := by rw [<- Hn.out, <- hgs, List.length_map]
 rw [hl2] at hgr ⊢
 have H6 : Hid (gs.map fmS = sp /\ w6.ownsRow w5.heap.size 55 6 (.slice wa n wc) n (fmR gs) /\ (∀ g ∈ gs, g.y.Ok w6 w5.heap.size) /\ Below w5.heap.size w5 w6) := (show _ /\ _ /\ _ /\ _ from ⟨hgs, hgr, hgb, hb6⟩)
 clear hgs hgr hgb hb6 hl2 p4 HF
 have H36 : Hid (Below w3.heap.size w3 w6) := (show Below _ _ _ from bstep (bstep H4.out H5.out.2.2.2.2) H6.out.2.2.2)
 have H06 : Hid (Below w.heap.size w w6) := (show Below _ _ _ from bstep (bstep HbD2.out H3.out.2.2.2.2) H36.out)
 have HE : Hid (B ≤ w5.heap.size) := (show _ ≤ _ from by
  have := H.out.bk.b; have := HbD2.out.size; have := H3.out.2.2.2.2.size; have := H4.out.size; have := H5.out.2.2.2.2.size
  omega)
 have HC1 : Hid (Calls Try.prog 49 #[.pointer (some ⟨yb, 0, none⟩), .slice la n lc, .slice wa n wc, .bool false] w6 fun e w' => e = .returned (.bool true) /\ FrOut w6 w' B T Y (.slice la n lc) fs (false = true)) := (show Calls _ _ _ _ _ from by
  rw [<- Hyb.out]
  exact frames_any (H.out.still H06.out) (frin_one H.out HbD2.out H3.out.2.1 H3.out.2.2.1 H3.out.2.2.2.1 H36.out H6.out.2.1 H6.out.2.2.1 HE.out H3.out.1 H6.out.1 Hn1.out))
 go_wp2_with fail
 refine HC1.out.mono ?_
 rintro e w7 ⟨rfl, ⟨Y', hP', eb, eM, eos, eov, etn, hkp, hK⟩⟩
 have H7 : Hid (PlOk Y' w7 B T /\ Y'.b = Y.b /\ Y'.os = Y.os /\ Y'.tn = Y.tn /\ Below B w6 w7 /\ FrIn w7 B Y' la2 n lc2 fs2 wa gs) := (show _ /\ _ /\ _ /\ _ /\ _ /\ _ from ⟨hP', eb, eos, etn, frout_below (Y' := Y') (H.out.still H06.out) (fun j hj => by
  have h9 := H.out.bk.b
  have h8 := HbD2.out.size
  rcases hj with hj | ⟨f, hf, rfl⟩
  ·have := (World.ownsRow.lt H3.out.2.1 j hj).1; omega
  ·have : D2.heap.size ≤ f.y.k := (H3.out.2.2.1 f hf).1.lo; omega) hK, frin_two H.out HbD2.out H3.out.2.2.2.2 H3.out.2.1 H3.out.2.2.1 H4.out H5.out.2.1 H5.out.2.2.1 H5.out.2.2.2.1 H6.out.2.2.2 H6.out.2.1 H6.out.2.2.1 HE.out H5.out.1 H6.out.1 Hn1.out (H.out.still H06.out) eM eos hkp hK⟩)
 clear hP' eb eM eos eov etn hkp hK HC1
 have HC2 : Hid (Calls Try.prog 49 #[.pointer (some ⟨yb, 0, none⟩), .slice la2 n lc2, .slice wa n wc, .bool true] w7 fun e w' => e = .returned (.bool true) /\ FrOut w7 w' B T Y' (.slice la2 n lc2) fs2 (true = true)) := (show Calls _ _ _ _ _ from by
  rw [<- Hyb.out, <- H7.out.2.1]
  exact frames_any H7.out.1 H7.out.2.2.2.2.2)
 go_wp2_with fail
 refine HC2.out.mono ?_
 rintro e w8 ⟨rfl, ⟨Y2, hP', eb, eM, eos, eov, etn, hkp, hK⟩⟩
 have HO : Hid (YsO w w8 B T Y) := (show YsO _ _ _ _ _ from ⟨Y2, hP'.up (Nat.le_succ _) HT.out, eb.trans H7.out.2.1, by rw [etn, eos, H7.out.2.2.1, H7.out.2.2.2.1]; exact Ht.out, ((H06.out.mono H.out.bk.b).trans H7.out.2.2.2.2.1).trans (frout_below (Y' := Y2) H7.out.1 (fun j hj => (H7.out.2.2.2.2.2.lt hj).1) hK)⟩)
 clear hP' eb eM eos eov etn hkp hK HC2 H7
 go_wp2
 go_ret
 exact ⟨rfl, HO.out⟩
end
section
variable {w w' W : World} {B T : Nat} {Y : Pl}
structure OwB2 (w : World) (B T : Nat) (M : Mx) (R : Rx) (q x0 x1 x2 x3 x4 : Int) (b : Bool) : Prop where
 out : Calls Try.prog 52 #[.pointer (some ⟨M.b, 0, none⟩), .int .i64 q] w fun e w1 => e = .returned (akv x0 x1 x2 x3 x4 b) /\ Kept w w1 M.own /\ ∀ D, Below w1.heap.size w1 D -> Calls Try.prog 53 #[.pointer (some ⟨R.b, 0, none⟩), .int .i64 q] D fun e w2 => e = .returned (akv x0 x1 x2 x3 x4 b) /\ Kept D w2 R.own /\ ∃ M' R', DStep w w2 B (T + 1) M R M' R'
theorem both_owed2 {M : Mx} {R : Rx} (h : Duo w B T M R) (hT : T + 1 ≤ 1000) (q : Int) : ∃ x0 x1 x2 x3 x4 b, OwB2 w B T M R q x0 x1 x2 x3 x4 b := by
 have hno : (Calls Try.prog 52 #[.pointer (some ⟨M.b, 0, none⟩), .int .i64 q] w fun e w' => e = .returned (.tuple #[.agg #[.int .i64 0, .int .i64 0, .int .i64 0, .int .i64 0, .int .i64 0], .bool false]) /\ Below w.heap.size w w') -> (∀ D, Below w.heap.size w D -> Calls Try.prog 53 #[.pointer (some ⟨R.b, 0, none⟩), .int .i64 q] D fun e w' => e = .returned (.tuple #[.agg #[.int .i64 0, .int .i64 0, .int .i64 0, .int .i64 0, .int .i64 0], .bool false]) /\ Below D.heap.size D w') -> OwB2 w B T M R q 0 0 0 0 0 false := fun h1 h2 =>
  ⟨h1.mono fun e w1 hx => ⟨hx.1, Kept.ofBelow hx.2 _, fun D hb => (h2 D (bstep hx.2 hb)).mono fun e w2 hy => ⟨hy.1, Kept.ofBelow hy.2 _, M, R, (DStep.refl h (bstep (bstep hx.2 hb) hy.2)).up (by omega) hT⟩⟩⟩
 cases hq : M.at q with
 | none => exact ⟨_, _, _, _, _, _, hno (owed_no h.m hq) fun D hb => rowed_no (h.r.still hb) (h.s.at_none hq)⟩
 | some E =>
  obtain ⟨k, rfl, hk, he, hr, hp, hs⟩ := h.s.at_some hq
  have e1 : E.owed = (R.es k).ow := hs.ow
  have e2 : E.i.p = (R.es k).gt := hs.ip
  cases ho : E.owed with
  | false => exact ⟨_, _, _, _, _, _, hno (owed_none h.m hq ho) fun D hb => rowed_none (h.r.still hb) hr (by rw [<- e1]; exact ho)⟩
  | true =>
   refine ⟨M.tag.e, M.tag.l, M.tag.i, M.tag.c, (E.i.p : Int), true, ⟨(owed_yes h.m hq ho).mono fun e w1 hx => ⟨hx.1, (hx.2.to h.m he).kept, fun D hb => ?_⟩⟩⟩
   have ms := hx.2.to h.m he
   refine (rowed_yes (R_keep h ms.kept hb) hr (by rw [<- e1]; exact ho)).mono fun e w2 hy => ⟨?_, ?_⟩
   ·rw [hy.1, h.s.tag, e2]; rfl
   ·obtain ⟨k', hk', _, rst⟩ := hy.2
    obtain rfl : k' = k := by omega
    exact ⟨rst.kept, _, _, (DStep.of h ms hb rst (h.s.put hk hp hs.owe0) rfl).up (by omega) hT⟩
theorem ask11 {k bn bc pn pc : Nat} {pe nn mm ww : Int} {t : Tg} {ba pa : Option Addr} {M : Mx} {R : Rx} (h : PlOk Y w B T) (ht : Y.tn ≤ (Y.os.length : Int)) (hT : T + 1 ≤ 450) (hk : k < 3) (hM : Y.M k = some (M, R)) : Calls Try.prog 16 #[.pointer (some ⟨Y.b, 0, none⟩), .agg #[.int .i64 (k : Int), .int .i64 11, .int .i64 pe, .int .i64 nn, .int .i64 mm, .int .i64 ww, .int .i64 t.e, .int .i64 t.l, .int .i64 t.i, .int .i64 t.c, .slice ba bn bc, .slice pa pn pc]] w fun e w' => e = .returned (.bool true) /\ YsO w w' B T Y := by
 have H : Hid (PlOk Y w B T) := h
 have Ht : Hid (Y.tn ≤ (Y.os.length : Int)) := ht
 have HT : Hid (T + 1 ≤ 450) := hT
 have Hk : Hid (k < 3) := hk
 have HM : Hid (Y.M k = some (M, R)) := hM
 obtain ⟨yb, hyb⟩ : ∃ b, Y.b = b := ⟨_, rfl⟩
 have Hyb : Hid (Y.b = yb) := hyb
 have i1 : (0 : Int) ≤ (k : Int) := Int.natCast_nonneg _
 have i2 : (k : Int) < 3 := by omega
 generalize hW : w.alloc (.cells #[.int .i64 (k : Int), .int .i64 11, .int .i64 pe, .int .i64 nn, .int .i64 mm, .int .i64 ww, .int .i64 t.e, .int .i64 t.l, .int .i64 t.i, .int .i64 t.c, .slice ba bn bc, .slice pa pn pc] 43) = W
 have hbW := bW0 hW
 have HbW : Hid (Below w.heap.size w W) := hbW
 have hblk := hQ0 hW
 have b0 : W.cell? ⟨w.heap.size, 0, none⟩ = some (.int .i64 (k : Int)) := bC hblk 0
 have b1 : W.cell? ⟨w.heap.size, 1, none⟩ = some (.int .i64 11) := bC hblk 1
 have b2 : W.cell? ⟨w.heap.size, 2, none⟩ = some (.int .i64 pe) := bC hblk 2
 have cM := (h.still hbW).cM hk
 rw [hM, hyb] at cM
 have cP : W.cell? ⟨yb, k, none⟩ = some (.pointer (some ⟨M.b, 0, none⟩)) := cM.1
 have cD : W.cell? ⟨yb, 3 + k, none⟩ = some (.pointer (some ⟨R.b, 0, none⟩)) := cM.2
 rw [hyb]
 clear h ht hT hk hM hyb hbW hblk cM
 go_enter Try.func16, Try.ntmps16
 go_wp2
 refine wp_region_held_drew (S := (fun w' => w'.cell? ⟨w.heap.size, 0, none⟩ = some (.int .i64 (k : Int)) /\ w'.cell? ⟨yb, k, none⟩ = some (.pointer (some ⟨M.b, 0, none⟩)))) (by kernel_rfl) ⟨(dW0 b0), (dW0 cP)⟩ (fun hH => ?_)
 simp only [Act.put, lA, lC, lN, zA]
 refine tG 0 14 (.pointer (some ⟨yb, 0, none⟩)) rfl hH ?_
 simp only [aP, sA, sZ, sC]
 refine tG 1 15 (.pointer (some ⟨w.heap.size, 0, none⟩)) rfl hH ?_
 simp only [aP, sA, sZ, sC]
 refine tL 2 16 (.int .i64 (k : Int)) rfl hH ?_
 simp only [aP, sA, sZ, sC]
 refine tG 3 17 (.pointer (some ⟨yb, 0, none⟩)) rfl hH ?_
 simp only [aP, sA, sZ, sC]
 refine tG 4 18 (.pointer (some ⟨yb, 0, none⟩)) rfl hH ?_
 simp only [aP, sA, sZ, sC]
 refine tG 5 19 (.pointer (some ⟨yb, k, none⟩)) rfl hH ?_
 simp only [aP, sA, sZ, sC]
 refine tL 6 20 (.pointer (some ⟨M.b, 0, none⟩)) rfl hH ?_
 simp only [aP, sA, sZ, sC]
 refine tG 7 5 (.pointer (some ⟨M.b, 0, none⟩)) rfl hH ?_
 simp only [aP, sA, sZ, sC]
 refine wpAnyH_done (by kernel_rfl) ?_ _
 clear hH
 have hbq1 : Below W.heap.size W W.drew := dB _
 have d0 := bA hbq1 b0
 have d1 := bA hbq1 b1
 have d2 := bA hbq1 b2
 have eP := bA hbq1 cP
 have eD := bA hbq1 cD
 have HD1 : Hid (Below w.heap.size w W.drew) := (show Below _ _ _ from bstep HbW.out hbq1)
 clear hbq1 b0 b1 b2 cP cD HbW
 generalize W.drew = D1 at HD1 d0 d1 d2 eP eD ⊢
 have HbD1 := HD1
 clear HD1
 go_wp2
 refine wp_region_held_drew (S := (fun w' => w'.cell? ⟨w.heap.size, 0, none⟩ = some (.int .i64 (k : Int)) /\ w'.cell? ⟨yb, 3 + k, none⟩ = some (.pointer (some ⟨R.b, 0, none⟩)))) (by kernel_rfl) ⟨(dW0 d0), (dW0 eD)⟩ (fun hH => ?_)
 simp only [Act.put, lA, lC, lN, zA]
 refine tG 0 21 (.pointer (some ⟨yb, 0, none⟩)) rfl hH ?_
 simp only [aP, sA, sZ, sC]
 refine tG 1 22 (.pointer (some ⟨w.heap.size, 0, none⟩)) rfl hH ?_
 simp only [aP, sA, sZ, sC]
 refine tL 2 23 (.int .i64 (k : Int)) rfl hH ?_
 simp only [aP, sA, sZ, sC]
 refine tG 3 24 (.pointer (some ⟨yb, 0, none⟩)) rfl hH ?_
 simp only [aP, sA, sZ, sC]
 refine tG 4 25 (.pointer (some ⟨yb, 3, none⟩)) rfl hH ?_
 simp only [aP, sA, sZ, sC]
 refine tG 5 26 (.pointer (some ⟨yb, 3 + k, none⟩)) rfl hH ?_
 simp only [aP, sA, sZ, sC]
 refine tL 6 27 (.pointer (some ⟨R.b, 0, none⟩)) rfl hH ?_
 simp only [aP, sA, sZ, sC]
 refine tG 7 6 (.pointer (some ⟨R.b, 0, none⟩)) rfl hH ?_
 simp only [aP, sA, sZ, sC]
 refine wpAnyH_done (by kernel_rfl) ?_ _
 clear hH
 have hbq2 : Below D1.heap.size D1 D1.drew := dB _
 have o0 := bA hbq2 d0
 have o1 := bA hbq2 d1
 have o2 := bA hbq2 d2
 have fP := bA hbq2 eP
 have fD := bA hbq2 eD
 have HD2 : Hid (Below w.heap.size w D1.drew) := (show Below _ _ _ from bstep HbD1.out hbq2)
 clear hbq2 d0 d1 d2 eP eD HbD1
 generalize D1.drew = D2 at HD2 o0 o1 o2 fP fD ⊢
 have HbD2 := HD2
 clear HD2
 clear fP fD
 have hd2 := (H.out.still HbD2.out).duo k M R Hk.out HM.out
 obtain ⟨x0, x1, x2, x3, x4, b, hO⟩ := both_owed2 hd2 (by have := HT.out; omega) pe
 have HO1 : Hid (Calls Try.prog 52 #[.pointer (some ⟨M.b, 0, none⟩), .int .i64 pe] D2 fun e w1 => e = .returned (.tuple #[.agg #[.int .i64 x0, .int .i64 x1, .int .i64 x2, .int .i64 x3, .int .i64 x4], .bool b]) /\ Kept D2 w1 M.own /\ ∀ D, Below w1.heap.size w1 D -> Calls Try.prog 53 #[.pointer (some ⟨R.b, 0, none⟩), .int .i64 pe] D fun e w2 => e = .returned (.tuple #[.agg #[.int .i64 x0, .int .i64 x1, .int .i64 x2, .int .i64 x3, .int .i64 x4], .bool b]) /\ Kept D w2 R.own /\ ∃ M' R', DStep D2 w2 B (T + 1) M R M' R') := hO.out
 have HoM : Hid (¬ M.own w.heap.size /\ ¬ R.own w.heap.size) := (show _ /\ _ from ⟨fun e => by have := ((H.out.duo k M R Hk.out HM.out).lt (.inl e)).2; omega, fun e => by have := ((H.out.duo k M R Hk.out HM.out).lt (.inr e)).2; omega⟩)
 have HoR : Hid (∀ j, R.own j -> j < D2.heap.size) := fun j e => (show _ < _ from (hd2.lt (.inr e)).2)
 clear hd2 hO
 go_wp2_with fail
 refine HO1.out.mono ?_
 rintro e w3 ⟨rfl, hk3, hq3⟩
 have p2 := kC hk3 HoM.out.1 o2
 have HK3 : Hid (D2.heap.size ≤ w3.heap.size) := (show _ ≤ _ from hk3.size)
 have HQ : Hid (∀ D, Below w3.heap.size w3 D -> Calls Try.prog 53 #[.pointer (some ⟨R.b, 0, none⟩), .int .i64 pe] D fun e w2 => e = .returned (.tuple #[.agg #[.int .i64 x0, .int .i64 x1, .int .i64 x2, .int .i64 x3, .int .i64 x4], .bool b]) /\ Kept D w2 R.own /\ ∃ M' R', DStep D2 w2 B (T + 1) M R M' R') := hq3
 clear HO1 hk3 hq3 o0 o1 o2
 obtain ⟨X3, hX3⟩ : ∃ X, w3.alloc (.cells #[.int .i64 x0, .int .i64 x1, .int .i64 x2, .int .i64 x3, .int .i64 x4] 74) = X := ⟨_, rfl⟩
 have hbX3 : Below w3.heap.size w3 X3 := by rw [<- hX3]; exact balloc (Below.refl _ _)
 have HbX3 : Hid (Below w3.heap.size w3 X3) := hbX3
 have hA3 : X3.heap[w3.heap.size]? = some (.cells #[.int .i64 x0, .int .i64 x1, .int .i64 x2, .int .i64 x3, .int .i64 x4] 74 (0, 0)) := by rw [<- hX3]; exact heap_alloc_new _ _
 have HA3 : Hid (X3.heap[w3.heap.size]? = some (.cells #[.int .i64 x0, .int .i64 x1, .int .i64 x2, .int .i64 x3, .int .i64 x4] 74 (0, 0))) := hA3
 have p3 := bA hbX3 p2
 obtain ⟨ab, hab⟩ : ∃ b, w3.heap.size = b := ⟨_, rfl⟩
 have Hab : Hid (w3.heap.size = ab) := hab
 clear hbX3 hA3 p2
 go_wp2_with fail
 refine (HQ.out _ HbX3.out).mono ?_
 rintro e w4 ⟨rfl, hk4, M', R', hs4⟩
 have hA4 : w4.heap[ab]? = some (.cells #[.int .i64 x0, .int .i64 x1, .int .i64 x2, .int .i64 x3, .int .i64 x4] 74 (0, 0)) := by
  rw [<- hab]
  exact hk4.obj HA3.out fun e => by have := HoR.out _ e; have := HK3.out; omega
 have HY4 : Hid (YsO w w4 B T Y) := (show YsO _ _ _ _ _ from YsO.pre HbD2.out H.out.bk.b (ys_mux (H.out.still HbD2.out) Ht.out HT.out Hk.out HM.out hs4))
 have p4 := kC hk4 HoM.out.2 p3
 obtain ⟨X5, hX5⟩ : ∃ X, w4.alloc (.cells #[.int .i64 x0, .int .i64 x1, .int .i64 x2, .int .i64 x3, .int .i64 x4] 74) = X := ⟨_, rfl⟩
 have hbX5 : Below w4.heap.size w4 X5 := by rw [<- hX5]; exact balloc (Below.refl _ _)
 have hA5 : X5.heap[ab]? = some (.cells #[.int .i64 x0, .int .i64 x1, .int .i64 x2, .int .i64 x3, .int .i64 x4] 74 (0, 0)) := blk_up hbX5 hA4
 have hB5 : X5.heap[w4.heap.size]? = some (.cells #[.int .i64 x0, .int .i64 x1, .int .i64 x2, .int .i64 x3, .int .i64 x4] 74 (0, 0)) := by rw [<- hX5]; exact heap_alloc_new _ _
 have y0 : X5.cell? ⟨ab, 0, none⟩ = some (.int .i64 x0) := bC hA5 0
 have z0 : X5.cell? ⟨w4.heap.size, 0, none⟩ = some (.int .i64 x0) := bC hB5 0
 have y1 : X5.cell? ⟨ab, 1, none⟩ = some (.int .i64 x1) := bC hA5 1
 have z1 : X5.cell? ⟨w4.heap.size, 1, none⟩ = some (.int .i64 x1) := bC hB5 1
 have y2 : X5.cell? ⟨ab, 2, none⟩ = some (.int .i64 x2) := bC hA5 2
 have z2 : X5.cell? ⟨w4.heap.size, 2, none⟩ = some (.int .i64 x2) := bC hB5 2
 have y3 : X5.cell? ⟨ab, 3, none⟩ = some (.int .i64 x3) := bC hA5 3
 have z3 : X5.cell? ⟨w4.heap.size, 3, none⟩ = some (.int .i64 x3) := bC hB5 3
 have y4 : X5.cell? ⟨ab, 4, none⟩ = some (.int .i64 x4) := bC hA5 4
 have z4 : X5.cell? ⟨w4.heap.size, 4, none⟩ = some (.int .i64 x4) := bC hB5 4
 have HO : Hid (YsO w X5 B T Y) := (show YsO _ _ _ _ _ from HY4.out.on hbX5)
 clear hk4 hs4 hA4 hbX5 hA5 hB5 HA3 p3 hX3 HbX3 HY4 HQ
 go_wp2
 go_ret
 exact ⟨rfl, HO.out⟩
end
end Go.Proofs.Ythanifbimndhaaa.Ln
namespace Go.Proofs.Ythanifbimndhaaa.Li
set_option maxHeartbeats 40000000
open Go.RowKit
set_option linter.unusedVariables false

def pat (id k : Int) : Int := -1000000 * (id + 1) - k
set_option maxRecDepth 100000 in
theorem pat_any (id k : Int) (w : World) (h0 : 0 ≤ id) (h1 : id ≤ 10000000) (h2 : 0 ≤ k) (h3 : k ≤ 281474976710656) :
  Calls Try.prog 77 #[.int .i64 id, .int .i64 k] w fun e w' => e = .returned (.int .i64 (pat id k)) /\ w = w' := by
 go_enter Try.func77, Try.ntmps77
 go_wp2
 go_ret
 exact ⟨rfl, rfl⟩
theorem pat_same (id k : Int) (w : World) (h0 : 0 ≤ id) (h1 : id ≤ 10000000) (h2 : 0 ≤ k) (h3 : k ≤ 281474976710656) :
  Calls Try.prog 77 #[.int .i64 id, .int .i64 k] w fun e w' => e = .returned (.int .i64 (pat id k)) /\ w' = w :=
 (pat_any id k w h0 h1 h2 h3).mono fun e w' h => ⟨h.1, h.2.symm⟩
def Rd (w : World) (ao : Option Addr) (len cap : Nat) (bs : List Int) : Prop :=
 bs.length = len /\ (ao = none -> len = 0 /\ cap = 0) /\ (len = 0 ∨ ∃ b off, ao = some ⟨b, off, none⟩ /\ ∀ i, i < len -> w.cell? ⟨b, off + i, none⟩ = some (.int .i64 (bs.getD i 0)))
theorem info_u8 : (Try.prog.info? 3).map (fun i => (i.zero, i.size, i.bytes)) = some (some (.int .i64 0), 1, 8) := by kernel_rfl
def Own (w : World) (base : Nat) (v : Value) (bs : List Int) : Prop := w.ownsRow base 3 1 v bs.length (bs.map (Value.int .i64))
theorem Own.alloc {w : World} {base : Nat} {v : Value} {bs : List Int} (h : Own w base v bs) (o : Obj) : Own (w.alloc o) base v bs := World.ownsRow.alloc h o
theorem Own.lt {w : World} {base : Nat} {v : Value} {bs : List Int} (h : Own w base v bs) (k : Nat) (hk : v.ownBlock = some k) : base ≤ k /\ k < w.heap.size := World.ownsRow.lt h k hk
theorem Rd.cells {w w1 : World} {ao : Option Addr} {len cap : Nat} {bs : List Int} (h : Rd w ao len cap bs) (hbel : Below w.heap.size w w1) (a : Addr) (ha : ao = some a) : ∀ j v, (bs.map (Value.int .i64))[j]? = some v -> w1.cell? (a.add j) = some v := by
 intro j v hv
 obtain ⟨hl, _, hc⟩ := h
 have hj : j < len := by have := (List.getElem?_eq_some_iff.1 hv).1; simpa [hl] using this
 rcases hc with h | ⟨b, off, hao, hc⟩
 ·omega
 ·rw [ha] at hao
  obtain rfl := Option.some.inj hao
  have hcj := hc j hj
  rw [Addr.add_lit, hbel.cell (World.block_lt_of_cell? w _ hcj), hcj]
  have e : (bs.map (Value.int .i64))[j]? = some (.int .i64 (bs.getD j 0)) := by simp [List.getD, show j < bs.length by omega]
  rw [e] at hv
  exact hv

theorem bytes_oneCell (bs : List Int) : ∀ u ∈ bs.map (Value.int .i64), u.oneCell' = true := by
 intro u hu
 obtain ⟨_, _, rfl⟩ := List.mem_map.1 hu
 rfl

theorem wpList_append_rd {P : Program} (w : World) {ops : Array Oper} {rest : List Oper} {o : Oper} {a : Act} {Q : Exit -> Act -> World -> Prop} (hgd : o.guard = none) (s x : Operand) (t : TypeId)
  (ho : o.op = .call { callee := .builtin .append, args := #[s, x], argTypes := #[t, t] })
  (base : Nat) (e : TypeId) (i : TypeInfo) (z : Value) (bytes : Nat) (ht : P.underlying t = some (.slice e)) (hi : P.info? e = some i) (hz : i.zero = some z)
  (hsize : i.size = 1) (hby : i.bytes = bytes) (hzs : z.cells.size = 1)
  (v : Value) (n : Nat) (xs : List Value) (hs : a.eval s = v) (hown : w.ownsRow base e 1 v n xs)
  (ao : Option Addr) (m c : Nat) (news : List Value) (hx : a.eval x = .slice ao m c) (hnone : ao = none -> m = 0 /\ c = 0) (hl : news.length = m) (hnews : ∀ ad, ao = some ad -> ∀ j u, news[j]? = some u -> w.cell? (ad.add j) = some u) (h1 : ∀ u ∈ news, u.oneCell' = true)
  (h63 : n + m ≤ maxLen) (hbytes : (n + m) * bytes ≤ 140737488355328) (hbase : base ≤ w.heap.size)
  (h : ∀ v' w', w'.ownsRow base e 1 v' (n + m) (xs ++ news) -> w.grownBy w' v.ownBlock -> wpList P ops Q rest (a.put o.dst v') w') : wpList P ops Q (o :: rest) a w := by
 cases ao with
 | some ad => exact wpList_append_own w hgd s x t ho base e i z 1 bytes ht hi hz hsize hby hzs (by decide) v n xs hs hown ad m c news hx (by omega) (hnews ad rfl) h1 h63 hbytes hbase fun v' w' h2 h3 _ => h v' w' h2 h3
 | none =>
  obtain ⟨rfl, rfl⟩ := hnone rfl
  obtain rfl : news = [] := List.eq_nil_of_length_eq_zero hl
  exact wpList_append_own_none hgd s x t ho base e i 1 ht hi v n xs hs hown hx (h v w (by simpa using hown) (World.grownBy.refl _ _))

theorem own_empty (w : World) : Own (w.alloc (.cells #[] 3)) w.heap.size (.slice (some ⟨w.heap.size, 0, none⟩) 0 0) [] :=
 World.ownsRow_made w #[] 0 (Nat.le_refl _) (Nat.zero_le _) rfl

theorem own_copy {w1 : World} {base n : Nat} {v : Value} {bs : List Int} (hn : bs.length = n) (h : w1.ownsRow base 3 1 v n (bs.map (Value.int .i64))) : Own w1 base v bs := by
 subst hn; exact h

set_option maxRecDepth 100000 in
def marks (k : Nat) : List Int := (List.range k).map fun (i : Nat) => pat 7000000 (i : Int)
theorem marks_succ (k : Nat) : marks (k + 1) = marks k ++ [pat 7000000 (k : Int)] := by simp [marks, List.range_succ]
theorem marks_len (k : Nat) : (marks k).length = k := by simp [marks]

theorem own_mark {w' : World} {base k n : Nat} {v' : Value} {bs : List Int} (hn : n = bs.length + k + 1) (h : w'.ownsRow base 3 1 v' n (bs.map (Value.int .i64) ++ ((marks k).map (Value.int .i64) ++ [.int .i64 (pat 7000000 (k : Int))]))) : Own w' base v' (bs ++ marks (k + 1)) := by
 unfold Own
 rw [marks_succ]
 subst hn
 simpa [marks_len, Nat.add_assoc] using h

theorem below_push {w wr w' : World} {base : Nat} {v : Value} {bs : List Int} {o : Obj} (hbel : Below base w wr) (hb : base ≤ wr.heap.size) (ho : Own wr base v bs) (hg : (wr.alloc o).grownBy w' v.ownBlock) : Below base w w' :=
 (hbel.alloc hb o).grown hg (by simp; omega) (fun k hk => (ho.lt k hk).1)

set_option maxRecDepth 100000 in
theorem loose_any (ao : Option Addr) (len cap : Nat) (bs : List Int) (w : World) (hr : Rd w ao len cap bs) (hlen : len * 8 ≤ 140737488351232) :
  Calls Try.prog 34 #[.slice ao len cap] w fun e w' => ∃ v', e = .returned v' /\ Own w' w.heap.size v' (bs ++ marks 64) /\ Below w.heap.size w w' := by
 obtain ⟨i0, hi, hz0, hz1, hz2⟩ := info_parts info_u8
 have hb1 : Hid (Below w.heap.size w (w.alloc (.cells #[] 3))) := (Below.refl _ _).alloc (Nat.le_refl _) _
 have hlb := hr.1
 have Hr : Hid (Rd w ao len cap bs) := hr
 clear hr
 go_enter Try.func34, Try.ntmps34
 go_wp2_with (first
  | (at_builtin; refine wpList_append_rd _ rfl _ _ 41 rfl w.heap.size 3 i0 (.int .i64 0) 8 Try.underlying41 hi hz0 hz1 hz2 rfl _ _ _ rfl (own_empty w) _ _ _ (bs.map (Value.int .i64)) rfl Hr.out.2.1 (by simpa using hlb) (Hr.out.cells hb1.out) (bytes_oneCell bs) ?c1 ?c2 ?c3 ?_)
  | fail)
 case c1 => simp; unfold maxLen; omega
 case c2 => simp; omega
 case c3 => simp
 intro v' w2 hown' hgrow
 have HO : Hid (Own w2 w.heap.size v' bs) := own_copy hlb (by simpa using hown')
 have HB : Hid (Below w.heap.size w w2) := hb1.out.grown hgrow (by simp) (fun k hk => by simp [Value.ownBlock] at hk; omega)
 clear hown' hgrow
 go_wp2
 go_loopw [3, 4] (fun v i wr => ∃ k : Nat, k ≤ 64 /\ i = .int .i64 k /\ Own wr w.heap.size v (bs ++ marks k) /\ Below w.heap.size w wr) (fun _ i _ => 64 - (intOf i).toNat)
 case atStart => exact ⟨0, Nat.zero_le _, rfl, by simpa [marks] using HO.out, HB⟩
 case round =>
  obtain ⟨k, hk, rfl, ho, hbel⟩ := hrel
  have hml := marks_len k
  by_cases hlt : k < 64
  ·go_wp2_with (first
    | (go_at_call 77; refine (pat_any _ _ _ (by omega) (by omega) (by omega) (by omega)).mono ?_; rintro e w' ⟨rfl, rfl⟩)
    | (at_builtin; refine wpList_append_own _ rfl _ _ 41 rfl w.heap.size 3 i0 (.int .i64 0) 1 8 Try.underlying41 hi hz0 hz1 hz2 rfl (by decide) _ _ _ rfl (ho.alloc _) ⟨wr.heap.size, 0, none⟩ 1 1 [.int .i64 (pat 7000000 (k : Int))] rfl rfl ?d1 ?d2 ?d3 ?d4 ?d5 ?_)
    | fail)
   case d1 => exact cell_one_new _ _ _
   case d2 => intro x hx; simp at hx; subst hx; rfl
   case d3 => simp [marks_len]; unfold maxLen; omega
   case d4 => simp [marks_len]; omega
   case d5 => have := hbel.size; simp; omega
   intro v3 w3 hown3 hgrow3 _
   have HO3 : Hid (Own w3 w.heap.size v3 (bs ++ marks (k + 1))) := own_mark (by omega) hown3
   have HB3 : Hid (Below w.heap.size w w3) := below_push hbel (by have := hbel.size; omega) ho hgrow3
   clear hown3 hgrow3 ho hbel
   go_wp2
   go_roundw
   case rel => exact ⟨k + 1, by omega, by go_num, HO3, HB3⟩
   case measure => simp [intOf]; omega
  ·obtain rfl : k = 64 := by omega
   go_wp2
   go_ret
   exact ⟨_, rfl, ho, hbel⟩

set_option maxRecDepth 100000 in
theorem unspoilt_some (lb lo capl : Nat) (b off n capb : Nat) (bs : List Int) (w : World) (hn : bs.length = n) (hlen : n * 8 ≤ 140737488351232)
  (hl : ∀ i, i < n + 64 -> w.cell? ⟨lb, lo + i, none⟩ = some (.int .i64 ((bs ++ marks 64).getD i 0))) (hb : ∀ i, i < n -> w.cell? ⟨b, off + i, none⟩ = some (.int .i64 (bs.getD i 0))) :
  Calls Try.prog 36 #[.slice (some ⟨lb, lo, none⟩) (n + 64) capl, .slice (some ⟨b, off, none⟩) n capb] w fun e w' => e = .returned (.bool true) /\ Below w.heap.size w w' := by
 have hne : (((n + 64 : Nat) : Int) != (n : Int) + 64) = false := by simp
 go_enter Try.func36, Try.ntmps36
 go_wp2
 go_loopw [5] (fun i wr => ∃ k : Nat, k ≤ n /\ i = .int .i64 k /\ Below w.heap.size w wr) (fun i _ => n - (intOf i).toNat)
 case atStart => exact ⟨0, Nat.zero_le _, rfl, Below.refl _ _⟩
 case round =>
  obtain ⟨k, hk, rfl, hbel⟩ := hrel
  by_cases hlt : k < n
  ·have h1 := hl k (by omega)
   have h2 := hb k hlt
   have h1' : wr.cell? ⟨lb, lo + k, none⟩ = some (.int .i64 (bs.getD k 0)) := by
    rw [hbel.cell (World.block_lt_of_cell? w _ h1), h1]; simp [List.getD, List.getElem?_append, show k < bs.length by omega]
   have h2' : wr.cell? ⟨b, off + k, none⟩ = some (.int .i64 (bs.getD k 0)) := by rw [hbel.cell (World.block_lt_of_cell? w _ h2), h2]
   clear h1 h2 hl hb
   generalize bs.getD k 0 = x at *
   have HB : Hid (Below w.heap.size w wr) := hbel
   clear hbel
   go_wp2
   go_quiet (fail)
   go_wp2
   go_roundw
   case rel => exact ⟨k + 1, by omega, by go_num, below_drewN HB.out _⟩
   case measure => simp [intOf]; omega
  ·have HB : Hid (Below w.heap.size w wr) := hbel
   clear hbel hb
   go_wp2
   go_loopw [6] (fun i ws => ∃ k : Nat, k ≤ 64 /\ i = .int .i64 k /\ Below w.heap.size w ws) (fun i _ => 64 - (intOf i).toNat)
   case atStart => exact ⟨0, Nat.zero_le _, rfl, HB⟩
   case round =>
    obtain ⟨j, hj, rfl, hbel⟩ := hrel
    by_cases hjl : j < 64
    ·have h1 := hl (n + j) (by omega)
     have h1' : wr.cell? ⟨lb, lo + (n + j), none⟩ = some (.int .i64 (pat 7000000 (j : Int))) := by
      rw [hbel.cell (World.block_lt_of_cell? w _ h1), h1]
      have e : (bs ++ marks 64).getD (n + j) 0 = pat 7000000 (j : Int) := by
       subst hn
       simp [List.getD, marks, hjl]
      rw [e]
     clear h1 hl
     have HB2 : Hid (Below w.heap.size w wr) := hbel
     clear hbel
     go_wp2
     go_quiet ((go_at_call 77; exact Calls.quiet_of_same (pat_same _ _ _ (by omega) (by omega) (by omega) (by omega))))
     go_wp2
     go_roundw
     case rel => exact ⟨j + 1, by omega, by go_num, below_drewN HB2.out _⟩
     case measure => simp [intOf]; omega
    ·clear hl
     go_wp2
     go_ret
     exact ⟨rfl, hbel⟩

set_option maxRecDepth 100000 in
theorem unspoilt_none (lb lo capl : Nat) (ao : Option Addr) (capb : Nat) (w : World)
  (hl : ∀ i, i < 64 -> w.cell? ⟨lb, lo + i, none⟩ = some (.int .i64 ((marks 64).getD i 0))) :
  Calls Try.prog 36 #[.slice (some ⟨lb, lo, none⟩) 64 capl, .slice ao 0 capb] w fun e w' => e = .returned (.bool true) /\ Below w.heap.size w w' := by
 have HB : Hid (Below w.heap.size w w) := Below.refl _ _
 go_enter Try.func36, Try.ntmps36
 go_wp2
 refine wp_loop_rounds 1 ?_
 rw [rounds_succ]
 go_wp2
 go_loopw [6] (fun i ws => ∃ k : Nat, k ≤ 64 /\ i = .int .i64 k /\ Below w.heap.size w ws) (fun i _ => 64 - (intOf i).toNat)
 case atStart => exact ⟨0, Nat.zero_le _, rfl, HB⟩
 case round =>
  obtain ⟨j, hj, rfl, hbel⟩ := hrel
  by_cases hjl : j < 64
  ·have h1 := hl j (by omega)
   have h1' : wr.cell? ⟨lb, lo + j, none⟩ = some (.int .i64 (pat 7000000 (j : Int))) := by
    rw [hbel.cell (World.block_lt_of_cell? w _ h1), h1]
    have e : (marks 64).getD j 0 = pat 7000000 (j : Int) := by
     simp [List.getD, marks, hjl]
    rw [e]
   clear h1 hl
   have HB2 : Hid (Below w.heap.size w wr) := hbel
   clear hbel
   go_wp2
   go_quiet ((go_at_call 77; exact Calls.quiet_of_same (pat_same _ _ _ (by omega) (by omega) (by omega) (by omega))))
   go_wp2
   go_roundw
   case rel => exact ⟨j + 1, by omega, by go_num, below_drewN HB2.out _⟩
   case measure => simp [intOf]; omega
  ·clear hl
   go_wp2
   go_ret
   exact ⟨rfl, hbel⟩

theorem unspoilt_any (lb lo capl : Nat) (ao : Option Addr) (n capb : Nat) (bs : List Int) (w : World) (hr : Rd w ao n capb bs) (hlen : n * 8 ≤ 140737488351232)
  (hl : ∀ i, i < n + 64 -> w.cell? ⟨lb, lo + i, none⟩ = some (.int .i64 ((bs ++ marks 64).getD i 0))) :
  Calls Try.prog 36 #[.slice (some ⟨lb, lo, none⟩) (n + 64) capl, .slice ao n capb] w fun e w' => e = .returned (.bool true) /\ Below w.heap.size w w' := by
 obtain ⟨hn, _, hc⟩ := hr
 rcases hc with h0 | ⟨b, off, rfl, hc⟩
 ·subst h0
  obtain rfl : bs = [] := List.eq_nil_of_length_eq_zero hn
  have := unspoilt_none lb lo capl ao capb w (by simpa using hl)
  simpa using this
 ·exact unspoilt_some lb lo capl b off n capb bs w hn hlen hl hc


end Go.Proofs.Ythanifbimndhaaa.Li
namespace Go.Proofs.Ythanifbimndhaaa.Ln
set_option maxHeartbeats 40000000
open Go.RowKit Mb
set_option linter.unusedVariables false
set_option maxRecDepth 100000
set_option linter.unusedSimpArgs false
section
variable {w w' W : World} {B T : Nat} {Y : Pl}
theorem lo_rd {ao : Option Addr} {n c : Nat} {bs : List Int} (h : Rd w ao n c bs) : Lo.Rd w ao n c bs := ⟨h.len, fun e => by have := h.nil e; have := h.cap; omega, h.at_, fun i => h.by_ i⟩
theorem li_rd {ao : Option Addr} {n c : Nat} {xs : List Int} (h : RdI w ao n c xs) : Li.Rd w ao n c xs := ⟨h.len, fun e => by have := h.nil e; have := h.cap; omega, h.at_⟩
def lsv (g n cap : Nat) : Value := .slice (some ⟨g, 0, none⟩) (n + 64) cap
structure LsO (w w' : World) (n : Nat) (bs : List Int) (e : Ending) : Prop where
 out : ∃ g cap, e = .returned (.slice (some ⟨g, 0, none⟩) (n + 64) cap) /\ Lo.Own w' w.heap.size (lsv g n cap) (bs ++ Lo.marks 64) /\ Below w.heap.size w w'
structure LiO (w w' : World) (n : Nat) (bs : List Int) (e : Ending) : Prop where
 out : ∃ g cap, e = .returned (.slice (some ⟨g, 0, none⟩) (n + 64) cap) /\ Li.Own w' w.heap.size (lsv g n cap) (bs ++ Li.marks 64) /\ Below w.heap.size w w'
theorem loose_at {ao : Option Addr} {n c : Nat} {bs : List Int} (h : Rd w ao n c bs) (hn : n ≤ 140737488351232) : Calls Try.prog 33 #[.slice ao n c] w fun e w' => LsO w w' n bs e := by
 refine (Lo.loose_any ao n c bs w (lo_rd h) (by omega)).mono ?_
 rintro e w' ⟨v', rfl, ho, hb⟩
 rcases ho.2 with ⟨_, h2⟩ | ⟨g, cap', cur, hv, hg, hcap⟩
 ·simp [Lo.marks_len] at h2
 ·have hl : (bs ++ Lo.marks 64).length = n + 64 := by simp [Lo.marks_len, h.len]
  rw [hl] at hv
  subst hv
  exact ⟨g, cap', rfl, ho, hb⟩
theorem loosei_at {ao : Option Addr} {n c : Nat} {bs : List Int} (h : RdI w ao n c bs) (hn : n * 8 ≤ 140737488351232) : Calls Try.prog 34 #[.slice ao n c] w fun e w' => LiO w w' n bs e := by
 refine (Li.loose_any ao n c bs w (li_rd h) hn).mono ?_
 rintro e w' ⟨v', rfl, ho, hb⟩
 rcases ho.2 with ⟨_, h2⟩ | ⟨g, cap', cur, hv, hg, hcap⟩
 ·simp [Li.marks_len] at h2
 ·have hl : (bs ++ Li.marks 64).length = n + 64 := by simp [Li.marks_len, h.len]
  rw [hl] at hv
  subst hv
  exact ⟨g, cap', rfl, ho, hb⟩
theorem ls_rd {g n cap S : Nat} {bs ms : List Int} (h : Lo.Own w S (lsv g n cap) (bs ++ ms)) (hl : bs.length = n) (hb : By bs) : Rd w (some ⟨g, 0, none⟩) n cap bs := by
 have h1 := Lo.Own.rdPrefix h hb
 have hc : n ≤ cap := by
  rcases h.2 with ⟨h1, _⟩ | ⟨g', cap', cur, hv, _, _, hc, _⟩
  ·simp [lsv] at h1
  ·simp only [lsv, Value.slice.injEq] at hv
   obtain ⟨_, h3, h4⟩ := hv
   omega
 refine ⟨hl, hc, by simp, ?_, hb⟩
 rw [<- hl]
 exact h1.2.2.1
theorem li_rdi {g n cap S : Nat} {xs ms : List Int} (h : Li.Own w S (lsv g n cap) (xs ++ ms)) (hl : xs.length = n) : RdI w (some ⟨g, 0, none⟩) n cap xs := by
 have hc : n ≤ cap /\ n + 64 = (xs ++ ms).length := by
  rcases h.2 with ⟨h1, _⟩ | ⟨g', cap', cur, hv, _, _, hc, _⟩
  ·simp [lsv] at h1
  ·simp only [lsv, Value.slice.injEq] at hv
   obtain ⟨_, h3, h4⟩ := hv
   omega
 refine ⟨hl, hc.1, by simp, .inr ⟨g, 0, rfl, fun i hi => ?_⟩⟩
 have h2 : w.ownsRow S 3 1 (.slice (some ⟨g, 0, none⟩) (xs ++ ms).length cap) (xs ++ ms).length ((xs ++ ms).map (Value.int .i64)) := by
  have h3 := h
  unfold Li.Own lsv at h3
  rw [hc.2] at h3
  exact h3
 have := World.ownsRow.cellAt h2 i (by simp; omega)
 rw [Nat.zero_add, this]
 simp [List.getD, List.getElem?_append, show i < xs.length by omega]
theorem ls_blk {g n cap S : Nat} {bs : List Int} (h : Lo.Own w S (lsv g n cap) bs) : ∃ C, w.heap[g]? = some (.cells C 5 (0, 0)) /\ n + 64 ≤ C.size := by
 rcases h.2 with ⟨h1, _⟩ | ⟨g', cap', cur, hv, _, hg, hc, _, hs, _⟩
 ·simp [lsv] at h1
 ·simp only [lsv, Value.slice.injEq, Option.some.injEq, Addr.mk.injEq, and_true] at hv
  obtain ⟨rfl, h3, h4⟩ := hv
  exact ⟨cur, hg, by omega⟩
theorem li_blk {g n cap S : Nat} {bs : List Int} (h : Li.Own w S (lsv g n cap) bs) : ∃ C, w.heap[g]? = some (.cells C 3 (0, 0)) /\ n + 64 ≤ C.size := by
 rcases h.2 with ⟨h1, _⟩ | ⟨g', cap', cur, hv, _, hg, hc, _, hs, _⟩
 ·simp [lsv] at h1
 ·simp only [lsv, Value.slice.injEq, Option.some.injEq, Addr.mk.injEq, and_true] at hv
  obtain ⟨rfl, h3, h4⟩ := hv
  exact ⟨cur, hg, by omega⟩
theorem ls_lo {g n cap S : Nat} {bs : List Int} (h : Lo.Own w S (lsv g n cap) bs) : S ≤ g /\ g < w.heap.size := World.ownsRow.lt h g rfl
theorem li_lo {g n cap S : Nat} {bs : List Int} (h : Li.Own w S (lsv g n cap) bs) : S ≤ g /\ g < w.heap.size := World.ownsRow.lt h g rfl
theorem ls_keep {g n cap S : Nat} {bs : List Int} {P : Nat -> Prop} (h : Lo.Own w S (lsv g n cap) bs) (k : Kept w w' P) (hp : ¬ P g) : Lo.Own w' S (lsv g n cap) bs := k.owns h fun j hj e => by
 have e2 : g = j := by simpa [lsv, Value.ownBlock] using hj
 rw [<- e2] at e
 exact hp e
theorem li_keep {g n cap S : Nat} {bs : List Int} {P : Nat -> Prop} (h : Li.Own w S (lsv g n cap) bs) (k : Kept w w' P) (hp : ¬ P g) : Li.Own w' S (lsv g n cap) bs := k.owns h fun j hj e => by
 have e2 : g = j := by simpa [lsv, Value.ownBlock] using hj
 rw [<- e2] at e
 exact hp e
theorem unsp_at {g n cap S c : Nat} {ao : Option Addr} {bs : List Int} (h : Rd w ao n c bs) (hn : n ≤ 140737488351232) (ho : Lo.Own w S (lsv g n cap) (bs ++ Lo.marks 64)) : Calls Try.prog 42 #[.slice (some ⟨g, 0, none⟩) (n + 64) cap, .slice ao n c] w fun e w' => e = .returned (.bool true) /\ Below w.heap.size w w' :=
 Lo.unspoilt_any g 0 cap ao n c bs w (lo_rd h) (by omega) fun i hi => Lo.Own.cellAll ho i (by simp [Lo.marks_len, h.len]; omega)
theorem unspi_at {g n cap S c : Nat} {ao : Option Addr} {bs : List Int} (h : RdI w ao n c bs) (hn : n * 8 ≤ 140737488351232) (ho : Li.Own w S (lsv g n cap) (bs ++ Li.marks 64)) : Calls Try.prog 36 #[.slice (some ⟨g, 0, none⟩) (n + 64) cap, .slice ao n c] w fun e w' => e = .returned (.bool true) /\ Below w.heap.size w w' :=
 Li.unspoilt_any g 0 cap ao n c bs w (li_rd h) hn fun i hi => by
  have hnl : n + 64 = (bs ++ Li.marks 64).length := by simp [Li.marks_len, h.len]
  have h2 : w.ownsRow S 3 1 (.slice (some ⟨g, 0, none⟩) (bs ++ Li.marks 64).length cap) (bs ++ Li.marks 64).length ((bs ++ Li.marks 64).map (Value.int .i64)) := by
   have h3 := ho
   unfold Li.Own lsv at h3
   rw [hnl] at h3
   exact h3
  have := World.ownsRow.cellAt h2 i (by omega)
  rw [Nat.zero_add, this]
  simp only [List.getElem?_map, List.getD]
  rw [List.getElem?_eq_getElem (by omega)]
  rfl
structure ArgOk (w : World) (B : Nat) (ba : Option Addr) (bn bc : Nat) (bs : List Int) (pa : Option Addr) (pn pc : Nat) (xs : List Int) : Prop where
 rb : Rd w ba bn bc bs
 ri : RdI w pa pn pc xs
 lb : 0 < bn -> In ba fun b => b < B
 li : 0 < pn -> In pa fun b => b < B
 nb : bn ≤ 140737488351232
 ni : pn * 8 ≤ 140737488351232
theorem ArgOk.on {ba pa : Option Addr} {bn bc pn pc : Nat} {bs xs : List Int} (h : ArgOk w B ba bn bc bs pa pn pc xs) (hb : Below B w w') : ArgOk w' B ba bn bc bs pa pn pc xs := by
 refine { h with rb := { h.rb with at_ := ?_ }, ri := { h.ri with at_ := ?_ } }
 ·rcases h.rb.at_ with e | ⟨b, off, rfl, hc⟩
  ·exact .inl e
  ·by_cases h0 : bn = 0
   ·exact .inl h0
   ·have hl := h.lb (by omega) b off rfl
    exact .inr ⟨b, off, rfl, fun i hi => (hb.cell (p := ⟨b, off + i, none⟩) hl).trans (hc i hi)⟩
 ·rcases h.ri.at_ with e | ⟨b, off, rfl, hc⟩
  ·exact .inl e
  ·by_cases h0 : pn = 0
   ·exact .inl h0
   ·have hl := h.li (by omega) b off rfl
    exact .inr ⟨b, off, rfl, fun i hi => (hb.cell (p := ⟨b, off + i, none⟩) hl).trans (hc i hi)⟩
def Out (Y : Pl) (j : Nat) : Prop := ¬ Y.mo j /\ ¬ Y.kf j /\ ¬ Y.of j /\ ¬ Y.pf j
theorem out_above (h : PlOk Y w B T) {j : Nat} (hj : w.heap.size ≤ j) : Out Y j := ⟨fun e => by have := (h.mo_lt e).2; omega, fun e => by have := (h.kf_lt e).2; omega, fun e => by have := (h.of_lt e).2; omega, fun e => by have := (h.pf_lt e).2; omega⟩
structure YsG (w w' : World) (B T : Nat) (Y : Pl) (g : Nat) : Prop where
 out : ∃ Y' : Pl, PlOk Y' w' B (T + 1) /\ Y'.b = Y.b /\ Y'.tn ≤ (Y'.os.length : Int) /\ Below B w w' /\ Out Y' g
theorem YsG.on {w2 : World} {g : Nat} (h : YsG w w' B T Y g) (hb : Below w'.heap.size w' w2) : YsG w w2 B T Y g := by
 obtain ⟨Y', h1, h2, h3, h4, h5⟩ := h.out
 exact ⟨Y', h1.still hb, h2, h3, h4.trans (hb.mono h1.bk.b), h5⟩
theorem PlOk.free_keep {g t : Nat} {C : Array Value} (h : PlOk Y w B T) (hg : w.heap[g]? = some (.cells C t (0, 0))) (ht : t = 5 ∨ t = 3) (ho : Out Y g) (k : Kept w w' (fun j => j = g)) : PlOk Y w' B T := by
 refine h.keep k fun j e => ?_
 subst e
 refine ⟨fun e => ?_, fun e => ?_, fun e => ?_, fun e => ?_, ho.1, ho.2.1, ho.2.2.1, ho.2.2.2⟩
 ·exact blk_ne hg h.bk.k (by rcases ht with rfl | rfl <;> decide) e
 ·obtain ⟨C', hC'⟩ := h.rowp_ne e; exact blk_ne hg hC' (by rcases ht with rfl | rfl <;> decide) rfl
 ·obtain ⟨C', hC'⟩ := h.rowk_ne e; exact blk_ne hg hC' (by rcases ht with rfl | rfl <;> decide) rfl
 ·obtain ⟨C', hC'⟩ := h.rowo_ne e; exact blk_ne hg hC' (by rcases ht with rfl | rfl <;> decide) rfl
structure FlS (w wr : World) (g t n : Nat) : Prop where
 blk : ∃ C, wr.heap[g]? = some (.cells C t (0, 0)) /\ n ≤ C.size
 kept : Kept w wr (fun j => j = g)
theorem FlS.cell {wr : World} {g t n i : Nat} (h : FlS w wr g t n) (hi : i < n) : (∃ v, wr.cell? ⟨g, i, none⟩ = some v) /\ wr.frozen? ⟨g, i, none⟩ = false := by
 obtain ⟨C, hC, hn⟩ := h.blk
 exact ⟨⟨_, (bC hC i).trans (Array.getElem?_eq_getElem (by omega))⟩, frozen_of_row _ _ i _ _ hC⟩
theorem FlS.set {wr : World} {g t n i : Nat} {v : Value} (h : FlS w wr g t n) : FlS w (wr.setCell ⟨g, i, none⟩ v) g t n := by
 obtain ⟨C, hC, hn⟩ := h.blk
 exact ⟨⟨_, blk_set hC rfl, by simpa using hn⟩, h.kept.trans (kset (P := fun j => j = g) _ _ _ _ rfl)⟩
theorem ys_fill {wr : World} {g t n : Nat} (h : YsG w w' B T Y g) (hg : B ≤ g) (ht : t = 5 ∨ t = 3) (hb : ∃ C, w'.heap[g]? = some (.cells C t (0, 0))) (f : FlS w' wr g t n) : YsO w wr B T Y := by
 obtain ⟨Y', h1, h2, h3, h4, h5⟩ := h.out
 obtain ⟨C, hC⟩ := hb
 exact ⟨Y', h1.free_keep hC ht h5 f.kept, h2, h3, h4.trans (f.kept.below h1.bk.b fun j hj e => by omega)⟩
theorem ysg_mux {k g : Nat} {M M' : Mx} {R R' : Rx} (h : PlOk Y w B T) (ht : Y.tn ≤ (Y.os.length : Int)) (hT : T + 1 ≤ 450) (hk : k < 3) (hM : Y.M k = some (M, R)) (s : DStep w w' B (T + 1) M R M' R') (hg : g < w.heap.size) (ho : Out Y g) : YsG w w' B T Y g := by
 refine ⟨_, h.mux hk hM s (Nat.le_succ _) hT, rfl, ht, s.kept.below h.bk.b fun j hj e => ?_, ?_, ho.2.1, ho.2.2.1, ho.2.2.2⟩
 ·have := ((h.duo k M R hk hM).lt e).1
  omega
 ·rintro ⟨i, M2, R2, hi, hY2, hj⟩
  have hY3 : upd Y.M k (some (M', R')) i = some (M2, R2) := hY2
  by_cases c : i = k
  ·subst c
   rw [upd_same] at hY3
   cases hY3
   rcases s.own g hj with e | e
   ·exact ho.1 ⟨i, M, R, hi, hM, e⟩
   ·omega
  ·rw [upd_ne _ _ c] at hY3
   exact ho.1 ⟨i, M2, R2, hi, hY3, hj⟩
end
end Go.Proofs.Ythanifbimndhaaa.Ln
