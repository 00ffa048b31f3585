import Derived.Test.YthanifbimndhaaaM32
namespace Go.Proofs.Ythanifbimndhaaa.Ln
set_option maxHeartbeats 40000000
open Go.RowKit Mb
set_option linter.unusedVariables false
set_option maxRecDepth 100000
set_option linter.unusedSimpArgs false
section
variable {w w' W : World} {B T : Nat} {Y : Pl}
theorem PlOk.out_ty {g : Nat} {C : Array Value} (h : PlOk Y w B T) (hg : w.heap[g]? = some (.cells C 3 (0, 0))) : Out Y g := by
 refine ⟨?_, ?_, ?_, fun e => ?_⟩
 ·rintro ⟨i, M, R, hi, hY, ho⟩
  have hd := h.duo i M R hi hY
  rcases ho with ho | ho
  ·exact hd.m.ne_t hg (by decide) (by decide) (by decide) (by decide) (by decide) ho
  ·exact hd.r.ne_t hg (by decide) (by decide) (by decide) (by decide) (by decide) ho
 ·rintro ⟨p, hp, ho⟩; exact (h.kok p hp).ne hg (by decide) (by decide) ho
 ·rintro ⟨p, hp, ho⟩; exact (h.ook p hp).ne hg (by decide) (by decide) ho
 ·obtain ⟨C', hC'⟩ := h.pf_ty e; exact blk_ne hg hC' (by decide) rfl
theorem ysg_fill {wr : World} {g g2 n : Nat} (h : YsG w w' B T Y g) (hg : B ≤ g2) (hb : ∃ C, w'.heap[g2]? = some (.cells C 3 (0, 0))) (f : FlS w' wr g2 3 n) : YsG w wr B T Y g := by
 obtain ⟨Y', h1, h2, h3, h4, h5⟩ := h.out
 obtain ⟨C, hC⟩ := hb
 exact ⟨Y', h1.free_keep hC (.inr rfl) (h1.out_ty hC) f.kept, h2, h3, h4.trans (f.kept.below h1.bk.b fun j hj e => by omega), h5⟩
theorem put2 {k bn bc pn pc : Nat} {pe nn mm ww : Int} {t : Tg} {ba pa : Option Addr} {M : Mx} {R : Rx} (h : PlOk Y w B T) (ht : Y.tn ≤ (Y.os.length : Int)) (hT : T + 1 ≤ 450) (hk : k < 3) (hM : Y.M k = some (M, R)) {bs xs : List Int} (hA : ArgOk w B ba bn bc bs pa pn pc xs) : Calls Try.prog 15 #[.pointer (some ⟨Y.b, 0, none⟩), .agg #[.int .i64 (k : Int), .int .i64 2, .int .i64 pe, .int .i64 nn, .int .i64 mm, .int .i64 ww, .int .i64 t.e, .int .i64 t.l, .int .i64 t.i, .int .i64 t.c, .slice ba bn bc, .slice pa pn pc]] w fun e w' => e = .returned (.bool true) /\ YsO w w' B T Y := by
 have H : Hid (PlOk Y w B T) := h
 have Ht : Hid (Y.tn ≤ (Y.os.length : Int)) := ht
 have HT : Hid (T + 1 ≤ 450) := hT
 have Hk : Hid (k < 3) := hk
 have HM : Hid (Y.M k = some (M, R)) := hM
 obtain ⟨yb, hyb⟩ : ∃ b, Y.b = b := ⟨_, rfl⟩
 have Hyb : Hid (Y.b = yb) := hyb
 have i1 : (0 : Int) ≤ (k : Int) := Int.natCast_nonneg _
 have i2 : (k : Int) < 3 := by omega
 have HA : Hid (ArgOk w B ba bn bc bs pa pn pc xs) := hA
 clear hA
 generalize hW : w.alloc (.cells #[.int .i64 (k : Int), .int .i64 2, .int .i64 pe, .int .i64 nn, .int .i64 mm, .int .i64 ww, .int .i64 t.e, .int .i64 t.l, .int .i64 t.i, .int .i64 t.c, .slice ba bn bc, .slice pa pn pc] 43) = W
 have hbW := bW0 hW
 have HbW : Hid (Below w.heap.size w W) := hbW
 have hblk := hQ0 hW
 have b0 : W.cell? ⟨w.heap.size, 0, none⟩ = some (.int .i64 (k : Int)) := bC hblk 0
 have b1 : W.cell? ⟨w.heap.size, 1, none⟩ = some (.int .i64 2) := bC hblk 1
 have b2 : W.cell? ⟨w.heap.size, 2, none⟩ = some (.int .i64 pe) := bC hblk 2
 have b3 : W.cell? ⟨w.heap.size, 3, none⟩ = some (.int .i64 nn) := bC hblk 3
 have b4 : W.cell? ⟨w.heap.size, 4, none⟩ = some (.int .i64 mm) := bC hblk 4
 have b5 : W.cell? ⟨w.heap.size, 5, none⟩ = some (.int .i64 ww) := bC hblk 5
 have b6 : W.cell? ⟨w.heap.size, 6, none⟩ = some (.int .i64 t.e) := bC hblk 6
 have b7 : W.cell? ⟨w.heap.size, 7, none⟩ = some (.int .i64 t.l) := bC hblk 7
 have b8 : W.cell? ⟨w.heap.size, 8, none⟩ = some (.int .i64 t.i) := bC hblk 8
 have b9 : W.cell? ⟨w.heap.size, 9, none⟩ = some (.int .i64 t.c) := bC hblk 9
 have b10 : W.cell? ⟨w.heap.size, 10, none⟩ = some (.slice ba bn bc) := bC hblk 10
 have b11 : W.cell? ⟨w.heap.size, 11, none⟩ = some (.slice pa pn pc) := bC hblk 11
 have cM := (h.still hbW).cM hk
 rw [hM, hyb] at cM
 have cP : W.cell? ⟨yb, k, none⟩ = some (.pointer (some ⟨M.b, 0, none⟩)) := cM.1
 have cD : W.cell? ⟨yb, 3 + k, none⟩ = some (.pointer (some ⟨R.b, 0, none⟩)) := cM.2
 rw [hyb]
 clear h ht hT hk hM hyb hbW hblk cM
 go_enter Try.func15, Try.ntmps15
 go_wp2
 refine wp_region_held_drew (S := (fun w' => w'.cell? ⟨w.heap.size, 0, none⟩ = some (.int .i64 (k : Int)) /\ w'.cell? ⟨yb, k, none⟩ = some (.pointer (some ⟨M.b, 0, none⟩)))) (by kernel_rfl) ⟨(dW0 b0), (dW0 cP)⟩ (fun hH => ?_)
 simp only [Act.put, lA, lC, lN, zA]
 refine tG 0 23 (.pointer (some ⟨yb, 0, none⟩)) rfl hH ?_
 simp only [aP, sA, sZ, sC]
 refine tG 1 24 (.pointer (some ⟨w.heap.size, 0, none⟩)) rfl hH ?_
 simp only [aP, sA, sZ, sC]
 refine tL 2 25 (.int .i64 (k : Int)) rfl hH ?_
 simp only [aP, sA, sZ, sC]
 refine tG 3 26 (.pointer (some ⟨yb, 0, none⟩)) rfl hH ?_
 simp only [aP, sA, sZ, sC]
 refine tG 4 27 (.pointer (some ⟨yb, 0, none⟩)) rfl hH ?_
 simp only [aP, sA, sZ, sC]
 refine tG 5 28 (.pointer (some ⟨yb, k, none⟩)) rfl hH ?_
 simp only [aP, sA, sZ, sC]
 refine tL 6 29 (.pointer (some ⟨M.b, 0, none⟩)) rfl hH ?_
 simp only [aP, sA, sZ, sC]
 refine tG 7 5 (.pointer (some ⟨M.b, 0, none⟩)) rfl hH ?_
 simp only [aP, sA, sZ, sC]
 refine wpAnyH_done (by kernel_rfl) ?_ _
 clear hH
 have hbq1 : Below W.heap.size W W.drew := dB _
 have d0 := bA hbq1 b0
 have d1 := bA hbq1 b1
 have d2 := bA hbq1 b2
 have d3 := bA hbq1 b3
 have d4 := bA hbq1 b4
 have d5 := bA hbq1 b5
 have d6 := bA hbq1 b6
 have d7 := bA hbq1 b7
 have d8 := bA hbq1 b8
 have d9 := bA hbq1 b9
 have d10 := bA hbq1 b10
 have d11 := bA hbq1 b11
 have eP := bA hbq1 cP
 have eD := bA hbq1 cD
 have HD1 : Hid (Below w.heap.size w W.drew) := (show Below _ _ _ from bstep HbW.out hbq1)
 clear hbq1 b0 b1 b2 b3 b4 b5 b6 b7 b8 b9 b10 b11 cP cD HbW
 generalize W.drew = D1 at HD1 d0 d1 d2 d3 d4 d5 d6 d7 d8 d9 d10 d11 eP eD ⊢
 have HbD1 := HD1
 clear HD1
 go_wp2
 refine wp_region_held_drew (S := (fun w' => w'.cell? ⟨w.heap.size, 0, none⟩ = some (.int .i64 (k : Int)) /\ w'.cell? ⟨yb, 3 + k, none⟩ = some (.pointer (some ⟨R.b, 0, none⟩)))) (by kernel_rfl) ⟨(dW0 d0), (dW0 eD)⟩ (fun hH => ?_)
 simp only [Act.put, lA, lC, lN, zA]
 refine tG 0 30 (.pointer (some ⟨yb, 0, none⟩)) rfl hH ?_
 simp only [aP, sA, sZ, sC]
 refine tG 1 31 (.pointer (some ⟨w.heap.size, 0, none⟩)) rfl hH ?_
 simp only [aP, sA, sZ, sC]
 refine tL 2 32 (.int .i64 (k : Int)) rfl hH ?_
 simp only [aP, sA, sZ, sC]
 refine tG 3 33 (.pointer (some ⟨yb, 0, none⟩)) rfl hH ?_
 simp only [aP, sA, sZ, sC]
 refine tG 4 34 (.pointer (some ⟨yb, 3, none⟩)) rfl hH ?_
 simp only [aP, sA, sZ, sC]
 refine tG 5 35 (.pointer (some ⟨yb, 3 + k, none⟩)) rfl hH ?_
 simp only [aP, sA, sZ, sC]
 refine tL 6 36 (.pointer (some ⟨R.b, 0, none⟩)) rfl hH ?_
 simp only [aP, sA, sZ, sC]
 refine tG 7 6 (.pointer (some ⟨R.b, 0, none⟩)) rfl hH ?_
 simp only [aP, sA, sZ, sC]
 refine wpAnyH_done (by kernel_rfl) ?_ _
 clear hH
 have hbq2 : Below D1.heap.size D1 D1.drew := dB _
 have o0 := bA hbq2 d0
 have o1 := bA hbq2 d1
 have o2 := bA hbq2 d2
 have o3 := bA hbq2 d3
 have o4 := bA hbq2 d4
 have o5 := bA hbq2 d5
 have o6 := bA hbq2 d6
 have o7 := bA hbq2 d7
 have o8 := bA hbq2 d8
 have o9 := bA hbq2 d9
 have o10 := bA hbq2 d10
 have o11 := bA hbq2 d11
 have fP := bA hbq2 eP
 have fD := bA hbq2 eD
 have HD2 : Hid (Below w.heap.size w D1.drew) := (show Below _ _ _ from bstep HbD1.out hbq2)
 clear hbq2 d0 d1 d2 d3 d4 d5 d6 d7 d8 d9 d10 d11 eP eD HbD1
 generalize D1.drew = D2 at HD2 o0 o1 o2 o3 o4 o5 o6 o7 o8 o9 o10 o11 fP fD ⊢
 have HbD2 := HD2
 clear HD2
 clear fP fD
 have HLo : Hid (Calls Try.prog 33 #[.slice ba bn bc] D2 fun e w' => LsO D2 w' bn bs e) := (show Calls _ _ _ _ _ from loose_at (HA.out.on (HbD2.out.mono H.out.bk.b)).rb HA.out.nb)
 go_wp2_with fail
 refine HLo.out.mono ?_
 rintro e w3 ⟨g, cap, rfl, hls, hb3⟩
 have HLs : Hid (Lo.Own w3 D2.heap.size (lsv g bn cap) (bs ++ Lo.marks 64)) := hls
 have HRd : Hid (Rd w3 (some ⟨g, 0, none⟩) bn cap bs) := (show Rd _ _ _ _ _ from ls_rd hls HA.out.rb.len HA.out.rb.by_)
 have Hb3 : Hid (Below w.heap.size w w3) := (show Below _ _ _ from bstep HbD2.out hb3)
 have Hg : Hid (w.heap.size ≤ g /\ g < w3.heap.size) := (show _ /\ _ from ⟨Nat.le_trans HbD2.out.size (ls_lo hls).1, (ls_lo hls).2⟩)
 obtain ⟨m, hm⟩ : ∃ m, bn + 64 = m := ⟨_, rfl⟩
 have Hm : Hid (bn + 64 = m) := hm
 rw [hm]
 have HJ : Hid ((m : Int) ≤ 140737488351296) := (show _ ≤ _ from by have := HA.out.nb; omega)
 have hSl : ∀ X : World, (Instr.slice 40 (.slice (some ⟨g, 0, none⟩) m cap) none (some (.int .i64 (bn : Int))) none).run Try.prog X = .ok (.slice (some ⟨g, 0, none⟩) bn cap) X := slice_hi HRd.out.cap
 have HoM : Hid (¬ M.own w.heap.size /\ ¬ R.own w.heap.size) := (show _ /\ _ from ⟨fun e => by have := ((H.out.duo k M R Hk.out HM.out).lt (.inl e)).2; omega, fun e => by have := ((H.out.duo k M R Hk.out HM.out).lt (.inr e)).2; omega⟩)
 have HgM : Hid (¬ (M.own g ∨ R.own g)) := (show ¬ _ from fun e => by have := ((H.out.duo k M R Hk.out HM.out).lt e).2; have := Hg.out.1; omega)
 have p0 := bA hb3 o0
 have p1 := bA hb3 o1
 have p2 := bA hb3 o2
 have p3 := bA hb3 o3
 have p4 := bA hb3 o4
 have p5 := bA hb3 o5
 have p6 := bA hb3 o6
 have p7 := bA hb3 o7
 have p8 := bA hb3 o8
 have p9 := bA hb3 o9
 have p10 := bA hb3 o10
 have p11 := bA hb3 o11
 clear hls hb3 hm o0 o1 o2 o3 o4 o5 o6 o7 o8 o9 o10 o11 HLo
 have HLi : Hid (Calls Try.prog 34 #[.slice pa pn pc] w3 fun e w' => LiO w3 w' pn xs e) := (show Calls _ _ _ _ _ from loosei_at (HA.out.on (Hb3.out.mono H.out.bk.b)).ri HA.out.ni)
 as_aux_lemma =>
 go_wp2_with fail
 refine HLi.out.mono ?_
 rintro e w4 ⟨g2, cap2, rfl, hls, hb4⟩
 have hbd : Below w3.heap.size w3 w4.drew := bstep hb4 (dB _)
 have HL2 : Hid (Li.Own w4.drew w3.heap.size (lsv g2 pn cap2) (xs ++ Li.marks 64)) := own_still hls (dB _)
 have HR2 : Hid (RdI w4.drew (some ⟨g2, 0, none⟩) pn cap2 xs) := (show RdI _ _ _ _ _ from li_rdi HL2.out HA.out.ri.len)
 have Hb4 : Hid (Below w.heap.size w w4.drew) := (show Below _ _ _ from bstep Hb3.out hbd)
 have Hg2 : Hid (w3.heap.size ≤ g2 /\ g2 < w4.drew.heap.size) := (show _ /\ _ from li_lo HL2.out)
 have HL4 : Hid (Lo.Own w4.drew D2.heap.size (lsv g bn cap) (bs ++ Lo.marks 64)) := own_still HLs.out hbd
 have Hg4 : Hid (w.heap.size < g2 /\ g < w4.drew.heap.size) := (show _ /\ _ from ⟨by have := Hg2.out.1; have := Hg.out; omega, by have := Hg.out.2; have := hbd.size; omega⟩)
 obtain ⟨m2, hm2⟩ : ∃ m, pn + 64 = m := ⟨_, rfl⟩
 have Hm2 : Hid (pn + 64 = m2) := hm2
 rw [hm2]
 have k1 : (0 : Int) ≤ (pn : Int) := Int.natCast_nonneg _
 have k2 : (pn : Int) ≤ (cap2 : Int) := by have := HR2.out.cap; omega
 have k3 : (m2 : Int) ≤ 140737488351296 := by have := HA.out.ni; omega
 have q0 := bA hb4 p0
 have q1 := bA hb4 p1
 have q2 := bA hb4 p2
 have q3 := bA hb4 p3
 have q4 := bA hb4 p4
 have q5 := bA hb4 p5
 have q6 := bA hb4 p6
 have q7 := bA hb4 p7
 have q8 := bA hb4 p8
 have q9 := bA hb4 p9
 have q10 := bA hb4 p10
 have q11 := bA hb4 p11
 have hd4 := (H.out.still Hb4.out).duo k M R Hk.out HM.out
 obtain ⟨v, hB⟩ := both_reset2 hd4 (Nat.le_trans H.out.bk.b Hb4.out.size) (by have := HT.out; omega) t HR2.out (fun b off e => by
  simp only [Option.some.injEq, Addr.mk.injEq] at e
  obtain ⟨rfl, _⟩ := e
  intro e2
  have := ((H.out.duo k M R Hk.out HM.out).lt (.inl e2)).2
  have := Hg4.out.1
  omega) (by have := HA.out.ni; omega) (a2 := pa) (c2 := pc) (fun D hkD => ⟨(HA.out.on ((Hb4.out.mono H.out.bk.b).trans (hkD.below (Nat.le_trans H.out.bk.b Hb4.out.size) fun j hj e => by have := ((H.out.duo k M R Hk.out HM.out).lt (.inl e)).1; omega))).ri, fun h0 b off e e2 => by
   have h1 := HA.out.li h0 b off e
   have h2 := (H.out.duo k M R Hk.out HM.out).r.lo.1
   omega⟩)
 have HP : Hid (Calls Try.prog 25 #[.pointer (some ⟨M.b, 0, none⟩), .agg #[.int .i64 t.e, .int .i64 t.l, .int .i64 t.i, .int .i64 t.c], .slice (some ⟨g2, 0, none⟩) pn cap2] w4.drew fun e w1 => e = .returned (.int .i64 v) /\ (∃ P : Nat -> Prop, Kept w4.drew w1 P /\ ∀ j, P j -> M.own j) /\ ∀ D', Below w1.heap.size w1 D' -> True -> Calls Try.prog 35 #[.pointer (some ⟨R.b, 0, none⟩), .agg #[.int .i64 t.e, .int .i64 t.l, .int .i64 t.i, .int .i64 t.c], .slice pa pn pc] D' fun e w2 => e = .returned (.int .i64 v) /\ ∃ M' R', DStep w4.drew w2 B (T + 1) M R M' R') := hB
 clear hB hd4 hls hb4 hm2 hbd p0 p1 p2 p3 p4 p5 p6 p7 p8 p9 p10 p11 HLi HLs
 as_aux_lemma =>
 go_wp2
 refine wp_region_held_drew (S := (fun w' => w'.cell? ⟨w.heap.size, 6, none⟩ = some (.int .i64 t.e) /\ w'.cell? ⟨w.heap.size, 7, none⟩ = some (.int .i64 t.l) /\ w'.cell? ⟨w.heap.size, 8, none⟩ = some (.int .i64 t.i) /\ w'.cell? ⟨w.heap.size, 9, none⟩ = some (.int .i64 t.c) /\ w'.cell? ⟨w.heap.size, 11, none⟩ = some (.slice pa pn pc) /\ w'.cell? ⟨w.heap.size, 10, none⟩ = some (.slice ba bn bc))) (by kernel_rfl) ⟨(dW0 q6), (dW0 q7), (dW0 q8), (dW0 q9), (dW0 q11), (dW0 q10)⟩ (fun hH => ?_)
 simp only [Act.put, lA, lC, lN, zA]
 refine tG 0 52 (.pointer (some ⟨M.b, 0, none⟩)) rfl hH ?_
 simp only [aP, sA, sZ, sC]
 refine tG 1 53 (.pointer (some ⟨w.heap.size, 6, none⟩)) rfl hH ?_
 simp only [aP, sA, sZ, sC]
 refine tL 2 54 (.agg #[.int .i64 t.e, .int .i64 t.l, .int .i64 t.i, .int .i64 t.c]) rfl hH ?_
 simp only [aP, sA, sZ, sC]
 refine tG 3 55 (.slice (some ⟨g2, 0, none⟩) m2 cap2) rfl hH ?_
 simp only [aP, sA, sZ, sC]
 refine tG 4 56 (.pointer (some ⟨w.heap.size, 11, none⟩)) rfl hH ?_
 simp only [aP, sA, sZ, sC]
 refine tL 5 57 (.slice pa pn pc) rfl hH ?_
 simp only [aP, sA, sZ, sC]
 refine tG 6 58 (.int .i64 (pn : Int)) rfl hH ?_
 simp only [aP, sA, sZ, sC]
 refine tG 7 59 (.slice (some ⟨g2, 0, none⟩) pn cap2) rfl hH ?_
 simp only [aP, sA, sZ, sC]
 have hbD5 : Below w4.heap.size w4 w4.drew := dB _
 have xq0 := bA hbD5 q6
 have xq1 := bA hbD5 q7
 have xq2 := bA hbD5 q8
 have xq3 := bA hbD5 q9
 have xq4 := bA hbD5 q11
 have xq5 := bA hbD5 q10
 refine rY 8 rfl fun K hK => ?_
 go_simp
 refine (HP.out).mono ?_
 rintro e w5 ⟨rfl, ⟨P, hkP, hPM⟩, hq⟩
 refine hK.out _ _ ⟨(kC hkP (fun e => HoM.out.1 (hPM _ e)) xq0), (kC hkP (fun e => HoM.out.1 (hPM _ e)) xq1), (kC hkP (fun e => HoM.out.1 (hPM _ e)) xq2), (kC hkP (fun e => HoM.out.1 (hPM _ e)) xq3), (kC hkP (fun e => HoM.out.1 (hPM _ e)) xq4), (kC hkP (fun e => HoM.out.1 (hPM _ e)) xq5)⟩ (fun hH => ?_)
 clear hK K
 refine tG 9 11 (.int .i64 v) rfl hH ?_
 simp only [aP, sA, sZ, sC]
 refine wpAnyH_done (by kernel_rfl) ?_ _
 clear hH
 have HQ : Hid (Calls Try.prog 35 #[.pointer (some ⟨R.b, 0, none⟩), .agg #[.int .i64 t.e, .int .i64 t.l, .int .i64 t.i, .int .i64 t.c], .slice pa pn pc] w5 fun e w2 => e = .returned (.int .i64 v) /\ ∃ M' R', DStep w4.drew w2 B (T + 1) M R M' R') := (show Calls _ _ _ _ _ from hq w5 (Below.refl _ _) trivial)
 have z6 := kC hkP (fun e => HoM.out.1 (hPM _ e)) xq0
 have z7 := kC hkP (fun e => HoM.out.1 (hPM _ e)) xq1
 have z8 := kC hkP (fun e => HoM.out.1 (hPM _ e)) xq2
 have z9 := kC hkP (fun e => HoM.out.1 (hPM _ e)) xq3
 have z11 := kC hkP (fun e => HoM.out.1 (hPM _ e)) xq4
 have z10 := kC hkP (fun e => HoM.out.1 (hPM _ e)) xq5
 obtain ⟨X4, hX4⟩ : ∃ X, w4.drew = X := ⟨_, rfl⟩
 rw [hX4] at HQ HL2 HL4 Hg2 Hg4 Hb4 xq0 xq1 xq2 xq3 xq4 xq5
 clear hkP hPM hq HP HR2 hX4 hbD5 q0 q1 q2 q3 q4 q5 q6 q7 q8 q9 q10 q11
 as_aux_lemma =>
 go_wp2_with fail
 refine HQ.out.mono ?_
 rintro e w6 ⟨rfl, M', R', hs6⟩
 have HG6 : Hid (YsG w w6 B T Y g) := (show YsG _ _ _ _ _ _ from YsG.pre Hb4.out H.out.bk.b (ysg_mux (H.out.still Hb4.out) Ht.out HT.out Hk.out HM.out hs6 Hg4.out.2 (out_above H.out Hg.out.1)))
 have HL6 : Hid (Lo.Own w6 D2.heap.size (lsv g bn cap) (bs ++ Lo.marks 64)) := ls_keep HL4.out hs6.kept HgM.out
 have HI6 : Hid (Li.Own w6 w3.heap.size (lsv g2 pn cap2) (xs ++ Li.marks 64)) := li_keep HL2.out hs6.kept (fun e => by have := ((H.out.duo k M R Hk.out HM.out).lt e).2; have := Hg4.out.1; omega)
 have y6 := kC hs6.kept (fun e => e.elim HoM.out.1 HoM.out.2) xq0
 have y7 := kC hs6.kept (fun e => e.elim HoM.out.1 HoM.out.2) xq1
 have y8 := kC hs6.kept (fun e => e.elim HoM.out.1 HoM.out.2) xq2
 have y9 := kC hs6.kept (fun e => e.elim HoM.out.1 HoM.out.2) xq3
 have y11 := kC hs6.kept (fun e => e.elim HoM.out.1 HoM.out.2) xq4
 have y10 := kC hs6.kept (fun e => e.elim HoM.out.1 HoM.out.2) xq5
 have HB6 : Hid (Below B w w6) := (show Below _ _ _ from by obtain ⟨_, _, _, _, h4, _⟩ := HG6.out.out; exact h4)
 have HU2 : Hid (Calls Try.prog 36 #[.slice (some ⟨g2, 0, none⟩) m2 cap2, .slice pa pn pc] w6 fun e w' => e = .returned (.bool true) /\ Below w6.heap.size w6 w') := (show Calls _ _ _ _ _ from by
  rw [<- Hm2.out]
  exact unspi_at (HA.out.on HB6.out).ri HA.out.ni HI6.out)
 clear hs6 HQ xq0 xq1 xq2 xq3 xq4 xq5 z6 z7 z8 z9 z11 z10
 as_aux_lemma =>
 go_wp2_with (first
  | (go_at_call 24; refine (num_any _).mono ?_; rintro e w9 ⟨rfl, rfl⟩)
  | (go_at_call 36; refine HU2.out.mono ?_; rintro e w7 ⟨rfl, hb7⟩; have HG7 : Hid (YsG w w7 B T Y g) := (show YsG _ _ _ _ _ _ from HG6.out.on hb7); have HL7 : Hid (Lo.Own w7 D2.heap.size (lsv g bn cap) (bs ++ Lo.marks 64)) := own_still HL6.out hb7; have HI7 : Hid (Li.Own w7 w3.heap.size (lsv g2 pn cap2) (xs ++ Li.marks 64)) := own_still HI6.out hb7; have x10 := bA hb7 y10; clear hb7)
  | fail)
 have HF0 : Hid (FlS w7 w7 g2 3 m2) := (show FlS _ _ _ _ _ from ⟨by rw [<- Hm2.out]; exact li_blk HI7.out, Kept.ofBelow (Below.refl _ _) _⟩)
 clear HU2 HG6 HL6 HI6 y6 y7 y8 y9 y11 y10 HB6
 as_aux_lemma =>
 go_loopw [13] (fun v13 wr => ∃ i : Nat, i ≤ m2 /\ v13 = .int .i64 (i : Int) /\ Hid (FlS w7 wr g2 3 m2)) (fun v13 _ => m2 - (intOf v13).toNat)
 case atStart => exact ⟨0, by omega, rfl, HF0⟩
 case round =>
  clear HF0
  obtain ⟨i, hi, rfl, hs⟩ := hrel
  by_cases hlt : i < m2
  ·have l1 : (0 : Int) ≤ (i : Int) := Int.natCast_nonneg _
   have l2 : (i : Int) < (m2 : Int) := by omega
   obtain ⟨⟨zv, hzv⟩, hzf⟩ := hs.out.cell hlt
   have HN : Hid (FlS w7 (wr.setCell ⟨g2, i, none⟩ (.int .i64 9)) g2 3 m2) := (show FlS _ _ _ _ _ from hs.out.set)
   clear hs hlt
   as_aux_lemma =>
   go_wp2
   exact ⟨⟨i + 1, by omega, by go_num, HN⟩, by simp [intOf]; omega⟩
  ·have l2 : ¬ (i : Int) < (m2 : Int) := by omega
   have HG : Hid (YsG w wr B T Y g) := (show YsG _ _ _ _ _ _ from by
    obtain ⟨C, hC, _⟩ := li_blk HI7.out
    exact ysg_fill HG7.out (by have := H.out.bk.b; have := Hg4.out.1; omega) ⟨C, hC⟩ hs.out)
   have HLx : Hid (Lo.Own wr D2.heap.size (lsv g bn cap) (bs ++ Lo.marks 64)) := ls_keep HL7.out hs.out.kept (fun e => by have := Hg.out.2; have := Hg2.out.1; omega)
   have r10 := kC hs.out.kept (fun e => by have := Hg4.out.1; omega) x10
   clear hs hlt x10 HG7 HL7 HI7
   generalize wr = wz at *
   as_aux_lemma =>
   have HBB : Hid (Below B w wz) := (show Below _ _ _ from by obtain ⟨_, _, _, _, h4, _⟩ := HG.out.out; exact h4)
   have HU : Hid (∀ D, Below wz.heap.size wz D -> Calls Try.prog 42 #[.slice (some ⟨g, 0, none⟩) m cap, .slice ba bn bc] D fun e w' => e = .returned (.bool true) /\ Below D.heap.size D w') := fun D hb => (show Calls _ _ _ _ _ from by
    rw [<- Hm.out]
    exact unsp_at ((HA.out.on HBB.out).rb.still hb) HA.out.nb (own_still HLx.out hb))
   go_wp2_with (first
    | (go_at_call 24; refine (num_any _).mono ?_; rintro e w9 ⟨rfl, rfl⟩)
    | (go_at_call 42; refine (HU.out _ (Below.refl _ _)).mono ?_; rintro e w6 ⟨rfl, hb6⟩; have HG6 : Hid (YsG w w6 B T Y g) := (show YsG _ _ _ _ _ _ from HG.out.on hb6); have HL6 : Hid (Lo.Own w6 D2.heap.size (lsv g bn cap) (bs ++ Lo.marks 64)) := own_still HLx.out hb6; clear hb6)
    | fail)
   have HF0 : Hid (FlS w6 w6 g 5 m) := (show FlS _ _ _ _ _ from ⟨by rw [<- Hm.out]; exact ls_blk HL6.out, Kept.ofBelow (Below.refl _ _) _⟩)
   clear HU HLx HBB HG
   as_aux_lemma =>
   go_loopw [22] (fun v22 wr => ∃ i : Nat, i ≤ m /\ v22 = .int .i64 (i : Int) /\ Hid (FlS w6 wr g 5 m)) (fun v22 _ => m - (intOf v22).toNat)
   case atStart => exact ⟨0, by omega, rfl, HF0⟩
   case round =>
    clear HF0
    obtain ⟨i, hi, rfl, hs⟩ := hrel
    by_cases hlt : i < m
    ·have l1 : (0 : Int) ≤ (i : Int) := Int.natCast_nonneg _
     have l2 : (i : Int) < (m : Int) := by omega
     have j3 := HJ.out
     obtain ⟨⟨zv, hzv⟩, hzf⟩ := hs.out.cell hlt
     have HN : Hid (FlS w6 (wr.setCell ⟨g, i, none⟩ (.int .u8 238)) g 5 m) := (show FlS _ _ _ _ _ from hs.out.set)
     clear hs hlt
     as_aux_lemma =>
     go_wp2
     exact ⟨⟨i + 1, by omega, by go_num, HN⟩, by simp [intOf]; omega⟩
    ·have l2 : ¬ (i : Int) < (m : Int) := by omega
     have HO : Hid (YsO w wr B T Y) := (show YsO _ _ _ _ _ from by
      obtain ⟨C, hC, _⟩ := ls_blk HL6.out
      exact ys_fill HG6.out (Nat.le_trans H.out.bk.b Hg.out.1) (.inl rfl) ⟨C, hC⟩ hs.out)
     clear hs hlt
     as_aux_lemma =>
     go_wp2
     go_ret
     exact ⟨rfl, HO.out⟩
end
end Go.Proofs.Ythanifbimndhaaa.Ln
