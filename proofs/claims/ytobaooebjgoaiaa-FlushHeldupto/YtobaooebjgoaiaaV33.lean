import Derived.Test.YtobaooebjgoaiaaV31
import Derived.Test.YtobaooebjgoaiaaV30
import Derived.Test.YtobaooebjgoaiaaV32
namespace Go.Proofs.Ytobaooebjgoaiaa.Fm
open Go.RowKit Go.Maps Mb
set_option linter.unusedVariables false
set_option maxRecDepth 100000
set_option linter.unusedSimpArgs false
section
variable {w w' W : World} {B : Nat}
theorem wp_lookP {ops : Array Oper} {rest : List Oper} {o : Oper} {a : Act} {Q : Exit → Act → World → Prop} (hgd : o.guard = none) (t : TypeId) (m x : Operand) (c : Bool) {mv kv v : Value} (hr : (Instr.lookup t mv kv c).run Try.prog w = .ok v w) (ho : o.op = .lookup t m x c) (hm : a.eval m = mv) (hx : a.eval x = kv) (h : wpList Try.prog ops Q rest (a.put o.dst v) w) : wpList Try.prog ops Q (o :: rest) a w :=
 wpList_plain hgd fun K hK => by
  unfold Oper.wp
  simp [execOp, ho, hm, hx, hr, Result.andThen]
  exact hK _ _ h
theorem fp_all {ds : List Dx} {f : Int × Int → Option Int} (h : FpI ds ds.length f) (s : Int × Int) : (f s = none → fndB ds s = none) ∧ ∀ r, f s = some r → ∃ i : Nat, r = i ∧ i < ds.length ∧ fndB ds s = some (ds.getD i dx0).bs := by
 refine ⟨fun hn => fnd_none fun i hi => (h s).1 hn i hi, fun r hr => ?_⟩
 obtain ⟨i, h1, h2, h3, h4⟩ := (h s).2 r hr
 exact ⟨i, h1, h2, fnd_first ⟨h2, h3, h4⟩⟩
theorem own_cap {t s n c : Nat} {g : Nat} {l : List Value} (h : w.ownsRow B t s (.slice (some ⟨g, 0, none⟩) n c) n l) : n ≤ c ∧ c ≤ 9223372036854775807 := by
 rcases h.2 with ⟨h3, h4⟩ | ⟨g', cap, cur, hv, _, _, hnc, hcm', _⟩
 ·simp at h3
 ·simp at hv
  unfold maxLen at hcm'
  omega
set_option maxHeartbeats 8000000 in
theorem rest_any {ao ma : Option Addr} {cp mc : Nat} {fs : List Fl} {ds : List Dx} (hr : RdFs w ao fs) (hln : fs.length ≤ 1048576) (hd : RdDs w ma ds) (hdn : ds.length ≤ 1048576) (hdz : ∀ i, i < ds.length → ((ds.getD i dx0).ba = none → (ds.getD i dx0).bs.length = 0 ∧ (ds.getD i dx0).bc = 0) ∧ (ds.getD i dx0).bs.length ≤ 1048576) (d : Int) : Calls Try.prog 12 #[.int .i64 d, .slice ao fs.length cp, .slice ma ds.length mc] w fun e w' => ∃ a c out E, e = .returned (.tuple #[.slice a (out : List Dx).length c, .int .i64 E]) ∧ RsS (cos fs) ds d E out ∧ MoT 97 w.heap.size w' (.slice a out.length c) out ∧ Below w.heap.size w w' := by
 have hcl := cos_len fs
 have HWg : Hid (∀ v lo hi w', Calls Try.prog 29 #[.int .i64 v, .int .i64 lo, .int .i64 hi] w' fun e w2 => e = .returned (.bool (inR lo hi v)) ∧ w' = w2) := fun v lo hi w' => (within_any _ _ _).mono fun _ _ h => ⟨h.1, h.2.symm⟩
 have HNo : Hid (lkB (cos fs) d = false → RsS (cos fs) ds d 1 []) := fun h => .inl ⟨h, rfl, rfl⟩
 have HlB : Hid (lkB (cos fs) d = (inR 0 4611686018427387904 d && inR 1 16 (fs.length : Int))) := (show lkB (cos fs) d = _ from by unfold lkB; rw [hcl])
 have HR1 : Hid (RdFs w ao fs) := hr
 have HD1 : Hid (RdDs w ma ds) := hd
 have HDz : Hid (∀ i, i < ds.length → ((ds.getD i dx0).ba = none → (ds.getD i dx0).bs.length = 0 ∧ (ds.getD i dx0).bc = 0) ∧ (ds.getD i dx0).bs.length ≤ 1048576) := hdz
 have HFP := fun (X : World) (hX : Below w.heap.size w X) => firstPlaces_any (cp := mc) (hd.still hX) (by omega)
 have HFPh : Hid (∀ X, Below w.heap.size w X → Calls Try.prog 39 #[.slice ma ds.length mc] X fun e w' => ∃ b m f, e = .returned (.map (some b)) ∧ MpS w' b m f ∧ FpI ds ds.length f ∧ Below X.heap.size X w') := HFP
 have HFa : Hid (∀ f, FpI ds ds.length f → ∀ s : Int × Int, (f s = none → fndB ds s = none) ∧ ∀ r, f s = some r → ∃ i : Nat, r = i ∧ i < ds.length ∧ fndB ds s = some (ds.getD i dx0).bs) := fun f h s => fp_all h s
 have HJn : Hid (fs.length ≤ 17 → Calls Try.prog 30 #[.slice ao fs.length cp] w fun e w' => ∃ bb a n c ev, e = .returned (.tuple #[.agg (endV bb a n c).toArray, .int .i64 ev]) ∧ JQ fs w w' bb a n c ev ∧ Below w.heap.size w w') := fun h => join_one (cp := cp) hr h
 generalize hL : fs.length = L at *
 have HLe : Hid (fs.length = L) := hL
 generalize hDL : ds.length = DL at *
 have HDLe : Hid (ds.length = DL) := hDL
 clear hr hd hdz hcl hL HFP hDL
 cases h1 : inR 0 4611686018427387904 d with
 | false =>
  have H1 : Hid (inR 0 4611686018427387904 d = false) := h1
  have HS : Hid (RsS (cos fs) ds d 1 []) := HNo.out (by rw [HlB.out, h1]; rfl)
  clear h1
  go_enter Try.func12, Try.ntmps12
  go_wp2_with (first | (go_at_call 29; refine (HWg.out _ _ _ _).mono ?_; rintro e w2 ⟨rfl, rfl⟩; rw [H1.out]) | fail)
  go_ret2
  exact ⟨none, 0, [], 1, rfl, HS.out, MoT.nil _ _ _, Below.refl _ _⟩
 | true =>
  have H1 : Hid (inR 0 4611686018427387904 d = true) := h1
  cases h2 : inR 1 16 (L : Int) with
  | false =>
   have H2 : Hid (inR 1 16 (L : Int) = false) := h2
   have HS : Hid (RsS (cos fs) ds d 1 []) := HNo.out (by rw [HlB.out, h1, h2]; rfl)
   clear h1 h2
   go_enter Try.func12, Try.ntmps12
   go_wp2_with (first | (go_at_call 29; refine (HWg.out _ _ _ _).mono ?_; rintro e w2 ⟨rfl, rfl⟩; first | rw [H1.out] | rw [H2.out]) | fail)
   go_ret2
   exact ⟨none, 0, [], 1, rfl, HS.out, MoT.nil _ _ _, Below.refl _ _⟩
  | true =>
   have H2 : Hid (inR 1 16 (L : Int) = true) := h2
   have hin : 1 ≤ L ∧ L ≤ 16 := by simp [inR] at h2; omega
   have hdd : 0 ≤ d ∧ d ≤ 4611686018427387904 := by simp [inR] at h1; omega
   have Hyes : Hid (lkB (cos fs) d = true) := (show lkB (cos fs) d = true from by rw [HlB.out, h1, h2]; rfl)
   clear h1 h2
   have HJ := HJn.out (by omega)
   go_enter Try.func12, Try.ntmps12
   go_upto_region 4 with (first
    | (go_at_call 29; refine (HWg.out _ _ _ _).mono ?_; rintro e w2 ⟨rfl, rfl⟩; first | rw [H1.out] | rw [H2.out])
    | (go_at_call 30; refine HJ.mono ?_; rintro e V1 ⟨bb, a, n, c, ev, rfl, hq, hv1⟩; have HQ : Hid (JQ fs w V1 bb a n c ev) := hq; have BV1 : Hid (Below w.heap.size w V1) := hv1; clear hq hv1)
    | (refine wl_allocZ rfl 79 rfl zEnd ?_; intro V2 k2 b2 s2; have K2 : Hid _ := k2; have BV2 : Hid _ := b2; clear k2 b2 s2)
    | (refine wl_storeZ rfl 79 _ _ rfl (L := endV bb a n c) rfl rfl K2.out info_end rfl (endV_one _ _ _ _) ?_; intro V3 k3 hk3; have K3 : Hid _ := k3; have KK3 : Hid _ := hk3; clear k3 hk3)
    | fail)
   have BV3 : Hid (Below w.heap.size w V3) := (bstep BV1.out BV2.out).trans (KK3.out.below (bstep BV1.out BV2.out).size (fun k hk e => by have := BV1.out.size; omega))
   have Hte : Hid (ev = togE (cos fs)) := HQ.out.e
   generalize hebv : V1.heap.size = eb at *
   have HEb : Hid (V1.heap.size = eb) := hebv
   clear hebv HJ HJn
   by_cases h0 : ev = 0
   ·subst h0
    obtain ⟨rfl, hEn, ss, hsl, hown⟩ := HQ.out.k rfl
    have HT : Hid (Tog (cos fs)) := tog_of Hte.out.symm
    have HEn : Hid (Ends (cos fs) n) := hEn
    have HSl : Hid (SlOf (cos fs) n ss) := hsl
    have HOw : Hid (V3.ownsRow w.heap.size 76 2 (.slice a n c) n (slCells ss)) := own_ne (own_still hown (by rw [HEb.out]; exact BV2.out)) K2.out (by decide) KK3.out
    have q0 : V3.cell? ⟨eb, 0, none⟩ = some (.int .i64 (baseOf (cos fs))) := blk_cell K3.out 0
    have hb0 : 0 ≤ baseOf (cos fs) := baseK_nn _ _
    have hbM : baseOf (cos fs) ≤ 4611686018427387904 := baseK_le _ HT.out.snd _ (Nat.le_refl _)
    have HlE : Hid (d < baseOf (cos fs) → RsS (cos fs) ds d 82 []) := fun h => .inr (.inr (.inl ⟨Hyes.out, Hte.out.symm, h, rfl, rfl⟩))
    have HlM : Hid (¬ d < baseOf (cos fs) → RsMiss ds (ss.drop (d - baseOf (cos fs)).toNat) → RsS (cos fs) ds d 81 []) := fun h k => .inr (.inr (.inr ⟨Hyes.out, Hte.out.symm, h, n, ss, HEn.out, HSl.out, .inl ⟨k, rfl, rfl⟩⟩))
    have HlO : Hid (¬ d < baseOf (cos fs) → ∀ out, RsOk ds d (ss.drop (d - baseOf (cos fs)).toNat) out → RsS (cos fs) ds d 0 out) := fun h out k => .inr (.inr (.inr ⟨Hyes.out, Hte.out.symm, h, n, ss, HEn.out, HSl.out, .inr ⟨k, rfl⟩⟩))
    have HsP : Hid (∀ i, i < ss.length → i64B (ss.getD i z2).1 ∧ i64B (ss.getD i z2).2) := fun i hi => by
     have h1 := HSl.out.2 i (by rw [← HSl.out.1]; exact hi)
     have h2 := tog_pair HT.out ((atP_iff HT.out.con _ _).1 h1)
     have h3 := (HT.out.snd 0 (by rw [cos_len, HLe.out]; omega)).h16
     unfold i64B
     dsimp only at h2
     omega
    have hn128 : n ≤ 128 := Ends.le HT.out HEn.out.1
    have HsL : Hid (ss.length = n) := HSl.out.1
    clear hEn hsl hown HQ
    generalize baseOf (cos fs) = bs at *
    by_cases hlt : d < bs
    ·go_wp2
     go_ret2
     exact ⟨none, 0, [], 82, rfl, HlE.out hlt, MoT.nil _ _ _, BV3.out⟩
    ·have hge : bs ≤ d := by omega
     have Hnl : Hid (¬ d < bs) := hlt
     have HF := HFPh.out V3 BV3.out
     go_upto_region 10 with (first
      | (go_at_call 39; refine HF.mono ?_; rintro e V4 ⟨mb, mm, ff, rfl, hmp, hfi, hv4⟩; have HMp : Hid _ := hmp; have HFi : Hid _ := hfi; have BV4 : Hid _ := hv4; clear hmp hfi hv4)
      | fail)
     have HFs : Hid (∀ s : Int × Int, (ff s = none → fndB ds s = none) ∧ ∀ r, ff s = some r → ∃ i : Nat, r = i ∧ i < DL ∧ fndB ds s = some (ds.getD i dx0).bs) := HFa.out ff HFi.out
     have HBw4 : Hid (Below w.heap.size w V4) := bstep BV3.out BV4.out
     have Hld : Hid (V4.rangeAt eb 0 (endV bs a n c)) := blk_range (blk_on BV4.out K3.out)
     have HOw4 : Hid (V4.ownsRow w.heap.size 76 2 (.slice a n c) n (slCells ss)) := own_still HOw.out BV4.out
     have Hlen2 : Hid ((endV bs a n c).length = 2) := rfl
     obtain ⟨k0, hk0⟩ : ∃ k0 : Nat, (d - bs).toNat = k0 := ⟨_, rfl⟩
     have Hk0 : Hid ((d - bs).toNat = k0) := hk0
     have HBe : Hid (∃ (ba : Option Addr) (bn bc : Nat), bn = (ss.drop k0).length ∧ RdS V4 ba (ss.drop k0) ∧ Calls Try.prog 34 #[.agg (endV bs a n c).toArray, .int .i64 d] V4 fun e w' => e = .returned (.slice ba bn bc) ∧ Below V4.heap.size V4 w') := by
      rcases own_two HOw4.out with ⟨ev, hn0⟩ | ⟨g, cc, ev, hgB⟩
      ·simp only [Value.slice.injEq] at ev
       obtain ⟨rfl, -, rfl⟩ := ev
       subst hn0
       have Hss : ss = [] := List.length_eq_zero_iff.1 HsL.out
       subst Hss
       exact ⟨none, 0, 0, by simp, .inl (by simp), behind_none bs hb0 d hge hdd.2⟩
      ·simp only [Value.slice.injEq] at ev
       obtain ⟨rfl, -, rfl⟩ := ev
       have hcap := own_cap HOw4.out
       have Hdr : ss.drop k0 = ss.drop (min (d - bs).toNat n) := by
        rw [hk0]
        by_cases hm : k0 ≤ n
        ·rw [Nat.min_eq_left hm]
        ·rw [Nat.min_eq_right (by omega), List.drop_eq_nil_of_le (by rw [HsL.out]; omega), List.drop_eq_nil_of_le (by rw [HsL.out]; omega)]
       refine ⟨_, _, _, ?_, ?_, behind_any (w := V4) bs g n c hcap.1 hcap.2 hb0 d hge hdd.2⟩
       ·rw [Hdr, List.length_drop, HsL.out]
       ·rw [Hdr]
        exact rdS_drop (own_rdS HOw4.out HsL.out) HsL.out hcap.1 (by omega)
     have HsP2 : Hid (∀ i, i < (ss.drop k0).length → i64B ((ss.drop k0).getD i z2).1 ∧ i64B ((ss.drop k0).getD i z2).2) := fun i hi => by
      rw [List.length_drop] at hi
      have e1 : (ss.drop k0).getD i z2 = ss.getD (k0 + i) z2 := by simp [List.getD]
      rw [e1]
      exact HsP.out (k0 + i) (by omega)
     have HlM2 := HlM.out hlt
     have HlO2 := HlO.out hlt
     rw [hk0] at HlM2 HlO2
     have HM2 : Hid (RsMiss ds (ss.drop k0) → RsS (cos fs) ds d 81 []) := HlM2
     have HO2 : Hid (∀ out, RsOk ds d (ss.drop k0) out → RsS (cos fs) ds d 0 out) := HlO2
     have hsl : (ss.drop k0).length ≤ 128 := by rw [List.length_drop, HsL.out]; omega
     clear q0 HF HlM2 HlO2 hk0 HOw HlM HlO
     generalize ss.drop k0 = sd at *
     obtain ⟨ba, bn, bc, hbn, hrd, hbe⟩ := HBe.out
     have HRd : Hid (RdS V4 ba sd) := hrd
     have Hbn : Hid (bn = sd.length) := hbn
     have hbn128 : bn ≤ 128 := by omega
     clear hrd HBe hbn hsl
     obtain ⟨mi, mhi, mhz0, mhz1, mhz2⟩ := msg_info
     go_wp2_with (first
      | (refine load_mid 79 (.tmp 8) Hld.out _ Try.underlying79 rfl (by rw [Hlen2.out]; exact info_end) rfl rfl rfl ?_)
      | (go_at_call 34; refine hbe.mono ?_; rintro e V5 ⟨rfl, hb5⟩; have BV5 : Hid (Below V4.heap.size V4 V5) := hb5; clear hb5)
      | fail)
     clear hbe Hld
     have HB5 : Hid (Below w.heap.size w V5) := bstep HBw4.out BV5.out
     go_loopw [11, 43] (fun lv iv wr => ∃ j : Nat, j ≤ bn ∧ iv = .int .i64 (j : Int) ∧ (∃ out, RsOk ds d (sd.take j) out ∧ MoT 97 V5.heap.size wr lv out) ∧ Below V5.heap.size V5 wr) (fun _ iv _ => bn - (intOf iv).toNat)
     case atStart => exact ⟨0, Nat.zero_le _, rfl, ⟨[], by simpa using RsOk.nil ds d, MoT.nil _ _ _⟩, Below.refl _ _⟩
     case round =>
      obtain ⟨j, hj, rfl, ⟨out, hro, hmo⟩, hbj⟩ := hrel
      have HRo : Hid (RsOk ds d (sd.take j) out) := hro
      have HMo : Hid (MoT 97 V5.heap.size wr u11 out) := hmo
      have HBj : Hid (Below V5.heap.size V5 wr) := hbj
      have B4j : Hid (Below V4.heap.size V4 wr) := bstep BV5.out hbj
      have Bwj : Hid (Below w.heap.size w wr) := bstep HB5.out hbj
      clear hro hmo hbj
      by_cases hlt2 : j < bn
      ·obtain ⟨b, off, rfl, hcc, _, _⟩ := (HRd.out.still B4j.out).at (i := j) (by rw [← Hbn.out]; exact hlt2)
       have HC : Hid (wr.rangeAt b (off + j * 2) (slotV (sd.getD j z2))) := hcc
       have H64 : Hid (i64B (sd.getD j z2).1 ∧ i64B (sd.getD j z2).2) := HsP2.out j (by rw [← Hbn.out]; exact hlt2)
       have Htk : Hid (sd.take (j + 1) = sd.take j ++ [sd.getD j z2]) := (show sd.take (j + 1) = sd.take j ++ [sd.getD j z2] from by
        have := drop_take (ss := sd) (k := 0) (j := j) (by rw [← Hbn.out]; omega)
        simpa using this)
       have Hms : Hid (fndB ds (sd.getD j z2) = none → RsMiss ds sd) := fun h => ⟨j, by rw [← Hbn.out]; exact hlt2, h⟩
       have Htl : Hid ((sd.take j).length = j) := (show (sd.take j).length = j from by rw [List.length_take, ← Hbn.out]; omega)
       have i1 : (0 : Int) ≤ (j : Int) := Int.natCast_nonneg _
       have i2 : (j : Int) < (bn : Int) := by omega
       have HFj := HFs.out (sd.getD j z2)
       generalize sd.getD j z2 = s at *
       have Hl2 : Hid ((slotV s).length = 2) := rfl
       clear hcc
       have ARM : True := trivial
       rcases hff : ff s with _ | r
       ·have HMs : Hid (RsS (cos fs) ds d 81 []) := HM2.out (Hms.out (HFj.1 hff))
        have HLk : Hid (∀ X, Below V4.heap.size V4 X → (Instr.lookup 89 (.map (some mb)) (.agg (slotV s).toArray) true).run Try.prog X = .ok (.tuple #[.int .i64 0, .bool false]) X) := fun X hX => by
         have := (MpS.still (HMp.out) hX).look H64.out.1 H64.out.2
         rw [hff] at this
         exact this
        clear HFj hff
        go_wp2_with (first
         | (refine load_mid 76 (.tmp 46) HC.out _ Try.underlying76 rfl (by rw [Hl2.out]; exact info_slot) rfl rfl rfl ?_)
         | (refine wl_allocZ rfl 76 rfl zSlot ?_; intro Y2 k2 b2 s2; have KY2 : Hid _ := k2; have BB2 : Hid _ := b2; clear k2 b2 s2)
         | (refine wl_storeZ rfl 76 _ _ rfl (L := slotV s) rfl rfl KY2.out info_slot rfl (slotV_one _) ?_; intro Y4 k4 hk4; have KY4 : Hid (Y4.heap[wr.heap.size]? = some (.cells (slotV s).toArray 76 (0, 0))) := k4; have KZ0 : Hid (Y4.cell? ⟨wr.heap.size, 0, none⟩ = some (.int .i64 s.1)) := blk_cell k4 0; have KZ1 : Hid (Y4.cell? ⟨wr.heap.size, 1, none⟩ = some (.int .i64 s.2)) := blk_cell k4 1; have BB4 : Hid (Below wr.heap.size wr Y4) := BB2.out.trans (hk4.below BB2.out.size (fun k hk e => by omega)); clear k4 hk4)
         | (refine load_mid 76 (.tmp 13) (blk_range KY4.out) _ Try.underlying76 rfl (by rw [Hl2.out]; exact info_slot) rfl rfl rfl ?_)
         | (refine wp_lookP rfl 89 _ _ true (HLk.out _ (bstep B4j.out BB4.out)) rfl rfl rfl ?_)
         | fail)
        go_ret2
        exact ⟨none, 0, [], 81, rfl, HMs.out, MoT.nil _ _ _, bstep Bwj.out BB4.out⟩
       ·obtain ⟨i, rfl, hi, hfb⟩ := HFj.2 r hff
        have HLk : Hid (∀ X, Below V4.heap.size V4 X → (Instr.lookup 89 (.map (some mb)) (.agg (slotV s).toArray) true).run Try.prog X = .ok (.tuple #[.int .i64 (i : Int), .bool true]) X) := fun X hX => by
         have := (MpS.still (HMp.out) hX).look H64.out.1 H64.out.2
         rw [hff] at this
         exact this
        have Hfb : Hid (fndB ds s = some (ds.getD i dx0).bs) := hfb
        obtain ⟨mb2, moff, rfl, _⟩ := dx_cell (HD1.out.still Bwj.out) (i := i) (by rw [HDLe.out]; exact hi)
        have HDc : Hid (∀ X, Below w.heap.size w X → X.cell? ⟨mb2, moff + i * 4 + 3, none⟩ = some (.slice (ds.getD i dx0).ba (ds.getD i dx0).bs.length (ds.getD i dx0).bc) ∧ RdB X (ds.getD i dx0).ba (ds.getD i dx0).bs) := fun X hX => by
         obtain ⟨b', off', e', h'⟩ := dx_cell (HD1.out.still hX) (i := i) (by rw [HDLe.out]; exact hi)
         simp only [Option.some.injEq, Addr.mk.injEq, and_true] at e'
         rw [e'.1, e'.2]
         exact ⟨h', ((HD1.out.still hX).el i (by rw [HDLe.out]; exact hi)).b⟩
        have Hz2 := HDz.out i hi
        have HZ2 : Hid (((ds.getD i dx0).ba = none → (ds.getD i dx0).bs.length = 0 ∧ (ds.getD i dx0).bc = 0) ∧ (ds.getD i dx0).bs.length ≤ 1048576) := Hz2
        have j1 : (0 : Int) ≤ (i : Int) := Int.natCast_nonneg _
        have j2 : (i : Int) < (DL : Int) := by omega
        generalize ds.getD i dx0 = m at *
        clear HFj hff hfb Hz2 hi
        go_upto_region 16 with (first
         | (refine load_mid 76 (.tmp 46) HC.out _ Try.underlying76 rfl (by rw [Hl2.out]; exact info_slot) rfl rfl rfl ?_)
         | (refine wl_allocZ rfl 76 rfl zSlot ?_; intro Y2 k2 b2 s2; have KY2 : Hid _ := k2; have BB2 : Hid _ := b2; clear k2 b2 s2)
         | (refine wl_storeZ rfl 76 _ _ rfl (L := slotV s) rfl rfl KY2.out info_slot rfl (slotV_one _) ?_; intro Y4 k4 hk4; have KY4 : Hid (Y4.heap[wr.heap.size]? = some (.cells (slotV s).toArray 76 (0, 0))) := k4; have KZ0 : Hid (Y4.cell? ⟨wr.heap.size, 0, none⟩ = some (.int .i64 s.1)) := blk_cell k4 0; have KZ1 : Hid (Y4.cell? ⟨wr.heap.size, 1, none⟩ = some (.int .i64 s.2)) := blk_cell k4 1; have BB4 : Hid (Below wr.heap.size wr Y4) := BB2.out.trans (hk4.below BB2.out.size (fun k hk e => by omega)); clear k4 hk4)
         | (refine load_mid 76 (.tmp 13) (blk_range KY4.out) _ Try.underlying76 rfl (by rw [Hl2.out]; exact info_slot) rfl rfl rfl ?_)
         | (refine wp_lookP rfl 89 _ _ true (HLk.out _ (bstep B4j.out BB4.out)) rfl rfl rfl ?_)
         | fail)
        clear HC HLk
        have Bw4 : Hid (Below w.heap.size w Y4) := bstep Bwj.out BB4.out
        obtain ⟨c3, -⟩ := HDc.out Y4 Bw4.out
        have c0 : Y4.cell? ⟨wr.heap.size, 0, none⟩ = some (.int .i64 s.1) := KZ0.out
        have c1 : Y4.cell? ⟨wr.heap.size, 1, none⟩ = some (.int .i64 s.2) := KZ1.out
        generalize hvb : wr.heap.size = vb at *
        have Hvb : Hid (wr.heap.size = vb) := hvb
        have HMo4 : Hid (MoT 97 V5.heap.size Y4.drew u11 out) := HMo.out.still (bstep (by rw [hvb]; exact BB4.out) (drew_bel _))
        have hol : out.length = j := by rw [HRo.out.len]; exact Htl.out
        have Hol : Hid (out.length = j) := hol
        have HCp : Hid (Calls Try.prog 40 #[.slice m.ba m.bs.length m.bc] Y4.drew fun e w' => ∃ a1 c1, e = .returned (.slice a1 m.bs.length c1) ∧ w'.ownsRow Y4.drew.heap.size 5 1 (.slice a1 m.bs.length c1) m.bs.length (byts m.bs) ∧ Below Y4.drew.heap.size Y4.drew w') := copied_any (HDc.out Y4.drew (bstep Bw4.out (drew_bel _))).2 HZ2.out.1 HZ2.out.2
        have Hws : Hid (V5.heap.size ≤ Y4.drew.heap.size) := (bstep (bstep HBj.out (by rw [hvb]; exact BB4.out)) (drew_bel _)).size
        have BY5 : Hid (Below V5.heap.size V5 Y4.drew) := bstep (bstep HBj.out (by rw [hvb]; exact BB4.out)) (drew_bel _)
        clear hvb hol
        refine wp_region_held_drew (S := (fun w' => w'.cell? ⟨vb, 0, none⟩ = some (.int .i64 s.1) ∧ w'.cell? ⟨vb, 1, none⟩ = some (.int .i64 s.2) ∧ w'.cell? ⟨mb2, moff + i * 4 + 3, none⟩ = some (.slice m.ba m.bs.length m.bc))) (by kernel_rfl) ⟨c0, c1, c3⟩ (fun hHeld => ?_)
        simp only [Act.put, List.size_toArray, List.length_cons, List.length_nil, Nat.zero_add]
        refine wG9 0 u11 rfl hHeld ?_
        simp only [Act.put,gA9,gZ9,gC9,sA9,sZ9,sC9]
        refine wG9 1 (.int .i64 d) rfl hHeld ?_
        simp only [Act.put,gA9,gZ9,gC9,sA9,sZ9,sC9]
        refine wX9 2 (.int .i64 (d + 1)) rfl (Or.inl ⟨by rfl, fun w' hS => by (go_simp <;> exact wrap_id (by omega) (by omega))⟩) hHeld ?_
        simp only [Act.put,gA9,gZ9,gC9,sA9,sZ9,sC9]
        refine wG9 3 (.int .i64 (j : Int)) rfl hHeld ?_
        simp only [Act.put,gA9,gZ9,gC9,sA9,sZ9,sC9]
        refine wX9 4 (.int .i64 (d + 1 + (j : Int))) rfl (Or.inl ⟨by rfl, fun w' hS => by (go_simp <;> exact wrap_id (by omega) (by omega))⟩) hHeld ?_
        simp only [Act.put,gA9,gZ9,gC9,sA9,sZ9,sC9]
        refine wG9 5 (.pointer (some ⟨vb, 0, none⟩)) rfl hHeld ?_
        simp only [Act.put,gA9,gZ9,gC9,sA9,sZ9,sC9]
        refine wX9 6 (.int .i64 s.1) rfl (Or.inl ⟨by rfl, fun w' hS => by (obtain ⟨s0, s1, s2⟩ := hS; go_simp)⟩) hHeld ?_
        simp only [Act.put,gA9,gZ9,gC9,sA9,sZ9,sC9]
        refine wG9 7 (.pointer (some ⟨vb, 1, none⟩)) rfl hHeld ?_
        simp only [Act.put,gA9,gZ9,gC9,sA9,sZ9,sC9]
        refine wX9 8 (.int .i64 s.2) rfl (Or.inl ⟨by rfl, fun w' hS => by (obtain ⟨s0, s1, s2⟩ := hS; go_simp)⟩) hHeld ?_
        simp only [Act.put,gA9,gZ9,gC9,sA9,sZ9,sC9]
        refine wG9 9 (.slice (some ⟨mb2, moff, none⟩) DL mc) rfl hHeld ?_
        simp only [Act.put,gA9,gZ9,gC9,sA9,sZ9,sC9]
        refine wG9 10 (.int .i64 (i : Int)) rfl hHeld ?_
        simp only [Act.put,gA9,gZ9,gC9,sA9,sZ9,sC9]
        refine wG9 11 (.pointer (some ⟨mb2, moff + i * 4, none⟩)) rfl hHeld ?_
        simp only [Act.put,gA9,gZ9,gC9,sA9,sZ9,sC9]
        refine wG9 12 (.pointer (some ⟨mb2, moff + i * 4 + 3, none⟩)) rfl hHeld ?_
        simp only [Act.put,gA9,gZ9,gC9,sA9,sZ9,sC9]
        refine wX9 13 (.slice m.ba m.bs.length m.bc) rfl (Or.inl ⟨by rfl, fun w' hS => by (obtain ⟨s0, s1, s2⟩ := hS; go_simp)⟩) hHeld ?_
        simp only [Act.put,gA9,gZ9,gC9,sA9,sZ9,sC9]
        refine wpAnyH_ready (rs := [14]) (by kernel_rfl) (by simp) ?_
        refine AllReadyH.cons rfl (fun K hK => ?_) AllReadyH.nil
        go_simp
        refine (HCp.out).mono ?_
        rintro e Z1 ⟨a1, c1', rfl, ho1, hz1⟩
        have BZ1 : Hid (Below Y4.drew.heap.size Y4.drew Z1) := hz1
        have HO1 : Hid _ := ho1
        clear hz1 ho1
        refine hK.out _ _ ⟨below_at (bstep (drew_bel Y4) BZ1.out) c0, below_at (bstep (drew_bel Y4) BZ1.out) c1, below_at (bstep (drew_bel Y4) BZ1.out) c3⟩ (fun hHeld => ?_)
        clear hK K
        obtain ⟨x, hxe⟩ : ∃ x : Dx, x = ⟨(d + 1 + (j : Int), s.1), s.2, a1, c1', m.bs⟩ := ⟨_, rfl⟩
        have Hxe : Hid (x = ⟨(d + 1 + (j : Int), s.1), s.2, a1, c1', m.bs⟩) := hxe
        have hxc : [Value.int .i64 (d + 1 + (j : Int)), .int .i64 s.1, .int .i64 s.2, .slice a1 m.bs.length c1'] = x.cs := by rw [hxe]; rfl
        have Hxc : Hid ([Value.int .i64 (d + 1 + (j : Int)), .int .i64 s.1, .int .i64 s.2, .slice a1 m.bs.length c1'] = x.cs) := hxc
        clear hxe hxc
        refine wX9 15 (.agg x.cs.toArray) rfl (Or.inl ⟨by rfl, fun w' hS => by (go_simp <;> exact Hxc.out)⟩) hHeld ?_
        simp only [Act.put,gA9,gZ9,gC9,sA9,sZ9,sC9]
        refine wpAnyH_ready (rs := [16]) (by kernel_rfl) (by simp) ?_
        refine AllReadyH.cons rfl (fun K hK => ?_) AllReadyH.nil
        refine step_bsl rfl 60 97 1 _ rfl Try.underlying60 x.cs.toArray (bsl_eq (by kernel_rfl) (bMs x)) ?_
        intro Z2 kz2 bz2 sz2
        have KZ2 : Hid _ := kz2
        have BZ2 : Hid (Below Y4.drew.heap.size Y4.drew Z2) := bstep BZ1.out bz2
        have BZ12 : Hid _ := bz2
        clear kz2 bz2 sz2
        refine hK.out _ _ ⟨below_at (bstep (drew_bel Y4) BZ2.out) c0, below_at (bstep (drew_bel Y4) BZ2.out) c1, below_at (bstep (drew_bel Y4) BZ2.out) c3⟩ (fun hHeld => ?_)
        clear hK K
        refine wpAnyH_ready (rs := [17]) (by kernel_rfl) (by simp) ?_
        refine AllReadyH.cons rfl (fun K hK => ?_) AllReadyH.nil
        refine step_appG rfl _ _ 60 rfl V5.heap.size 97 mi _ 4 48 Try.underlying60 mhi mhz0 mhz1 mhz2 rfl (by omega) u11 out.length (msC out) rfl (own_still HMo4.out.row BZ2.out) x.cs rfl (Dx.cs_len x) KZ2.out (dxcs_one x) (by have := Hol.out; unfold maxLen; omega) (by have := Hol.out; omega) (Nat.le_trans Hws.out BZ2.out.size) ?_
        intro v3 Z3 o3 kk3
        have O3 : Hid _ := o3
        have KK3' : Hid _ := kk3
        clear o3 kk3
        have BZ35 : Hid (Below V5.heap.size V5 Z3) := (bstep BY5.out BZ2.out).trans (KK3'.out.below (bstep BY5.out BZ2.out).size (fun q hq e => by have h1 := (row_cells (own_still HMo4.out.row BZ2.out) e).1; omega))
        have hK3 : Z3.heap[vb]? = some (.cells (slotV s).toArray 76 (0, 0)) := KK3'.out.obj (blk_on (bstep (drew_bel Y4) BZ2.out) KY4.out) (fun e => by obtain ⟨_, cu, hcu⟩ := row_cells (own_still HMo4.out.row BZ2.out) e; rw [blk_on (bstep (drew_bel Y4) BZ2.out) KY4.out] at hcu; simp at hcu)
        have HNx : Hid (MoT 97 V5.heap.size Z3 v3 (out ++ [x])) := MoT.app (by decide) HMo4.out (x := x) (w1 := Z2) (by have h1 := own_still HO1.out BZ12.out; rw [Hxe.out]; exact h1) BZ2.out Hws.out KK3'.out O3.out
        have HRx : Hid (RsOk ds d (sd.take (j + 1)) (out ++ [x])) := (show RsOk ds d (sd.take (j + 1)) (out ++ [x]) from by rw [Htk.out]; exact HRo.out.app (by rw [Hxe.out, Htl.out]) (by rw [Hxe.out]) (by rw [Hxe.out]; exact Hfb.out))
        refine hK.out _ _ ⟨(blk_cell hK3 0), (blk_cell hK3 1), (HDc.out Z3 (bstep HB5.out BZ35.out)).1⟩ (fun hHeld => ?_)
        clear hK K
        refine wG9 18 v3 rfl hHeld ?_
        simp only [Act.put,gA9,gZ9,gC9,sA9,sZ9,sC9]
        refine wpAnyH_done (by kernel_rfl) ?_ _
        clear hHeld
        go_wp2
        exact ⟨⟨j + 1, by omega, by go_num, ⟨_, HRx.out, HNx.out⟩, BZ35.out⟩, by simp [intOf]; omega⟩
      ·obtain rfl : j = bn := by omega
       have e4 : sd.take j = sd := List.take_of_length_le (by rw [← Hbn.out]; omega)
       rw [e4] at HRo
       have HF := HO2.out out HRo.out
       have HFh : Hid (RsS (cos fs) ds d 0 out) := HF
       obtain ⟨la, lc, rfl⟩ : ∃ la lc, u11 = .slice la out.length lc := by
        rcases own_two HMo.out.row with ⟨h3, h4⟩ | ⟨g, cc, hv, _⟩
        ·exact ⟨none, 0, by rw [h4]; exact h3⟩
        ·exact ⟨_, _, hv⟩
       clear HF e4
       go_wp2
       go_ret2
       exact ⟨la, lc, out, 0, rfl, HFh.out, HMo.out.lower HB5.out.size, Bwj.out⟩
   ·have h0' : (ev == 0) = false := by simpa using h0
    have HS : Hid (RsS (cos fs) ds d ev []) := .inr (.inl ⟨Hyes.out, by rw [← Hte.out]; exact h0, Hte.out, rfl⟩)
    clear h0
    go_wp2
    go_ret2
    exact ⟨none, 0, [], ev, rfl, HS.out, MoT.nil _ _ _, BV3.out⟩
end
end Go.Proofs.Ytobaooebjgoaiaa.Fm
