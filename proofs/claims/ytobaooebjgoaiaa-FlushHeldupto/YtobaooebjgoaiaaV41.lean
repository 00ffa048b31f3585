import Derived.Test.YtobaooebjgoaiaaV33
import Derived.Test.YtobaooebjgoaiaaV26
import Derived.Test.YtobaooebjgoaiaaV34
import Derived.Test.YtobaooebjgoaiaaV36
import Derived.Test.YtobaooebjgoaiaaV37
import Derived.Test.YtobaooebjgoaiaaV38
import Derived.Test.YtobaooebjgoaiaaV32
import Derived.Test.YtobaooebjgoaiaaV40
import Derived.Test.YtobaooebjgoaiaaV35
import Derived.Test.YtobaooebjgoaiaaV28
namespace Go.Proofs.Ytobaooebjgoaiaa.Fm
open Go.RowKit Go.Maps Mb
set_option linter.unusedVariables false
set_option maxRecDepth 100000
set_option linter.unusedSimpArgs false
section
variable {w w' W : World} {B : Nat}
theorem lst_rs {cs : List Co} {ds : List Dx} {d : Int} (h1 : inR 0 4611686018427387904 d = true) (h : lstE cs ≠ 0) : RsS cs ds d (lstE cs) [] := by
 unfold lstE at *
 cases h2 : inR 1 16 (cs.length : Int) with
 | false => exact .inl ⟨by unfold lkB; rw [h1, h2]; rfl, by simp, rfl⟩
 | true =>
  rw [h2] at h
  simp only [if_true] at h ⊢
  exact .inr (.inl ⟨by unfold lkB; rw [h1, h2]; rfl, h, rfl, rfl⟩)
set_option maxHeartbeats 8000000 in
theorem qrest_any {ao ma : Option Addr} {cp mc : Nat} {fs : List Fl} {ds : List Dx} (hr : RdFs w ao fs) (hln : fs.length ≤ 1048576) (hd : RdDs w ma ds) (hdn : ds.length ≤ 1048576) (hdz : ∀ i, i < ds.length → ((ds.getD i dx0).ba = none → (ds.getD i dx0).bs.length = 0 ∧ (ds.getD i dx0).bc = 0) ∧ (ds.getD i dx0).bs.length ≤ 1048576) (d : Int) : Calls Try.prog 16 #[.int .i64 d, .slice ao fs.length cp, .slice ma ds.length mc] w fun e w' => ∃ a c out E, e = .returned (.tuple #[.slice a (out : List Dx).length c, .int .i64 E]) ∧ RsS (cos fs) ds d E out ∧ MoT 97 w.heap.size w' (.slice a out.length c) out ∧ Below w.heap.size w w' := by
 have hcl := cos_len fs
 have HNo : Hid (lkB (cos fs) d = false → RsS (cos fs) ds d 1 []) := fun h => .inl ⟨h, rfl, rfl⟩
 have HD1 : Hid (RdDs w ma ds) := hd
 have HDz : Hid (∀ i, i < ds.length → ((ds.getD i dx0).ba = none → (ds.getD i dx0).bs.length = 0 ∧ (ds.getD i dx0).bc = 0) ∧ (ds.getD i dx0).bs.length ≤ 1048576) := hdz
 have HM : Hid (RdFs w ao fs) := hr
 have HLi := qlisted_any (cp := cp) hr (by omega)
 have HFi : Hid (∀ X, Below w.heap.size w X → ∀ s : Int × Int, Calls Try.prog 50 #[.slice ma ds.length mc, .agg (slotV s).toArray] X fun e w' => ∃ r, e = .returned (.int .i64 r) ∧ FindS ds s r ∧ Below X.heap.size X w') := fun X hX s => qfind_any (cp := mc) (hd.still hX) (by omega) s
 have HFa : Hid (∀ s r, FindS ds s r → (r = -1 ∧ fndB ds s = none) ∨ ∃ i : Nat, r = i ∧ i < ds.length ∧ fndB ds s = some (ds.getD i dx0).bs) := fun s r h => by
  rcases h with ⟨h1, h2⟩ | ⟨i, h1, h2⟩
  ·exact .inl ⟨h1, fnd_none h2⟩
  ·exact .inr ⟨i, h1, h2.1, fnd_first h2⟩
 have Hln : Hid (fs.length ≤ 1000000000000000000) := (show fs.length ≤ 1000000000000000000 from by omega)
 generalize hL : fs.length = L at *
 have HLe : Hid (fs.length = L) := hL
 generalize hDL : ds.length = DL at *
 have HDLe : Hid (ds.length = DL) := hDL
 clear hr hd hdz hcl hL hDL
 by_cases ha : d < 0
 ·have HS : Hid (RsS (cos fs) ds d 1 []) := HNo.out (by unfold lkB; rw [inR_f1 (by omega)]; rfl)
  go_enter Try.func16, Try.ntmps16
  go_wp2
  go_ret2
  exact ⟨none, 0, [], 1, rfl, HS.out, MoT.nil _ _ _, Below.refl _ _⟩
 ·by_cases hb : 4611686018427387904 < d
  ·have HS : Hid (RsS (cos fs) ds d 1 []) := HNo.out (by unfold lkB; rw [inR_f2 (by omega)]; rfl)
   go_enter Try.func16, Try.ntmps16
   go_wp2
   go_ret2
   exact ⟨none, 0, [], 1, rfl, HS.out, MoT.nil _ _ _, Below.refl _ _⟩
  ·have h1 : inR 0 4611686018427387904 d = true := inR_t (by omega) (by omega)
   have HI1 : Hid (inR 0 4611686018427387904 d = true) := h1
   clear h1
   by_cases h0 : lstE (cos fs) = 0
   ·obtain ⟨hin, htog⟩ := lst_ok h0
    have HT : Hid (Tog (cos fs)) := tog_of htog
    have H0 : Hid (togE (cos fs) = 0) := htog
    have Hyes : Hid (lkB (cos fs) d = true) := (show lkB (cos fs) d = true from by unfold lkB; rw [HI1.out, hin]; rfl)
    rw [h0] at HLi
    have HBa : Hid (∀ X, Below w.heap.size w X → Calls Try.prog 42 #[.slice ao L cp] X fun e w' => e = .returned (.int .i64 (baseOf (cos fs))) ∧ X = w') := fun X hX => by
     have := qBase_any (cp := cp) (HM.out.still hX) (by rw [HLe.out]; exact Hln.out)
     rw [HLe.out] at this
     exact this.mono fun _ _ h => ⟨h.1, h.2.symm⟩
    have HEn : Hid (∀ X, Below w.heap.size w X → Calls Try.prog 43 #[.slice ao L cp] X fun e w' => ∃ n : Nat, e = .returned (.int .i64 (baseOf (cos fs) + n)) ∧ Ends (cos fs) n ∧ Below X.heap.size X w') := fun X hX => by
     have := qend_any (cp := cp) (HM.out.still hX) (by rw [HLe.out]; exact Hln.out) HT.out
     rw [HLe.out] at this
     exact this
    have HAt : Hid (∀ X, Below w.heap.size w X → ∀ pos : Int, 0 ≤ pos → pos ≤ 4611686018427389904 → Calls Try.prog 44 #[.slice ao L cp, .int .i64 pos] X fun e w' => e = .returned (.agg (slotV ((atP (cos fs) pos).getD z2)).toArray) ∧ Below X.heap.size X w') := fun X hX pos p0 p1 => by
     have := qAt_any (cp := cp) (HM.out.still hX) (by rw [HLe.out]; exact Hln.out) (fun i hi => by
      have := tog_base HT.out i (by simpa [cos] using hi)
      rwa [cos_at] at this) pos p0 p1
     rw [HLe.out] at this
     exact this
    have hb0 : 0 ≤ baseOf (cos fs) := baseK_nn _ _
    have hbM : baseOf (cos fs) ≤ 4611686018427387904 := baseK_le _ HT.out.snd _ (Nat.le_refl _)
    have HlE : Hid (d < baseOf (cos fs) → RsS (cos fs) ds d 82 []) := fun h => .inr (.inr (.inl ⟨Hyes.out, H0.out, h, rfl, rfl⟩))
    have HlM : Hid (¬ d < baseOf (cos fs) → ∀ n ss, Ends (cos fs) n → SlOf (cos fs) n ss → RsMiss ds (ss.drop (d - baseOf (cos fs)).toNat) → RsS (cos fs) ds d 81 []) := fun h n ss e1 e2 k => .inr (.inr (.inr ⟨Hyes.out, H0.out, h, n, ss, e1, e2, .inl ⟨k, rfl, rfl⟩⟩))
    have HlO : Hid (¬ d < baseOf (cos fs) → ∀ n ss, Ends (cos fs) n → SlOf (cos fs) n ss → ∀ out, RsOk ds d (ss.drop (d - baseOf (cos fs)).toNat) out → RsS (cos fs) ds d 0 out) := fun h n ss e1 e2 out k => .inr (.inr (.inr ⟨Hyes.out, H0.out, h, n, ss, e1, e2, .inr ⟨k, rfl⟩⟩))
    have HSg : Hid (∀ n ss j, SlOf (cos fs) n ss → j < n → (atP (cos fs) (baseOf (cos fs) + (j : Int) + 1)).getD z2 = ss.getD j z2) := fun n ss j h hj => slOf_get h hj
    generalize hbs : baseOf (cos fs) = bs at *
    clear h0 hbs HM hin htog
    by_cases hlt : d < bs
    ·go_enter Try.func16, Try.ntmps16
     go_wp2_with (first
      | (go_at_call 48; refine HLi.mono ?_; rintro e V1 ⟨rfl, hv1⟩; have BV1 : Hid (Below w.heap.size w V1) := hv1; clear hv1)
      | (go_at_call 42; refine (HBa.out _ BV1.out).mono ?_; rintro e V2 ⟨rfl, rfl⟩)
      | fail)
     go_ret2
     exact ⟨none, 0, [], 82, rfl, HlE.out hlt, MoT.nil _ _ _, BV1.out⟩
    ·go_enter Try.func16, Try.ntmps16
     go_wp2_with (first
      | (go_at_call 48; refine HLi.mono ?_; rintro e V1 ⟨rfl, hv1⟩; have BV1 : Hid (Below w.heap.size w V1) := hv1; clear hv1)
      | (go_at_call 42; refine (HBa.out _ BV1.out).mono ?_; rintro e V2 ⟨rfl, rfl⟩)
      | (go_at_call 43; refine (HEn.out _ BV1.out).mono ?_; rintro e V3 ⟨n, rfl, hen, hv3⟩; have HEnd : Hid _ := hen; have BV3 : Hid _ := hv3; clear hen hv3)
      | fail)
     obtain ⟨ss, hss⟩ := slOf_ex HEnd.out
     have HSl : Hid (SlOf (cos fs) n ss) := hss
     have hn128 : n ≤ 128 := Ends.le HT.out HEnd.out.1
     have HsL : Hid (ss.length = n) := hss.1
     have BV : Hid (Below w.heap.size w V3) := bstep BV1.out BV3.out
     clear hss
     obtain ⟨k0, hk0⟩ : ∃ k0 : Nat, d = bs + k0 := ⟨(d - bs).toNat, by omega⟩
     have Hk0 : Hid ((d - bs).toNat = k0) := (show (d - bs).toNat = k0 from by omega)
     have HK0 : Hid (d = bs + k0) := hk0
     clear hk0
     have HlM2 := HlM.out hlt n ss HEnd.out HSl.out
     have HlO2 := HlO.out hlt n ss HEnd.out HSl.out
     rw [Hk0.out] at HlM2 HlO2
     have HM2 : Hid (RsMiss ds (ss.drop k0) → RsS (cos fs) ds d 81 []) := HlM2
     have HO2 : Hid (∀ out, RsOk ds d (ss.drop k0) out → RsS (cos fs) ds d 0 out) := HlO2
     clear HlM2 HlO2
     obtain ⟨mi, mhi, mhz0, mhz1, mhz2⟩ := msg_info
     obtain ⟨ui, uhi, uhz0, uhz1, uhz2⟩ := byte_info
     go_loopw [9, 11] (fun lv kv wr => ∃ j : Nat, (k0 + j ≤ n ∨ j = 0) ∧ kv = .int .i64 (d + (j : Int)) ∧ (∃ out, RsOk ds d ((ss.drop k0).take j) out ∧ MoT 97 V3.heap.size wr lv out) ∧ Below V3.heap.size V3 wr) (fun _ kv _ => (bs + n - intOf kv).toNat)
     case atStart => exact ⟨0, .inr rfl, by simp, ⟨[], by simpa using RsOk.nil ds d, MoT.nil _ _ _⟩, Below.refl _ _⟩
     case round =>
      obtain ⟨j, hj, rfl, ⟨out, hro, hmo⟩, hbj⟩ := hrel
      have HRo : Hid (RsOk ds d ((ss.drop k0).take j) out) := hro
      have HMo : Hid (MoT 97 V3.heap.size wr u9 out) := hmo
      have HBj : Hid (Below V3.heap.size V3 wr) := hbj
      have Bwj : Hid (Below w.heap.size w wr) := bstep BV.out hbj
      clear hro hmo hbj
      by_cases hlt2 : k0 + j < n
      ·have hdlt : d + (j : Int) < bs + (n : Int) := by have := HK0.out; omega
       have hi1 : 0 ≤ d + (j : Int) + 1 := by omega
       have hi2 : d + (j : Int) + 1 ≤ 4611686018427389904 := by omega
       have HA := HAt.out wr Bwj.out (d + (j : Int) + 1) hi1 hi2
       have hg := HSg.out n ss (k0 + j) HSl.out hlt2
       have e3 : bs + ((k0 + j : Nat) : Int) + 1 = d + (j : Int) + 1 := by have := HK0.out; omega
       rw [e3] at hg
       rw [hg] at HA
       have HDt : Hid ((ss.drop k0).take (j + 1) = (ss.drop k0).take j ++ [ss.getD (k0 + j) z2]) := drop_take (by rw [HsL.out]; exact hlt2)
       have Hms : Hid (fndB ds (ss.getD (k0 + j) z2) = none → RsMiss ds (ss.drop k0)) := fun h => ⟨j, by rw [List.length_drop, HsL.out]; omega, by rw [show (ss.drop k0).getD j z2 = ss.getD (k0 + j) z2 from by simp [List.getD]]; exact h⟩
       have Htl : Hid (((ss.drop k0).take j).length = j) := (show ((ss.drop k0).take j).length = j from by rw [List.length_take, List.length_drop, HsL.out]; omega)
       generalize ss.getD (k0 + j) z2 = s at *
       have Hl2 : Hid ((slotV s).length = 2) := rfl
       clear hg e3
       go_upto_region 15 with (first
        | (go_at_call 44; refine HA.mono ?_; rintro e Y1 ⟨rfl, hy1⟩; have BB1 : Hid (Below wr.heap.size wr Y1) := hy1; clear hy1)
        | (refine wl_allocZ rfl 76 rfl zSlot ?_; intro Y2 k2 b2 s2; have K2 : Hid _ := k2; have BB2 : Hid _ := b2; clear k2 b2 s2)
        | (refine wl_storeZ rfl 76 _ _ rfl (L := slotV s) rfl rfl K2.out info_slot rfl (slotV_one _) ?_; intro Y4 k4 hk4; have K4 : Hid (Y4.heap[Y1.heap.size]? = some (.cells (slotV s).toArray 76 (0, 0))) := k4; have BB4 : Hid (Below wr.heap.size wr Y4) := (bstep BB1.out BB2.out).trans (hk4.below (bstep BB1.out BB2.out).size (fun k hk e => by have := BB1.out.size; omega)); clear k4 hk4)
        | (refine load_mid 76 (.tmp 12) (blk_range K4.out) _ Try.underlying76 rfl (by rw [Hl2.out]; exact info_slot) rfl rfl rfl ?_)
        | (go_at_call 50; refine (HFi.out _ (bstep Bwj.out BB4.out) s).mono ?_; rintro e Y5 ⟨r, rfl, hfr, hy5⟩; have HFr : Hid (FindS ds s r) := hfr; have BB5 : Hid (Below Y4.heap.size Y4 Y5) := hy5; clear hfr hy5)
        | fail)
       have BW5 : Hid (Below wr.heap.size wr Y5) := bstep BB4.out BB5.out
       have Bw5 : Hid (Below w.heap.size w Y5) := bstep Bwj.out BW5.out
       have K5 : Hid (Y5.heap[Y1.heap.size]? = some (.cells (slotV s).toArray 76 (0, 0))) := blk_on BB5.out K4.out
       generalize hvb : Y1.heap.size = vb at *
       clear hvb K2 BB2 K4
       rcases HFa.out s r HFr.out with ⟨rfl, hno⟩ | ⟨i, rfl, hi, hfb⟩
       ·have HMs : Hid (RsS (cos fs) ds d 81 []) := HM2.out (Hms.out hno)
        clear hno
        go_wp2
        go_ret2
        exact ⟨none, 0, [], 81, rfl, HMs.out, MoT.nil _ _ _, Bw5.out⟩
       ·have Hfb : Hid (fndB ds s = some (ds.getD i dx0).bs) := hfb
        obtain ⟨mb2, moff, rfl, c3⟩ := dx_cell (HD1.out.still Bw5.out) (i := i) (by rw [HDLe.out]; exact hi)
        have HRb : Hid (RdB Y5 (ds.getD i dx0).ba (ds.getD i dx0).bs) := ((HD1.out.still Bw5.out).el i (by rw [HDLe.out]; exact hi)).b
        have HZ2 : Hid (((ds.getD i dx0).ba = none → (ds.getD i dx0).bs.length = 0 ∧ (ds.getD i dx0).bc = 0) ∧ (ds.getD i dx0).bs.length ≤ 1048576) := HDz.out i hi
        have j1 : (0 : Int) ≤ (i : Int) := Int.natCast_nonneg _
        have j2 : (i : Int) < (DL : Int) := by omega
        have j3 : ¬ (i : Int) < 0 := by omega
        generalize ds.getD i dx0 = m at *
        have hm1 := HZ2.out.2
        have Hbl : Hid ((byts m.bs).length = m.bs.length * 1) := (show (byts m.bs).length = m.bs.length * 1 from by rw [byts_len, Nat.mul_one])
        clear hfb hi
        go_upto_region 19 with (first
         | (refine app_g rfl _ _ 92 rfl Y5.heap.size 5 ui _ 1 1 Try.underlying92 uhi uhz0 uhz1 uhz2 rfl (by omega) (.slice none 0 0) 0 [] rfl ⟨rfl, .inl ⟨rfl, rfl⟩⟩ m.ba m.bs.length m.bc (byts m.bs) rfl HZ2.out.1 Hbl.out (rdB_news HRb.out) (byts_one m.bs) (by unfold maxLen; omega) (by omega) (Nat.le_refl _) ?_; intro v6 Y6 o6 k6 f6)
         | fail)
        have BB6 : Hid (Below Y5.heap.size Y5 Y6) := k6.out.below (Nat.le_refl _) (fun k hk e => by cases e)
        have O6 := o6.out
        rw [Nat.zero_add, List.nil_append] at O6
        obtain ⟨a1, c1', rfl⟩ : ∃ a1 c1', v6 = .slice a1 m.bs.length c1' := by
         rcases own_two O6 with ⟨h3, h4⟩ | ⟨g, cc, hv, _⟩
         ·exact ⟨none, 0, by rw [h4]; exact h3⟩
         ·exact ⟨_, _, hv⟩
        have HO6 : Hid (Y6.ownsRow Y5.heap.size 5 1 (.slice a1 m.bs.length c1') m.bs.length (byts m.bs)) := O6
        have BW6 : Hid (Below wr.heap.size wr Y6) := bstep BW5.out BB6.out
        have q0 : Y6.cell? ⟨vb, 0, none⟩ = some (.int .i64 s.1) := blk_cell (blk_on BB6.out K5.out) 0
        have q1 : Y6.cell? ⟨vb, 1, none⟩ = some (.int .i64 s.2) := blk_cell (blk_on BB6.out K5.out) 1
        obtain ⟨x, hxe⟩ : ∃ x : Dx, x = ⟨(d + (j : Int) + 1, s.1), s.2, a1, c1', m.bs⟩ := ⟨_, rfl⟩
        have Hxe : Hid (x = ⟨(d + (j : Int) + 1, s.1), s.2, a1, c1', m.bs⟩) := hxe
        have HbM : Hid (Try.prog.built 97 [(0, .int .i64 (d + (j : Int) + 1)), (1, .int .i64 s.1), (2, .int .i64 s.2), (3, .slice a1 m.bs.length c1')] = some x.cs.toArray) := (show _ = _ from by have := bMg x; rw [hxe] at this ⊢; exact this)
        have hol : out.length = j := by rw [HRo.out.len]; exact Htl.out
        have Hol : Hid (out.length = j) := hol
        have HMo6 : Hid (MoT 97 V3.heap.size Y6 u9 out) := HMo.out.still BW6.out
        have B36 : Hid (Below V3.heap.size V3 Y6) := bstep HBj.out BW6.out
        clear hxe O6 o6 k6 f6 hol
        go_wp2_with (first
         | (refine wl_buildZ rfl 97 _ rfl (built_eq (by first | kernel_rfl | (simp [go_sem]; done)) HbM.out) ?_)
         | (refine wl_bsl rfl 60 97 1 _ rfl Try.underlying60 x.cs.toArray (bsl_eq (by kernel_rfl) (bMs x)) ?_; intro Z2 kz2 bz2 sz2; have KZ2 : Hid _ := kz2; have BZ2 : Hid (Below Y6.heap.size Y6 Z2) := bz2; clear kz2 bz2 sz2)
         | (refine app_g rfl _ _ 60 rfl V3.heap.size 97 mi _ 4 48 Try.underlying60 mhi mhz0 mhz1 mhz2 rfl (by omega) u9 out.length (msC out) rfl (own_still HMo6.out.row BZ2.out) (some ⟨Y6.heap.size, 0, none⟩) 1 1 x.cs rfl (fun h => by cases h) (Dx.cs_len x) (fun ad he j u hu => by cases he; rw [Addr.add_lit, Nat.zero_add, blk_cell KZ2.out]; simpa using hu) (dxcs_one x) (by have := Hol.out; unfold maxLen; omega) (by have := Hol.out; omega) (Nat.le_trans B36.out.size BZ2.out.size) ?_; intro v3 Z3 o3 k3 f3)
         | fail)
        have BZ35 : Hid (Below V3.heap.size V3 Z3) := (bstep B36.out BZ2.out).trans (k3.out.below (bstep B36.out BZ2.out).size (fun q hq e => by have h1 := (row_cells (own_still HMo6.out.row BZ2.out) e).1; omega))
        have HNx : Hid (MoT 97 V3.heap.size Z3 v3 (out ++ [x])) := MoT.app (by decide) (HMo.out.still BW5.out) (x := x) (w1 := Z2) (by have h1 := own_still HO6.out BZ2.out; rw [Hxe.out]; exact h1) (bstep BB6.out BZ2.out) (bstep HBj.out BW5.out).size k3.out o3.out
        have HRx : Hid (RsOk ds d ((ss.drop k0).take (j + 1)) (out ++ [x])) := (show RsOk ds d ((ss.drop k0).take (j + 1)) (out ++ [x]) from by rw [HDt.out]; exact HRo.out.app (by rw [Hxe.out, Htl.out]; simp; omega) (by rw [Hxe.out]) (by rw [Hxe.out]; exact Hfb.out))
        exact ⟨⟨j + 1, .inl (by omega), by go_simp; omega, ⟨_, HRx.out, HNx.out⟩, BZ35.out⟩, by have := HK0.out; simp [intOf]; omega⟩
      ·have hdge : ¬ d + (j : Int) < bs + (n : Int) := by have := HK0.out; omega
       have e4 : (ss.drop k0).take j = ss.drop k0 := List.take_of_length_le (by rw [List.length_drop, HsL.out]; omega)
       rw [e4] at HRo
       have HF := HO2.out out HRo.out
       have HFh : Hid (RsS (cos fs) ds d 0 out) := HF
       obtain ⟨la, lc, rfl⟩ : ∃ la lc, u9 = .slice la out.length lc := by
        rcases own_two HMo.out.row with ⟨h3, h4⟩ | ⟨g, cc, hv, _⟩
        ·exact ⟨none, 0, by rw [h4]; exact h3⟩
        ·exact ⟨_, _, hv⟩
       clear HF e4
       go_wp2
       go_ret2
       exact ⟨la, lc, out, 0, rfl, HFh.out, HMo.out.lower BV.out.size, Bwj.out⟩
   ·have h0' : (lstE (cos fs) == 0) = false := by simpa using h0
    have HS : Hid (RsS (cos fs) ds d (lstE (cos fs)) []) := lst_rs HI1.out h0
    clear h0
    generalize lstE (cos fs) = E at *
    go_enter Try.func16, Try.ntmps16
    go_wp2_with (first
     | (go_at_call 48; refine HLi.mono ?_; rintro e V1 ⟨rfl, hv1⟩)
     | fail)
    go_ret2
    exact ⟨none, 0, [], E, rfl, HS.out, MoT.nil _ _ _, hv1⟩
end
end Go.Proofs.Ytobaooebjgoaiaa.Fm
namespace Go.Proofs.Ytobaooebjgoaiaa.Hh
open Go.RowKit Go.Maps Mb
set_option linter.unusedVariables false
set_option linter.unusedSimpArgs false
set_option maxRecDepth 100000
open Go.Proofs.Ytobaooebjgoaiaa.Fm
section
variable {w w' w1 w2 w3 Z Y V : World} {B T s : Nat} {S S' : St} {hb : Nat} {f f' : Nat → Nat → Nat → Value} {P : Nat → Prop} {c : Nat}
theorem LkS.len2 {cs : List Co} {own : Co} {d E : Int} {l : List (Int × Int)} (h : LkS cs own d E l) : l.length ≤ 128 := by
 rcases h with ⟨_, _, rfl⟩ | ⟨_, _, _, rfl⟩ | ⟨_, _, _, _, rfl⟩ | ⟨_, a2, _, _, n, ss, h1, h2, rfl⟩
 ·simp
 ·simp
 ·simp
 ·have h3 := pick_len (fun s => !has own s) (ss.drop (d - baseOf (cs ++ [own])).toNat)
  have h4 := Ends.le (tog_of a2) h1.1
  have h5 := h2.1
  rw [List.length_drop] at h3
  omega
theorem DuS.len2 {cs : List Co} {who : List Int} {sf q E : Int} {l : List (Int × Int)} (h : DuS cs who sf q E l) : l.length ≤ 128 := by
 rcases h with ⟨_, _, rfl⟩ | ⟨me, you, d, ⟨_, _, rfl⟩ | ⟨a1, _, n, ss, h1, h2, rfl⟩⟩
 ·simp
 ·simp
 ·have h3 := pick_len (duP cs who sf me you) ss
  have h4 := Ends.le (tog_of a1) h1.1
  have h5 := h2.1
  omega
theorem RsS.r64 {cs : List Co} {ds : List Dx} {d E : Int} {l : List Dx} (h : RsS cs ds d E l) : ∀ i, i < l.length → i64B (l.getD i dx0).s.1 ∧ i64B (l.getD i dx0).s.2 := by
 have hlen := h.len
 rcases h with ⟨_, _, rfl⟩ | ⟨_, _, _, rfl⟩ | ⟨_, _, _, _, rfl⟩ | ⟨a1, a2, _, n, ss, h1, h2, ⟨_, _, rfl⟩ | ⟨h3, _⟩⟩
 ·intro i hi; simp at hi
 ·intro i hi; simp at hi
 ·intro i hi; simp at hi
 ·intro i hi; simp at hi
 ·intro i hi
  have hT := tog_of a2
  unfold lkB at a1
  simp only [Bool.and_eq_true, inR, decide_eq_true_eq] at a1
  have hd := h3.el i (by rw [← h3.len]; exact hi)
  rw [hd.1]
  have hi2 : i < (ss.drop (d - baseOf cs).toNat).length := by rw [← h3.len]; exact hi
  rw [List.length_drop, h2.1] at hi2
  have e1 : (ss.drop (d - baseOf cs).toNat).getD i z2 = ss.getD ((d - baseOf cs).toNat + i) z2 := by simp [List.getD]
  rw [e1]
  have h5 := h2.2 ((d - baseOf cs).toNat + i) (by omega)
  have h6 := tog_pair hT ((atP_iff hT.con _ _).1 h5)
  have h7 := (hT.snd 0 (by omega)).h16
  unfold i64B
  dsimp only at h6 ⊢
  omega
theorem fnd_len {ds : List Dx} {s : Int × Int} {b : List Int} {M : Nat} (h : fndB ds s = some b) (hd : ∀ q, q < ds.length → (ds.getD q dx0).bs.length ≤ M) : b.length ≤ M := by
 unfold fndB at h
 cases hf : ds.find? (fun x => decide (x.s = s)) with
 | none => rw [hf] at h; cases h
 | some x =>
  rw [hf] at h
  simp at h
  subst h
  obtain ⟨q, hq, e⟩ := List.mem_iff_getElem.1 (List.mem_of_find?_eq_some hf)
  have := hd q hq
  simp [List.getD, hq, e] at this
  exact this
theorem RsS.bl {cs : List Co} {ds : List Dx} {d E : Int} {l : List Dx} (h : RsS cs ds d E l) {M : Nat} (hd : ∀ q, q < ds.length → (ds.getD q dx0).bs.length ≤ M) : ∀ i, i < l.length → (l.getD i dx0).bs.length ≤ M := by
 rcases h with ⟨_, _, rfl⟩ | ⟨_, _, _, rfl⟩ | ⟨_, _, _, _, rfl⟩ | ⟨a1, a2, _, n, ss, h1, h2, ⟨_, _, rfl⟩ | ⟨h3, _⟩⟩
 ·intro i hi; simp at hi
 ·intro i hi; simp at hi
 ·intro i hi; simp at hi
 ·intro i hi; simp at hi
 ·intro i hi
  exact fnd_len (h3.el i (by rw [← h3.len]; exact hi)).2.2 hd
theorem own_uniq {B' t t' s s' n : Nat} {v : Value} {l l' : List Value} (h : w.ownsRow B t s v n l) (h' : w.ownsRow B' t' s' v n l') (hs : s = s') : l = l' := by
 subst hs
 have e1 := h.1
 have e2 := h'.1
 rcases h.2 with ⟨hv, h0⟩ | ⟨g, cap, cur, hv, _⟩
 ·subst h0
  rw [Nat.zero_mul] at e1 e2
  rw [List.eq_nil_of_length_eq_zero e1, List.eq_nil_of_length_eq_zero e2]
 ·subst hv
  apply List.ext_getElem?
  intro j
  by_cases hj : j < n * s
  ·rw [← World.ownsRow.cellAt h j hj, ← World.ownsRow.cellAt h' j hj]
  ·rw [List.getElem?_eq_none (by omega), List.getElem?_eq_none (by omega)]
structure Old (S S' : St) (f f' : Nat → Nat → Nat → Value) : Prop where
 N : ∀ d, S.N d ≤ S'.N d
 v : ∀ d i, i < S.N d → S'.v d i = S.v d i ∧ f' d i = f d i
theorem Old.refl (S : St) (f : Nat → Nat → Nat → Value) : Old S S f f := ⟨fun _ => Nat.le_refl _, fun _ _ _ => ⟨rfl, rfl⟩⟩
theorem Old.trans {S'' : St} {f'' : Nat → Nat → Nat → Value} (h : Old S S' f f') (k : Old S' S'' f' f'') : Old S S'' f f'' :=
 ⟨fun d => Nat.le_trans (h.N d) (k.N d), fun d i hi => ⟨(k.v d i (Nat.lt_of_lt_of_le hi (h.N d))).1.trans (h.v d i hi).1, (k.v d i (Nat.lt_of_lt_of_le hi (h.N d))).2.trans (h.v d i hi).2⟩⟩
structure SlIn (S : St) (f : Nat → Nat → Nat → Value) (i : Nat) (l : List (Int × Int)) : Prop where
 lt : i < S.N 2
 n : (S.v 2 i).n = l.length
 c : rv (l.length * 2) (f 2 i) = slCells l
structure MsIn (S : St) (f : Nat → Nat → Nat → Value) (i : Nat) (out : List Dx) : Prop where
 lt : i < S.N 5
 n : (S.v 5 i).n = out.length
 c : rv (out.length * 4) (f 5 i) = msC out
 p : ∀ k, k < out.length → ∃ q, q < S.N 0 ∧ (S.v 0 q).v = (out.getD k dx0).v ∧ rv ((out.getD k dx0).bs.length * 1) (f 0 q) = byts (out.getD k dx0).bs
theorem SlIn.old {i : Nat} {l : List (Int × Int)} (h : SlIn S f i l) (o : Old S S' f f') : SlIn S' f' i l :=
 ⟨Nat.lt_of_lt_of_le h.lt (o.N 2), by rw [(o.v 2 i h.lt).1]; exact h.n, by rw [(o.v 2 i h.lt).2]; exact h.c⟩
theorem MsIn.old {i : Nat} {out : List Dx} (h : MsIn S f i out) (o : Old S S' f f') : MsIn S' f' i out :=
 ⟨Nat.lt_of_lt_of_le h.lt (o.N 5), by rw [(o.v 5 i h.lt).1]; exact h.n, by rw [(o.v 5 i h.lt).2]; exact h.c, fun k hk => by
  obtain ⟨q, h1, h2, h3⟩ := h.p k hk
  exact ⟨q, Nat.lt_of_lt_of_le h1 (o.N 0), by rw [(o.v 0 q h1).1]; exact h2, by rw [(o.v 0 q h1).2]; exact h3⟩⟩
theorem SlIn.rd {i : Nat} {l : List (Int × Int)} (k : SlIn S f i l) (h : S.Ok w B hb f) : (S.v 2 i).v = .slice (S.v 2 i).a l.length (S.v 2 i).c ∧ RdS w (S.v 2 i).a l := by
 have h1 : w.ownsRow B 76 2 (.slice (S.v 2 i).a (S.v 2 i).n (S.v 2 i).c) (S.v 2 i).n (rv ((S.v 2 i).n * 2) (f 2 i)) := (h.fam 2 (by omega)).o i k.lt
 refine ⟨by unfold Sl.v; rw [k.n], ?_⟩
 rw [k.n, k.c] at h1
 exact own_rdS h1 rfl
theorem MsIn.rd {i : Nat} {out : List Dx} (k : MsIn S f i out) (h : S.Ok w B hb f) (h64 : ∀ i, i < out.length → i64B (out.getD i dx0).s.1 ∧ i64B (out.getD i dx0).s.2) : (S.v 5 i).v = .slice (S.v 5 i).a out.length (S.v 5 i).c ∧ RdDs w (S.v 5 i).a out := by
 have h1 : w.ownsRow B 97 4 (.slice (S.v 5 i).a (S.v 5 i).n (S.v 5 i).c) (S.v 5 i).n (rv ((S.v 5 i).n * 4) (f 5 i)) := (h.fam 5 (by omega)).o i k.lt
 refine ⟨by unfold Sl.v; rw [k.n], ?_⟩
 rw [k.n, k.c] at h1
 refine ⟨own_row h1 (fun i hi => msC_at out i hi), fun j hj => ⟨?_, h64 j hj⟩⟩
 obtain ⟨q, h2, h3, h4⟩ := k.p j hj
 have h5 : w.ownsRow B 5 1 (S.v 0 q).v (S.v 0 q).n (rv ((S.v 0 q).n * 1) (f 0 q)) := (h.fam 0 (by omega)).o q h2
 have h6 : (S.v 0 q).n = (out.getD j dx0).bs.length := by
  unfold Sl.v Dx.v at h3
  simp only [Value.slice.injEq] at h3
  exact_mod_cast h3.2.1
 rw [h3, h6, h4] at h5
 exact own_rdB h5 rfl
structure Bt (S : St) (w : World) (B hb : Nat) (f : Nat → Nat → Nat → Value) : Prop where
 ok : S.Ok w B hb f
 fit : S.Fit
 z : ∀ d, d < 6 → (S.q d).n = 0
 h3 : S.N 3 = 0
 h4 : S.N 4 = 0
 h15 : S.z 3 = .slice none 0 0
theorem Bt.still (h : Bt S w B hb f) (k : Below w.heap.size w w') : Bt S w' B hb f := { h with ok := h.ok.still k }
structure Ans (S : St) (f : Nat → Nat → Nat → Value) (k : Ca) (who : List Int) (ds : List Dx) (i : Nat) : Prop where
 a : ∃ E l, LkS (cos k.fs) k.own.c k.d E l ∧ SlIn S f (2 * i) l
 b : ∃ E l, DuS (cos k.fs) who k.self k.q E l ∧ SlIn S f (2 * i + 1) l
 m : ∃ E l, RsS (cos k.fs) ds k.d E l ∧ MsIn S f i l
theorem Ans.old {k : Ca} {who : List Int} {ds : List Dx} {i : Nat} (h : Ans S f k who ds i) (o : Old S S' f f') : Ans S' f' k who ds i := by
 obtain ⟨⟨E1, l1, a1, a2⟩, ⟨E2, l2, b1, b2⟩, ⟨E3, l3, c1, c2⟩⟩ := h
 exact ⟨⟨E1, l1, a1, a2.old o⟩, ⟨E2, l2, b1, b2.old o⟩, ⟨E3, l3, c1, c2.old o⟩⟩
theorem own_n {t s n : Nat} {v : Value} {m : Nat} {l : List (Int × Int)} (h : w.ownsRow B t 2 v n (slCells l)) : l.length = n := by
 have h1 := h.1
 rw [slCells_len] at h1
 omega
theorem sl_own {base n : Nat} {v : Value} {l : List (Int × Int)} (h : w.ownsRow base 76 2 v n (slCells l)) (hB : B ≤ base) : ∃ g : Nat → Value, rv (l.length * 2) g = slCells l ∧ w.ownsRow B (Ty 2) (Sz 2) v n (rv (n * Sz 2) g) := by
 have e := rv_get0 (slCells l)
 rw [slCells_len] at e
 refine ⟨_, e.symm, ?_⟩
 have e3 : l.length = n := own_n (m := 0) (s := 2) h
 show w.ownsRow B 76 2 v n (rv (n * 2) _)
 rw [← e3, ← e]
 rw [← e3] at h
 exact own_mono h hB
structure Sl2 (S S' : St) (hb : Nat) (f f' : Nat → Nat → Nat → Value) (xa xb : Sl) (la lb : List (Int × Int)) : Prop where
 e : S'.r = S.r ∧ S'.q = S.q ∧ S'.z = S.z
 N2 : S'.N 2 = S.N 2 + 2
 N : ∀ d, d ≠ 2 → S'.N d = S.N d
 old : Old S S' f f'
 va : S'.v 2 (S.N 2) = xa
 vb : S'.v 2 (S.N 2 + 1) = xb
 a : SlIn S' f' (S.N 2) la
 b : SlIn S' f' (S.N 2 + 1) lb
 own : ∀ j, S'.own hb j → S.own hb j ∨ xa.v.ownBlock = some j ∨ xb.v.ownBlock = some j
theorem slots_in {na nb : Nat} {xa xb : Sl} {la lb : List (Int × Int)} (h : S.Ok w B hb f) (hq2 : (S.q 2).n = 0) (hr2 : (S.r 2).n = S.N 2) (oa : w.ownsRow na 76 2 xa.v xa.n (slCells la)) (ob : w.ownsRow nb 76 2 xb.v xb.n (slCells lb)) (hBa : B ≤ na) (hlt : ∀ j, S.own hb j → j < na) (hab : ∀ j, xa.v.ownBlock = some j → j < nb) (hnn : na ≤ nb) : ∃ S' f', S'.Ok w B hb f' ∧ Sl2 S S' hb f f' xa xb la lb := by
 obtain ⟨ga, ea, ha⟩ := sl_own oa hBa
 obtain ⟨gb, eb, hb2⟩ := sl_own ob (Nat.le_trans hBa hnn)
 have na1 : la.length = xa.n := own_n (m := 0) (s := 2) oa
 have nb1 : lb.length = xb.n := own_n (m := 0) (s := 2) ob
 have k1 := h.ext (c := 2) (x := xa) (g := ga) (by omega) hq2 (by omega) ha (fun j hj hj2 => by
  have h1 := (World.ownsRow.lt oa j hj).1
  have := hlt j hj2
  omega)
 have eN : (S.ext 2 xa).N 2 = S.N 2 + 1 := (show upc S.N 2 (S.N 2 + 1) 2 = _ from upc_at _ _ _)
 have k2 := k1.ext (c := 2) (x := xb) (g := gb) (by omega) hq2 (by rw [eN]; show (S.r 2).n ≤ _; omega) hb2 (fun j hj hj2 => by
  have h1 := (World.ownsRow.lt ob j hj).1
  rcases St.own_ext hj2 with h3 | h3
  ·have := hlt j h3
   omega
  ·have := hab j h3
   omega)
 have E1 : ∀ d i, ((S.ext 2 xa).ext 2 xb).v d i = if d = 2 then (if i = S.N 2 + 1 then xb else if i = S.N 2 then xa else S.v 2 i) else S.v d i := fun d i => by
  show upc (upc S.v 2 (updS (S.v 2) (S.N 2) xa)) 2 (updS (upc S.v 2 (updS (S.v 2) (S.N 2) xa) 2) (upc S.N 2 (S.N 2 + 1) 2) xb) d i = _
  by_cases e : d = 2
  ·subst e
   rw [upc_at, upc_at, upc_at, if_pos rfl]
   by_cases e1 : i = S.N 2 + 1
   ·subst e1; rw [updS_same, if_pos rfl]
   ·rw [updS_ne _ _ e1, if_neg e1]
    by_cases e2 : i = S.N 2
    ·subst e2; rw [updS_same, if_pos rfl]
    ·rw [updS_ne _ _ e2, if_neg e2]
  ·rw [upc_ne _ _ e, upc_ne _ _ e, if_neg e]
 have E2 : ∀ d i, (upc (upc f 2 (updG (f 2) (S.N 2) ga)) 2 (updG ((upc f 2 (updG (f 2) (S.N 2) ga)) 2) ((S.ext 2 xa).N 2) gb)) d i = if d = 2 then (if i = S.N 2 + 1 then gb else if i = S.N 2 then ga else f 2 i) else f d i := fun d i => by
  by_cases e : d = 2
  ·subst e
   rw [upc_at, upc_at, eN, if_pos rfl]
   by_cases e1 : i = S.N 2 + 1
   ·subst e1; rw [updG_at, if_pos rfl]
   ·rw [updG_ne _ _ e1, if_neg e1]
    by_cases e2 : i = S.N 2
    ·subst e2; rw [updG_at, if_pos rfl]
    ·rw [updG_ne _ _ e2, if_neg e2]
  ·rw [upc_ne _ _ e, upc_ne _ _ e, if_neg e]
 have N2 : ((S.ext 2 xa).ext 2 xb).N 2 = S.N 2 + 2 := by
  show upc (upc S.N 2 (S.N 2 + 1)) 2 (upc S.N 2 (S.N 2 + 1) 2 + 1) 2 = _
  rw [upc_at, upc_at]
 have Nd : ∀ d, d ≠ 2 → ((S.ext 2 xa).ext 2 xb).N d = S.N d := fun d hd => by
  show upc (upc S.N 2 (S.N 2 + 1)) 2 (upc S.N 2 (S.N 2 + 1) 2 + 1) d = _
  rw [upc_ne _ _ hd, upc_ne _ _ hd]
 have va : ((S.ext 2 xa).ext 2 xb).v 2 (S.N 2) = xa := by rw [E1, if_pos rfl, if_neg (by omega), if_pos rfl]
 have vb : ((S.ext 2 xa).ext 2 xb).v 2 (S.N 2 + 1) = xb := by rw [E1, if_pos rfl, if_pos rfl]
 refine ⟨_, _, k2, ⟨⟨rfl, rfl, rfl⟩, N2, Nd, ⟨fun d => ?_, fun d i hi => ?_⟩, va, vb, ⟨by rw [N2]; omega, by rw [va]; exact na1.symm, ?_⟩, ⟨by rw [N2]; omega, by rw [vb]; exact nb1.symm, ?_⟩, fun j hj => ?_⟩⟩
 ·by_cases e : d = 2
  ·subst e; rw [N2]; omega
  ·rw [Nd d e]
   exact Nat.le_refl _
 ·rw [E1, E2]
  by_cases e : d = 2
  ·subst e
   rw [if_pos rfl, if_pos rfl, if_neg (by omega), if_neg (by omega), if_neg (by omega), if_neg (by omega)]
   exact ⟨rfl, rfl⟩
  ·rw [if_neg e, if_neg e]
   exact ⟨rfl, rfl⟩
 ·rw [E2, if_pos rfl, if_neg (by omega), if_pos rfl]
  exact ea
 ·rw [E2, if_pos rfl, if_pos rfl]
  exact eb
 ·rcases St.own_ext hj with h3 | h3
  ·rcases St.own_ext h3 with h4 | h4
   ·exact .inl h4
   ·exact .inr (.inl h4)
  ·exact .inr (.inr h3)
end
end Go.Proofs.Ytobaooebjgoaiaa.Hh
