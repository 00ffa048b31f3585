import Derived.Test.YtobaooebjgoaiaaV40
namespace Go.Proofs.Ytobaooebjgoaiaa.Fm
open Go.RowKit Go.Maps Mb
set_option linter.unusedVariables false
set_option maxRecDepth 100000
set_option linter.unusedSimpArgs false
section
variable {w w' W : World} {B : Nat}
theorem dk_of {cs : List Co} {who : List Int} {sf q r1 r2 : Int} (hl : who.length = cs.length) (h1 : PlaceS who sf r1) (h2 : PlaceS who q r2) (e1 : ¬ r1 < 0) (e2 : ¬ r2 < 0) (hne : sf ≠ q) : ∃ me you : Nat, r1 = me ∧ r2 = you ∧ Dk cs who sf q me you := by
 rcases h1 with ⟨_, a2⟩ | ⟨a1, ⟨a2, _⟩ | ⟨m, a2, a3, a4⟩⟩
 ·omega
 ·omega
 ·rcases h2 with ⟨_, b2⟩ | ⟨b1, ⟨b2, _⟩ | ⟨y, b2, b3, b4⟩⟩
  ·omega
  ·omega
  ·exact ⟨m, y, a3, b3, ⟨hl, a1, a2, a4, b2, b4, hne⟩⟩
theorem place_dk {cs : List Co} {who : List Int} {sf q r1 r2 : Int} (h1 : PlaceS who sf r1) (h2 : PlaceS who q r2) {me you : Nat} (d : Dk cs who sf q me you) : r1 = me ∧ r2 = you := by
 rcases h1 with ⟨a1, _⟩ | ⟨a1, ⟨a2, a3⟩ | ⟨m, a2, a3, a4⟩⟩
 ·exact absurd d.nod a1
 ·exact absurd d.m2 (a3 me d.m1)
 ·rcases h2 with ⟨b1, _⟩ | ⟨b1, ⟨b2, b3⟩ | ⟨y, b2, b3, b4⟩⟩
  ·exact absurd d.nod b1
  ·exact absurd d.y2 (b3 you d.y1)
  ·obtain rfl := nodT_inj d.nod a2 d.m1 (by rw [a4, d.m2])
   obtain rfl := nodT_inj d.nod b2 d.y1 (by rw [b4, d.y2])
   exact ⟨a3, b3⟩
theorem dk_in {cs : List Co} {who : List Int} {sf q : Int} {me you : Nat} (d : Dk cs who sf q me you) : inR 1 16 (cs.length : Int) = true := by
 have h1 := nodT_le d.nod
 have h2 := d.m1
 have h3 := d.len
 exact inR_t (by omega) (by omega)
theorem take_one {ss : List (Int × Int)} {j : Nat} (hj : j < ss.length) : ss.take (j + 1) = ss.take j ++ [ss.getD j z2] := by
 have := drop_take (ss := ss) (k := 0) (j := j) (by omega)
 simpa using this
set_option maxHeartbeats 8000000 in
theorem qduty_any {wa ao : Option Addr} {wcp cp : Nat} {who : List Int} {fs : List Fl} (hw : RdI w wa who) (hwn : who.length ≤ 1048576) (hr : RdFs w ao fs) (hln : fs.length ≤ 1048576) (sf q : Int) : Calls Try.prog 15 #[.int .i64 sf, .int .i64 q, .slice wa who.length wcp, .slice ao fs.length cp] w fun e w' => ∃ a c l E, e = .returned (.tuple #[.slice a (l : List (Int × Int)).length c, .int .i64 E]) ∧ DuS (cos fs) who sf q E l ∧ w'.ownsRow w.heap.size 76 2 (.slice a l.length c) l.length (slCells l) ∧ Below w.heap.size w w' := by
 have hcl := cos_len fs
 have HM : Hid (RdFs w ao fs) := hr
 have HWh : Hid (RdI w wa who) := hw
 have HPl : Hid (∀ X, Below w.heap.size w X → ∀ v, Calls Try.prog 47 #[.slice wa who.length wcp, .int .i64 v] X fun e w' => ∃ r, e = .returned (.int .i64 r) ∧ PlaceS who v r ∧ Below X.heap.size X w') := fun X hX v => qplace_any (cp := wcp) (hw.still hX) (by omega) v
 have HLi : Hid (∀ X, Below w.heap.size w X → Calls Try.prog 48 #[.slice ao fs.length cp] X fun e w' => e = .returned (.int .i64 (lstE (cos fs))) ∧ Below X.heap.size X w') := fun X hX => qlisted_any (cp := cp) (hr.still hX) (by omega)
 have Hln : Hid (fs.length ≤ 1048576) := hln
 have HNo : Hid ((∀ me you, ¬ Dk (cos fs) who sf q me you) → DuS (cos fs) who sf q 1 []) := fun h => .inl ⟨h, rfl, rfl⟩
 have Hcl : Hid ((cos fs).length = fs.length) := hcl
 generalize hL : fs.length = L at *
 have HLe : Hid (fs.length = L) := hL
 generalize hWL : who.length = WL at *
 have HWe : Hid (who.length = WL) := hWL
 clear hw hr hcl hL hWL
 go_enter Try.func15, Try.ntmps15
 go_upto_region 2 with (first | (go_at_call 47; refine (HPl.out w (Below.refl _ _) sf).mono ?_; rintro e V1 ⟨r1, rfl, hp1, hv1⟩; have HP1 : Hid (PlaceS who sf r1) := hp1; have BV1 : Hid (Below w.heap.size w V1) := hv1; clear hp1 hv1) | fail)
 go_upto_region 3 with (first | (go_at_call 47; refine (HPl.out V1 BV1.out q).mono ?_; rintro e V2 ⟨r2, rfl, hp2, hv2⟩; have HP2 : Hid (PlaceS who q r2) := hp2; have BV2 : Hid (Below w.heap.size w V2) := bstep BV1.out hv2; clear hp2 hv2) | fail)
 have BAD : Hid ((WL ≠ L ∨ r1 < 0 ∨ r2 < 0 ∨ sf = q) → DuS (cos fs) who sf q 1 []) := fun h => HNo.out (fun me you d => by
  have h1 := place_dk HP1.out HP2.out d
  have h2 := d.len
  have h3 := d.ne
  rw [HWe.out, Hcl.out] at h2
  rcases h with h | h | h | h
  ·exact h h2
  ·omega
  ·omega
  ·exact h3 h)
 by_cases hl : WL = L
 ·by_cases e1 : r1 < 0
  ·have HS := BAD.out (.inr (.inl e1))
   have HSh : Hid (DuS (cos fs) who sf q 1 []) := HS
   have hlb : ((WL : Int) != (L : Int)) = false := by rw [hl]; simp
   clear HS hl
   go_wp2
   go_ret2
   exact ⟨none, 0, [], 1, rfl, HSh.out, ⟨rfl, .inl ⟨rfl, rfl⟩⟩, BV2.out⟩
  ·by_cases e2 : r2 < 0
   ·have HSh : Hid (DuS (cos fs) who sf q 1 []) := BAD.out (.inr (.inr (.inl e2)))
    have hlb : ((WL : Int) != (L : Int)) = false := by rw [hl]; simp
    clear hl
    go_wp2
    go_ret2
    exact ⟨none, 0, [], 1, rfl, HSh.out, ⟨rfl, .inl ⟨rfl, rfl⟩⟩, BV2.out⟩
   ·by_cases e3 : sf = q
    ·have HSh : Hid (DuS (cos fs) who sf q 1 []) := BAD.out (.inr (.inr (.inr e3)))
     have hlb : ((WL : Int) != (L : Int)) = false := by rw [hl]; simp
     have hqb : (sf == q) = true := by rw [e3]; simp
     clear hl e3
     go_wp2
     go_ret2
     exact ⟨none, 0, [], 1, rfl, HSh.out, ⟨rfl, .inl ⟨rfl, rfl⟩⟩, BV2.out⟩
    ·obtain ⟨me, you, rfl, rfl, hdk⟩ := dk_of (cs := cos fs) (by rw [HWe.out, Hcl.out]; exact hl) HP1.out HP2.out e1 e2 e3
     have HDk : Hid (Dk (cos fs) who sf q me you) := hdk
     have hlb : ((WL : Int) != (L : Int)) = false := by rw [hl]; simp
     have hqb : (sf == q) = false := by simpa using e3
     have hme : (0 : Int) ≤ (me : Int) := Int.natCast_nonneg _
     have hyo : (0 : Int) ≤ (you : Int) := Int.natCast_nonneg _
     have hyl : you < L := by have := hdk.y1; rw [HWe.out, hl] at this; exact this
     have hyl2 : (you : Int) < (L : Int) := by omega
     have HlE : Hid (lstE (cos fs) = togE (cos fs)) := (show lstE (cos fs) = togE (cos fs) from by unfold lstE; rw [dk_in hdk]; rfl)
     have HWL : Hid (WL = L) := hl
     clear hdk hl e3 e1 e2
     have HL2 := HLi.out V2 BV2.out
     rw [HlE.out] at HL2
     by_cases h0 : togE (cos fs) = 0
     ·have HT : Hid (Tog (cos fs)) := tog_of h0
      have H0 : Hid (togE (cos fs) = 0) := h0
      rw [h0] at HL2
      have Hlb : Hid (L ≤ 1000000000000000000) := (show L ≤ 1000000000000000000 from by have := Hln.out; omega)
      have HBa : Hid (∀ X, Below w.heap.size w X → Calls Try.prog 42 #[.slice ao L cp] X fun e w' => e = .returned (.int .i64 (baseOf (cos fs))) ∧ X = w') := fun X hX => by
       have := qBase_any (cp := cp) (HM.out.still hX) (by rw [HLe.out]; exact Hlb.out)
       rw [HLe.out] at this
       exact this.mono fun _ _ h => ⟨h.1, h.2.symm⟩
      have HEn : Hid (∀ X, Below w.heap.size w X → Calls Try.prog 43 #[.slice ao L cp] X fun e w' => ∃ n : Nat, e = .returned (.int .i64 (baseOf (cos fs) + n)) ∧ Ends (cos fs) n ∧ Below X.heap.size X w') := fun X hX => by
       have := qend_any (cp := cp) (HM.out.still hX) (by rw [HLe.out]; exact Hlb.out) HT.out
       rw [HLe.out] at this
       exact this
      have HAt : Hid (∀ X, Below w.heap.size w X → ∀ pos : Int, 0 ≤ pos → pos ≤ 4611686018427389904 → Calls Try.prog 44 #[.slice ao L cp, .int .i64 pos] X fun e w' => e = .returned (.agg (slotV ((atP (cos fs) pos).getD z2)).toArray) ∧ Below X.heap.size X w') := fun X hX pos p0 p1 => by
       have := qAt_any (cp := cp) (HM.out.still hX) (by rw [HLe.out]; exact Hlb.out) (fun i hi => by
        have := tog_base HT.out i (by simpa [cos] using hi)
        rwa [cos_at] at this) pos p0 p1
       rw [HLe.out] at this
       exact this
      have HHa : Hid (∀ X, Below w.heap.size w X → ∀ s : Int × Int, Calls Try.prog 45 #[.agg (fs.getD you fl0).cs.toArray, .agg (slotV s).toArray] X fun e w' => e = .returned (.bool (has (fs.getD you fl0).c s)) ∧ Below X.heap.size X w') := fun X hX s => qhas_any ((HM.out.still hX).el you (by rw [HLe.out]; exact hyl)) s
      have HLo : Hid (∀ X, Below w.heap.size w X → ∀ s : Int × Int, Calls Try.prog 49 #[.slice wa WL wcp, .slice ao L cp, .agg (slotV s).toArray] X fun e w' => ∃ r, e = .returned (.int .i64 r) ∧ LwS (cos fs) who s r ∧ Below X.heap.size X w') := fun X hX s => by
       have := qlowest_any (wcp := wcp) (cp := cp) (HWh.out.still hX) (HM.out.still hX) (by rw [HWe.out, HLe.out]; exact HWL.out) (by rw [HLe.out]; exact Hln.out) s
       rw [HWe.out, HLe.out] at this
       exact this
      have HDu : Hid (∀ s r, LwS (cos fs) who s r → (decide (r = (me : Int)) && !has (fs.getD you fl0).c s) = duP (cos fs) who sf me you s) := fun s r h => by
       have := low_du HDk.out h
       rwa [cos_at] at this
      obtain ⟨b, off, rfl, -⟩ := HM.out.at (i := you) (by rw [HLe.out]; exact hyl)
      have HRy : Hid (∀ X, Below w.heap.size w X → X.rangeAt b (off + you * 7) (fs.getD you fl0).cs) := fun X hX => by
       obtain ⟨b', off', e', h'⟩ := (HM.out.still hX).at (i := you) (by rw [HLe.out]; exact hyl)
       simp only [Option.some.injEq, Addr.mk.injEq, and_true] at e'
       rw [e'.1, e'.2]
       exact h'
      have hb0 : 0 ≤ baseOf (cos fs) := baseK_nn _ _
      have hbM : baseOf (cos fs) ≤ 4611686018427387904 := baseK_le _ HT.out.snd _ (Nat.le_refl _)
      have HlF : Hid (∀ n ss, Ends (cos fs) n → SlOf (cos fs) n ss → DuS (cos fs) who sf q 0 (pick (duP (cos fs) who sf me you) ss)) := fun n ss h1 h2 => .inr ⟨me, you, HDk.out, .inr ⟨H0.out, rfl, n, ss, h1, h2, rfl⟩⟩
      have HSg : Hid (∀ n ss j, SlOf (cos fs) n ss → j < n → (atP (cos fs) (baseOf (cos fs) + (j : Int) + 1)).getD z2 = ss.getD j z2) := fun n ss j h hj => slOf_get h hj
      have HDf : Hid (∀ s, has (fs.getD you fl0).c s = true → duP (cos fs) who sf me you s = false) := fun s h => by
       unfold duP
       rw [cos_at fs you, h]
       simp
      generalize fs.getD you fl0 = f at *
      generalize baseOf (cos fs) = bs at *
      generalize duP (cos fs) who sf me you = dp at *
      clear h0 HPl HLi BAD HNo
      go_wp2_with (first
       | (go_at_call 48; refine HL2.mono ?_; rintro e V3 ⟨rfl, hv3⟩; have BV3 : Hid (Below w.heap.size w V3) := bstep BV2.out hv3; clear hv3)
       | (go_at_call 43; refine (HEn.out _ BV3.out).mono ?_; rintro e V4 ⟨n, rfl, hen, hv4⟩; have HEnd : Hid _ := hen; have BV4 : Hid (Below w.heap.size w V4) := bstep BV3.out hv4; clear hen hv4)
       | (go_at_call 42; refine (HBa.out _ BV4.out).mono ?_; rintro e Vz ⟨rfl, rfl⟩)
       | fail)
      obtain ⟨ss, hss⟩ := slOf_ex HEnd.out
      have HSl : Hid (SlOf (cos fs) n ss) := hss
      have hn128 : n ≤ 128 := Ends.le HT.out HEnd.out.1
      have HsL : Hid (ss.length = n) := hss.1
      clear hss
      go_loopw [13, 15] (fun lv kv wr => ∃ j : Nat, j ≤ n ∧ kv = .int .i64 (bs + (j : Int)) ∧ wr.ownsRow w.heap.size 76 2 lv (pick dp (ss.take j)).length (slCells (pick dp (ss.take j))) ∧ Below w.heap.size w wr) (fun _ kv _ => (bs + n - intOf kv).toNat)
      case atStart => exact ⟨0, Nat.zero_le _, by simp, by rw [List.take_zero, pick_nil]; exact ⟨rfl, .inl ⟨rfl, rfl⟩⟩, BV4.out⟩
      case round =>
       obtain ⟨j, hj, rfl, hlo, hbj⟩ := hrel
       have HLo2 : Hid (wr.ownsRow w.heap.size 76 2 u13 (pick dp (ss.take j)).length (slCells (pick dp (ss.take j)))) := hlo
       have HBj : Hid (Below w.heap.size w wr) := hbj
       clear hlo hbj
       by_cases hlt : j < n
       ·have hdlt : bs + (j : Int) < bs + (n : Int) := by omega
        have HA := HAt.out wr HBj.out (bs + (j : Int) + 1) (by omega) (by omega)
        rw [HSg.out n ss j HSl.out hlt] at HA
        have HDt : Hid (ss.take (j + 1) = ss.take j ++ [ss.getD j z2]) := take_one (by rw [HsL.out]; exact hlt)
        have Hpl : Hid ((pick dp (ss.take j)).length ≤ 128) := Nat.le_trans (pick_len _ _) (by rw [List.length_take, HsL.out]; omega)
        generalize ss.getD j z2 = s at *
        obtain ⟨la, lc, rfl⟩ : ∃ la lc, u13 = .slice la (pick dp (ss.take j)).length lc := by
         rcases own_two HLo2.out with ⟨h3, h4⟩ | ⟨g, cc, hv, _⟩
         ·exact ⟨none, 0, by rw [h4]; exact h3⟩
         ·exact ⟨_, _, hv⟩
        have HSo : Hid (∀ X, Below wr.heap.size wr X → Calls Try.prog 46 #[.slice la (pick dp (ss.take j)).length lc, .agg (slotV s).toArray] X fun e w' => ∃ a c, e = .returned (.slice a (insS (pick dp (ss.take j)) s).length c) ∧ w'.ownsRow X.heap.size 76 2 (.slice a (insS (pick dp (ss.take j)) s).length c) (insS (pick dp (ss.take j)) s).length (slCells (insS (pick dp (ss.take j)) s)) ∧ Below X.heap.size X w') := fun X hX => qsorted_any (own_rdS (own_still HLo2.out hX) rfl) (by have := Hpl.out; omega) s
        have Hyes2 : Hid (dp s = true → pick dp (ss.take (j + 1)) = insS (pick dp (ss.take j)) s) := fun h => by rw [HDt.out]; exact pick_yes h
        have Hno2 : Hid (dp s = false → pick dp (ss.take (j + 1)) = pick dp (ss.take j)) := fun h => by rw [HDt.out]; exact pick_no h
        generalize pick dp (ss.take j) = pk at *
        have Hl2 : Hid ((slotV s).length = 2) := rfl
        go_upto_region 14 with (first
         | (go_at_call 44; refine HA.mono ?_; rintro e Y1 ⟨rfl, hy1⟩; have BB1 : Hid (Below wr.heap.size wr Y1) := hy1; clear hy1)
         | (refine wl_allocZ rfl 76 rfl zSlot ?_; intro Y2 k2 b2 s2; have K2 : Hid _ := k2; have BB2 : Hid _ := b2; clear k2 b2 s2)
         | (refine wl_storeZ rfl 76 _ _ rfl (L := slotV s) rfl rfl K2.out info_slot rfl (slotV_one _) ?_; intro Y4 k4 hk4; have K4 : Hid (Y4.heap[Y1.heap.size]? = some (.cells (slotV s).toArray 76 (0, 0))) := k4; have BB4 : Hid (Below wr.heap.size wr Y4) := (bstep BB1.out BB2.out).trans (hk4.below (bstep BB1.out BB2.out).size (fun k hk e => by have := BB1.out.size; omega)); clear k4 hk4)
         | fail)
        generalize hvb : Y1.heap.size = vb at *
        have Bw4 : Hid (Below w.heap.size w Y4) := bstep HBj.out BB4.out
        have HRa : Hid (Y4.rangeAt b (off + you * 7) f.cs) := HRy.out Y4 Bw4.out
        have HRs : Hid (Y4.rangeAt vb 0 (slotV s)) := blk_range K4.out
        clear hvb K2 BB2 HA
        have HH := HHa.out Y4.drew (bstep Bw4.out (drew_bel _)) s
        cases hh : has f.c s with
        | true =>
         have HHs : Hid (Calls Try.prog 45 #[.agg f.cs.toArray, .agg (slotV s).toArray] Y4.drew fun e w' => e = .returned (.bool true) ∧ Below Y4.drew.heap.size Y4.drew w') := (show Calls Try.prog 45 #[.agg f.cs.toArray, .agg (slotV s).toArray] Y4.drew fun e w' => e = .returned (.bool true) ∧ Below Y4.drew.heap.size Y4.drew w' from by rw [← hh]; exact HH)
         have HNh : Hid (pick dp (ss.take (j + 1)) = pk) := Hno2.out (HDf.out s hh)
         clear hh HH
         refine wp_region_held_drew (S := (fun w' => w'.rangeAt b (off + you * 7) f.cs ∧ w'.rangeAt vb 0 (slotV s))) (by kernel_rfl) ⟨HRa.out, HRs.out⟩ (fun hHeld => ?_)
         simp only [Act.put, List.size_toArray, List.length_cons, List.length_nil, Nat.zero_add]
         refine wG9 0 (.slice (some ⟨b, off, none⟩) L cp) rfl hHeld ?_
         simp only [Act.put,gA9,gZ9,gC9,sA9,sZ9,sC9]
         refine wG9 1 (.int .i64 (you : Int)) rfl hHeld ?_
         simp only [Act.put,gA9,gZ9,gC9,sA9,sZ9,sC9]
         refine wG9 2 (.pointer (some ⟨b, off + you * 7, none⟩)) rfl hHeld ?_
         simp only [Act.put,gA9,gZ9,gC9,sA9,sZ9,sC9]
         refine wpAnyH_take (i := 3) (v := .agg (f.cs).toArray) rfl (by kernel_rfl) (by kernel_rfl) (by kernel_rfl) (fun _ _ _ h => h) (yieldsIf_load_mid (by rfl) 28 (.tmp 61) rfl b (off + you * 7) (by rfl) (f.cs) _ (fun w' hS => hS.1) Try.underlying28 rfl info_flush) hHeld ?_
         simp only [Act.put,gA9,gZ9,gC9,sA9,sZ9,sC9]
         refine wpAnyH_take (i := 4) (v := .agg (slotV s).toArray) rfl (by kernel_rfl) (by kernel_rfl) (by kernel_rfl) (fun _ _ _ h => h) (yieldsIf_load_mid (by rfl) 76 (.tmp 16) rfl vb (0) (by rfl) (slotV s) _ (fun w' hS => hS.2) Try.underlying76 rfl info_slot) hHeld ?_
         simp only [Act.put,gA9,gZ9,gC9,sA9,sZ9,sC9]
         refine wpAnyH_ready (rs := [5]) (by kernel_rfl) (by simp) ?_
         refine AllReadyH.cons rfl (fun K hK => ?_) AllReadyH.nil
         go_simp
         refine (HHs.out).mono ?_
         rintro e Z1 ⟨rfl, hz1⟩
         have B5 : Hid (Below Y4.drew.heap.size Y4.drew Z1) := hz1
         clear hz1
         refine hK.out _ _ ⟨range_on HRa.out (bstep (drew_bel Y4) B5.out), range_on HRs.out (bstep (drew_bel Y4) B5.out)⟩ (fun hHeld => ?_)
         clear hK K
         refine wG9 6 (.bool false) rfl hHeld ?_
         simp only [Act.put,gA9,gZ9,gC9,sA9,sZ9,sC9]
         refine wG9 7 (.bool false) rfl hHeld ?_
         simp only [Act.put,gA9,gZ9,gC9,sA9,sZ9,sC9]
         refine wS9 8 rfl hHeld ?_
         simp only [Act.put,gA9,gZ9,gC9,sA9,sZ9,sC9]
         refine wS9 9 rfl hHeld ?_
         simp only [Act.put,gA9,gZ9,gC9,sA9,sZ9,sC9]
         refine wS9 10 rfl hHeld ?_
         simp only [Act.put,gA9,gZ9,gC9,sA9,sZ9,sC9]
         refine wS9 11 rfl hHeld ?_
         simp only [Act.put,gA9,gZ9,gC9,sA9,sZ9,sC9]
         refine wS9 12 rfl hHeld ?_
         simp only [Act.put,gA9,gZ9,gC9,sA9,sZ9,sC9]
         refine wS9 13 rfl hHeld ?_
         simp only [Act.put,gA9,gZ9,gC9,sA9,sZ9,sC9]
         refine wG9 14 (.bool false) rfl hHeld ?_
         simp only [Act.put,gA9,gZ9,gC9,sA9,sZ9,sC9]
         refine wpAnyH_done (by kernel_rfl) ?_ _
         clear hHeld
         go_wp2
         exact ⟨⟨j + 1, by omega, by go_simp; omega, by rw [HNh.out]; exact own_still HLo2.out (bstep (bstep BB4.out (drew_bel _)) B5.out), bstep (bstep Bw4.out (drew_bel _)) B5.out⟩, by simp [intOf]; omega⟩
        | false =>
         have HHs : Hid (Calls Try.prog 45 #[.agg f.cs.toArray, .agg (slotV s).toArray] Y4.drew fun e w' => e = .returned (.bool false) ∧ Below Y4.drew.heap.size Y4.drew w') := (show Calls Try.prog 45 #[.agg f.cs.toArray, .agg (slotV s).toArray] Y4.drew fun e w' => e = .returned (.bool false) ∧ Below Y4.drew.heap.size Y4.drew w' from by rw [← hh]; exact HH)
         have HD2 : Hid (∀ r, LwS (cos fs) who s r → decide (r = (me : Int)) = dp s) := fun r h => by
          have := HDu.out s r h
          rw [hh] at this
          simpa using this
         clear hh HH
         refine wp_region_held_drew (S := (fun w' => w'.rangeAt b (off + you * 7) f.cs ∧ w'.rangeAt vb 0 (slotV s))) (by kernel_rfl) ⟨HRa.out, HRs.out⟩ (fun hHeld => ?_)
         simp only [Act.put, List.size_toArray, List.length_cons, List.length_nil, Nat.zero_add]
         refine wG9 0 (.slice (some ⟨b, off, none⟩) L cp) rfl hHeld ?_
         simp only [Act.put,gA9,gZ9,gC9,sA9,sZ9,sC9]
         refine wG9 1 (.int .i64 (you : Int)) rfl hHeld ?_
         simp only [Act.put,gA9,gZ9,gC9,sA9,sZ9,sC9]
         refine wG9 2 (.pointer (some ⟨b, off + you * 7, none⟩)) rfl hHeld ?_
         simp only [Act.put,gA9,gZ9,gC9,sA9,sZ9,sC9]
         refine wpAnyH_take (i := 3) (v := .agg (f.cs).toArray) rfl (by kernel_rfl) (by kernel_rfl) (by kernel_rfl) (fun _ _ _ h => h) (yieldsIf_load_mid (by rfl) 28 (.tmp 61) rfl b (off + you * 7) (by rfl) (f.cs) _ (fun w' hS => hS.1) Try.underlying28 rfl info_flush) hHeld ?_
         simp only [Act.put,gA9,gZ9,gC9,sA9,sZ9,sC9]
         refine wpAnyH_take (i := 4) (v := .agg (slotV s).toArray) rfl (by kernel_rfl) (by kernel_rfl) (by kernel_rfl) (fun _ _ _ h => h) (yieldsIf_load_mid (by rfl) 76 (.tmp 16) rfl vb (0) (by rfl) (slotV s) _ (fun w' hS => hS.2) Try.underlying76 rfl info_slot) hHeld ?_
         simp only [Act.put,gA9,gZ9,gC9,sA9,sZ9,sC9]
         refine wpAnyH_ready (rs := [5]) (by kernel_rfl) (by simp) ?_
         refine AllReadyH.cons rfl (fun K hK => ?_) AllReadyH.nil
         go_simp
         refine (HHs.out).mono ?_
         rintro e Z1 ⟨rfl, hz1⟩
         have B5 : Hid (Below Y4.drew.heap.size Y4.drew Z1) := hz1
         clear hz1
         refine hK.out _ _ ⟨range_on HRa.out (bstep (drew_bel Y4) B5.out), range_on HRs.out (bstep (drew_bel Y4) B5.out)⟩ (fun hHeld => ?_)
         clear hK K
         refine wG9 6 (.bool true) rfl hHeld ?_
         simp only [Act.put,gA9,gZ9,gC9,sA9,sZ9,sC9]
         refine wG9 7 (.bool true) rfl hHeld ?_
         simp only [Act.put,gA9,gZ9,gC9,sA9,sZ9,sC9]
         refine wG9 8 (.slice wa WL wcp) rfl hHeld ?_
         simp only [Act.put,gA9,gZ9,gC9,sA9,sZ9,sC9]
         refine wG9 9 (.slice (some ⟨b, off, none⟩) L cp) rfl hHeld ?_
         simp only [Act.put,gA9,gZ9,gC9,sA9,sZ9,sC9]
         refine wpAnyH_take (i := 10) (v := .agg (slotV s).toArray) rfl (by kernel_rfl) (by kernel_rfl) (by kernel_rfl) (fun _ _ _ h => h) (yieldsIf_load_mid (by kernel_rfl) 76 (.tmp 16) rfl vb (0) (by rfl) (slotV s) _ (fun w' hS => hS.2) Try.underlying76 rfl info_slot) hHeld ?_
         simp only [Act.put,gA9,gZ9,gC9,sA9,sZ9,sC9]
         refine wG9 12 (.int .i64 (me : Int)) rfl hHeld ?_
         simp only [Act.put,gA9,gZ9,gC9,sA9,sZ9,sC9]
         refine wpAnyH_ready (rs := [11]) (by kernel_rfl) (by simp) ?_
         refine AllReadyH.cons rfl (fun K hK => ?_) AllReadyH.nil
         go_simp
         refine (HLo.out Z1 (bstep (bstep Bw4.out (drew_bel _)) B5.out) s).mono ?_
         rintro e Z2 ⟨r, rfl, hlw, hz2⟩
         have B6 : Hid (Below Z1.heap.size Z1 Z2) := hz2
         have HD3 : Hid (decide (r = (me : Int)) = dp s) := HD2.out r hlw
         clear hz2 hlw
         refine hK.out _ _ ⟨range_on HRa.out (bstep (bstep (drew_bel Y4) B5.out) B6.out), range_on HRs.out (bstep (bstep (drew_bel Y4) B5.out) B6.out)⟩ (fun hHeld => ?_)
         clear hK K
         refine wG9 13 (.bool (r == (me : Int))) rfl hHeld ?_
         simp only [Act.put,gA9,gZ9,gC9,sA9,sZ9,sC9]
         refine wG9 14 (.bool (r == (me : Int))) rfl hHeld ?_
         simp only [Act.put,gA9,gZ9,gC9,sA9,sZ9,sC9]
         refine wpAnyH_done (by kernel_rfl) ?_ _
         clear hHeld
         have BZ : Hid (Below wr.heap.size wr Z2) := bstep (bstep (bstep BB4.out (drew_bel _)) B5.out) B6.out
         have HRz : Hid (Z2.rangeAt vb 0 (slotV s)) := range_on HRs.out (bstep (bstep (drew_bel Y4) B5.out) B6.out)
         cases hr : (r == (me : Int)) with
         | true =>
          have HNh : Hid (pick dp (ss.take (j + 1)) = insS pk s) := Hyes2.out (by rw [← HD3.out]; exact decide_eq_true (by simpa using hr))
          clear hr
          go_wp2_with (first
           | (refine load_mid 76 (.tmp 16) HRz.out _ Try.underlying76 rfl (by rw [Hl2.out]; exact info_slot) rfl rfl rfl ?_)
           | (go_at_call 46; refine (HSo.out _ BZ.out).mono ?_; rintro e Y7 ⟨a7, c7, rfl, ho7, hb7⟩)
           | fail)
          exact ⟨⟨j + 1, by omega, by go_simp; omega, by rw [HNh.out]; exact own_lower ho7 (bstep HBj.out BZ.out).size, bstep (bstep HBj.out BZ.out) hb7⟩, by simp [intOf]; omega⟩
         | false =>
          have HNh : Hid (pick dp (ss.take (j + 1)) = pk) := Hno2.out (by rw [← HD3.out]; exact decide_eq_false (by simpa using hr))
          clear hr
          go_wp2
          exact ⟨⟨j + 1, by omega, by go_simp; omega, by rw [HNh.out]; exact own_still HLo2.out BZ.out, bstep HBj.out BZ.out⟩, by simp [intOf]; omega⟩
       ·have hdge : ¬ bs + (j : Int) < bs + (n : Int) := by omega
        have e4 : ss.take j = ss := List.take_of_length_le (by rw [HsL.out]; omega)
        rw [e4] at HLo2
        have HFh : Hid (DuS (cos fs) who sf q 0 (pick dp ss)) := HlF.out n ss HEnd.out HSl.out
        obtain ⟨la, lc, rfl⟩ : ∃ la lc, u13 = .slice la (pick dp ss).length lc := by
         rcases own_two HLo2.out with ⟨h3, h4⟩ | ⟨g, cc, hv, _⟩
         ·exact ⟨none, 0, by rw [h4]; exact h3⟩
         ·exact ⟨_, _, hv⟩
        clear e4
        go_wp2
        go_ret2
        exact ⟨la, lc, _, 0, rfl, HFh.out, HLo2.out, HBj.out⟩
     ·have h0' : (togE (cos fs) == 0) = false := by simpa using h0
      have HS : Hid (DuS (cos fs) who sf q (togE (cos fs)) []) := .inr ⟨me, you, HDk.out, .inl ⟨h0, rfl, rfl⟩⟩
      clear h0
      generalize togE (cos fs) = E at *
      go_wp2_with (first
       | (go_at_call 48; refine HL2.mono ?_; rintro e V3 ⟨rfl, hv3⟩)
       | fail)
      go_ret2
      exact ⟨none, 0, [], E, rfl, HS.out, ⟨rfl, .inl ⟨rfl, rfl⟩⟩, bstep BV2.out hv3⟩
 ·have HSh : Hid (DuS (cos fs) who sf q 1 []) := BAD.out (.inl hl)
  have hlb : ((WL : Int) != (L : Int)) = true := by simp; omega
  go_wp2
  go_ret2
  exact ⟨none, 0, [], 1, rfl, HSh.out, ⟨rfl, .inl ⟨rfl, rfl⟩⟩, BV2.out⟩
end
end Go.Proofs.Ytobaooebjgoaiaa.Fm
