import Derived.Test.YtobaooebjgoaiaaV44
namespace Go.Proofs.Ytobaooebjgoaiaa.Fm
open Go.RowKit Go.Maps Mb
set_option linter.unusedVariables false
set_option maxRecDepth 100000
set_option linter.unusedSimpArgs false
section
variable {w w' W : World} {B : Nat}
set_option maxHeartbeats 16000000 in
theorem duty_any {wa ao : Option Addr} {wcp cp : Nat} {who : List Int} {fs : List Fl} (hw : RdI w wa who) (hwn : who.length ≤ 1048576) (hr : RdFs w ao fs) (hln : fs.length ≤ 1048576) (sf q : Int) : Calls Try.prog 10 #[.int .i64 sf, .int .i64 q, .slice wa who.length wcp, .slice ao fs.length cp] w fun e w' => ∃ a c l E, e = .returned (.tuple #[.slice a (l : List (Int × Int)).length c, .int .i64 E]) ∧ DuS (cos fs) who sf q E l ∧ w'.ownsRow w.heap.size 76 2 (.slice a l.length c) l.length (slCells l) ∧ Below w.heap.size w w' := by
 have hcl := cos_len fs
 have HM : Hid (RdFs w ao fs) := hr
 have HWh : Hid (RdI w wa who) := hw
 have HIx : Hid (∀ v X, Below w.heap.size w X → Calls Try.prog 36 #[.slice wa who.length wcp, .int .i64 v] X fun e w' => ∃ r, e = .returned (.int .i64 r) ∧ IdxS who v r ∧ X = w') := fun v X hX => index_any (cp := wcp) (hw.still hX) hwn v
 have HAy : Hid (NodT who who.length → Calls Try.prog 37 #[.slice wa who.length wcp] w fun e w' => e = .returned (.bool true) ∧ Below w.heap.size w w') := fun hn => (areNodes_any (cp := wcp) hw hwn).mono fun _ _ ⟨r, h1, h2, h3⟩ => ⟨by rw [h1, h2.2 hn], h3⟩
 have HAn : Hid (¬ NodT who who.length → Calls Try.prog 37 #[.slice wa who.length wcp] w fun e w' => e = .returned (.bool false) ∧ Below w.heap.size w w') := fun hn => (areNodes_any (cp := wcp) hw hwn).mono fun _ _ ⟨r, h1, h2, h3⟩ => ⟨by rw [h1]; cases r with
  | false => rfl
  | true => exact absurd (h2.1 rfl) hn, h3⟩
 have HJn : Hid (fs.length ≤ 17 → ∀ X, Below w.heap.size w X → Calls Try.prog 30 #[.slice ao fs.length cp] X fun e w' => ∃ bb a n c ev, e = .returned (.tuple #[.agg (endV bb a n c).toArray, .int .i64 ev]) ∧ JQ fs X w' bb a n c ev ∧ Below X.heap.size X w') := fun h X hX => join_one (cp := cp) (hr.still hX) h
 have HNo : Hid ((∀ me you, ¬ Dk (cos fs) who sf q me you) → DuS (cos fs) who sf q 1 []) := fun h => .inl ⟨h, rfl, rfl⟩
 have Hcl : Hid ((cos fs).length = fs.length) := hcl
 generalize hL : fs.length = L at *
 have HLe : Hid (fs.length = L) := hL
 generalize hWL : who.length = WL at *
 have HWe : Hid (who.length = WL) := hWL
 clear hw hr hcl hL hWL
 go_enter Try.func10, Try.ntmps10
 go_upto_region 2 with (first
  | (go_at_call 36; have hh := HP1; refine (HIx.out q w (Below.refl _ _)).mono ?_; rintro e V2 ⟨r2, rfl, hp2, rfl⟩; have HP2 : Hid (IdxS who q r2) := hp2; clear hp2 hh)
  | (go_at_call 36; refine (HIx.out sf w (Below.refl _ _)).mono ?_; rintro e V1 ⟨r1, rfl, hp1, rfl⟩; have HP1 : Hid (IdxS who sf r1) := hp1; clear hp1)
  | fail)
 have BAD : Hid ((WL ≠ L ∨ ¬ NodT who WL ∨ r1 < 0 ∨ r2 < 0 ∨ sf = q) → DuS (cos fs) who sf q 1 []) := fun h => HNo.out (fun me you d => by
  have h0 := d.nod
  have h2 := d.len
  have h3 := d.ne
  have h1 := place_dk (idx_place h0 HP1.out) (idx_place h0 HP2.out) d
  rw [HWe.out] at h0
  rw [HWe.out, Hcl.out] at h2
  rcases h with h | h | h | h | h
  ·exact h h2
  ·exact h h0
  ·omega
  ·omega
  ·exact h3 h)
 have BW := Below.refl w.heap.size w
 have BWh : Hid (Below w.heap.size w w) := BW
 clear BW
 by_cases hl : WL = L
 rotate_left
 ·have HSh : Hid (DuS (cos fs) who sf q 1 []) := BAD.out (.inl hl)
  have hlb : ((WL : Int) != (L : Int)) = true := by simp; omega
  clear hl
  go_wp2
  go_ret2
  exact ⟨none, 0, [], 1, rfl, HSh.out, ⟨rfl, .inl ⟨rfl, rfl⟩⟩, BWh.out⟩
 have hlb : ((WL : Int) != (L : Int)) = false := by rw [hl]; simp
 by_cases hnd : NodT who WL
 rotate_left
 ·have HSh : Hid (DuS (cos fs) who sf q 1 []) := BAD.out (.inr (.inl hnd))
  have Hnd : Hid (¬ NodT who WL) := hnd
  clear hl hnd
  go_wp2_with (first | (go_at_call 37; refine (HAn.out Hnd.out).mono ?_; rintro e V3 ⟨rfl, hv3⟩; have BV3 : Hid (Below w.heap.size w V3) := hv3; clear hv3) | fail)
  go_ret2
  exact ⟨none, 0, [], 1, rfl, HSh.out, ⟨rfl, .inl ⟨rfl, rfl⟩⟩, BV3.out⟩
 have Hnd : Hid (NodT who WL) := hnd
 by_cases e1 : r1 < 0
 ·have HSh : Hid (DuS (cos fs) who sf q 1 []) := BAD.out (.inr (.inr (.inl e1)))
  clear hl hnd
  go_wp2_with (first | (go_at_call 37; refine (HAy.out Hnd.out).mono ?_; rintro e V3 ⟨rfl, hv3⟩; have BV3 : Hid (Below w.heap.size w V3) := hv3; clear hv3) | fail)
  go_ret2
  exact ⟨none, 0, [], 1, rfl, HSh.out, ⟨rfl, .inl ⟨rfl, rfl⟩⟩, BV3.out⟩
 by_cases e2 : r2 < 0
 ·have HSh : Hid (DuS (cos fs) who sf q 1 []) := BAD.out (.inr (.inr (.inr (.inl e2))))
  clear hl hnd
  go_wp2_with (first | (go_at_call 37; refine (HAy.out Hnd.out).mono ?_; rintro e V3 ⟨rfl, hv3⟩; have BV3 : Hid (Below w.heap.size w V3) := hv3; clear hv3) | fail)
  go_ret2
  exact ⟨none, 0, [], 1, rfl, HSh.out, ⟨rfl, .inl ⟨rfl, rfl⟩⟩, BV3.out⟩
 by_cases e3 : sf = q
 ·have HSh : Hid (DuS (cos fs) who sf q 1 []) := BAD.out (.inr (.inr (.inr (.inr e3))))
  have hqb : (sf == q) = true := by rw [e3]; simp
  clear hl hnd e3
  go_wp2_with (first | (go_at_call 37; refine (HAy.out Hnd.out).mono ?_; rintro e V3 ⟨rfl, hv3⟩; have BV3 : Hid (Below w.heap.size w V3) := hv3; clear hv3) | fail)
  go_ret2
  exact ⟨none, 0, [], 1, rfl, HSh.out, ⟨rfl, .inl ⟨rfl, rfl⟩⟩, BV3.out⟩
 have hnd2 : NodT who who.length := by rw [HWe.out]; exact hnd
 obtain ⟨me, you, rfl, rfl, hdk⟩ := dk_of (cs := cos fs) (by rw [HWe.out, Hcl.out]; exact hl) (idx_place hnd2 HP1.out) (idx_place hnd2 HP2.out) e1 e2 e3
 have HDk : Hid (Dk (cos fs) who sf q me you) := hdk
 have hqb : (sf == q) = false := by simpa using e3
 have hme : (0 : Int) ≤ (me : Int) := Int.natCast_nonneg _
 have hyo : (0 : Int) ≤ (you : Int) := Int.natCast_nonneg _
 have hml : me < L := by have := hdk.m1; rw [HWe.out, hl] at this; exact this
 have hyl : you < L := by have := hdk.y1; rw [HWe.out, hl] at this; exact this
 have hml2 : (me : Int) < (L : Int) := by omega
 have hyl2 : (you : Int) < (L : Int) := by omega
 have H16 : Hid (WL ≤ 16) := (show WL ≤ 16 from nodT_le hnd)
 have H17 : Hid (L ≤ 17) := (show L ≤ 17 from by have := H16.out; omega)
 have HWL : Hid (WL = L) := hl
 obtain ⟨b, off, rfl, -⟩ := HM.out.at (i := you) (by rw [HLe.out]; exact hyl)
 have HRy : Hid (∀ X, Below w.heap.size w X → ∀ i, i < L → X.rangeAt b (off + i * 7) (fs.getD i fl0).cs) := fun X hX i hi => by
  obtain ⟨b', off', e', h'⟩ := (HM.out.still hX).at (i := i) (by rw [HLe.out]; exact hi)
  simp only [Option.some.injEq, Addr.mk.injEq, and_true] at e'
  rw [e'.1, e'.2]
  exact h'
 have HEl : Hid (∀ X, Below w.heap.size w X → ∀ i, i < L → (fs.getD i fl0).Rd X) := fun X hX i hi => (HM.out.still hX).el i (by rw [HLe.out]; exact hi)
 clear hdk hl e3 e1 e2 hnd hnd2 HIx HAn BAD HNo HP1 HP2
 go_upto_region 5 with (first
  | (go_at_call 37; refine (HAy.out Hnd.out).mono ?_; rintro e V3 ⟨rfl, hv3⟩; have BV3 : Hid (Below w.heap.size w V3) := hv3; clear hv3)
  | (go_at_call 30; refine (HJn.out H17.out V3 BV3.out).mono ?_; rintro e V4 ⟨bb, ja, jn, jc, ev, rfl, hq4, hv4⟩; have HQ4 : Hid (JQ fs V3 V4 bb ja jn jc ev) := hq4; have BV4 : Hid (Below V3.heap.size V3 V4) := hv4; clear hq4 hv4)
  | (refine wl_allocZ rfl 79 rfl zEnd ?_; intro V5 k5 b5 s5; have K5 : Hid _ := k5; have BV5 : Hid (Below V4.heap.size V4 V5) := b5; clear k5 b5 s5)
  | (refine wl_storeZ rfl 79 _ _ rfl (L := endV bb ja jn jc) rfl rfl K5.out info_end rfl (endV_one _ _ _ _) ?_; intro V6 h6 hk6; have H6 : Hid _ := h6; have HK6 : Hid _ := hk6; clear h6 hk6)
  | fail)
 generalize heb : V4.heap.size = eb at *
 have Heb : Hid (V4.heap.size = eb) := heb
 have HJQ : Hid (JQ fs V3 V6 bb ja jn jc ev) := ⟨HQ4.out.e, fun h0 => by
  obtain ⟨q1, q2, ss, q3, q4⟩ := HQ4.out.k h0
  exact ⟨q1, q2, ss, q3, own_ne (own_still q4 (by rw [heb]; exact BV5.out)) K5.out (by decide) HK6.out⟩⟩
 have BV6 : Hid (Below w.heap.size w V6) := (show Below w.heap.size w V6 from by
  have h1 := bstep BV3.out BV4.out
  have h2 : Below w.heap.size w V5 := bstep h1 (by rw [heb]; exact BV5.out)
  exact h2.trans (HK6.out.below h2.size (fun k hk e => by
   have := h1.size
   rw [heb] at this
   omega)))
 clear heb HQ4 BV4 BV5 K5 HK6 HJn HAy
 by_cases h0 : ev = 0
 rotate_left
 ·have h0' : (ev == 0) = false := by simpa using h0
  have HS : Hid (DuS (cos fs) who sf q ev []) := .inr ⟨me, you, HDk.out, .inl ⟨by rw [← HJQ.out.e]; exact h0, HJQ.out.e, rfl⟩⟩
  clear h0
  go_wp2
  go_ret2
  exact ⟨none, 0, [], ev, rfl, HS.out, ⟨rfl, .inl ⟨rfl, rfl⟩⟩, BV6.out⟩
 subst h0
 obtain ⟨rfl, hEn, ss, hsl, hown⟩ := HJQ.out.k rfl
 have HTe : Hid (togE (cos fs) = 0) := HJQ.out.e.symm
 have HT : Hid (Tog (cos fs)) := tog_of HTe.out
 have HEn : Hid (Ends (cos fs) jn) := hEn
 have HSl : Hid (SlOf (cos fs) jn ss) := hsl
 have HOw : Hid (V6.ownsRow w.heap.size 76 2 (.slice ja jn jc) jn (slCells ss)) := own_lower hown BV3.out.size
 have HDS : Hid (DuS (cos fs) who sf q 0 (pick (duP (cos fs) who sf me you) ss)) := .inr ⟨me, you, HDk.out, .inr ⟨HTe.out, rfl, jn, ss, HEn.out, HSl.out, rfl⟩⟩
 have HsP : Hid (∀ i, i < ss.length → ∀ j, j < L → 0 ≤ (ss.getD i z2).1 ∧ (ss.getD i z2).1 < (fs.getD j fl0).c.hv.length) := fun i hi j hj => by
  have h1 := HSl.out.2 i (by rw [← HSl.out.1]; exact hi)
  have h2 := tog_pair HT.out ((atP_iff HT.out.con _ _).1 h1)
  have h3 := HT.out.len j (by rw [Hcl.out]; exact hj)
  rw [cos_at] at h3
  rw [h3]
  exact ⟨h2.2.2.2.1, h2.2.2.2.2.1⟩
 have Hn128 : Hid (jn ≤ 128) := Ends.le HT.out HEn.out.1
 have HBs : Hid (baseOf (cos fs) = baseOf (cos fs)) := rfl
 have HlH : Hid (∀ s, hasA (cos (lowF fs who sf L)) s = lowB (cos fs) who sf s) := fun s => by
  have := lowF_has fs who sf s
  rwa [HLe.out] at this
 generalize baseOf (cos fs) = bs at *
 clear HJQ hEn hsl hown HBs HTe
 obtain ⟨ii, ihi, ihz0, ihz1, ihz2⟩ := flush_info
 go_upto_region 8 with fail
 go_wp2
 go_loopw [14, 59] (fun lv i wr => ∃ c : Nat, c ≤ WL ∧ i = .int .i64 c ∧ wr.ownsRow V6.heap.size 28 7 lv (lowF fs who sf c).length (flCells (lowF fs who sf c)) ∧ Below V6.heap.size V6 wr) (fun _ i _ => WL - (intOf i).toNat)
 case atStart => exact ⟨0, Nat.zero_le _, rfl, ⟨rfl, .inl ⟨rfl, rfl⟩⟩, Below.refl _ _⟩
 case round =>
  obtain ⟨c, hc, rfl, ho, hb⟩ := hrel
  have HO : Hid (wr.ownsRow V6.heap.size 28 7 u14 (lowF fs who sf c).length (flCells (lowF fs who sf c))) := ho
  have HBr : Hid (Below V6.heap.size V6 wr) := hb
  have HB : Hid (Below w.heap.size w wr) := bstep BV6.out hb
  clear ho hb
  have i1 : (0 : Int) ≤ (c : Int) := Int.natCast_nonneg _
  by_cases hlt : c < WL
  ·have i2 : (c : Int) < (WL : Int) := by omega
   have i3 : (c : Int) < (L : Int) := by have := HWL.out; omega
   have hcL : c < L := by have := HWL.out; omega
   obtain ⟨wb, wo, rfl, hcw⟩ := (HWh.out.still HB.out).at (i := c) (by rw [HWe.out]; exact hlt)
   have hfl := lowF_len fs who sf c
   have h16 : c ≤ 16 := by have := H16.out; omega
   have HC : Hid (wr.rangeAt b (off + c * 7) (fs.getD c fl0).cs) := HRy.out wr HB.out c hcL
   by_cases hy : who.getD c 0 < sf
   ·have HY : Hid (lowF fs who sf (c + 1) = lowF fs who sf c ++ [fs.getD c fl0]) := lowF_yes hy
    generalize who.getD c 0 = y at *
    generalize hff : fs.getD c fl0 = f at HC HY
    clear hff
    have Hl7 : Hid (f.cs.length = 7) := rfl
    go_wp2_with (first
     | (refine load_mid 28 (.tmp 70) HC.out _ Try.underlying28 rfl (by rw [Hl7.out]; exact info_flush) rfl rfl rfl ?_)
     | (refine wl_bsl rfl 22 28 1 _ rfl Try.underlying22 f.cs.toArray (bsl_eq (by kernel_rfl) (bFl f)) ?_; intro Z1 kz1 bz1 sz1; have KZ1 : Hid _ := kz1; have BZ1 : Hid _ := bz1; clear kz1 bz1 sz1)
     | (refine app_g rfl _ _ 22 rfl V6.heap.size 28 ii (.agg #[.int .i64 0, .int .i64 0, .int .i64 0, .int .i64 0, .int .i64 0, .slice none 0 0, .slice none 0 0]) 7 88 Try.underlying22 ihi ihz0 ihz1 ihz2 rfl (by omega) u14 (lowF fs who sf c).length (flCells (lowF fs who sf c)) rfl (own_still HO.out BZ1.out) (some ⟨wr.heap.size, 0, none⟩) 1 1 f.cs rfl (fun h => by cases h) rfl (fun ad had j u hu => by cases had; rw [Addr.add_lit, Nat.zero_add, blk_cell KZ1.out]; simpa using hu) (by intro u hu; simp only [Fl.cs, List.mem_cons, List.not_mem_nil, or_false] at hu; rcases hu with rfl | rfl | rfl | rfl | rfl | rfl | rfl <;> rfl) (by unfold maxLen; omega) (by omega) (bstep HBr.out BZ1.out).size ?_; intro v2 Z2 ho2 hk2 hob2)
     | fail)
    have HO2 : Hid (Z2.ownsRow V6.heap.size 28 7 v2 (lowF fs who sf (c + 1)).length (flCells (lowF fs who sf (c + 1)))) := (show _ from by
     rw [HY.out, flCells_app, List.length_append]
     exact ho2.out)
    refine ⟨⟨c + 1, by omega, by go_num, HO2.out, ?_⟩, by simp [intOf]; omega⟩
    have hz := bstep HBr.out BZ1.out
    refine hz.trans (hk2.out.below hz.size (fun k hk e => ?_))
    have := (row_cells (own_still HO.out BZ1.out) e).1
    omega
   ·have HN : Hid (lowF fs who sf (c + 1) = lowF fs who sf c) := lowF_no hy
    have hyb : ¬ who.getD c 0 < sf := hy
    generalize who.getD c 0 = y at *
    go_wp2
    refine ⟨⟨c + 1, by omega, by go_num, ?_, HBr.out⟩, by simp [intOf]; omega⟩
    rw [HN.out]
    exact HO.out
  ·obtain rfl : c = WL := by omega
   clear hlt hc i1
   have HOl : Hid (wr.ownsRow V6.heap.size 28 7 u14 (lowF fs who sf L).length (flCells (lowF fs who sf L))) := (show _ from by
    have := HO.out
    rwa [HWL.out] at this)
   obtain ⟨la, lc, hlv⟩ : ∃ la lc, u14 = .slice la (lowF fs who sf L).length lc := by
    rcases own_two HOl.out with ⟨e, h0⟩ | ⟨g, c, e, _⟩
    ·exact ⟨none, 0, by rw [h0]; exact e⟩
    ·exact ⟨_, _, e⟩
   subst hlv
   have HRl : Hid (RdFs wr la (lowF fs who sf L)) := ⟨own_row HOl.out (fun i hi => flCells_at _ i hi), fun i hi => by
    obtain ⟨k, hk, e⟩ := lowF_mem hi
    rw [e]
    exact HEl.out wr HB.out k hk⟩
   have HLn : Hid ((lowF fs who sf L).length ≤ 1000000000000000000) := (show (lowF fs who sf L).length ≤ 1000000000000000000 from by
    have h1 := lowF_len fs who sf L
    have h2 := H17.out
    omega)
   have HLm : Hid (∀ i, i < (lowF fs who sf L).length → ∃ k, k < L ∧ (lowF fs who sf L).getD i fl0 = fs.getD k fl0) := fun i hi => lowF_mem hi
   generalize lowF fs who sf L = lf at *
   clear HO HOl
   generalize hln9 : lf.length = ln at *
   have HLl : Hid (lf.length = ln) := hln9
   clear hln9
   have HBd : Hid (Below w.heap.size w wr.drew) := bstep HB.out (drew_bel wr)
   have HR1 : Hid (∀ X, Below wr.drew.heap.size wr.drew X → X.rangeAt b (off + me * 7) (fs.getD me fl0).cs) := fun X hX => HRy.out X (bstep HBd.out hX) me hml
   have HR2 : Hid (∀ X, Below wr.drew.heap.size wr.drew X → X.rangeAt b (off + you * 7) (fs.getD you fl0).cs) := fun X hX => HRy.out X (bstep HBd.out hX) you hyl
   have HE1 : Hid (∀ X, Below w.heap.size w X → (fs.getD me fl0).Rd X) := fun X hX => HEl.out X hX me hml
   have HE2 : Hid (∀ X, Below w.heap.size w X → (fs.getD you fl0).Rd X) := fun X hX => HEl.out X hX you hyl
   have HS1 : Hid (∀ i, i < ss.length → 0 ≤ (ss.getD i z2).1 ∧ (ss.getD i z2).1 < (fs.getD me fl0).c.hv.length) := fun i hi => HsP.out i hi me hml
   have HS2 : Hid (∀ i, i < ss.length → 0 ≤ (ss.getD i z2).1 ∧ (ss.getD i z2).1 < (fs.getD you fl0).c.hv.length) := fun i hi => HsP.out i hi you hyl
   have HPq : Hid (∀ s, (has (fs.getD me fl0).c s && !has (fs.getD you fl0).c s && !hasA (cos lf) s) = duP (cos fs) who sf me you s) := fun s => by
    unfold duP
    rw [cos_at, cos_at, HlH.out]
   generalize fs.getD me fl0 = f1 at *
   generalize fs.getD you fl0 = f2 at *
   clear HRy HEl
   go_upto_region 14 with fail
   generalize hlv : Value.slice la ln lc = lv at *
   have Hlv : Hid (Value.slice la ln lc = lv) := hlv
   clear hlv
   have HHl : Hid (∀ X : World, Calls Try.prog 32 #[lv] X fun e w' => e = .returned (.func (.func 61) #[] #[.pointer (some ⟨X.heap.size, 0, none⟩)]) ∧ Below X.heap.size X w' ∧ w'.heap[X.heap.size]? = some (.cells #[lv] 22 (0, 0))) := fun X => by
    rw [← Hlv.out]
    exact holder_any _ _ _
   go_cut [17, 18, 19] (fun p q r wx => Du3 wr.drew f1 f2 lv p q r wx)
   case first =>
    refine wp_region_held_drew (S := (fun w' => Below wr.drew.heap.size wr.drew w')) (by kernel_rfl) (Below.refl _ _) (fun hHeld => ?_)
    simp only [Act.put, List.size_toArray, List.length_cons, List.length_nil, Nat.zero_add]
    refine wG9 0 (.slice (some ⟨b, off, none⟩) L cp) rfl hHeld ?_
    simp only [Act.put,gA9,gZ9,gC9,sA9,sZ9,sC9]
    refine wG9 1 (.int .i64 (me : Int)) rfl hHeld ?_
    simp only [Act.put,gA9,gZ9,gC9,sA9,sZ9,sC9]
    refine wG9 2 (.pointer (some ⟨b, off + me * 7, none⟩)) rfl hHeld ?_
    simp only [Act.put,gA9,gZ9,gC9,sA9,sZ9,sC9]
    refine wpAnyH_take (i := 3) (v := .agg f1.cs.toArray) rfl (by kernel_rfl) (by kernel_rfl) (by kernel_rfl) (fun _ _ _ h => h) (yieldsIf_load_mid (by rfl) 28 (.tmp 77) rfl b (off + me * 7) (by rfl) f1.cs _ (fun w' hS => HR1.out w' hS) Try.underlying28 rfl info_flush) hHeld ?_
    simp only [Act.put,gA9,gZ9,gC9,sA9,sZ9,sC9]
    refine wG9 6 (.slice (some ⟨b, off, none⟩) L cp) rfl hHeld ?_
    simp only [Act.put,gA9,gZ9,gC9,sA9,sZ9,sC9]
    refine wG9 7 (.int .i64 (you : Int)) rfl hHeld ?_
    simp only [Act.put,gA9,gZ9,gC9,sA9,sZ9,sC9]
    refine wG9 8 (.pointer (some ⟨b, off + you * 7, none⟩)) rfl hHeld ?_
    simp only [Act.put,gA9,gZ9,gC9,sA9,sZ9,sC9]
    refine wpAnyH_take (i := 9) (v := .agg f2.cs.toArray) rfl (by kernel_rfl) (by kernel_rfl) (by kernel_rfl) (fun _ _ _ h => h) (yieldsIf_load_mid (by rfl) 28 (.tmp 83) rfl b (off + you * 7) (by rfl) f2.cs _ (fun w' hS => HR2.out w' hS) Try.underlying28 rfl info_flush) hHeld ?_
    simp only [Act.put,gA9,gZ9,gC9,sA9,sZ9,sC9]
    refine wG9 12 lv rfl hHeld ?_
    simp only [Act.put,gA9,gZ9,gC9,sA9,sZ9,sC9]
    refine dag_in (fun Wp a0 hWp ha0 => ?_)
    clear hHeld
    have P11111111 : Hid (∀ x4 x5 x10 x11 x13 x14 x15 x16 w1, Cd wr.drew f1 f2 lv true true true true true true true true x4 x5 x10 x11 x13 x14 x15 x16 w1 → Wp 3 #[true, true, true, true, true, true, true, true, true, true, true, true, true, true, true, true, true, false, false, false] (put8 a0 x4 x5 x10 x11 x13 x14 x15 x16) w1) := (show ∀ x4 x5 x10 x11 x13 x14 x15 x16 w1, Cd wr.drew f1 f2 lv true true true true true true true true x4 x5 x10 x11 x13 x14 x15 x16 w1 → Wp 3 #[true, true, true, true, true, true, true, true, true, true, true, true, true, true, true, true, true, false, false, false] (put8 a0 x4 x5 x10 x11 x13 x14 x15 x16) w1 from by
     intro x4 x5 x10 x11 x13 x14 x15 x16 w1 hc
     rw [hWp.out, ha0.out]
     simp only [put8, List.setIfInBounds_toArray, List.set_cons_zero, List.set_cons_succ]
     refine wpAnyH_ready (rs := [17]) (by kernel_rfl) (by simp) ?_
     refine AllReadyH.cons rfl (fun K hK => ?_) AllReadyH.nil
     obtain ⟨k1, rfl, l1, v1, q1⟩ := hc.h14 rfl
     obtain ⟨k2, rfl, l2, v2, q2⟩ := hc.h15 rfl
     obtain ⟨k3, rfl, l3, v3, q3⟩ := hc.h16 rfl
     have n1 : k1 ≠ k2 := hc.d1 rfl rfl k1 k2 rfl rfl
     have n2 : k1 ≠ k3 := hc.d2 rfl rfl k1 k3 rfl rfl
     have n3 : k2 ≠ k3 := hc.d3 rfl rfl k2 k3 rfl rfl
     have HF : Hid (Du3 wr.drew f1 f2 lv (.pointer (some ⟨k1, 0, none⟩)) (.pointer (some ⟨k2, 0, none⟩)) (.pointer (some ⟨k3, 0, none⟩)) (((w1.setCell ⟨k1, 0, none⟩ x5).setCell ⟨k2, 0, none⟩ x11).setCell ⟨k3, 0, none⟩ x13)) := hc.fin
     have b1 := bset hc.b l1 0 x5
     have b2 := bset b1 l2 0 x11
     have b3 := bset b2 l3 0 x13
     have q2' := obj_set (i := 0) (y := x5) q2 ⟨v1, q1⟩ (.inr n1.symm)
     have q3' := obj_set (i := 0) (y := x5) q3 ⟨v1, q1⟩ (.inr n2.symm)
     have q3'' := obj_set (i := 0) (y := x11) q3' ⟨v2, q2'⟩ (.inr n3.symm)
     obtain ⟨bb1, rfl⟩ : ∃ b, x5 = .func (.func 61) #[] #[.pointer (some ⟨b, 0, none⟩)] := by obtain ⟨g, ⟨b, e, _⟩, _⟩ := hc.h5 rfl; exact ⟨b, e⟩
     obtain ⟨bb2, rfl⟩ : ∃ b, x11 = .func (.func 61) #[] #[.pointer (some ⟨b, 0, none⟩)] := by obtain ⟨g, ⟨b, e, _⟩, _⟩ := hc.h11 rfl; exact ⟨b, e⟩
     obtain ⟨bb3, rfl⟩ : ∃ b, x13 = .func (.func 61) #[] #[.pointer (some ⟨b, 0, none⟩)] := by obtain ⟨b, e, _⟩ := hc.h13 rfl; exact ⟨b, e⟩
     refine step_store1 rfl 83 _ _ rfl rfl rfl q1 rfl oneFSB ?_
     refine hK.out _ _ b1 (fun hHeld => ?_)
     clear hK K hHeld
     refine wpAnyH_ready (rs := [18]) (by kernel_rfl) (by simp) ?_
     refine AllReadyH.cons rfl (fun K hK => ?_) AllReadyH.nil
     refine step_store1 rfl 83 _ _ rfl rfl rfl q2' rfl oneFSB ?_
     refine hK.out _ _ b2 (fun hHeld => ?_)
     clear hK K hHeld
     refine wpAnyH_ready (rs := [19]) (by kernel_rfl) (by simp) ?_
     refine AllReadyH.cons rfl (fun K hK => ?_) AllReadyH.nil
     refine step_store1 rfl 83 _ _ rfl rfl rfl q3'' rfl oneFSB ?_
     refine hK.out _ _ b3 (fun hHeld => ?_)
     clear hK K hHeld
     refine wpAnyH_done (by kernel_rfl) ?_ _
     go_wp2_with fail
     go_meet
     exact HF.out)
    have P11111110 : Hid (∀ x4 x5 x10 x11 x13 x14 x15 x16 w1, Cd wr.drew f1 f2 lv true true true true true true true false x4 x5 x10 x11 x13 x14 x15 x16 w1 → Wp 4 #[true, true, true, true, true, true, true, true, true, true, true, true, true, true, true, true, false, false, false, false] (put8 a0 x4 x5 x10 x11 x13 x14 x15 x16) w1) := (show ∀ x4 x5 x10 x11 x13 x14 x15 x16 w1, Cd wr.drew f1 f2 lv true true true true true true true false x4 x5 x10 x11 x13 x14 x15 x16 w1 → Wp 4 #[true, true, true, true, true, true, true, true, true, true, true, true, true, true, true, true, false, false, false, false] (put8 a0 x4 x5 x10 x11 x13 x14 x15 x16) w1 from by
     intro x4 x5 x10 x11 x13 x14 x15 x16 w1 hc
     rw [hWp.out, ha0.out]
     simp only [put8, List.setIfInBounds_toArray, List.set_cons_zero, List.set_cons_succ]
     refine wpAnyH_ready (rs := [16]) (by kernel_rfl) (by simp) ?_
     refine AllReadyH.cons rfl (fun K hK => ?_) AllReadyH.nil
     refine step_alloc1 rfl 83 rfl zFSB ?_
     intro w2 hk2 hb2
     refine hK.out _ _ (bstep hc.b hb2) (fun hHeld => ?_)
     clear hK K hHeld
     have hz := P11111111.out x4 x5 x10 x11 x13 x14 x15 (.pointer (some ⟨w1.heap.size, 0, none⟩)) w2 (hc.s16 hb2 hk2)
     rw [hWp.out, ha0.out] at hz
     simp only [put8, List.setIfInBounds_toArray, List.set_cons_zero, List.set_cons_succ] at hz
     exact hz)
    have P11111101 : Hid (∀ x4 x5 x10 x11 x13 x14 x15 x16 w1, Cd wr.drew f1 f2 lv true true true true true true false true x4 x5 x10 x11 x13 x14 x15 x16 w1 → Wp 4 #[true, true, true, true, true, true, true, true, true, true, true, true, true, true, true, false, true, false, false, false] (put8 a0 x4 x5 x10 x11 x13 x14 x15 x16) w1) := (show ∀ x4 x5 x10 x11 x13 x14 x15 x16 w1, Cd wr.drew f1 f2 lv true true true true true true false true x4 x5 x10 x11 x13 x14 x15 x16 w1 → Wp 4 #[true, true, true, true, true, true, true, true, true, true, true, true, true, true, true, false, true, false, false, false] (put8 a0 x4 x5 x10 x11 x13 x14 x15 x16) w1 from by
     intro x4 x5 x10 x11 x13 x14 x15 x16 w1 hc
     rw [hWp.out, ha0.out]
     simp only [put8, List.setIfInBounds_toArray, List.set_cons_zero, List.set_cons_succ]
     refine wpAnyH_ready (rs := [15]) (by kernel_rfl) (by simp) ?_
     refine AllReadyH.cons rfl (fun K hK => ?_) AllReadyH.nil
     refine step_alloc1 rfl 83 rfl zFSB ?_
     intro w2 hk2 hb2
     refine hK.out _ _ (bstep hc.b hb2) (fun hHeld => ?_)
     clear hK K hHeld
     have hz := P11111111.out x4 x5 x10 x11 x13 x14 (.pointer (some ⟨w1.heap.size, 0, none⟩)) x16 w2 (hc.s15 hb2 hk2)
     rw [hWp.out, ha0.out] at hz
     simp only [put8, List.setIfInBounds_toArray, List.set_cons_zero, List.set_cons_succ] at hz
     exact hz)
    have P11111011 : Hid (∀ x4 x5 x10 x11 x13 x14 x15 x16 w1, Cd wr.drew f1 f2 lv true true true true true false true true x4 x5 x10 x11 x13 x14 x15 x16 w1 → Wp 4 #[true, true, true, true, true, true, true, true, true, true, true, true, true, true, false, true, true, false, false, false] (put8 a0 x4 x5 x10 x11 x13 x14 x15 x16) w1) := (show ∀ x4 x5 x10 x11 x13 x14 x15 x16 w1, Cd wr.drew f1 f2 lv true true true true true false true true x4 x5 x10 x11 x13 x14 x15 x16 w1 → Wp 4 #[true, true, true, true, true, true, true, true, true, true, true, true, true, true, false, true, true, false, false, false] (put8 a0 x4 x5 x10 x11 x13 x14 x15 x16) w1 from by
     intro x4 x5 x10 x11 x13 x14 x15 x16 w1 hc
     rw [hWp.out, ha0.out]
     simp only [put8, List.setIfInBounds_toArray, List.set_cons_zero, List.set_cons_succ]
     refine wpAnyH_ready (rs := [14]) (by kernel_rfl) (by simp) ?_
     refine AllReadyH.cons rfl (fun K hK => ?_) AllReadyH.nil
     refine step_alloc1 rfl 83 rfl zFSB ?_
     intro w2 hk2 hb2
     refine hK.out _ _ (bstep hc.b hb2) (fun hHeld => ?_)
     clear hK K hHeld
     have hz := P11111111.out x4 x5 x10 x11 x13 (.pointer (some ⟨w1.heap.size, 0, none⟩)) x15 x16 w2 (hc.s14 hb2 hk2)
     rw [hWp.out, ha0.out] at hz
     simp only [put8, List.setIfInBounds_toArray, List.set_cons_zero, List.set_cons_succ] at hz
     exact hz)
    have P11110111 : Hid (∀ x4 x5 x10 x11 x13 x14 x15 x16 w1, Cd wr.drew f1 f2 lv true true true true false true true true x4 x5 x10 x11 x13 x14 x15 x16 w1 → Wp 4 #[true, true, true, true, true, true, true, true, true, true, true, true, true, false, true, true, true, false, false, false] (put8 a0 x4 x5 x10 x11 x13 x14 x15 x16) w1) := (show ∀ x4 x5 x10 x11 x13 x14 x15 x16 w1, Cd wr.drew f1 f2 lv true true true true false true true true x4 x5 x10 x11 x13 x14 x15 x16 w1 → Wp 4 #[true, true, true, true, true, true, true, true, true, true, true, true, true, false, true, true, true, false, false, false] (put8 a0 x4 x5 x10 x11 x13 x14 x15 x16) w1 from by
     intro x4 x5 x10 x11 x13 x14 x15 x16 w1 hc
     rw [hWp.out, ha0.out]
     simp only [put8, List.setIfInBounds_toArray, List.set_cons_zero, List.set_cons_succ]
     refine wpAnyH_ready (rs := [13]) (by kernel_rfl) (by simp) ?_
     refine AllReadyH.cons rfl (fun K hK => ?_) AllReadyH.nil
     go_simp
     refine (HHl.out _).mono ?_
     rintro e w2 ⟨rfl, hb2, hk2⟩
     refine hK.out _ _ (bstep hc.b hb2) (fun hHeld => ?_)
     clear hK K hHeld
     have hz := P11111111.out x4 x5 x10 x11 (.func (.func 61) #[] #[.pointer (some ⟨w1.heap.size, 0, none⟩)]) x14 x15 x16 w2 (hc.s13 hb2 hk2)
     rw [hWp.out, ha0.out] at hz
     simp only [put8, List.setIfInBounds_toArray, List.set_cons_zero, List.set_cons_succ] at hz
     exact hz)
    have P11111100 : Hid (∀ x4 x5 x10 x11 x13 x14 x15 x16 w1, Cd wr.drew f1 f2 lv true true true true true true false false x4 x5 x10 x11 x13 x14 x15 x16 w1 → Wp 5 #[true, true, true, true, true, true, true, true, true, true, true, true, true, true, true, false, false, false, false, false] (put8 a0 x4 x5 x10 x11 x13 x14 x15 x16) w1) := (show ∀ x4 x5 x10 x11 x13 x14 x15 x16 w1, Cd wr.drew f1 f2 lv true true true true true true false false x4 x5 x10 x11 x13 x14 x15 x16 w1 → Wp 5 #[true, true, true, true, true, true, true, true, true, true, true, true, true, true, true, false, false, false, false, false] (put8 a0 x4 x5 x10 x11 x13 x14 x15 x16) w1 from by
     intro x4 x5 x10 x11 x13 x14 x15 x16 w1 hc
     rw [hWp.out, ha0.out]
     simp only [put8, List.setIfInBounds_toArray, List.set_cons_zero, List.set_cons_succ]
     refine wpAnyH_ready (rs := [15, 16]) (by kernel_rfl) (by simp) ?_
     refine AllReadyH.cons rfl (fun K hK => ?_) (AllReadyH.cons rfl (fun K hK => ?_) AllReadyH.nil)
     ·refine step_alloc1 rfl 83 rfl zFSB ?_
      intro w2 hk2 hb2
      refine hK.out _ _ (bstep hc.b hb2) (fun hHeld => ?_)
      clear hK K hHeld
      have hz := P11111110.out x4 x5 x10 x11 x13 x14 (.pointer (some ⟨w1.heap.size, 0, none⟩)) x16 w2 (hc.s15 hb2 hk2)
      rw [hWp.out, ha0.out] at hz
      simp only [put8, List.setIfInBounds_toArray, List.set_cons_zero, List.set_cons_succ] at hz
      exact hz
     ·refine step_alloc1 rfl 83 rfl zFSB ?_
      intro w2 hk2 hb2
      refine hK.out _ _ (bstep hc.b hb2) (fun hHeld => ?_)
      clear hK K hHeld
      have hz := P11111101.out x4 x5 x10 x11 x13 x14 x15 (.pointer (some ⟨w1.heap.size, 0, none⟩)) w2 (hc.s16 hb2 hk2)
      rw [hWp.out, ha0.out] at hz
      simp only [put8, List.setIfInBounds_toArray, List.set_cons_zero, List.set_cons_succ] at hz
      exact hz)
    have P11111010 : Hid (∀ x4 x5 x10 x11 x13 x14 x15 x16 w1, Cd wr.drew f1 f2 lv true true true true true false true false x4 x5 x10 x11 x13 x14 x15 x16 w1 → Wp 5 #[true, true, true, true, true, true, true, true, true, true, true, true, true, true, false, true, false, false, false, false] (put8 a0 x4 x5 x10 x11 x13 x14 x15 x16) w1) := (show ∀ x4 x5 x10 x11 x13 x14 x15 x16 w1, Cd wr.drew f1 f2 lv true true true true true false true false x4 x5 x10 x11 x13 x14 x15 x16 w1 → Wp 5 #[true, true, true, true, true, true, true, true, true, true, true, true, true, true, false, true, false, false, false, false] (put8 a0 x4 x5 x10 x11 x13 x14 x15 x16) w1 from by
     intro x4 x5 x10 x11 x13 x14 x15 x16 w1 hc
     rw [hWp.out, ha0.out]
     simp only [put8, List.setIfInBounds_toArray, List.set_cons_zero, List.set_cons_succ]
     refine wpAnyH_ready (rs := [14, 16]) (by kernel_rfl) (by simp) ?_
     refine AllReadyH.cons rfl (fun K hK => ?_) (AllReadyH.cons rfl (fun K hK => ?_) AllReadyH.nil)
     ·refine step_alloc1 rfl 83 rfl zFSB ?_
      intro w2 hk2 hb2
      refine hK.out _ _ (bstep hc.b hb2) (fun hHeld => ?_)
      clear hK K hHeld
      have hz := P11111110.out x4 x5 x10 x11 x13 (.pointer (some ⟨w1.heap.size, 0, none⟩)) x15 x16 w2 (hc.s14 hb2 hk2)
      rw [hWp.out, ha0.out] at hz
      simp only [put8, List.setIfInBounds_toArray, List.set_cons_zero, List.set_cons_succ] at hz
      exact hz
     ·refine step_alloc1 rfl 83 rfl zFSB ?_
      intro w2 hk2 hb2
      refine hK.out _ _ (bstep hc.b hb2) (fun hHeld => ?_)
      clear hK K hHeld
      have hz := P11111011.out x4 x5 x10 x11 x13 x14 x15 (.pointer (some ⟨w1.heap.size, 0, none⟩)) w2 (hc.s16 hb2 hk2)
      rw [hWp.out, ha0.out] at hz
      simp only [put8, List.setIfInBounds_toArray, List.set_cons_zero, List.set_cons_succ] at hz
      exact hz)
    have P11111001 : Hid (∀ x4 x5 x10 x11 x13 x14 x15 x16 w1, Cd wr.drew f1 f2 lv true true true true true false false true x4 x5 x10 x11 x13 x14 x15 x16 w1 → Wp 5 #[true, true, true, true, true, true, true, true, true, true, true, true, true, true, false, false, true, false, false, false] (put8 a0 x4 x5 x10 x11 x13 x14 x15 x16) w1) := (show ∀ x4 x5 x10 x11 x13 x14 x15 x16 w1, Cd wr.drew f1 f2 lv true true true true true false false true x4 x5 x10 x11 x13 x14 x15 x16 w1 → Wp 5 #[true, true, true, true, true, true, true, true, true, true, true, true, true, true, false, false, true, false, false, false] (put8 a0 x4 x5 x10 x11 x13 x14 x15 x16) w1 from by
     intro x4 x5 x10 x11 x13 x14 x15 x16 w1 hc
     rw [hWp.out, ha0.out]
     simp only [put8, List.setIfInBounds_toArray, List.set_cons_zero, List.set_cons_succ]
     refine wpAnyH_ready (rs := [14, 15]) (by kernel_rfl) (by simp) ?_
     refine AllReadyH.cons rfl (fun K hK => ?_) (AllReadyH.cons rfl (fun K hK => ?_) AllReadyH.nil)
     ·refine step_alloc1 rfl 83 rfl zFSB ?_
      intro w2 hk2 hb2
      refine hK.out _ _ (bstep hc.b hb2) (fun hHeld => ?_)
      clear hK K hHeld
      have hz := P11111101.out x4 x5 x10 x11 x13 (.pointer (some ⟨w1.heap.size, 0, none⟩)) x15 x16 w2 (hc.s14 hb2 hk2)
      rw [hWp.out, ha0.out] at hz
      simp only [put8, List.setIfInBounds_toArray, List.set_cons_zero, List.set_cons_succ] at hz
      exact hz
     ·refine step_alloc1 rfl 83 rfl zFSB ?_
      intro w2 hk2 hb2
      refine hK.out _ _ (bstep hc.b hb2) (fun hHeld => ?_)
      clear hK K hHeld
      have hz := P11111011.out x4 x5 x10 x11 x13 x14 (.pointer (some ⟨w1.heap.size, 0, none⟩)) x16 w2 (hc.s15 hb2 hk2)
      rw [hWp.out, ha0.out] at hz
      simp only [put8, List.setIfInBounds_toArray, List.set_cons_zero, List.set_cons_succ] at hz
      exact hz)
    have P11110110 : Hid (∀ x4 x5 x10 x11 x13 x14 x15 x16 w1, Cd wr.drew f1 f2 lv true true true true false true true false x4 x5 x10 x11 x13 x14 x15 x16 w1 → Wp 5 #[true, true, true, true, true, true, true, true, true, true, true, true, true, false, true, true, false, false, false, false] (put8 a0 x4 x5 x10 x11 x13 x14 x15 x16) w1) := (show ∀ x4 x5 x10 x11 x13 x14 x15 x16 w1, Cd wr.drew f1 f2 lv true true true true false true true false x4 x5 x10 x11 x13 x14 x15 x16 w1 → Wp 5 #[true, true, true, true, true, true, true, true, true, true, true, true, true, false, true, true, false, false, false, false] (put8 a0 x4 x5 x10 x11 x13 x14 x15 x16) w1 from by
     intro x4 x5 x10 x11 x13 x14 x15 x16 w1 hc
     rw [hWp.out, ha0.out]
     simp only [put8, List.setIfInBounds_toArray, List.set_cons_zero, List.set_cons_succ]
     refine wpAnyH_ready (rs := [13, 16]) (by kernel_rfl) (by simp) ?_
     refine AllReadyH.cons rfl (fun K hK => ?_) (AllReadyH.cons rfl (fun K hK => ?_) AllReadyH.nil)
     ·go_simp
      refine (HHl.out _).mono ?_
      rintro e w2 ⟨rfl, hb2, hk2⟩
      refine hK.out _ _ (bstep hc.b hb2) (fun hHeld => ?_)
      clear hK K hHeld
      have hz := P11111110.out x4 x5 x10 x11 (.func (.func 61) #[] #[.pointer (some ⟨w1.heap.size, 0, none⟩)]) x14 x15 x16 w2 (hc.s13 hb2 hk2)
      rw [hWp.out, ha0.out] at hz
      simp only [put8, List.setIfInBounds_toArray, List.set_cons_zero, List.set_cons_succ] at hz
      exact hz
     ·refine step_alloc1 rfl 83 rfl zFSB ?_
      intro w2 hk2 hb2
      refine hK.out _ _ (bstep hc.b hb2) (fun hHeld => ?_)
      clear hK K hHeld
      have hz := P11110111.out x4 x5 x10 x11 x13 x14 x15 (.pointer (some ⟨w1.heap.size, 0, none⟩)) w2 (hc.s16 hb2 hk2)
      rw [hWp.out, ha0.out] at hz
      simp only [put8, List.setIfInBounds_toArray, List.set_cons_zero, List.set_cons_succ] at hz
      exact hz)
    have P11110101 : Hid (∀ x4 x5 x10 x11 x13 x14 x15 x16 w1, Cd wr.drew f1 f2 lv true true true true false true false true x4 x5 x10 x11 x13 x14 x15 x16 w1 → Wp 5 #[true, true, true, true, true, true, true, true, true, true, true, true, true, false, true, false, true, false, false, false] (put8 a0 x4 x5 x10 x11 x13 x14 x15 x16) w1) := (show ∀ x4 x5 x10 x11 x13 x14 x15 x16 w1, Cd wr.drew f1 f2 lv true true true true false true false true x4 x5 x10 x11 x13 x14 x15 x16 w1 → Wp 5 #[true, true, true, true, true, true, true, true, true, true, true, true, true, false, true, false, true, false, false, false] (put8 a0 x4 x5 x10 x11 x13 x14 x15 x16) w1 from by
     intro x4 x5 x10 x11 x13 x14 x15 x16 w1 hc
     rw [hWp.out, ha0.out]
     simp only [put8, List.setIfInBounds_toArray, List.set_cons_zero, List.set_cons_succ]
     refine wpAnyH_ready (rs := [13, 15]) (by kernel_rfl) (by simp) ?_
     refine AllReadyH.cons rfl (fun K hK => ?_) (AllReadyH.cons rfl (fun K hK => ?_) AllReadyH.nil)
     ·go_simp
      refine (HHl.out _).mono ?_
      rintro e w2 ⟨rfl, hb2, hk2⟩
      refine hK.out _ _ (bstep hc.b hb2) (fun hHeld => ?_)
      clear hK K hHeld
      have hz := P11111101.out x4 x5 x10 x11 (.func (.func 61) #[] #[.pointer (some ⟨w1.heap.size, 0, none⟩)]) x14 x15 x16 w2 (hc.s13 hb2 hk2)
      rw [hWp.out, ha0.out] at hz
      simp only [put8, List.setIfInBounds_toArray, List.set_cons_zero, List.set_cons_succ] at hz
      exact hz
     ·refine step_alloc1 rfl 83 rfl zFSB ?_
      intro w2 hk2 hb2
      refine hK.out _ _ (bstep hc.b hb2) (fun hHeld => ?_)
      clear hK K hHeld
      have hz := P11110111.out x4 x5 x10 x11 x13 x14 (.pointer (some ⟨w1.heap.size, 0, none⟩)) x16 w2 (hc.s15 hb2 hk2)
      rw [hWp.out, ha0.out] at hz
      simp only [put8, List.setIfInBounds_toArray, List.set_cons_zero, List.set_cons_succ] at hz
      exact hz)
    have P11110011 : Hid (∀ x4 x5 x10 x11 x13 x14 x15 x16 w1, Cd wr.drew f1 f2 lv true true true true false false true true x4 x5 x10 x11 x13 x14 x15 x16 w1 → Wp 5 #[true, true, true, true, true, true, true, true, true, true, true, true, true, false, false, true, true, false, false, false] (put8 a0 x4 x5 x10 x11 x13 x14 x15 x16) w1) := (show ∀ x4 x5 x10 x11 x13 x14 x15 x16 w1, Cd wr.drew f1 f2 lv true true true true false false true true x4 x5 x10 x11 x13 x14 x15 x16 w1 → Wp 5 #[true, true, true, true, true, true, true, true, true, true, true, true, true, false, false, true, true, false, false, false] (put8 a0 x4 x5 x10 x11 x13 x14 x15 x16) w1 from by
     intro x4 x5 x10 x11 x13 x14 x15 x16 w1 hc
     rw [hWp.out, ha0.out]
     simp only [put8, List.setIfInBounds_toArray, List.set_cons_zero, List.set_cons_succ]
     refine wpAnyH_ready (rs := [13, 14]) (by kernel_rfl) (by simp) ?_
     refine AllReadyH.cons rfl (fun K hK => ?_) (AllReadyH.cons rfl (fun K hK => ?_) AllReadyH.nil)
     ·go_simp
      refine (HHl.out _).mono ?_
      rintro e w2 ⟨rfl, hb2, hk2⟩
      refine hK.out _ _ (bstep hc.b hb2) (fun hHeld => ?_)
      clear hK K hHeld
      have hz := P11111011.out x4 x5 x10 x11 (.func (.func 61) #[] #[.pointer (some ⟨w1.heap.size, 0, none⟩)]) x14 x15 x16 w2 (hc.s13 hb2 hk2)
      rw [hWp.out, ha0.out] at hz
      simp only [put8, List.setIfInBounds_toArray, List.set_cons_zero, List.set_cons_succ] at hz
      exact hz
     ·refine step_alloc1 rfl 83 rfl zFSB ?_
      intro w2 hk2 hb2
      refine hK.out _ _ (bstep hc.b hb2) (fun hHeld => ?_)
      clear hK K hHeld
      have hz := P11110111.out x4 x5 x10 x11 x13 (.pointer (some ⟨w1.heap.size, 0, none⟩)) x15 x16 w2 (hc.s14 hb2 hk2)
      rw [hWp.out, ha0.out] at hz
      simp only [put8, List.setIfInBounds_toArray, List.set_cons_zero, List.set_cons_succ] at hz
      exact hz)
    have P11100111 : Hid (∀ x4 x5 x10 x11 x13 x14 x15 x16 w1, Cd wr.drew f1 f2 lv true true true false false true true true x4 x5 x10 x11 x13 x14 x15 x16 w1 → Wp 5 #[true, true, true, true, true, true, true, true, true, true, true, false, true, false, true, true, true, false, false, false] (put8 a0 x4 x5 x10 x11 x13 x14 x15 x16) w1) := (show ∀ x4 x5 x10 x11 x13 x14 x15 x16 w1, Cd wr.drew f1 f2 lv true true true false false true true true x4 x5 x10 x11 x13 x14 x15 x16 w1 → Wp 5 #[true, true, true, true, true, true, true, true, true, true, true, false, true, false, true, true, true, false, false, false] (put8 a0 x4 x5 x10 x11 x13 x14 x15 x16) w1 from by
     intro x4 x5 x10 x11 x13 x14 x15 x16 w1 hc
     rw [hWp.out, ha0.out]
     simp only [put8, List.setIfInBounds_toArray, List.set_cons_zero, List.set_cons_succ]
     refine wpAnyH_ready (rs := [11]) (by kernel_rfl) (by simp) ?_
     refine AllReadyH.cons rfl (fun K hK => ?_) AllReadyH.nil
     obtain ⟨g, rfl, hg⟩ := hc.h10 rfl
     go_simp
     refine (holder_any (some ⟨g, 0, none⟩) 1 1).mono ?_
     rintro e w2 ⟨rfl, hb2, hk2⟩
     refine hK.out _ _ (bstep hc.b hb2) (fun hHeld => ?_)
     clear hK K hHeld
     have hz := P11110111.out x4 x5 (.slice (some ⟨g, 0, none⟩) 1 1) (.func (.func 61) #[] #[.pointer (some ⟨w1.heap.size, 0, none⟩)]) x13 x14 x15 x16 w2 (hc.s11 hb2 hk2)
     rw [hWp.out, ha0.out] at hz
     simp only [put8, List.setIfInBounds_toArray, List.set_cons_zero, List.set_cons_succ] at hz
     exact hz)
    have P11111000 : Hid (∀ x4 x5 x10 x11 x13 x14 x15 x16 w1, Cd wr.drew f1 f2 lv true true true true true false false false x4 x5 x10 x11 x13 x14 x15 x16 w1 → Wp 6 #[true, true, true, true, true, true, true, true, true, true, true, true, true, true, false, false, false, false, false, false] (put8 a0 x4 x5 x10 x11 x13 x14 x15 x16) w1) := (show ∀ x4 x5 x10 x11 x13 x14 x15 x16 w1, Cd wr.drew f1 f2 lv true true true true true false false false x4 x5 x10 x11 x13 x14 x15 x16 w1 → Wp 6 #[true, true, true, true, true, true, true, true, true, true, true, true, true, true, false, false, false, false, false, false] (put8 a0 x4 x5 x10 x11 x13 x14 x15 x16) w1 from by
     intro x4 x5 x10 x11 x13 x14 x15 x16 w1 hc
     rw [hWp.out, ha0.out]
     simp only [put8, List.setIfInBounds_toArray, List.set_cons_zero, List.set_cons_succ]
     refine wpAnyH_ready (rs := [14, 15, 16]) (by kernel_rfl) (by simp) ?_
     refine AllReadyH.cons rfl (fun K hK => ?_) (AllReadyH.cons rfl (fun K hK => ?_) (AllReadyH.cons rfl (fun K hK => ?_) AllReadyH.nil))
     ·refine step_alloc1 rfl 83 rfl zFSB ?_
      intro w2 hk2 hb2
      refine hK.out _ _ (bstep hc.b hb2) (fun hHeld => ?_)
      clear hK K hHeld
      have hz := P11111100.out x4 x5 x10 x11 x13 (.pointer (some ⟨w1.heap.size, 0, none⟩)) x15 x16 w2 (hc.s14 hb2 hk2)
      rw [hWp.out, ha0.out] at hz
      simp only [put8, List.setIfInBounds_toArray, List.set_cons_zero, List.set_cons_succ] at hz
      exact hz
     ·refine step_alloc1 rfl 83 rfl zFSB ?_
      intro w2 hk2 hb2
      refine hK.out _ _ (bstep hc.b hb2) (fun hHeld => ?_)
      clear hK K hHeld
      have hz := P11111010.out x4 x5 x10 x11 x13 x14 (.pointer (some ⟨w1.heap.size, 0, none⟩)) x16 w2 (hc.s15 hb2 hk2)
      rw [hWp.out, ha0.out] at hz
      simp only [put8, List.setIfInBounds_toArray, List.set_cons_zero, List.set_cons_succ] at hz
      exact hz
     ·refine step_alloc1 rfl 83 rfl zFSB ?_
      intro w2 hk2 hb2
      refine hK.out _ _ (bstep hc.b hb2) (fun hHeld => ?_)
      clear hK K hHeld
      have hz := P11111001.out x4 x5 x10 x11 x13 x14 x15 (.pointer (some ⟨w1.heap.size, 0, none⟩)) w2 (hc.s16 hb2 hk2)
      rw [hWp.out, ha0.out] at hz
      simp only [put8, List.setIfInBounds_toArray, List.set_cons_zero, List.set_cons_succ] at hz
      exact hz)
    have P11110100 : Hid (∀ x4 x5 x10 x11 x13 x14 x15 x16 w1, Cd wr.drew f1 f2 lv true true true true false true false false x4 x5 x10 x11 x13 x14 x15 x16 w1 → Wp 6 #[true, true, true, true, true, true, true, true, true, true, true, true, true, false, true, false, false, false, false, false] (put8 a0 x4 x5 x10 x11 x13 x14 x15 x16) w1) := (show ∀ x4 x5 x10 x11 x13 x14 x15 x16 w1, Cd wr.drew f1 f2 lv true true true true false true false false x4 x5 x10 x11 x13 x14 x15 x16 w1 → Wp 6 #[true, true, true, true, true, true, true, true, true, true, true, true, true, false, true, false, false, false, false, false] (put8 a0 x4 x5 x10 x11 x13 x14 x15 x16) w1 from by
     intro x4 x5 x10 x11 x13 x14 x15 x16 w1 hc
     rw [hWp.out, ha0.out]
     simp only [put8, List.setIfInBounds_toArray, List.set_cons_zero, List.set_cons_succ]
     refine wpAnyH_ready (rs := [13, 15, 16]) (by kernel_rfl) (by simp) ?_
     refine AllReadyH.cons rfl (fun K hK => ?_) (AllReadyH.cons rfl (fun K hK => ?_) (AllReadyH.cons rfl (fun K hK => ?_) AllReadyH.nil))
     ·go_simp
      refine (HHl.out _).mono ?_
      rintro e w2 ⟨rfl, hb2, hk2⟩
      refine hK.out _ _ (bstep hc.b hb2) (fun hHeld => ?_)
      clear hK K hHeld
      have hz := P11111100.out x4 x5 x10 x11 (.func (.func 61) #[] #[.pointer (some ⟨w1.heap.size, 0, none⟩)]) x14 x15 x16 w2 (hc.s13 hb2 hk2)
      rw [hWp.out, ha0.out] at hz
      simp only [put8, List.setIfInBounds_toArray, List.set_cons_zero, List.set_cons_succ] at hz
      exact hz
     ·refine step_alloc1 rfl 83 rfl zFSB ?_
      intro w2 hk2 hb2
      refine hK.out _ _ (bstep hc.b hb2) (fun hHeld => ?_)
      clear hK K hHeld
      have hz := P11110110.out x4 x5 x10 x11 x13 x14 (.pointer (some ⟨w1.heap.size, 0, none⟩)) x16 w2 (hc.s15 hb2 hk2)
      rw [hWp.out, ha0.out] at hz
      simp only [put8, List.setIfInBounds_toArray, List.set_cons_zero, List.set_cons_succ] at hz
      exact hz
     ·refine step_alloc1 rfl 83 rfl zFSB ?_
      intro w2 hk2 hb2
      refine hK.out _ _ (bstep hc.b hb2) (fun hHeld => ?_)
      clear hK K hHeld
      have hz := P11110101.out x4 x5 x10 x11 x13 x14 x15 (.pointer (some ⟨w1.heap.size, 0, none⟩)) w2 (hc.s16 hb2 hk2)
      rw [hWp.out, ha0.out] at hz
      simp only [put8, List.setIfInBounds_toArray, List.set_cons_zero, List.set_cons_succ] at hz
      exact hz)
    have P11110010 : Hid (∀ x4 x5 x10 x11 x13 x14 x15 x16 w1, Cd wr.drew f1 f2 lv true true true true false false true false x4 x5 x10 x11 x13 x14 x15 x16 w1 → Wp 6 #[true, true, true, true, true, true, true, true, true, true, true, true, true, false, false, true, false, false, false, false] (put8 a0 x4 x5 x10 x11 x13 x14 x15 x16) w1) := (show ∀ x4 x5 x10 x11 x13 x14 x15 x16 w1, Cd wr.drew f1 f2 lv true true true true false false true false x4 x5 x10 x11 x13 x14 x15 x16 w1 → Wp 6 #[true, true, true, true, true, true, true, true, true, true, true, true, true, false, false, true, false, false, false, false] (put8 a0 x4 x5 x10 x11 x13 x14 x15 x16) w1 from by
     intro x4 x5 x10 x11 x13 x14 x15 x16 w1 hc
     rw [hWp.out, ha0.out]
     simp only [put8, List.setIfInBounds_toArray, List.set_cons_zero, List.set_cons_succ]
     refine wpAnyH_ready (rs := [13, 14, 16]) (by kernel_rfl) (by simp) ?_
     refine AllReadyH.cons rfl (fun K hK => ?_) (AllReadyH.cons rfl (fun K hK => ?_) (AllReadyH.cons rfl (fun K hK => ?_) AllReadyH.nil))
     ·go_simp
      refine (HHl.out _).mono ?_
      rintro e w2 ⟨rfl, hb2, hk2⟩
      refine hK.out _ _ (bstep hc.b hb2) (fun hHeld => ?_)
      clear hK K hHeld
      have hz := P11111010.out x4 x5 x10 x11 (.func (.func 61) #[] #[.pointer (some ⟨w1.heap.size, 0, none⟩)]) x14 x15 x16 w2 (hc.s13 hb2 hk2)
      rw [hWp.out, ha0.out] at hz
      simp only [put8, List.setIfInBounds_toArray, List.set_cons_zero, List.set_cons_succ] at hz
      exact hz
     ·refine step_alloc1 rfl 83 rfl zFSB ?_
      intro w2 hk2 hb2
      refine hK.out _ _ (bstep hc.b hb2) (fun hHeld => ?_)
      clear hK K hHeld
      have hz := P11110110.out x4 x5 x10 x11 x13 (.pointer (some ⟨w1.heap.size, 0, none⟩)) x15 x16 w2 (hc.s14 hb2 hk2)
      rw [hWp.out, ha0.out] at hz
      simp only [put8, List.setIfInBounds_toArray, List.set_cons_zero, List.set_cons_succ] at hz
      exact hz
     ·refine step_alloc1 rfl 83 rfl zFSB ?_
      intro w2 hk2 hb2
      refine hK.out _ _ (bstep hc.b hb2) (fun hHeld => ?_)
      clear hK K hHeld
      have hz := P11110011.out x4 x5 x10 x11 x13 x14 x15 (.pointer (some ⟨w1.heap.size, 0, none⟩)) w2 (hc.s16 hb2 hk2)
      rw [hWp.out, ha0.out] at hz
      simp only [put8, List.setIfInBounds_toArray, List.set_cons_zero, List.set_cons_succ] at hz
      exact hz)
    have P11110001 : Hid (∀ x4 x5 x10 x11 x13 x14 x15 x16 w1, Cd wr.drew f1 f2 lv true true true true false false false true x4 x5 x10 x11 x13 x14 x15 x16 w1 → Wp 6 #[true, true, true, true, true, true, true, true, true, true, true, true, true, false, false, false, true, false, false, false] (put8 a0 x4 x5 x10 x11 x13 x14 x15 x16) w1) := (show ∀ x4 x5 x10 x11 x13 x14 x15 x16 w1, Cd wr.drew f1 f2 lv true true true true false false false true x4 x5 x10 x11 x13 x14 x15 x16 w1 → Wp 6 #[true, true, true, true, true, true, true, true, true, true, true, true, true, false, false, false, true, false, false, false] (put8 a0 x4 x5 x10 x11 x13 x14 x15 x16) w1 from by
     intro x4 x5 x10 x11 x13 x14 x15 x16 w1 hc
     rw [hWp.out, ha0.out]
     simp only [put8, List.setIfInBounds_toArray, List.set_cons_zero, List.set_cons_succ]
     refine wpAnyH_ready (rs := [13, 14, 15]) (by kernel_rfl) (by simp) ?_
     refine AllReadyH.cons rfl (fun K hK => ?_) (AllReadyH.cons rfl (fun K hK => ?_) (AllReadyH.cons rfl (fun K hK => ?_) AllReadyH.nil))
     ·go_simp
      refine (HHl.out _).mono ?_
      rintro e w2 ⟨rfl, hb2, hk2⟩
      refine hK.out _ _ (bstep hc.b hb2) (fun hHeld => ?_)
      clear hK K hHeld
      have hz := P11111001.out x4 x5 x10 x11 (.func (.func 61) #[] #[.pointer (some ⟨w1.heap.size, 0, none⟩)]) x14 x15 x16 w2 (hc.s13 hb2 hk2)
      rw [hWp.out, ha0.out] at hz
      simp only [put8, List.setIfInBounds_toArray, List.set_cons_zero, List.set_cons_succ] at hz
      exact hz
     ·refine step_alloc1 rfl 83 rfl zFSB ?_
      intro w2 hk2 hb2
      refine hK.out _ _ (bstep hc.b hb2) (fun hHeld => ?_)
      clear hK K hHeld
      have hz := P11110101.out x4 x5 x10 x11 x13 (.pointer (some ⟨w1.heap.size, 0, none⟩)) x15 x16 w2 (hc.s14 hb2 hk2)
      rw [hWp.out, ha0.out] at hz
      simp only [put8, List.setIfInBounds_toArray, List.set_cons_zero, List.set_cons_succ] at hz
      exact hz
     ·refine step_alloc1 rfl 83 rfl zFSB ?_
      intro w2 hk2 hb2
      refine hK.out _ _ (bstep hc.b hb2) (fun hHeld => ?_)
      clear hK K hHeld
      have hz := P11110011.out x4 x5 x10 x11 x13 x14 (.pointer (some ⟨w1.heap.size, 0, none⟩)) x16 w2 (hc.s15 hb2 hk2)
      rw [hWp.out, ha0.out] at hz
      simp only [put8, List.setIfInBounds_toArray, List.set_cons_zero, List.set_cons_succ] at hz
      exact hz)
    have P11100110 : Hid (∀ x4 x5 x10 x11 x13 x14 x15 x16 w1, Cd wr.drew f1 f2 lv true true true false false true true false x4 x5 x10 x11 x13 x14 x15 x16 w1 → Wp 6 #[true, true, true, true, true, true, true, true, true, true, true, false, true, false, true, true, false, false, false, false] (put8 a0 x4 x5 x10 x11 x13 x14 x15 x16) w1) := (show ∀ x4 x5 x10 x11 x13 x14 x15 x16 w1, Cd wr.drew f1 f2 lv true true true false false true true false x4 x5 x10 x11 x13 x14 x15 x16 w1 → Wp 6 #[true, true, true, true, true, true, true, true, true, true, true, false, true, false, true, true, false, false, false, false] (put8 a0 x4 x5 x10 x11 x13 x14 x15 x16) w1 from by
     intro x4 x5 x10 x11 x13 x14 x15 x16 w1 hc
     rw [hWp.out, ha0.out]
     simp only [put8, List.setIfInBounds_toArray, List.set_cons_zero, List.set_cons_succ]
     refine wpAnyH_ready (rs := [11, 16]) (by kernel_rfl) (by simp) ?_
     refine AllReadyH.cons rfl (fun K hK => ?_) (AllReadyH.cons rfl (fun K hK => ?_) AllReadyH.nil)
     ·obtain ⟨g, rfl, hg⟩ := hc.h10 rfl
      go_simp
      refine (holder_any (some ⟨g, 0, none⟩) 1 1).mono ?_
      rintro e w2 ⟨rfl, hb2, hk2⟩
      refine hK.out _ _ (bstep hc.b hb2) (fun hHeld => ?_)
      clear hK K hHeld
      have hz := P11110110.out x4 x5 (.slice (some ⟨g, 0, none⟩) 1 1) (.func (.func 61) #[] #[.pointer (some ⟨w1.heap.size, 0, none⟩)]) x13 x14 x15 x16 w2 (hc.s11 hb2 hk2)
      rw [hWp.out, ha0.out] at hz
      simp only [put8, List.setIfInBounds_toArray, List.set_cons_zero, List.set_cons_succ] at hz
      exact hz
     ·refine step_alloc1 rfl 83 rfl zFSB ?_
      intro w2 hk2 hb2
      refine hK.out _ _ (bstep hc.b hb2) (fun hHeld => ?_)
      clear hK K hHeld
      have hz := P11100111.out x4 x5 x10 x11 x13 x14 x15 (.pointer (some ⟨w1.heap.size, 0, none⟩)) w2 (hc.s16 hb2 hk2)
      rw [hWp.out, ha0.out] at hz
      simp only [put8, List.setIfInBounds_toArray, List.set_cons_zero, List.set_cons_succ] at hz
      exact hz)
    have P11100101 : Hid (∀ x4 x5 x10 x11 x13 x14 x15 x16 w1, Cd wr.drew f1 f2 lv true true true false false true false true x4 x5 x10 x11 x13 x14 x15 x16 w1 → Wp 6 #[true, true, true, true, true, true, true, true, true, true, true, false, true, false, true, false, true, false, false, false] (put8 a0 x4 x5 x10 x11 x13 x14 x15 x16) w1) := (show ∀ x4 x5 x10 x11 x13 x14 x15 x16 w1, Cd wr.drew f1 f2 lv true true true false false true false true x4 x5 x10 x11 x13 x14 x15 x16 w1 → Wp 6 #[true, true, true, true, true, true, true, true, true, true, true, false, true, false, true, false, true, false, false, false] (put8 a0 x4 x5 x10 x11 x13 x14 x15 x16) w1 from by
     intro x4 x5 x10 x11 x13 x14 x15 x16 w1 hc
     rw [hWp.out, ha0.out]
     simp only [put8, List.setIfInBounds_toArray, List.set_cons_zero, List.set_cons_succ]
     refine wpAnyH_ready (rs := [11, 15]) (by kernel_rfl) (by simp) ?_
     refine AllReadyH.cons rfl (fun K hK => ?_) (AllReadyH.cons rfl (fun K hK => ?_) AllReadyH.nil)
     ·obtain ⟨g, rfl, hg⟩ := hc.h10 rfl
      go_simp
      refine (holder_any (some ⟨g, 0, none⟩) 1 1).mono ?_
      rintro e w2 ⟨rfl, hb2, hk2⟩
      refine hK.out _ _ (bstep hc.b hb2) (fun hHeld => ?_)
      clear hK K hHeld
      have hz := P11110101.out x4 x5 (.slice (some ⟨g, 0, none⟩) 1 1) (.func (.func 61) #[] #[.pointer (some ⟨w1.heap.size, 0, none⟩)]) x13 x14 x15 x16 w2 (hc.s11 hb2 hk2)
      rw [hWp.out, ha0.out] at hz
      simp only [put8, List.setIfInBounds_toArray, List.set_cons_zero, List.set_cons_succ] at hz
      exact hz
     ·refine step_alloc1 rfl 83 rfl zFSB ?_
      intro w2 hk2 hb2
      refine hK.out _ _ (bstep hc.b hb2) (fun hHeld => ?_)
      clear hK K hHeld
      have hz := P11100111.out x4 x5 x10 x11 x13 x14 (.pointer (some ⟨w1.heap.size, 0, none⟩)) x16 w2 (hc.s15 hb2 hk2)
      rw [hWp.out, ha0.out] at hz
      simp only [put8, List.setIfInBounds_toArray, List.set_cons_zero, List.set_cons_succ] at hz
      exact hz)
    have P11100011 : Hid (∀ x4 x5 x10 x11 x13 x14 x15 x16 w1, Cd wr.drew f1 f2 lv true true true false false false true true x4 x5 x10 x11 x13 x14 x15 x16 w1 → Wp 6 #[true, true, true, true, true, true, true, true, true, true, true, false, true, false, false, true, true, false, false, false] (put8 a0 x4 x5 x10 x11 x13 x14 x15 x16) w1) := (show ∀ x4 x5 x10 x11 x13 x14 x15 x16 w1, Cd wr.drew f1 f2 lv true true true false false false true true x4 x5 x10 x11 x13 x14 x15 x16 w1 → Wp 6 #[true, true, true, true, true, true, true, true, true, true, true, false, true, false, false, true, true, false, false, false] (put8 a0 x4 x5 x10 x11 x13 x14 x15 x16) w1 from by
     intro x4 x5 x10 x11 x13 x14 x15 x16 w1 hc
     rw [hWp.out, ha0.out]
     simp only [put8, List.setIfInBounds_toArray, List.set_cons_zero, List.set_cons_succ]
     refine wpAnyH_ready (rs := [11, 14]) (by kernel_rfl) (by simp) ?_
     refine AllReadyH.cons rfl (fun K hK => ?_) (AllReadyH.cons rfl (fun K hK => ?_) AllReadyH.nil)
     ·obtain ⟨g, rfl, hg⟩ := hc.h10 rfl
      go_simp
      refine (holder_any (some ⟨g, 0, none⟩) 1 1).mono ?_
      rintro e w2 ⟨rfl, hb2, hk2⟩
      refine hK.out _ _ (bstep hc.b hb2) (fun hHeld => ?_)
      clear hK K hHeld
      have hz := P11110011.out x4 x5 (.slice (some ⟨g, 0, none⟩) 1 1) (.func (.func 61) #[] #[.pointer (some ⟨w1.heap.size, 0, none⟩)]) x13 x14 x15 x16 w2 (hc.s11 hb2 hk2)
      rw [hWp.out, ha0.out] at hz
      simp only [put8, List.setIfInBounds_toArray, List.set_cons_zero, List.set_cons_succ] at hz
      exact hz
     ·refine step_alloc1 rfl 83 rfl zFSB ?_
      intro w2 hk2 hb2
      refine hK.out _ _ (bstep hc.b hb2) (fun hHeld => ?_)
      clear hK K hHeld
      have hz := P11100111.out x4 x5 x10 x11 x13 (.pointer (some ⟨w1.heap.size, 0, none⟩)) x15 x16 w2 (hc.s14 hb2 hk2)
      rw [hWp.out, ha0.out] at hz
      simp only [put8, List.setIfInBounds_toArray, List.set_cons_zero, List.set_cons_succ] at hz
      exact hz)
    have P11000111 : Hid (∀ x4 x5 x10 x11 x13 x14 x15 x16 w1, Cd wr.drew f1 f2 lv true true false false false true true true x4 x5 x10 x11 x13 x14 x15 x16 w1 → Wp 6 #[true, true, true, true, true, true, true, true, true, true, false, false, true, false, true, true, true, false, false, false] (put8 a0 x4 x5 x10 x11 x13 x14 x15 x16) w1) := (show ∀ x4 x5 x10 x11 x13 x14 x15 x16 w1, Cd wr.drew f1 f2 lv true true false false false true true true x4 x5 x10 x11 x13 x14 x15 x16 w1 → Wp 6 #[true, true, true, true, true, true, true, true, true, true, false, false, true, false, true, true, true, false, false, false] (put8 a0 x4 x5 x10 x11 x13 x14 x15 x16) w1 from by
     intro x4 x5 x10 x11 x13 x14 x15 x16 w1 hc
     rw [hWp.out, ha0.out]
     simp only [put8, List.setIfInBounds_toArray, List.set_cons_zero, List.set_cons_succ]
     refine wpAnyH_ready (rs := [10]) (by kernel_rfl) (by simp) ?_
     refine AllReadyH.cons rfl (fun K hK => ?_) AllReadyH.nil
     refine step_bsl rfl 22 28 1 _ rfl Try.underlying22 f2.cs.toArray (bsl_eq (by kernel_rfl) (bFl f2)) ?_
     intro w2 hk2 hb2 hs2
     refine hK.out _ _ (bstep hc.b hb2) (fun hHeld => ?_)
     clear hK K hHeld
     have hz := P11100111.out x4 x5 (.slice (some ⟨w1.heap.size, 0, none⟩) 1 1) x11 x13 x14 x15 x16 w2 (hc.s10 hb2 hk2)
     rw [hWp.out, ha0.out] at hz
     simp only [put8, List.setIfInBounds_toArray, List.set_cons_zero, List.set_cons_succ] at hz
     exact hz)
    have P10100111 : Hid (∀ x4 x5 x10 x11 x13 x14 x15 x16 w1, Cd wr.drew f1 f2 lv true false true false false true true true x4 x5 x10 x11 x13 x14 x15 x16 w1 → Wp 6 #[true, true, true, true, true, false, true, true, true, true, true, false, true, false, true, true, true, false, false, false] (put8 a0 x4 x5 x10 x11 x13 x14 x15 x16) w1) := (show ∀ x4 x5 x10 x11 x13 x14 x15 x16 w1, Cd wr.drew f1 f2 lv true false true false false true true true x4 x5 x10 x11 x13 x14 x15 x16 w1 → Wp 6 #[true, true, true, true, true, false, true, true, true, true, true, false, true, false, true, true, true, false, false, false] (put8 a0 x4 x5 x10 x11 x13 x14 x15 x16) w1 from by
     intro x4 x5 x10 x11 x13 x14 x15 x16 w1 hc
     rw [hWp.out, ha0.out]
     simp only [put8, List.setIfInBounds_toArray, List.set_cons_zero, List.set_cons_succ]
     refine wpAnyH_ready (rs := [5]) (by kernel_rfl) (by simp) ?_
     refine AllReadyH.cons rfl (fun K hK => ?_) AllReadyH.nil
     obtain ⟨g, rfl, hg⟩ := hc.h4 rfl
     go_simp
     refine (holder_any (some ⟨g, 0, none⟩) 1 1).mono ?_
     rintro e w2 ⟨rfl, hb2, hk2⟩
     refine hK.out _ _ (bstep hc.b hb2) (fun hHeld => ?_)
     clear hK K hHeld
     have hz := P11100111.out (.slice (some ⟨g, 0, none⟩) 1 1) (.func (.func 61) #[] #[.pointer (some ⟨w1.heap.size, 0, none⟩)]) x10 x11 x13 x14 x15 x16 w2 (hc.s5 hb2 hk2)
     rw [hWp.out, ha0.out] at hz
     simp only [put8, List.setIfInBounds_toArray, List.set_cons_zero, List.set_cons_succ] at hz
     exact hz)
    have P11110000 : Hid (∀ x4 x5 x10 x11 x13 x14 x15 x16 w1, Cd wr.drew f1 f2 lv true true true true false false false false x4 x5 x10 x11 x13 x14 x15 x16 w1 → Wp 7 #[true, true, true, true, true, true, true, true, true, true, true, true, true, false, false, false, false, false, false, false] (put8 a0 x4 x5 x10 x11 x13 x14 x15 x16) w1) := (show ∀ x4 x5 x10 x11 x13 x14 x15 x16 w1, Cd wr.drew f1 f2 lv true true true true false false false false x4 x5 x10 x11 x13 x14 x15 x16 w1 → Wp 7 #[true, true, true, true, true, true, true, true, true, true, true, true, true, false, false, false, false, false, false, false] (put8 a0 x4 x5 x10 x11 x13 x14 x15 x16) w1 from by
     intro x4 x5 x10 x11 x13 x14 x15 x16 w1 hc
     rw [hWp.out, ha0.out]
     simp only [put8, List.setIfInBounds_toArray, List.set_cons_zero, List.set_cons_succ]
     refine wpAnyH_ready (rs := [13, 14, 15, 16]) (by kernel_rfl) (by simp) ?_
     refine AllReadyH.cons rfl (fun K hK => ?_) (AllReadyH.cons rfl (fun K hK => ?_) (AllReadyH.cons rfl (fun K hK => ?_) (AllReadyH.cons rfl (fun K hK => ?_) AllReadyH.nil)))
     ·go_simp
      refine (HHl.out _).mono ?_
      rintro e w2 ⟨rfl, hb2, hk2⟩
      refine hK.out _ _ (bstep hc.b hb2) (fun hHeld => ?_)
      clear hK K hHeld
      have hz := P11111000.out x4 x5 x10 x11 (.func (.func 61) #[] #[.pointer (some ⟨w1.heap.size, 0, none⟩)]) x14 x15 x16 w2 (hc.s13 hb2 hk2)
      rw [hWp.out, ha0.out] at hz
      simp only [put8, List.setIfInBounds_toArray, List.set_cons_zero, List.set_cons_succ] at hz
      exact hz
     ·refine step_alloc1 rfl 83 rfl zFSB ?_
      intro w2 hk2 hb2
      refine hK.out _ _ (bstep hc.b hb2) (fun hHeld => ?_)
      clear hK K hHeld
      have hz := P11110100.out x4 x5 x10 x11 x13 (.pointer (some ⟨w1.heap.size, 0, none⟩)) x15 x16 w2 (hc.s14 hb2 hk2)
      rw [hWp.out, ha0.out] at hz
      simp only [put8, List.setIfInBounds_toArray, List.set_cons_zero, List.set_cons_succ] at hz
      exact hz
     ·refine step_alloc1 rfl 83 rfl zFSB ?_
      intro w2 hk2 hb2
      refine hK.out _ _ (bstep hc.b hb2) (fun hHeld => ?_)
      clear hK K hHeld
      have hz := P11110010.out x4 x5 x10 x11 x13 x14 (.pointer (some ⟨w1.heap.size, 0, none⟩)) x16 w2 (hc.s15 hb2 hk2)
      rw [hWp.out, ha0.out] at hz
      simp only [put8, List.setIfInBounds_toArray, List.set_cons_zero, List.set_cons_succ] at hz
      exact hz
     ·refine step_alloc1 rfl 83 rfl zFSB ?_
      intro w2 hk2 hb2
      refine hK.out _ _ (bstep hc.b hb2) (fun hHeld => ?_)
      clear hK K hHeld
      have hz := P11110001.out x4 x5 x10 x11 x13 x14 x15 (.pointer (some ⟨w1.heap.size, 0, none⟩)) w2 (hc.s16 hb2 hk2)
      rw [hWp.out, ha0.out] at hz
      simp only [put8, List.setIfInBounds_toArray, List.set_cons_zero, List.set_cons_succ] at hz
      exact hz)
    have P11100100 : Hid (∀ x4 x5 x10 x11 x13 x14 x15 x16 w1, Cd wr.drew f1 f2 lv true true true false false true false false x4 x5 x10 x11 x13 x14 x15 x16 w1 → Wp 7 #[true, true, true, true, true, true, true, true, true, true, true, false, true, false, true, false, false, false, false, false] (put8 a0 x4 x5 x10 x11 x13 x14 x15 x16) w1) := (show ∀ x4 x5 x10 x11 x13 x14 x15 x16 w1, Cd wr.drew f1 f2 lv true true true false false true false false x4 x5 x10 x11 x13 x14 x15 x16 w1 → Wp 7 #[true, true, true, true, true, true, true, true, true, true, true, false, true, false, true, false, false, false, false, false] (put8 a0 x4 x5 x10 x11 x13 x14 x15 x16) w1 from by
     intro x4 x5 x10 x11 x13 x14 x15 x16 w1 hc
     rw [hWp.out, ha0.out]
     simp only [put8, List.setIfInBounds_toArray, List.set_cons_zero, List.set_cons_succ]
     refine wpAnyH_ready (rs := [11, 15, 16]) (by kernel_rfl) (by simp) ?_
     refine AllReadyH.cons rfl (fun K hK => ?_) (AllReadyH.cons rfl (fun K hK => ?_) (AllReadyH.cons rfl (fun K hK => ?_) AllReadyH.nil))
     ·obtain ⟨g, rfl, hg⟩ := hc.h10 rfl
      go_simp
      refine (holder_any (some ⟨g, 0, none⟩) 1 1).mono ?_
      rintro e w2 ⟨rfl, hb2, hk2⟩
      refine hK.out _ _ (bstep hc.b hb2) (fun hHeld => ?_)
      clear hK K hHeld
      have hz := P11110100.out x4 x5 (.slice (some ⟨g, 0, none⟩) 1 1) (.func (.func 61) #[] #[.pointer (some ⟨w1.heap.size, 0, none⟩)]) x13 x14 x15 x16 w2 (hc.s11 hb2 hk2)
      rw [hWp.out, ha0.out] at hz
      simp only [put8, List.setIfInBounds_toArray, List.set_cons_zero, List.set_cons_succ] at hz
      exact hz
     ·refine step_alloc1 rfl 83 rfl zFSB ?_
      intro w2 hk2 hb2
      refine hK.out _ _ (bstep hc.b hb2) (fun hHeld => ?_)
      clear hK K hHeld
      have hz := P11100110.out x4 x5 x10 x11 x13 x14 (.pointer (some ⟨w1.heap.size, 0, none⟩)) x16 w2 (hc.s15 hb2 hk2)
      rw [hWp.out, ha0.out] at hz
      simp only [put8, List.setIfInBounds_toArray, List.set_cons_zero, List.set_cons_succ] at hz
      exact hz
     ·refine step_alloc1 rfl 83 rfl zFSB ?_
      intro w2 hk2 hb2
      refine hK.out _ _ (bstep hc.b hb2) (fun hHeld => ?_)
      clear hK K hHeld
      have hz := P11100101.out x4 x5 x10 x11 x13 x14 x15 (.pointer (some ⟨w1.heap.size, 0, none⟩)) w2 (hc.s16 hb2 hk2)
      rw [hWp.out, ha0.out] at hz
      simp only [put8, List.setIfInBounds_toArray, List.set_cons_zero, List.set_cons_succ] at hz
      exact hz)
    have P11100010 : Hid (∀ x4 x5 x10 x11 x13 x14 x15 x16 w1, Cd wr.drew f1 f2 lv true true true false false false true false x4 x5 x10 x11 x13 x14 x15 x16 w1 → Wp 7 #[true, true, true, true, true, true, true, true, true, true, true, false, true, false, false, true, false, false, false, false] (put8 a0 x4 x5 x10 x11 x13 x14 x15 x16) w1) := (show ∀ x4 x5 x10 x11 x13 x14 x15 x16 w1, Cd wr.drew f1 f2 lv true true true false false false true false x4 x5 x10 x11 x13 x14 x15 x16 w1 → Wp 7 #[true, true, true, true, true, true, true, true, true, true, true, false, true, false, false, true, false, false, false, false] (put8 a0 x4 x5 x10 x11 x13 x14 x15 x16) w1 from by
     intro x4 x5 x10 x11 x13 x14 x15 x16 w1 hc
     rw [hWp.out, ha0.out]
     simp only [put8, List.setIfInBounds_toArray, List.set_cons_zero, List.set_cons_succ]
     refine wpAnyH_ready (rs := [11, 14, 16]) (by kernel_rfl) (by simp) ?_
     refine AllReadyH.cons rfl (fun K hK => ?_) (AllReadyH.cons rfl (fun K hK => ?_) (AllReadyH.cons rfl (fun K hK => ?_) AllReadyH.nil))
     ·obtain ⟨g, rfl, hg⟩ := hc.h10 rfl
      go_simp
      refine (holder_any (some ⟨g, 0, none⟩) 1 1).mono ?_
      rintro e w2 ⟨rfl, hb2, hk2⟩
      refine hK.out _ _ (bstep hc.b hb2) (fun hHeld => ?_)
      clear hK K hHeld
      have hz := P11110010.out x4 x5 (.slice (some ⟨g, 0, none⟩) 1 1) (.func (.func 61) #[] #[.pointer (some ⟨w1.heap.size, 0, none⟩)]) x13 x14 x15 x16 w2 (hc.s11 hb2 hk2)
      rw [hWp.out, ha0.out] at hz
      simp only [put8, List.setIfInBounds_toArray, List.set_cons_zero, List.set_cons_succ] at hz
      exact hz
     ·refine step_alloc1 rfl 83 rfl zFSB ?_
      intro w2 hk2 hb2
      refine hK.out _ _ (bstep hc.b hb2) (fun hHeld => ?_)
      clear hK K hHeld
      have hz := P11100110.out x4 x5 x10 x11 x13 (.pointer (some ⟨w1.heap.size, 0, none⟩)) x15 x16 w2 (hc.s14 hb2 hk2)
      rw [hWp.out, ha0.out] at hz
      simp only [put8, List.setIfInBounds_toArray, List.set_cons_zero, List.set_cons_succ] at hz
      exact hz
     ·refine step_alloc1 rfl 83 rfl zFSB ?_
      intro w2 hk2 hb2
      refine hK.out _ _ (bstep hc.b hb2) (fun hHeld => ?_)
      clear hK K hHeld
      have hz := P11100011.out x4 x5 x10 x11 x13 x14 x15 (.pointer (some ⟨w1.heap.size, 0, none⟩)) w2 (hc.s16 hb2 hk2)
      rw [hWp.out, ha0.out] at hz
      simp only [put8, List.setIfInBounds_toArray, List.set_cons_zero, List.set_cons_succ] at hz
      exact hz)
    have P11100001 : Hid (∀ x4 x5 x10 x11 x13 x14 x15 x16 w1, Cd wr.drew f1 f2 lv true true true false false false false true x4 x5 x10 x11 x13 x14 x15 x16 w1 → Wp 7 #[true, true, true, true, true, true, true, true, true, true, true, false, true, false, false, false, true, false, false, false] (put8 a0 x4 x5 x10 x11 x13 x14 x15 x16) w1) := (show ∀ x4 x5 x10 x11 x13 x14 x15 x16 w1, Cd wr.drew f1 f2 lv true true true false false false false true x4 x5 x10 x11 x13 x14 x15 x16 w1 → Wp 7 #[true, true, true, true, true, true, true, true, true, true, true, false, true, false, false, false, true, false, false, false] (put8 a0 x4 x5 x10 x11 x13 x14 x15 x16) w1 from by
     intro x4 x5 x10 x11 x13 x14 x15 x16 w1 hc
     rw [hWp.out, ha0.out]
     simp only [put8, List.setIfInBounds_toArray, List.set_cons_zero, List.set_cons_succ]
     refine wpAnyH_ready (rs := [11, 14, 15]) (by kernel_rfl) (by simp) ?_
     refine AllReadyH.cons rfl (fun K hK => ?_) (AllReadyH.cons rfl (fun K hK => ?_) (AllReadyH.cons rfl (fun K hK => ?_) AllReadyH.nil))
     ·obtain ⟨g, rfl, hg⟩ := hc.h10 rfl
      go_simp
      refine (holder_any (some ⟨g, 0, none⟩) 1 1).mono ?_
      rintro e w2 ⟨rfl, hb2, hk2⟩
      refine hK.out _ _ (bstep hc.b hb2) (fun hHeld => ?_)
      clear hK K hHeld
      have hz := P11110001.out x4 x5 (.slice (some ⟨g, 0, none⟩) 1 1) (.func (.func 61) #[] #[.pointer (some ⟨w1.heap.size, 0, none⟩)]) x13 x14 x15 x16 w2 (hc.s11 hb2 hk2)
      rw [hWp.out, ha0.out] at hz
      simp only [put8, List.setIfInBounds_toArray, List.set_cons_zero, List.set_cons_succ] at hz
      exact hz
     ·refine step_alloc1 rfl 83 rfl zFSB ?_
      intro w2 hk2 hb2
      refine hK.out _ _ (bstep hc.b hb2) (fun hHeld => ?_)
      clear hK K hHeld
      have hz := P11100101.out x4 x5 x10 x11 x13 (.pointer (some ⟨w1.heap.size, 0, none⟩)) x15 x16 w2 (hc.s14 hb2 hk2)
      rw [hWp.out, ha0.out] at hz
      simp only [put8, List.setIfInBounds_toArray, List.set_cons_zero, List.set_cons_succ] at hz
      exact hz
     ·refine step_alloc1 rfl 83 rfl zFSB ?_
      intro w2 hk2 hb2
      refine hK.out _ _ (bstep hc.b hb2) (fun hHeld => ?_)
      clear hK K hHeld
      have hz := P11100011.out x4 x5 x10 x11 x13 x14 (.pointer (some ⟨w1.heap.size, 0, none⟩)) x16 w2 (hc.s15 hb2 hk2)
      rw [hWp.out, ha0.out] at hz
      simp only [put8, List.setIfInBounds_toArray, List.set_cons_zero, List.set_cons_succ] at hz
      exact hz)
    have P11000110 : Hid (∀ x4 x5 x10 x11 x13 x14 x15 x16 w1, Cd wr.drew f1 f2 lv true true false false false true true false x4 x5 x10 x11 x13 x14 x15 x16 w1 → Wp 7 #[true, true, true, true, true, true, true, true, true, true, false, false, true, false, true, true, false, false, false, false] (put8 a0 x4 x5 x10 x11 x13 x14 x15 x16) w1) := (show ∀ x4 x5 x10 x11 x13 x14 x15 x16 w1, Cd wr.drew f1 f2 lv true true false false false true true false x4 x5 x10 x11 x13 x14 x15 x16 w1 → Wp 7 #[true, true, true, true, true, true, true, true, true, true, false, false, true, false, true, true, false, false, false, false] (put8 a0 x4 x5 x10 x11 x13 x14 x15 x16) w1 from by
     intro x4 x5 x10 x11 x13 x14 x15 x16 w1 hc
     rw [hWp.out, ha0.out]
     simp only [put8, List.setIfInBounds_toArray, List.set_cons_zero, List.set_cons_succ]
     refine wpAnyH_ready (rs := [10, 16]) (by kernel_rfl) (by simp) ?_
     refine AllReadyH.cons rfl (fun K hK => ?_) (AllReadyH.cons rfl (fun K hK => ?_) AllReadyH.nil)
     ·refine step_bsl rfl 22 28 1 _ rfl Try.underlying22 f2.cs.toArray (bsl_eq (by kernel_rfl) (bFl f2)) ?_
      intro w2 hk2 hb2 hs2
      refine hK.out _ _ (bstep hc.b hb2) (fun hHeld => ?_)
      clear hK K hHeld
      have hz := P11100110.out x4 x5 (.slice (some ⟨w1.heap.size, 0, none⟩) 1 1) x11 x13 x14 x15 x16 w2 (hc.s10 hb2 hk2)
      rw [hWp.out, ha0.out] at hz
      simp only [put8, List.setIfInBounds_toArray, List.set_cons_zero, List.set_cons_succ] at hz
      exact hz
     ·refine step_alloc1 rfl 83 rfl zFSB ?_
      intro w2 hk2 hb2
      refine hK.out _ _ (bstep hc.b hb2) (fun hHeld => ?_)
      clear hK K hHeld
      have hz := P11000111.out x4 x5 x10 x11 x13 x14 x15 (.pointer (some ⟨w1.heap.size, 0, none⟩)) w2 (hc.s16 hb2 hk2)
      rw [hWp.out, ha0.out] at hz
      simp only [put8, List.setIfInBounds_toArray, List.set_cons_zero, List.set_cons_succ] at hz
      exact hz)
    have P11000101 : Hid (∀ x4 x5 x10 x11 x13 x14 x15 x16 w1, Cd wr.drew f1 f2 lv true true false false false true false true x4 x5 x10 x11 x13 x14 x15 x16 w1 → Wp 7 #[true, true, true, true, true, true, true, true, true, true, false, false, true, false, true, false, true, false, false, false] (put8 a0 x4 x5 x10 x11 x13 x14 x15 x16) w1) := (show ∀ x4 x5 x10 x11 x13 x14 x15 x16 w1, Cd wr.drew f1 f2 lv true true false false false true false true x4 x5 x10 x11 x13 x14 x15 x16 w1 → Wp 7 #[true, true, true, true, true, true, true, true, true, true, false, false, true, false, true, false, true, false, false, false] (put8 a0 x4 x5 x10 x11 x13 x14 x15 x16) w1 from by
     intro x4 x5 x10 x11 x13 x14 x15 x16 w1 hc
     rw [hWp.out, ha0.out]
     simp only [put8, List.setIfInBounds_toArray, List.set_cons_zero, List.set_cons_succ]
     refine wpAnyH_ready (rs := [10, 15]) (by kernel_rfl) (by simp) ?_
     refine AllReadyH.cons rfl (fun K hK => ?_) (AllReadyH.cons rfl (fun K hK => ?_) AllReadyH.nil)
     ·refine step_bsl rfl 22 28 1 _ rfl Try.underlying22 f2.cs.toArray (bsl_eq (by kernel_rfl) (bFl f2)) ?_
      intro w2 hk2 hb2 hs2
      refine hK.out _ _ (bstep hc.b hb2) (fun hHeld => ?_)
      clear hK K hHeld
      have hz := P11100101.out x4 x5 (.slice (some ⟨w1.heap.size, 0, none⟩) 1 1) x11 x13 x14 x15 x16 w2 (hc.s10 hb2 hk2)
      rw [hWp.out, ha0.out] at hz
      simp only [put8, List.setIfInBounds_toArray, List.set_cons_zero, List.set_cons_succ] at hz
      exact hz
     ·refine step_alloc1 rfl 83 rfl zFSB ?_
      intro w2 hk2 hb2
      refine hK.out _ _ (bstep hc.b hb2) (fun hHeld => ?_)
      clear hK K hHeld
      have hz := P11000111.out x4 x5 x10 x11 x13 x14 (.pointer (some ⟨w1.heap.size, 0, none⟩)) x16 w2 (hc.s15 hb2 hk2)
      rw [hWp.out, ha0.out] at hz
      simp only [put8, List.setIfInBounds_toArray, List.set_cons_zero, List.set_cons_succ] at hz
      exact hz)
    have P11000011 : Hid (∀ x4 x5 x10 x11 x13 x14 x15 x16 w1, Cd wr.drew f1 f2 lv true true false false false false true true x4 x5 x10 x11 x13 x14 x15 x16 w1 → Wp 7 #[true, true, true, true, true, true, true, true, true, true, false, false, true, false, false, true, true, false, false, false] (put8 a0 x4 x5 x10 x11 x13 x14 x15 x16) w1) := (show ∀ x4 x5 x10 x11 x13 x14 x15 x16 w1, Cd wr.drew f1 f2 lv true true false false false false true true x4 x5 x10 x11 x13 x14 x15 x16 w1 → Wp 7 #[true, true, true, true, true, true, true, true, true, true, false, false, true, false, false, true, true, false, false, false] (put8 a0 x4 x5 x10 x11 x13 x14 x15 x16) w1 from by
     intro x4 x5 x10 x11 x13 x14 x15 x16 w1 hc
     rw [hWp.out, ha0.out]
     simp only [put8, List.setIfInBounds_toArray, List.set_cons_zero, List.set_cons_succ]
     refine wpAnyH_ready (rs := [10, 14]) (by kernel_rfl) (by simp) ?_
     refine AllReadyH.cons rfl (fun K hK => ?_) (AllReadyH.cons rfl (fun K hK => ?_) AllReadyH.nil)
     ·refine step_bsl rfl 22 28 1 _ rfl Try.underlying22 f2.cs.toArray (bsl_eq (by kernel_rfl) (bFl f2)) ?_
      intro w2 hk2 hb2 hs2
      refine hK.out _ _ (bstep hc.b hb2) (fun hHeld => ?_)
      clear hK K hHeld
      have hz := P11100011.out x4 x5 (.slice (some ⟨w1.heap.size, 0, none⟩) 1 1) x11 x13 x14 x15 x16 w2 (hc.s10 hb2 hk2)
      rw [hWp.out, ha0.out] at hz
      simp only [put8, List.setIfInBounds_toArray, List.set_cons_zero, List.set_cons_succ] at hz
      exact hz
     ·refine step_alloc1 rfl 83 rfl zFSB ?_
      intro w2 hk2 hb2
      refine hK.out _ _ (bstep hc.b hb2) (fun hHeld => ?_)
      clear hK K hHeld
      have hz := P11000111.out x4 x5 x10 x11 x13 (.pointer (some ⟨w1.heap.size, 0, none⟩)) x15 x16 w2 (hc.s14 hb2 hk2)
      rw [hWp.out, ha0.out] at hz
      simp only [put8, List.setIfInBounds_toArray, List.set_cons_zero, List.set_cons_succ] at hz
      exact hz)
    have P10100110 : Hid (∀ x4 x5 x10 x11 x13 x14 x15 x16 w1, Cd wr.drew f1 f2 lv true false true false false true true false x4 x5 x10 x11 x13 x14 x15 x16 w1 → Wp 7 #[true, true, true, true, true, false, true, true, true, true, true, false, true, false, true, true, false, false, false, false] (put8 a0 x4 x5 x10 x11 x13 x14 x15 x16) w1) := (show ∀ x4 x5 x10 x11 x13 x14 x15 x16 w1, Cd wr.drew f1 f2 lv true false true false false true true false x4 x5 x10 x11 x13 x14 x15 x16 w1 → Wp 7 #[true, true, true, true, true, false, true, true, true, true, true, false, true, false, true, true, false, false, false, false] (put8 a0 x4 x5 x10 x11 x13 x14 x15 x16) w1 from by
     intro x4 x5 x10 x11 x13 x14 x15 x16 w1 hc
     rw [hWp.out, ha0.out]
     simp only [put8, List.setIfInBounds_toArray, List.set_cons_zero, List.set_cons_succ]
     refine wpAnyH_ready (rs := [5, 16]) (by kernel_rfl) (by simp) ?_
     refine AllReadyH.cons rfl (fun K hK => ?_) (AllReadyH.cons rfl (fun K hK => ?_) AllReadyH.nil)
     ·obtain ⟨g, rfl, hg⟩ := hc.h4 rfl
      go_simp
      refine (holder_any (some ⟨g, 0, none⟩) 1 1).mono ?_
      rintro e w2 ⟨rfl, hb2, hk2⟩
      refine hK.out _ _ (bstep hc.b hb2) (fun hHeld => ?_)
      clear hK K hHeld
      have hz := P11100110.out (.slice (some ⟨g, 0, none⟩) 1 1) (.func (.func 61) #[] #[.pointer (some ⟨w1.heap.size, 0, none⟩)]) x10 x11 x13 x14 x15 x16 w2 (hc.s5 hb2 hk2)
      rw [hWp.out, ha0.out] at hz
      simp only [put8, List.setIfInBounds_toArray, List.set_cons_zero, List.set_cons_succ] at hz
      exact hz
     ·refine step_alloc1 rfl 83 rfl zFSB ?_
      intro w2 hk2 hb2
      refine hK.out _ _ (bstep hc.b hb2) (fun hHeld => ?_)
      clear hK K hHeld
      have hz := P10100111.out x4 x5 x10 x11 x13 x14 x15 (.pointer (some ⟨w1.heap.size, 0, none⟩)) w2 (hc.s16 hb2 hk2)
      rw [hWp.out, ha0.out] at hz
      simp only [put8, List.setIfInBounds_toArray, List.set_cons_zero, List.set_cons_succ] at hz
      exact hz)
    have P10100101 : Hid (∀ x4 x5 x10 x11 x13 x14 x15 x16 w1, Cd wr.drew f1 f2 lv true false true false false true false true x4 x5 x10 x11 x13 x14 x15 x16 w1 → Wp 7 #[true, true, true, true, true, false, true, true, true, true, true, false, true, false, true, false, true, false, false, false] (put8 a0 x4 x5 x10 x11 x13 x14 x15 x16) w1) := (show ∀ x4 x5 x10 x11 x13 x14 x15 x16 w1, Cd wr.drew f1 f2 lv true false true false false true false true x4 x5 x10 x11 x13 x14 x15 x16 w1 → Wp 7 #[true, true, true, true, true, false, true, true, true, true, true, false, true, false, true, false, true, false, false, false] (put8 a0 x4 x5 x10 x11 x13 x14 x15 x16) w1 from by
     intro x4 x5 x10 x11 x13 x14 x15 x16 w1 hc
     rw [hWp.out, ha0.out]
     simp only [put8, List.setIfInBounds_toArray, List.set_cons_zero, List.set_cons_succ]
     refine wpAnyH_ready (rs := [5, 15]) (by kernel_rfl) (by simp) ?_
     refine AllReadyH.cons rfl (fun K hK => ?_) (AllReadyH.cons rfl (fun K hK => ?_) AllReadyH.nil)
     ·obtain ⟨g, rfl, hg⟩ := hc.h4 rfl
      go_simp
      refine (holder_any (some ⟨g, 0, none⟩) 1 1).mono ?_
      rintro e w2 ⟨rfl, hb2, hk2⟩
      refine hK.out _ _ (bstep hc.b hb2) (fun hHeld => ?_)
      clear hK K hHeld
      have hz := P11100101.out (.slice (some ⟨g, 0, none⟩) 1 1) (.func (.func 61) #[] #[.pointer (some ⟨w1.heap.size, 0, none⟩)]) x10 x11 x13 x14 x15 x16 w2 (hc.s5 hb2 hk2)
      rw [hWp.out, ha0.out] at hz
      simp only [put8, List.setIfInBounds_toArray, List.set_cons_zero, List.set_cons_succ] at hz
      exact hz
     ·refine step_alloc1 rfl 83 rfl zFSB ?_
      intro w2 hk2 hb2
      refine hK.out _ _ (bstep hc.b hb2) (fun hHeld => ?_)
      clear hK K hHeld
      have hz := P10100111.out x4 x5 x10 x11 x13 x14 (.pointer (some ⟨w1.heap.size, 0, none⟩)) x16 w2 (hc.s15 hb2 hk2)
      rw [hWp.out, ha0.out] at hz
      simp only [put8, List.setIfInBounds_toArray, List.set_cons_zero, List.set_cons_succ] at hz
      exact hz)
    have P10100011 : Hid (∀ x4 x5 x10 x11 x13 x14 x15 x16 w1, Cd wr.drew f1 f2 lv true false true false false false true true x4 x5 x10 x11 x13 x14 x15 x16 w1 → Wp 7 #[true, true, true, true, true, false, true, true, true, true, true, false, true, false, false, true, true, false, false, false] (put8 a0 x4 x5 x10 x11 x13 x14 x15 x16) w1) := (show ∀ x4 x5 x10 x11 x13 x14 x15 x16 w1, Cd wr.drew f1 f2 lv true false true false false false true true x4 x5 x10 x11 x13 x14 x15 x16 w1 → Wp 7 #[true, true, true, true, true, false, true, true, true, true, true, false, true, false, false, true, true, false, false, false] (put8 a0 x4 x5 x10 x11 x13 x14 x15 x16) w1 from by
     intro x4 x5 x10 x11 x13 x14 x15 x16 w1 hc
     rw [hWp.out, ha0.out]
     simp only [put8, List.setIfInBounds_toArray, List.set_cons_zero, List.set_cons_succ]
     refine wpAnyH_ready (rs := [5, 14]) (by kernel_rfl) (by simp) ?_
     refine AllReadyH.cons rfl (fun K hK => ?_) (AllReadyH.cons rfl (fun K hK => ?_) AllReadyH.nil)
     ·obtain ⟨g, rfl, hg⟩ := hc.h4 rfl
      go_simp
      refine (holder_any (some ⟨g, 0, none⟩) 1 1).mono ?_
      rintro e w2 ⟨rfl, hb2, hk2⟩
      refine hK.out _ _ (bstep hc.b hb2) (fun hHeld => ?_)
      clear hK K hHeld
      have hz := P11100011.out (.slice (some ⟨g, 0, none⟩) 1 1) (.func (.func 61) #[] #[.pointer (some ⟨w1.heap.size, 0, none⟩)]) x10 x11 x13 x14 x15 x16 w2 (hc.s5 hb2 hk2)
      rw [hWp.out, ha0.out] at hz
      simp only [put8, List.setIfInBounds_toArray, List.set_cons_zero, List.set_cons_succ] at hz
      exact hz
     ·refine step_alloc1 rfl 83 rfl zFSB ?_
      intro w2 hk2 hb2
      refine hK.out _ _ (bstep hc.b hb2) (fun hHeld => ?_)
      clear hK K hHeld
      have hz := P10100111.out x4 x5 x10 x11 x13 (.pointer (some ⟨w1.heap.size, 0, none⟩)) x15 x16 w2 (hc.s14 hb2 hk2)
      rw [hWp.out, ha0.out] at hz
      simp only [put8, List.setIfInBounds_toArray, List.set_cons_zero, List.set_cons_succ] at hz
      exact hz)
    have P10000111 : Hid (∀ x4 x5 x10 x11 x13 x14 x15 x16 w1, Cd wr.drew f1 f2 lv true false false false false true true true x4 x5 x10 x11 x13 x14 x15 x16 w1 → Wp 7 #[true, true, true, true, true, false, true, true, true, true, false, false, true, false, true, true, true, false, false, false] (put8 a0 x4 x5 x10 x11 x13 x14 x15 x16) w1) := (show ∀ x4 x5 x10 x11 x13 x14 x15 x16 w1, Cd wr.drew f1 f2 lv true false false false false true true true x4 x5 x10 x11 x13 x14 x15 x16 w1 → Wp 7 #[true, true, true, true, true, false, true, true, true, true, false, false, true, false, true, true, true, false, false, false] (put8 a0 x4 x5 x10 x11 x13 x14 x15 x16) w1 from by
     intro x4 x5 x10 x11 x13 x14 x15 x16 w1 hc
     rw [hWp.out, ha0.out]
     simp only [put8, List.setIfInBounds_toArray, List.set_cons_zero, List.set_cons_succ]
     refine wpAnyH_ready (rs := [5, 10]) (by kernel_rfl) (by simp) ?_
     refine AllReadyH.cons rfl (fun K hK => ?_) (AllReadyH.cons rfl (fun K hK => ?_) AllReadyH.nil)
     ·obtain ⟨g, rfl, hg⟩ := hc.h4 rfl
      go_simp
      refine (holder_any (some ⟨g, 0, none⟩) 1 1).mono ?_
      rintro e w2 ⟨rfl, hb2, hk2⟩
      refine hK.out _ _ (bstep hc.b hb2) (fun hHeld => ?_)
      clear hK K hHeld
      have hz := P11000111.out (.slice (some ⟨g, 0, none⟩) 1 1) (.func (.func 61) #[] #[.pointer (some ⟨w1.heap.size, 0, none⟩)]) x10 x11 x13 x14 x15 x16 w2 (hc.s5 hb2 hk2)
      rw [hWp.out, ha0.out] at hz
      simp only [put8, List.setIfInBounds_toArray, List.set_cons_zero, List.set_cons_succ] at hz
      exact hz
     ·refine step_bsl rfl 22 28 1 _ rfl Try.underlying22 f2.cs.toArray (bsl_eq (by kernel_rfl) (bFl f2)) ?_
      intro w2 hk2 hb2 hs2
      refine hK.out _ _ (bstep hc.b hb2) (fun hHeld => ?_)
      clear hK K hHeld
      have hz := P10100111.out x4 x5 (.slice (some ⟨w1.heap.size, 0, none⟩) 1 1) x11 x13 x14 x15 x16 w2 (hc.s10 hb2 hk2)
      rw [hWp.out, ha0.out] at hz
      simp only [put8, List.setIfInBounds_toArray, List.set_cons_zero, List.set_cons_succ] at hz
      exact hz)
    have P00100111 : Hid (∀ x4 x5 x10 x11 x13 x14 x15 x16 w1, Cd wr.drew f1 f2 lv false false true false false true true true x4 x5 x10 x11 x13 x14 x15 x16 w1 → Wp 7 #[true, true, true, true, false, false, true, true, true, true, true, false, true, false, true, true, true, false, false, false] (put8 a0 x4 x5 x10 x11 x13 x14 x15 x16) w1) := (show ∀ x4 x5 x10 x11 x13 x14 x15 x16 w1, Cd wr.drew f1 f2 lv false false true false false true true true x4 x5 x10 x11 x13 x14 x15 x16 w1 → Wp 7 #[true, true, true, true, false, false, true, true, true, true, true, false, true, false, true, true, true, false, false, false] (put8 a0 x4 x5 x10 x11 x13 x14 x15 x16) w1 from by
     intro x4 x5 x10 x11 x13 x14 x15 x16 w1 hc
     rw [hWp.out, ha0.out]
     simp only [put8, List.setIfInBounds_toArray, List.set_cons_zero, List.set_cons_succ]
     refine wpAnyH_ready (rs := [4]) (by kernel_rfl) (by simp) ?_
     refine AllReadyH.cons rfl (fun K hK => ?_) AllReadyH.nil
     refine step_bsl rfl 22 28 1 _ rfl Try.underlying22 f1.cs.toArray (bsl_eq (by kernel_rfl) (bFl f1)) ?_
     intro w2 hk2 hb2 hs2
     refine hK.out _ _ (bstep hc.b hb2) (fun hHeld => ?_)
     clear hK K hHeld
     have hz := P10100111.out (.slice (some ⟨w1.heap.size, 0, none⟩) 1 1) x5 x10 x11 x13 x14 x15 x16 w2 (hc.s4 hb2 hk2)
     rw [hWp.out, ha0.out] at hz
     simp only [put8, List.setIfInBounds_toArray, List.set_cons_zero, List.set_cons_succ] at hz
     exact hz)
    have P11100000 : Hid (∀ x4 x5 x10 x11 x13 x14 x15 x16 w1, Cd wr.drew f1 f2 lv true true true false false false false false x4 x5 x10 x11 x13 x14 x15 x16 w1 → Wp 8 #[true, true, true, true, true, true, true, true, true, true, true, false, true, false, false, false, false, false, false, false] (put8 a0 x4 x5 x10 x11 x13 x14 x15 x16) w1) := (show ∀ x4 x5 x10 x11 x13 x14 x15 x16 w1, Cd wr.drew f1 f2 lv true true true false false false false false x4 x5 x10 x11 x13 x14 x15 x16 w1 → Wp 8 #[true, true, true, true, true, true, true, true, true, true, true, false, true, false, false, false, false, false, false, false] (put8 a0 x4 x5 x10 x11 x13 x14 x15 x16) w1 from by
     intro x4 x5 x10 x11 x13 x14 x15 x16 w1 hc
     rw [hWp.out, ha0.out]
     simp only [put8, List.setIfInBounds_toArray, List.set_cons_zero, List.set_cons_succ]
     refine wpAnyH_ready (rs := [11, 14, 15, 16]) (by kernel_rfl) (by simp) ?_
     refine AllReadyH.cons rfl (fun K hK => ?_) (AllReadyH.cons rfl (fun K hK => ?_) (AllReadyH.cons rfl (fun K hK => ?_) (AllReadyH.cons rfl (fun K hK => ?_) AllReadyH.nil)))
     ·obtain ⟨g, rfl, hg⟩ := hc.h10 rfl
      go_simp
      refine (holder_any (some ⟨g, 0, none⟩) 1 1).mono ?_
      rintro e w2 ⟨rfl, hb2, hk2⟩
      refine hK.out _ _ (bstep hc.b hb2) (fun hHeld => ?_)
      clear hK K hHeld
      have hz := P11110000.out x4 x5 (.slice (some ⟨g, 0, none⟩) 1 1) (.func (.func 61) #[] #[.pointer (some ⟨w1.heap.size, 0, none⟩)]) x13 x14 x15 x16 w2 (hc.s11 hb2 hk2)
      rw [hWp.out, ha0.out] at hz
      simp only [put8, List.setIfInBounds_toArray, List.set_cons_zero, List.set_cons_succ] at hz
      exact hz
     ·refine step_alloc1 rfl 83 rfl zFSB ?_
      intro w2 hk2 hb2
      refine hK.out _ _ (bstep hc.b hb2) (fun hHeld => ?_)
      clear hK K hHeld
      have hz := P11100100.out x4 x5 x10 x11 x13 (.pointer (some ⟨w1.heap.size, 0, none⟩)) x15 x16 w2 (hc.s14 hb2 hk2)
      rw [hWp.out, ha0.out] at hz
      simp only [put8, List.setIfInBounds_toArray, List.set_cons_zero, List.set_cons_succ] at hz
      exact hz
     ·refine step_alloc1 rfl 83 rfl zFSB ?_
      intro w2 hk2 hb2
      refine hK.out _ _ (bstep hc.b hb2) (fun hHeld => ?_)
      clear hK K hHeld
      have hz := P11100010.out x4 x5 x10 x11 x13 x14 (.pointer (some ⟨w1.heap.size, 0, none⟩)) x16 w2 (hc.s15 hb2 hk2)
      rw [hWp.out, ha0.out] at hz
      simp only [put8, List.setIfInBounds_toArray, List.set_cons_zero, List.set_cons_succ] at hz
      exact hz
     ·refine step_alloc1 rfl 83 rfl zFSB ?_
      intro w2 hk2 hb2
      refine hK.out _ _ (bstep hc.b hb2) (fun hHeld => ?_)
      clear hK K hHeld
      have hz := P11100001.out x4 x5 x10 x11 x13 x14 x15 (.pointer (some ⟨w1.heap.size, 0, none⟩)) w2 (hc.s16 hb2 hk2)
      rw [hWp.out, ha0.out] at hz
      simp only [put8, List.setIfInBounds_toArray, List.set_cons_zero, List.set_cons_succ] at hz
      exact hz)
    have P11000100 : Hid (∀ x4 x5 x10 x11 x13 x14 x15 x16 w1, Cd wr.drew f1 f2 lv true true false false false true false false x4 x5 x10 x11 x13 x14 x15 x16 w1 → Wp 8 #[true, true, true, true, true, true, true, true, true, true, false, false, true, false, true, false, false, false, false, false] (put8 a0 x4 x5 x10 x11 x13 x14 x15 x16) w1) := (show ∀ x4 x5 x10 x11 x13 x14 x15 x16 w1, Cd wr.drew f1 f2 lv true true false false false true false false x4 x5 x10 x11 x13 x14 x15 x16 w1 → Wp 8 #[true, true, true, true, true, true, true, true, true, true, false, false, true, false, true, false, false, false, false, false] (put8 a0 x4 x5 x10 x11 x13 x14 x15 x16) w1 from by
     intro x4 x5 x10 x11 x13 x14 x15 x16 w1 hc
     rw [hWp.out, ha0.out]
     simp only [put8, List.setIfInBounds_toArray, List.set_cons_zero, List.set_cons_succ]
     refine wpAnyH_ready (rs := [10, 15, 16]) (by kernel_rfl) (by simp) ?_
     refine AllReadyH.cons rfl (fun K hK => ?_) (AllReadyH.cons rfl (fun K hK => ?_) (AllReadyH.cons rfl (fun K hK => ?_) AllReadyH.nil))
     ·refine step_bsl rfl 22 28 1 _ rfl Try.underlying22 f2.cs.toArray (bsl_eq (by kernel_rfl) (bFl f2)) ?_
      intro w2 hk2 hb2 hs2
      refine hK.out _ _ (bstep hc.b hb2) (fun hHeld => ?_)
      clear hK K hHeld
      have hz := P11100100.out x4 x5 (.slice (some ⟨w1.heap.size, 0, none⟩) 1 1) x11 x13 x14 x15 x16 w2 (hc.s10 hb2 hk2)
      rw [hWp.out, ha0.out] at hz
      simp only [put8, List.setIfInBounds_toArray, List.set_cons_zero, List.set_cons_succ] at hz
      exact hz
     ·refine step_alloc1 rfl 83 rfl zFSB ?_
      intro w2 hk2 hb2
      refine hK.out _ _ (bstep hc.b hb2) (fun hHeld => ?_)
      clear hK K hHeld
      have hz := P11000110.out x4 x5 x10 x11 x13 x14 (.pointer (some ⟨w1.heap.size, 0, none⟩)) x16 w2 (hc.s15 hb2 hk2)
      rw [hWp.out, ha0.out] at hz
      simp only [put8, List.setIfInBounds_toArray, List.set_cons_zero, List.set_cons_succ] at hz
      exact hz
     ·refine step_alloc1 rfl 83 rfl zFSB ?_
      intro w2 hk2 hb2
      refine hK.out _ _ (bstep hc.b hb2) (fun hHeld => ?_)
      clear hK K hHeld
      have hz := P11000101.out x4 x5 x10 x11 x13 x14 x15 (.pointer (some ⟨w1.heap.size, 0, none⟩)) w2 (hc.s16 hb2 hk2)
      rw [hWp.out, ha0.out] at hz
      simp only [put8, List.setIfInBounds_toArray, List.set_cons_zero, List.set_cons_succ] at hz
      exact hz)
    have P11000010 : Hid (∀ x4 x5 x10 x11 x13 x14 x15 x16 w1, Cd wr.drew f1 f2 lv true true false false false false true false x4 x5 x10 x11 x13 x14 x15 x16 w1 → Wp 8 #[true, true, true, true, true, true, true, true, true, true, false, false, true, false, false, true, false, false, false, false] (put8 a0 x4 x5 x10 x11 x13 x14 x15 x16) w1) := (show ∀ x4 x5 x10 x11 x13 x14 x15 x16 w1, Cd wr.drew f1 f2 lv true true false false false false true false x4 x5 x10 x11 x13 x14 x15 x16 w1 → Wp 8 #[true, true, true, true, true, true, true, true, true, true, false, false, true, false, false, true, false, false, false, false] (put8 a0 x4 x5 x10 x11 x13 x14 x15 x16) w1 from by
     intro x4 x5 x10 x11 x13 x14 x15 x16 w1 hc
     rw [hWp.out, ha0.out]
     simp only [put8, List.setIfInBounds_toArray, List.set_cons_zero, List.set_cons_succ]
     refine wpAnyH_ready (rs := [10, 14, 16]) (by kernel_rfl) (by simp) ?_
     refine AllReadyH.cons rfl (fun K hK => ?_) (AllReadyH.cons rfl (fun K hK => ?_) (AllReadyH.cons rfl (fun K hK => ?_) AllReadyH.nil))
     ·refine step_bsl rfl 22 28 1 _ rfl Try.underlying22 f2.cs.toArray (bsl_eq (by kernel_rfl) (bFl f2)) ?_
      intro w2 hk2 hb2 hs2
      refine hK.out _ _ (bstep hc.b hb2) (fun hHeld => ?_)
      clear hK K hHeld
      have hz := P11100010.out x4 x5 (.slice (some ⟨w1.heap.size, 0, none⟩) 1 1) x11 x13 x14 x15 x16 w2 (hc.s10 hb2 hk2)
      rw [hWp.out, ha0.out] at hz
      simp only [put8, List.setIfInBounds_toArray, List.set_cons_zero, List.set_cons_succ] at hz
      exact hz
     ·refine step_alloc1 rfl 83 rfl zFSB ?_
      intro w2 hk2 hb2
      refine hK.out _ _ (bstep hc.b hb2) (fun hHeld => ?_)
      clear hK K hHeld
      have hz := P11000110.out x4 x5 x10 x11 x13 (.pointer (some ⟨w1.heap.size, 0, none⟩)) x15 x16 w2 (hc.s14 hb2 hk2)
      rw [hWp.out, ha0.out] at hz
      simp only [put8, List.setIfInBounds_toArray, List.set_cons_zero, List.set_cons_succ] at hz
      exact hz
     ·refine step_alloc1 rfl 83 rfl zFSB ?_
      intro w2 hk2 hb2
      refine hK.out _ _ (bstep hc.b hb2) (fun hHeld => ?_)
      clear hK K hHeld
      have hz := P11000011.out x4 x5 x10 x11 x13 x14 x15 (.pointer (some ⟨w1.heap.size, 0, none⟩)) w2 (hc.s16 hb2 hk2)
      rw [hWp.out, ha0.out] at hz
      simp only [put8, List.setIfInBounds_toArray, List.set_cons_zero, List.set_cons_succ] at hz
      exact hz)
    have P11000001 : Hid (∀ x4 x5 x10 x11 x13 x14 x15 x16 w1, Cd wr.drew f1 f2 lv true true false false false false false true x4 x5 x10 x11 x13 x14 x15 x16 w1 → Wp 8 #[true, true, true, true, true, true, true, true, true, true, false, false, true, false, false, false, true, false, false, false] (put8 a0 x4 x5 x10 x11 x13 x14 x15 x16) w1) := (show ∀ x4 x5 x10 x11 x13 x14 x15 x16 w1, Cd wr.drew f1 f2 lv true true false false false false false true x4 x5 x10 x11 x13 x14 x15 x16 w1 → Wp 8 #[true, true, true, true, true, true, true, true, true, true, false, false, true, false, false, false, true, false, false, false] (put8 a0 x4 x5 x10 x11 x13 x14 x15 x16) w1 from by
     intro x4 x5 x10 x11 x13 x14 x15 x16 w1 hc
     rw [hWp.out, ha0.out]
     simp only [put8, List.setIfInBounds_toArray, List.set_cons_zero, List.set_cons_succ]
     refine wpAnyH_ready (rs := [10, 14, 15]) (by kernel_rfl) (by simp) ?_
     refine AllReadyH.cons rfl (fun K hK => ?_) (AllReadyH.cons rfl (fun K hK => ?_) (AllReadyH.cons rfl (fun K hK => ?_) AllReadyH.nil))
     ·refine step_bsl rfl 22 28 1 _ rfl Try.underlying22 f2.cs.toArray (bsl_eq (by kernel_rfl) (bFl f2)) ?_
      intro w2 hk2 hb2 hs2
      refine hK.out _ _ (bstep hc.b hb2) (fun hHeld => ?_)
      clear hK K hHeld
      have hz := P11100001.out x4 x5 (.slice (some ⟨w1.heap.size, 0, none⟩) 1 1) x11 x13 x14 x15 x16 w2 (hc.s10 hb2 hk2)
      rw [hWp.out, ha0.out] at hz
      simp only [put8, List.setIfInBounds_toArray, List.set_cons_zero, List.set_cons_succ] at hz
      exact hz
     ·refine step_alloc1 rfl 83 rfl zFSB ?_
      intro w2 hk2 hb2
      refine hK.out _ _ (bstep hc.b hb2) (fun hHeld => ?_)
      clear hK K hHeld
      have hz := P11000101.out x4 x5 x10 x11 x13 (.pointer (some ⟨w1.heap.size, 0, none⟩)) x15 x16 w2 (hc.s14 hb2 hk2)
      rw [hWp.out, ha0.out] at hz
      simp only [put8, List.setIfInBounds_toArray, List.set_cons_zero, List.set_cons_succ] at hz
      exact hz
     ·refine step_alloc1 rfl 83 rfl zFSB ?_
      intro w2 hk2 hb2
      refine hK.out _ _ (bstep hc.b hb2) (fun hHeld => ?_)
      clear hK K hHeld
      have hz := P11000011.out x4 x5 x10 x11 x13 x14 (.pointer (some ⟨w1.heap.size, 0, none⟩)) x16 w2 (hc.s15 hb2 hk2)
      rw [hWp.out, ha0.out] at hz
      simp only [put8, List.setIfInBounds_toArray, List.set_cons_zero, List.set_cons_succ] at hz
      exact hz)
    have P10100100 : Hid (∀ x4 x5 x10 x11 x13 x14 x15 x16 w1, Cd wr.drew f1 f2 lv true false true false false true false false x4 x5 x10 x11 x13 x14 x15 x16 w1 → Wp 8 #[true, true, true, true, true, false, true, true, true, true, true, false, true, false, true, false, false, false, false, false] (put8 a0 x4 x5 x10 x11 x13 x14 x15 x16) w1) := (show ∀ x4 x5 x10 x11 x13 x14 x15 x16 w1, Cd wr.drew f1 f2 lv true false true false false true false false x4 x5 x10 x11 x13 x14 x15 x16 w1 → Wp 8 #[true, true, true, true, true, false, true, true, true, true, true, false, true, false, true, false, false, false, false, false] (put8 a0 x4 x5 x10 x11 x13 x14 x15 x16) w1 from by
     intro x4 x5 x10 x11 x13 x14 x15 x16 w1 hc
     rw [hWp.out, ha0.out]
     simp only [put8, List.setIfInBounds_toArray, List.set_cons_zero, List.set_cons_succ]
     refine wpAnyH_ready (rs := [5, 15, 16]) (by kernel_rfl) (by simp) ?_
     refine AllReadyH.cons rfl (fun K hK => ?_) (AllReadyH.cons rfl (fun K hK => ?_) (AllReadyH.cons rfl (fun K hK => ?_) AllReadyH.nil))
     ·obtain ⟨g, rfl, hg⟩ := hc.h4 rfl
      go_simp
      refine (holder_any (some ⟨g, 0, none⟩) 1 1).mono ?_
      rintro e w2 ⟨rfl, hb2, hk2⟩
      refine hK.out _ _ (bstep hc.b hb2) (fun hHeld => ?_)
      clear hK K hHeld
      have hz := P11100100.out (.slice (some ⟨g, 0, none⟩) 1 1) (.func (.func 61) #[] #[.pointer (some ⟨w1.heap.size, 0, none⟩)]) x10 x11 x13 x14 x15 x16 w2 (hc.s5 hb2 hk2)
      rw [hWp.out, ha0.out] at hz
      simp only [put8, List.setIfInBounds_toArray, List.set_cons_zero, List.set_cons_succ] at hz
      exact hz
     ·refine step_alloc1 rfl 83 rfl zFSB ?_
      intro w2 hk2 hb2
      refine hK.out _ _ (bstep hc.b hb2) (fun hHeld => ?_)
      clear hK K hHeld
      have hz := P10100110.out x4 x5 x10 x11 x13 x14 (.pointer (some ⟨w1.heap.size, 0, none⟩)) x16 w2 (hc.s15 hb2 hk2)
      rw [hWp.out, ha0.out] at hz
      simp only [put8, List.setIfInBounds_toArray, List.set_cons_zero, List.set_cons_succ] at hz
      exact hz
     ·refine step_alloc1 rfl 83 rfl zFSB ?_
      intro w2 hk2 hb2
      refine hK.out _ _ (bstep hc.b hb2) (fun hHeld => ?_)
      clear hK K hHeld
      have hz := P10100101.out x4 x5 x10 x11 x13 x14 x15 (.pointer (some ⟨w1.heap.size, 0, none⟩)) w2 (hc.s16 hb2 hk2)
      rw [hWp.out, ha0.out] at hz
      simp only [put8, List.setIfInBounds_toArray, List.set_cons_zero, List.set_cons_succ] at hz
      exact hz)
    have P10100010 : Hid (∀ x4 x5 x10 x11 x13 x14 x15 x16 w1, Cd wr.drew f1 f2 lv true false true false false false true false x4 x5 x10 x11 x13 x14 x15 x16 w1 → Wp 8 #[true, true, true, true, true, false, true, true, true, true, true, false, true, false, false, true, false, false, false, false] (put8 a0 x4 x5 x10 x11 x13 x14 x15 x16) w1) := (show ∀ x4 x5 x10 x11 x13 x14 x15 x16 w1, Cd wr.drew f1 f2 lv true false true false false false true false x4 x5 x10 x11 x13 x14 x15 x16 w1 → Wp 8 #[true, true, true, true, true, false, true, true, true, true, true, false, true, false, false, true, false, false, false, false] (put8 a0 x4 x5 x10 x11 x13 x14 x15 x16) w1 from by
     intro x4 x5 x10 x11 x13 x14 x15 x16 w1 hc
     rw [hWp.out, ha0.out]
     simp only [put8, List.setIfInBounds_toArray, List.set_cons_zero, List.set_cons_succ]
     refine wpAnyH_ready (rs := [5, 14, 16]) (by kernel_rfl) (by simp) ?_
     refine AllReadyH.cons rfl (fun K hK => ?_) (AllReadyH.cons rfl (fun K hK => ?_) (AllReadyH.cons rfl (fun K hK => ?_) AllReadyH.nil))
     ·obtain ⟨g, rfl, hg⟩ := hc.h4 rfl
      go_simp
      refine (holder_any (some ⟨g, 0, none⟩) 1 1).mono ?_
      rintro e w2 ⟨rfl, hb2, hk2⟩
      refine hK.out _ _ (bstep hc.b hb2) (fun hHeld => ?_)
      clear hK K hHeld
      have hz := P11100010.out (.slice (some ⟨g, 0, none⟩) 1 1) (.func (.func 61) #[] #[.pointer (some ⟨w1.heap.size, 0, none⟩)]) x10 x11 x13 x14 x15 x16 w2 (hc.s5 hb2 hk2)
      rw [hWp.out, ha0.out] at hz
      simp only [put8, List.setIfInBounds_toArray, List.set_cons_zero, List.set_cons_succ] at hz
      exact hz
     ·refine step_alloc1 rfl 83 rfl zFSB ?_
      intro w2 hk2 hb2
      refine hK.out _ _ (bstep hc.b hb2) (fun hHeld => ?_)
      clear hK K hHeld
      have hz := P10100110.out x4 x5 x10 x11 x13 (.pointer (some ⟨w1.heap.size, 0, none⟩)) x15 x16 w2 (hc.s14 hb2 hk2)
      rw [hWp.out, ha0.out] at hz
      simp only [put8, List.setIfInBounds_toArray, List.set_cons_zero, List.set_cons_succ] at hz
      exact hz
     ·refine step_alloc1 rfl 83 rfl zFSB ?_
      intro w2 hk2 hb2
      refine hK.out _ _ (bstep hc.b hb2) (fun hHeld => ?_)
      clear hK K hHeld
      have hz := P10100011.out x4 x5 x10 x11 x13 x14 x15 (.pointer (some ⟨w1.heap.size, 0, none⟩)) w2 (hc.s16 hb2 hk2)
      rw [hWp.out, ha0.out] at hz
      simp only [put8, List.setIfInBounds_toArray, List.set_cons_zero, List.set_cons_succ] at hz
      exact hz)
    have P10100001 : Hid (∀ x4 x5 x10 x11 x13 x14 x15 x16 w1, Cd wr.drew f1 f2 lv true false true false false false false true x4 x5 x10 x11 x13 x14 x15 x16 w1 → Wp 8 #[true, true, true, true, true, false, true, true, true, true, true, false, true, false, false, false, true, false, false, false] (put8 a0 x4 x5 x10 x11 x13 x14 x15 x16) w1) := (show ∀ x4 x5 x10 x11 x13 x14 x15 x16 w1, Cd wr.drew f1 f2 lv true false true false false false false true x4 x5 x10 x11 x13 x14 x15 x16 w1 → Wp 8 #[true, true, true, true, true, false, true, true, true, true, true, false, true, false, false, false, true, false, false, false] (put8 a0 x4 x5 x10 x11 x13 x14 x15 x16) w1 from by
     intro x4 x5 x10 x11 x13 x14 x15 x16 w1 hc
     rw [hWp.out, ha0.out]
     simp only [put8, List.setIfInBounds_toArray, List.set_cons_zero, List.set_cons_succ]
     refine wpAnyH_ready (rs := [5, 14, 15]) (by kernel_rfl) (by simp) ?_
     refine AllReadyH.cons rfl (fun K hK => ?_) (AllReadyH.cons rfl (fun K hK => ?_) (AllReadyH.cons rfl (fun K hK => ?_) AllReadyH.nil))
     ·obtain ⟨g, rfl, hg⟩ := hc.h4 rfl
      go_simp
      refine (holder_any (some ⟨g, 0, none⟩) 1 1).mono ?_
      rintro e w2 ⟨rfl, hb2, hk2⟩
      refine hK.out _ _ (bstep hc.b hb2) (fun hHeld => ?_)
      clear hK K hHeld
      have hz := P11100001.out (.slice (some ⟨g, 0, none⟩) 1 1) (.func (.func 61) #[] #[.pointer (some ⟨w1.heap.size, 0, none⟩)]) x10 x11 x13 x14 x15 x16 w2 (hc.s5 hb2 hk2)
      rw [hWp.out, ha0.out] at hz
      simp only [put8, List.setIfInBounds_toArray, List.set_cons_zero, List.set_cons_succ] at hz
      exact hz
     ·refine step_alloc1 rfl 83 rfl zFSB ?_
      intro w2 hk2 hb2
      refine hK.out _ _ (bstep hc.b hb2) (fun hHeld => ?_)
      clear hK K hHeld
      have hz := P10100101.out x4 x5 x10 x11 x13 (.pointer (some ⟨w1.heap.size, 0, none⟩)) x15 x16 w2 (hc.s14 hb2 hk2)
      rw [hWp.out, ha0.out] at hz
      simp only [put8, List.setIfInBounds_toArray, List.set_cons_zero, List.set_cons_succ] at hz
      exact hz
     ·refine step_alloc1 rfl 83 rfl zFSB ?_
      intro w2 hk2 hb2
      refine hK.out _ _ (bstep hc.b hb2) (fun hHeld => ?_)
      clear hK K hHeld
      have hz := P10100011.out x4 x5 x10 x11 x13 x14 (.pointer (some ⟨w1.heap.size, 0, none⟩)) x16 w2 (hc.s15 hb2 hk2)
      rw [hWp.out, ha0.out] at hz
      simp only [put8, List.setIfInBounds_toArray, List.set_cons_zero, List.set_cons_succ] at hz
      exact hz)
    have P10000110 : Hid (∀ x4 x5 x10 x11 x13 x14 x15 x16 w1, Cd wr.drew f1 f2 lv true false false false false true true false x4 x5 x10 x11 x13 x14 x15 x16 w1 → Wp 8 #[true, true, true, true, true, false, true, true, true, true, false, false, true, false, true, true, false, false, false, false] (put8 a0 x4 x5 x10 x11 x13 x14 x15 x16) w1) := (show ∀ x4 x5 x10 x11 x13 x14 x15 x16 w1, Cd wr.drew f1 f2 lv true false false false false true true false x4 x5 x10 x11 x13 x14 x15 x16 w1 → Wp 8 #[true, true, true, true, true, false, true, true, true, true, false, false, true, false, true, true, false, false, false, false] (put8 a0 x4 x5 x10 x11 x13 x14 x15 x16) w1 from by
     intro x4 x5 x10 x11 x13 x14 x15 x16 w1 hc
     rw [hWp.out, ha0.out]
     simp only [put8, List.setIfInBounds_toArray, List.set_cons_zero, List.set_cons_succ]
     refine wpAnyH_ready (rs := [5, 10, 16]) (by kernel_rfl) (by simp) ?_
     refine AllReadyH.cons rfl (fun K hK => ?_) (AllReadyH.cons rfl (fun K hK => ?_) (AllReadyH.cons rfl (fun K hK => ?_) AllReadyH.nil))
     ·obtain ⟨g, rfl, hg⟩ := hc.h4 rfl
      go_simp
      refine (holder_any (some ⟨g, 0, none⟩) 1 1).mono ?_
      rintro e w2 ⟨rfl, hb2, hk2⟩
      refine hK.out _ _ (bstep hc.b hb2) (fun hHeld => ?_)
      clear hK K hHeld
      have hz := P11000110.out (.slice (some ⟨g, 0, none⟩) 1 1) (.func (.func 61) #[] #[.pointer (some ⟨w1.heap.size, 0, none⟩)]) x10 x11 x13 x14 x15 x16 w2 (hc.s5 hb2 hk2)
      rw [hWp.out, ha0.out] at hz
      simp only [put8, List.setIfInBounds_toArray, List.set_cons_zero, List.set_cons_succ] at hz
      exact hz
     ·refine step_bsl rfl 22 28 1 _ rfl Try.underlying22 f2.cs.toArray (bsl_eq (by kernel_rfl) (bFl f2)) ?_
      intro w2 hk2 hb2 hs2
      refine hK.out _ _ (bstep hc.b hb2) (fun hHeld => ?_)
      clear hK K hHeld
      have hz := P10100110.out x4 x5 (.slice (some ⟨w1.heap.size, 0, none⟩) 1 1) x11 x13 x14 x15 x16 w2 (hc.s10 hb2 hk2)
      rw [hWp.out, ha0.out] at hz
      simp only [put8, List.setIfInBounds_toArray, List.set_cons_zero, List.set_cons_succ] at hz
      exact hz
     ·refine step_alloc1 rfl 83 rfl zFSB ?_
      intro w2 hk2 hb2
      refine hK.out _ _ (bstep hc.b hb2) (fun hHeld => ?_)
      clear hK K hHeld
      have hz := P10000111.out x4 x5 x10 x11 x13 x14 x15 (.pointer (some ⟨w1.heap.size, 0, none⟩)) w2 (hc.s16 hb2 hk2)
      rw [hWp.out, ha0.out] at hz
      simp only [put8, List.setIfInBounds_toArray, List.set_cons_zero, List.set_cons_succ] at hz
      exact hz)
    have P10000101 : Hid (∀ x4 x5 x10 x11 x13 x14 x15 x16 w1, Cd wr.drew f1 f2 lv true false false false false true false true x4 x5 x10 x11 x13 x14 x15 x16 w1 → Wp 8 #[true, true, true, true, true, false, true, true, true, true, false, false, true, false, true, false, true, false, false, false] (put8 a0 x4 x5 x10 x11 x13 x14 x15 x16) w1) := (show ∀ x4 x5 x10 x11 x13 x14 x15 x16 w1, Cd wr.drew f1 f2 lv true false false false false true false true x4 x5 x10 x11 x13 x14 x15 x16 w1 → Wp 8 #[true, true, true, true, true, false, true, true, true, true, false, false, true, false, true, false, true, false, false, false] (put8 a0 x4 x5 x10 x11 x13 x14 x15 x16) w1 from by
     intro x4 x5 x10 x11 x13 x14 x15 x16 w1 hc
     rw [hWp.out, ha0.out]
     simp only [put8, List.setIfInBounds_toArray, List.set_cons_zero, List.set_cons_succ]
     refine wpAnyH_ready (rs := [5, 10, 15]) (by kernel_rfl) (by simp) ?_
     refine AllReadyH.cons rfl (fun K hK => ?_) (AllReadyH.cons rfl (fun K hK => ?_) (AllReadyH.cons rfl (fun K hK => ?_) AllReadyH.nil))
     ·obtain ⟨g, rfl, hg⟩ := hc.h4 rfl
      go_simp
      refine (holder_any (some ⟨g, 0, none⟩) 1 1).mono ?_
      rintro e w2 ⟨rfl, hb2, hk2⟩
      refine hK.out _ _ (bstep hc.b hb2) (fun hHeld => ?_)
      clear hK K hHeld
      have hz := P11000101.out (.slice (some ⟨g, 0, none⟩) 1 1) (.func (.func 61) #[] #[.pointer (some ⟨w1.heap.size, 0, none⟩)]) x10 x11 x13 x14 x15 x16 w2 (hc.s5 hb2 hk2)
      rw [hWp.out, ha0.out] at hz
      simp only [put8, List.setIfInBounds_toArray, List.set_cons_zero, List.set_cons_succ] at hz
      exact hz
     ·refine step_bsl rfl 22 28 1 _ rfl Try.underlying22 f2.cs.toArray (bsl_eq (by kernel_rfl) (bFl f2)) ?_
      intro w2 hk2 hb2 hs2
      refine hK.out _ _ (bstep hc.b hb2) (fun hHeld => ?_)
      clear hK K hHeld
      have hz := P10100101.out x4 x5 (.slice (some ⟨w1.heap.size, 0, none⟩) 1 1) x11 x13 x14 x15 x16 w2 (hc.s10 hb2 hk2)
      rw [hWp.out, ha0.out] at hz
      simp only [put8, List.setIfInBounds_toArray, List.set_cons_zero, List.set_cons_succ] at hz
      exact hz
     ·refine step_alloc1 rfl 83 rfl zFSB ?_
      intro w2 hk2 hb2
      refine hK.out _ _ (bstep hc.b hb2) (fun hHeld => ?_)
      clear hK K hHeld
      have hz := P10000111.out x4 x5 x10 x11 x13 x14 (.pointer (some ⟨w1.heap.size, 0, none⟩)) x16 w2 (hc.s15 hb2 hk2)
      rw [hWp.out, ha0.out] at hz
      simp only [put8, List.setIfInBounds_toArray, List.set_cons_zero, List.set_cons_succ] at hz
      exact hz)
    have P10000011 : Hid (∀ x4 x5 x10 x11 x13 x14 x15 x16 w1, Cd wr.drew f1 f2 lv true false false false false false true true x4 x5 x10 x11 x13 x14 x15 x16 w1 → Wp 8 #[true, true, true, true, true, false, true, true, true, true, false, false, true, false, false, true, true, false, false, false] (put8 a0 x4 x5 x10 x11 x13 x14 x15 x16) w1) := (show ∀ x4 x5 x10 x11 x13 x14 x15 x16 w1, Cd wr.drew f1 f2 lv true false false false false false true true x4 x5 x10 x11 x13 x14 x15 x16 w1 → Wp 8 #[true, true, true, true, true, false, true, true, true, true, false, false, true, false, false, true, true, false, false, false] (put8 a0 x4 x5 x10 x11 x13 x14 x15 x16) w1 from by
     intro x4 x5 x10 x11 x13 x14 x15 x16 w1 hc
     rw [hWp.out, ha0.out]
     simp only [put8, List.setIfInBounds_toArray, List.set_cons_zero, List.set_cons_succ]
     refine wpAnyH_ready (rs := [5, 10, 14]) (by kernel_rfl) (by simp) ?_
     refine AllReadyH.cons rfl (fun K hK => ?_) (AllReadyH.cons rfl (fun K hK => ?_) (AllReadyH.cons rfl (fun K hK => ?_) AllReadyH.nil))
     ·obtain ⟨g, rfl, hg⟩ := hc.h4 rfl
      go_simp
      refine (holder_any (some ⟨g, 0, none⟩) 1 1).mono ?_
      rintro e w2 ⟨rfl, hb2, hk2⟩
      refine hK.out _ _ (bstep hc.b hb2) (fun hHeld => ?_)
      clear hK K hHeld
      have hz := P11000011.out (.slice (some ⟨g, 0, none⟩) 1 1) (.func (.func 61) #[] #[.pointer (some ⟨w1.heap.size, 0, none⟩)]) x10 x11 x13 x14 x15 x16 w2 (hc.s5 hb2 hk2)
      rw [hWp.out, ha0.out] at hz
      simp only [put8, List.setIfInBounds_toArray, List.set_cons_zero, List.set_cons_succ] at hz
      exact hz
     ·refine step_bsl rfl 22 28 1 _ rfl Try.underlying22 f2.cs.toArray (bsl_eq (by kernel_rfl) (bFl f2)) ?_
      intro w2 hk2 hb2 hs2
      refine hK.out _ _ (bstep hc.b hb2) (fun hHeld => ?_)
      clear hK K hHeld
      have hz := P10100011.out x4 x5 (.slice (some ⟨w1.heap.size, 0, none⟩) 1 1) x11 x13 x14 x15 x16 w2 (hc.s10 hb2 hk2)
      rw [hWp.out, ha0.out] at hz
      simp only [put8, List.setIfInBounds_toArray, List.set_cons_zero, List.set_cons_succ] at hz
      exact hz
     ·refine step_alloc1 rfl 83 rfl zFSB ?_
      intro w2 hk2 hb2
      refine hK.out _ _ (bstep hc.b hb2) (fun hHeld => ?_)
      clear hK K hHeld
      have hz := P10000111.out x4 x5 x10 x11 x13 (.pointer (some ⟨w1.heap.size, 0, none⟩)) x15 x16 w2 (hc.s14 hb2 hk2)
      rw [hWp.out, ha0.out] at hz
      simp only [put8, List.setIfInBounds_toArray, List.set_cons_zero, List.set_cons_succ] at hz
      exact hz)
    have P00100110 : Hid (∀ x4 x5 x10 x11 x13 x14 x15 x16 w1, Cd wr.drew f1 f2 lv false false true false false true true false x4 x5 x10 x11 x13 x14 x15 x16 w1 → Wp 8 #[true, true, true, true, false, false, true, true, true, true, true, false, true, false, true, true, false, false, false, false] (put8 a0 x4 x5 x10 x11 x13 x14 x15 x16) w1) := (show ∀ x4 x5 x10 x11 x13 x14 x15 x16 w1, Cd wr.drew f1 f2 lv false false true false false true true false x4 x5 x10 x11 x13 x14 x15 x16 w1 → Wp 8 #[true, true, true, true, false, false, true, true, true, true, true, false, true, false, true, true, false, false, false, false] (put8 a0 x4 x5 x10 x11 x13 x14 x15 x16) w1 from by
     intro x4 x5 x10 x11 x13 x14 x15 x16 w1 hc
     rw [hWp.out, ha0.out]
     simp only [put8, List.setIfInBounds_toArray, List.set_cons_zero, List.set_cons_succ]
     refine wpAnyH_ready (rs := [4, 16]) (by kernel_rfl) (by simp) ?_
     refine AllReadyH.cons rfl (fun K hK => ?_) (AllReadyH.cons rfl (fun K hK => ?_) AllReadyH.nil)
     ·refine step_bsl rfl 22 28 1 _ rfl Try.underlying22 f1.cs.toArray (bsl_eq (by kernel_rfl) (bFl f1)) ?_
      intro w2 hk2 hb2 hs2
      refine hK.out _ _ (bstep hc.b hb2) (fun hHeld => ?_)
      clear hK K hHeld
      have hz := P10100110.out (.slice (some ⟨w1.heap.size, 0, none⟩) 1 1) x5 x10 x11 x13 x14 x15 x16 w2 (hc.s4 hb2 hk2)
      rw [hWp.out, ha0.out] at hz
      simp only [put8, List.setIfInBounds_toArray, List.set_cons_zero, List.set_cons_succ] at hz
      exact hz
     ·refine step_alloc1 rfl 83 rfl zFSB ?_
      intro w2 hk2 hb2
      refine hK.out _ _ (bstep hc.b hb2) (fun hHeld => ?_)
      clear hK K hHeld
      have hz := P00100111.out x4 x5 x10 x11 x13 x14 x15 (.pointer (some ⟨w1.heap.size, 0, none⟩)) w2 (hc.s16 hb2 hk2)
      rw [hWp.out, ha0.out] at hz
      simp only [put8, List.setIfInBounds_toArray, List.set_cons_zero, List.set_cons_succ] at hz
      exact hz)
    have P00100101 : Hid (∀ x4 x5 x10 x11 x13 x14 x15 x16 w1, Cd wr.drew f1 f2 lv false false true false false true false true x4 x5 x10 x11 x13 x14 x15 x16 w1 → Wp 8 #[true, true, true, true, false, false, true, true, true, true, true, false, true, false, true, false, true, false, false, false] (put8 a0 x4 x5 x10 x11 x13 x14 x15 x16) w1) := (show ∀ x4 x5 x10 x11 x13 x14 x15 x16 w1, Cd wr.drew f1 f2 lv false false true false false true false true x4 x5 x10 x11 x13 x14 x15 x16 w1 → Wp 8 #[true, true, true, true, false, false, true, true, true, true, true, false, true, false, true, false, true, false, false, false] (put8 a0 x4 x5 x10 x11 x13 x14 x15 x16) w1 from by
     intro x4 x5 x10 x11 x13 x14 x15 x16 w1 hc
     rw [hWp.out, ha0.out]
     simp only [put8, List.setIfInBounds_toArray, List.set_cons_zero, List.set_cons_succ]
     refine wpAnyH_ready (rs := [4, 15]) (by kernel_rfl) (by simp) ?_
     refine AllReadyH.cons rfl (fun K hK => ?_) (AllReadyH.cons rfl (fun K hK => ?_) AllReadyH.nil)
     ·refine step_bsl rfl 22 28 1 _ rfl Try.underlying22 f1.cs.toArray (bsl_eq (by kernel_rfl) (bFl f1)) ?_
      intro w2 hk2 hb2 hs2
      refine hK.out _ _ (bstep hc.b hb2) (fun hHeld => ?_)
      clear hK K hHeld
      have hz := P10100101.out (.slice (some ⟨w1.heap.size, 0, none⟩) 1 1) x5 x10 x11 x13 x14 x15 x16 w2 (hc.s4 hb2 hk2)
      rw [hWp.out, ha0.out] at hz
      simp only [put8, List.setIfInBounds_toArray, List.set_cons_zero, List.set_cons_succ] at hz
      exact hz
     ·refine step_alloc1 rfl 83 rfl zFSB ?_
      intro w2 hk2 hb2
      refine hK.out _ _ (bstep hc.b hb2) (fun hHeld => ?_)
      clear hK K hHeld
      have hz := P00100111.out x4 x5 x10 x11 x13 x14 (.pointer (some ⟨w1.heap.size, 0, none⟩)) x16 w2 (hc.s15 hb2 hk2)
      rw [hWp.out, ha0.out] at hz
      simp only [put8, List.setIfInBounds_toArray, List.set_cons_zero, List.set_cons_succ] at hz
      exact hz)
    have P00100011 : Hid (∀ x4 x5 x10 x11 x13 x14 x15 x16 w1, Cd wr.drew f1 f2 lv false false true false false false true true x4 x5 x10 x11 x13 x14 x15 x16 w1 → Wp 8 #[true, true, true, true, false, false, true, true, true, true, true, false, true, false, false, true, true, false, false, false] (put8 a0 x4 x5 x10 x11 x13 x14 x15 x16) w1) := (show ∀ x4 x5 x10 x11 x13 x14 x15 x16 w1, Cd wr.drew f1 f2 lv false false true false false false true true x4 x5 x10 x11 x13 x14 x15 x16 w1 → Wp 8 #[true, true, true, true, false, false, true, true, true, true, true, false, true, false, false, true, true, false, false, false] (put8 a0 x4 x5 x10 x11 x13 x14 x15 x16) w1 from by
     intro x4 x5 x10 x11 x13 x14 x15 x16 w1 hc
     rw [hWp.out, ha0.out]
     simp only [put8, List.setIfInBounds_toArray, List.set_cons_zero, List.set_cons_succ]
     refine wpAnyH_ready (rs := [4, 14]) (by kernel_rfl) (by simp) ?_
     refine AllReadyH.cons rfl (fun K hK => ?_) (AllReadyH.cons rfl (fun K hK => ?_) AllReadyH.nil)
     ·refine step_bsl rfl 22 28 1 _ rfl Try.underlying22 f1.cs.toArray (bsl_eq (by kernel_rfl) (bFl f1)) ?_
      intro w2 hk2 hb2 hs2
      refine hK.out _ _ (bstep hc.b hb2) (fun hHeld => ?_)
      clear hK K hHeld
      have hz := P10100011.out (.slice (some ⟨w1.heap.size, 0, none⟩) 1 1) x5 x10 x11 x13 x14 x15 x16 w2 (hc.s4 hb2 hk2)
      rw [hWp.out, ha0.out] at hz
      simp only [put8, List.setIfInBounds_toArray, List.set_cons_zero, List.set_cons_succ] at hz
      exact hz
     ·refine step_alloc1 rfl 83 rfl zFSB ?_
      intro w2 hk2 hb2
      refine hK.out _ _ (bstep hc.b hb2) (fun hHeld => ?_)
      clear hK K hHeld
      have hz := P00100111.out x4 x5 x10 x11 x13 (.pointer (some ⟨w1.heap.size, 0, none⟩)) x15 x16 w2 (hc.s14 hb2 hk2)
      rw [hWp.out, ha0.out] at hz
      simp only [put8, List.setIfInBounds_toArray, List.set_cons_zero, List.set_cons_succ] at hz
      exact hz)
    have P00000111 : Hid (∀ x4 x5 x10 x11 x13 x14 x15 x16 w1, Cd wr.drew f1 f2 lv false false false false false true true true x4 x5 x10 x11 x13 x14 x15 x16 w1 → Wp 8 #[true, true, true, true, false, false, true, true, true, true, false, false, true, false, true, true, true, false, false, false] (put8 a0 x4 x5 x10 x11 x13 x14 x15 x16) w1) := (show ∀ x4 x5 x10 x11 x13 x14 x15 x16 w1, Cd wr.drew f1 f2 lv false false false false false true true true x4 x5 x10 x11 x13 x14 x15 x16 w1 → Wp 8 #[true, true, true, true, false, false, true, true, true, true, false, false, true, false, true, true, true, false, false, false] (put8 a0 x4 x5 x10 x11 x13 x14 x15 x16) w1 from by
     intro x4 x5 x10 x11 x13 x14 x15 x16 w1 hc
     rw [hWp.out, ha0.out]
     simp only [put8, List.setIfInBounds_toArray, List.set_cons_zero, List.set_cons_succ]
     refine wpAnyH_ready (rs := [4, 10]) (by kernel_rfl) (by simp) ?_
     refine AllReadyH.cons rfl (fun K hK => ?_) (AllReadyH.cons rfl (fun K hK => ?_) AllReadyH.nil)
     ·refine step_bsl rfl 22 28 1 _ rfl Try.underlying22 f1.cs.toArray (bsl_eq (by kernel_rfl) (bFl f1)) ?_
      intro w2 hk2 hb2 hs2
      refine hK.out _ _ (bstep hc.b hb2) (fun hHeld => ?_)
      clear hK K hHeld
      have hz := P10000111.out (.slice (some ⟨w1.heap.size, 0, none⟩) 1 1) x5 x10 x11 x13 x14 x15 x16 w2 (hc.s4 hb2 hk2)
      rw [hWp.out, ha0.out] at hz
      simp only [put8, List.setIfInBounds_toArray, List.set_cons_zero, List.set_cons_succ] at hz
      exact hz
     ·refine step_bsl rfl 22 28 1 _ rfl Try.underlying22 f2.cs.toArray (bsl_eq (by kernel_rfl) (bFl f2)) ?_
      intro w2 hk2 hb2 hs2
      refine hK.out _ _ (bstep hc.b hb2) (fun hHeld => ?_)
      clear hK K hHeld
      have hz := P00100111.out x4 x5 (.slice (some ⟨w1.heap.size, 0, none⟩) 1 1) x11 x13 x14 x15 x16 w2 (hc.s10 hb2 hk2)
      rw [hWp.out, ha0.out] at hz
      simp only [put8, List.setIfInBounds_toArray, List.set_cons_zero, List.set_cons_succ] at hz
      exact hz)
    have P11000000 : Hid (∀ x4 x5 x10 x11 x13 x14 x15 x16 w1, Cd wr.drew f1 f2 lv true true false false false false false false x4 x5 x10 x11 x13 x14 x15 x16 w1 → Wp 9 #[true, true, true, true, true, true, true, true, true, true, false, false, true, false, false, false, false, false, false, false] (put8 a0 x4 x5 x10 x11 x13 x14 x15 x16) w1) := (show ∀ x4 x5 x10 x11 x13 x14 x15 x16 w1, Cd wr.drew f1 f2 lv true true false false false false false false x4 x5 x10 x11 x13 x14 x15 x16 w1 → Wp 9 #[true, true, true, true, true, true, true, true, true, true, false, false, true, false, false, false, false, false, false, false] (put8 a0 x4 x5 x10 x11 x13 x14 x15 x16) w1 from by
     intro x4 x5 x10 x11 x13 x14 x15 x16 w1 hc
     rw [hWp.out, ha0.out]
     simp only [put8, List.setIfInBounds_toArray, List.set_cons_zero, List.set_cons_succ]
     refine wpAnyH_ready (rs := [10, 14, 15, 16]) (by kernel_rfl) (by simp) ?_
     refine AllReadyH.cons rfl (fun K hK => ?_) (AllReadyH.cons rfl (fun K hK => ?_) (AllReadyH.cons rfl (fun K hK => ?_) (AllReadyH.cons rfl (fun K hK => ?_) AllReadyH.nil)))
     ·refine step_bsl rfl 22 28 1 _ rfl Try.underlying22 f2.cs.toArray (bsl_eq (by kernel_rfl) (bFl f2)) ?_
      intro w2 hk2 hb2 hs2
      refine hK.out _ _ (bstep hc.b hb2) (fun hHeld => ?_)
      clear hK K hHeld
      have hz := P11100000.out x4 x5 (.slice (some ⟨w1.heap.size, 0, none⟩) 1 1) x11 x13 x14 x15 x16 w2 (hc.s10 hb2 hk2)
      rw [hWp.out, ha0.out] at hz
      simp only [put8, List.setIfInBounds_toArray, List.set_cons_zero, List.set_cons_succ] at hz
      exact hz
     ·refine step_alloc1 rfl 83 rfl zFSB ?_
      intro w2 hk2 hb2
      refine hK.out _ _ (bstep hc.b hb2) (fun hHeld => ?_)
      clear hK K hHeld
      have hz := P11000100.out x4 x5 x10 x11 x13 (.pointer (some ⟨w1.heap.size, 0, none⟩)) x15 x16 w2 (hc.s14 hb2 hk2)
      rw [hWp.out, ha0.out] at hz
      simp only [put8, List.setIfInBounds_toArray, List.set_cons_zero, List.set_cons_succ] at hz
      exact hz
     ·refine step_alloc1 rfl 83 rfl zFSB ?_
      intro w2 hk2 hb2
      refine hK.out _ _ (bstep hc.b hb2) (fun hHeld => ?_)
      clear hK K hHeld
      have hz := P11000010.out x4 x5 x10 x11 x13 x14 (.pointer (some ⟨w1.heap.size, 0, none⟩)) x16 w2 (hc.s15 hb2 hk2)
      rw [hWp.out, ha0.out] at hz
      simp only [put8, List.setIfInBounds_toArray, List.set_cons_zero, List.set_cons_succ] at hz
      exact hz
     ·refine step_alloc1 rfl 83 rfl zFSB ?_
      intro w2 hk2 hb2
      refine hK.out _ _ (bstep hc.b hb2) (fun hHeld => ?_)
      clear hK K hHeld
      have hz := P11000001.out x4 x5 x10 x11 x13 x14 x15 (.pointer (some ⟨w1.heap.size, 0, none⟩)) w2 (hc.s16 hb2 hk2)
      rw [hWp.out, ha0.out] at hz
      simp only [put8, List.setIfInBounds_toArray, List.set_cons_zero, List.set_cons_succ] at hz
      exact hz)
    have P10100000 : Hid (∀ x4 x5 x10 x11 x13 x14 x15 x16 w1, Cd wr.drew f1 f2 lv true false true false false false false false x4 x5 x10 x11 x13 x14 x15 x16 w1 → Wp 9 #[true, true, true, true, true, false, true, true, true, true, true, false, true, false, false, false, false, false, false, false] (put8 a0 x4 x5 x10 x11 x13 x14 x15 x16) w1) := (show ∀ x4 x5 x10 x11 x13 x14 x15 x16 w1, Cd wr.drew f1 f2 lv true false true false false false false false x4 x5 x10 x11 x13 x14 x15 x16 w1 → Wp 9 #[true, true, true, true, true, false, true, true, true, true, true, false, true, false, false, false, false, false, false, false] (put8 a0 x4 x5 x10 x11 x13 x14 x15 x16) w1 from by
     intro x4 x5 x10 x11 x13 x14 x15 x16 w1 hc
     rw [hWp.out, ha0.out]
     simp only [put8, List.setIfInBounds_toArray, List.set_cons_zero, List.set_cons_succ]
     refine wpAnyH_ready (rs := [5, 14, 15, 16]) (by kernel_rfl) (by simp) ?_
     refine AllReadyH.cons rfl (fun K hK => ?_) (AllReadyH.cons rfl (fun K hK => ?_) (AllReadyH.cons rfl (fun K hK => ?_) (AllReadyH.cons rfl (fun K hK => ?_) AllReadyH.nil)))
     ·obtain ⟨g, rfl, hg⟩ := hc.h4 rfl
      go_simp
      refine (holder_any (some ⟨g, 0, none⟩) 1 1).mono ?_
      rintro e w2 ⟨rfl, hb2, hk2⟩
      refine hK.out _ _ (bstep hc.b hb2) (fun hHeld => ?_)
      clear hK K hHeld
      have hz := P11100000.out (.slice (some ⟨g, 0, none⟩) 1 1) (.func (.func 61) #[] #[.pointer (some ⟨w1.heap.size, 0, none⟩)]) x10 x11 x13 x14 x15 x16 w2 (hc.s5 hb2 hk2)
      rw [hWp.out, ha0.out] at hz
      simp only [put8, List.setIfInBounds_toArray, List.set_cons_zero, List.set_cons_succ] at hz
      exact hz
     ·refine step_alloc1 rfl 83 rfl zFSB ?_
      intro w2 hk2 hb2
      refine hK.out _ _ (bstep hc.b hb2) (fun hHeld => ?_)
      clear hK K hHeld
      have hz := P10100100.out x4 x5 x10 x11 x13 (.pointer (some ⟨w1.heap.size, 0, none⟩)) x15 x16 w2 (hc.s14 hb2 hk2)
      rw [hWp.out, ha0.out] at hz
      simp only [put8, List.setIfInBounds_toArray, List.set_cons_zero, List.set_cons_succ] at hz
      exact hz
     ·refine step_alloc1 rfl 83 rfl zFSB ?_
      intro w2 hk2 hb2
      refine hK.out _ _ (bstep hc.b hb2) (fun hHeld => ?_)
      clear hK K hHeld
      have hz := P10100010.out x4 x5 x10 x11 x13 x14 (.pointer (some ⟨w1.heap.size, 0, none⟩)) x16 w2 (hc.s15 hb2 hk2)
      rw [hWp.out, ha0.out] at hz
      simp only [put8, List.setIfInBounds_toArray, List.set_cons_zero, List.set_cons_succ] at hz
      exact hz
     ·refine step_alloc1 rfl 83 rfl zFSB ?_
      intro w2 hk2 hb2
      refine hK.out _ _ (bstep hc.b hb2) (fun hHeld => ?_)
      clear hK K hHeld
      have hz := P10100001.out x4 x5 x10 x11 x13 x14 x15 (.pointer (some ⟨w1.heap.size, 0, none⟩)) w2 (hc.s16 hb2 hk2)
      rw [hWp.out, ha0.out] at hz
      simp only [put8, List.setIfInBounds_toArray, List.set_cons_zero, List.set_cons_succ] at hz
      exact hz)
    have P10000100 : Hid (∀ x4 x5 x10 x11 x13 x14 x15 x16 w1, Cd wr.drew f1 f2 lv true false false false false true false false x4 x5 x10 x11 x13 x14 x15 x16 w1 → Wp 9 #[true, true, true, true, true, false, true, true, true, true, false, false, true, false, true, false, false, false, false, false] (put8 a0 x4 x5 x10 x11 x13 x14 x15 x16) w1) := (show ∀ x4 x5 x10 x11 x13 x14 x15 x16 w1, Cd wr.drew f1 f2 lv true false false false false true false false x4 x5 x10 x11 x13 x14 x15 x16 w1 → Wp 9 #[true, true, true, true, true, false, true, true, true, true, false, false, true, false, true, false, false, false, false, false] (put8 a0 x4 x5 x10 x11 x13 x14 x15 x16) w1 from by
     intro x4 x5 x10 x11 x13 x14 x15 x16 w1 hc
     rw [hWp.out, ha0.out]
     simp only [put8, List.setIfInBounds_toArray, List.set_cons_zero, List.set_cons_succ]
     refine wpAnyH_ready (rs := [5, 10, 15, 16]) (by kernel_rfl) (by simp) ?_
     refine AllReadyH.cons rfl (fun K hK => ?_) (AllReadyH.cons rfl (fun K hK => ?_) (AllReadyH.cons rfl (fun K hK => ?_) (AllReadyH.cons rfl (fun K hK => ?_) AllReadyH.nil)))
     ·obtain ⟨g, rfl, hg⟩ := hc.h4 rfl
      go_simp
      refine (holder_any (some ⟨g, 0, none⟩) 1 1).mono ?_
      rintro e w2 ⟨rfl, hb2, hk2⟩
      refine hK.out _ _ (bstep hc.b hb2) (fun hHeld => ?_)
      clear hK K hHeld
      have hz := P11000100.out (.slice (some ⟨g, 0, none⟩) 1 1) (.func (.func 61) #[] #[.pointer (some ⟨w1.heap.size, 0, none⟩)]) x10 x11 x13 x14 x15 x16 w2 (hc.s5 hb2 hk2)
      rw [hWp.out, ha0.out] at hz
      simp only [put8, List.setIfInBounds_toArray, List.set_cons_zero, List.set_cons_succ] at hz
      exact hz
     ·refine step_bsl rfl 22 28 1 _ rfl Try.underlying22 f2.cs.toArray (bsl_eq (by kernel_rfl) (bFl f2)) ?_
      intro w2 hk2 hb2 hs2
      refine hK.out _ _ (bstep hc.b hb2) (fun hHeld => ?_)
      clear hK K hHeld
      have hz := P10100100.out x4 x5 (.slice (some ⟨w1.heap.size, 0, none⟩) 1 1) x11 x13 x14 x15 x16 w2 (hc.s10 hb2 hk2)
      rw [hWp.out, ha0.out] at hz
      simp only [put8, List.setIfInBounds_toArray, List.set_cons_zero, List.set_cons_succ] at hz
      exact hz
     ·refine step_alloc1 rfl 83 rfl zFSB ?_
      intro w2 hk2 hb2
      refine hK.out _ _ (bstep hc.b hb2) (fun hHeld => ?_)
      clear hK K hHeld
      have hz := P10000110.out x4 x5 x10 x11 x13 x14 (.pointer (some ⟨w1.heap.size, 0, none⟩)) x16 w2 (hc.s15 hb2 hk2)
      rw [hWp.out, ha0.out] at hz
      simp only [put8, List.setIfInBounds_toArray, List.set_cons_zero, List.set_cons_succ] at hz
      exact hz
     ·refine step_alloc1 rfl 83 rfl zFSB ?_
      intro w2 hk2 hb2
      refine hK.out _ _ (bstep hc.b hb2) (fun hHeld => ?_)
      clear hK K hHeld
      have hz := P10000101.out x4 x5 x10 x11 x13 x14 x15 (.pointer (some ⟨w1.heap.size, 0, none⟩)) w2 (hc.s16 hb2 hk2)
      rw [hWp.out, ha0.out] at hz
      simp only [put8, List.setIfInBounds_toArray, List.set_cons_zero, List.set_cons_succ] at hz
      exact hz)
    have P10000010 : Hid (∀ x4 x5 x10 x11 x13 x14 x15 x16 w1, Cd wr.drew f1 f2 lv true false false false false false true false x4 x5 x10 x11 x13 x14 x15 x16 w1 → Wp 9 #[true, true, true, true, true, false, true, true, true, true, false, false, true, false, false, true, false, false, false, false] (put8 a0 x4 x5 x10 x11 x13 x14 x15 x16) w1) := (show ∀ x4 x5 x10 x11 x13 x14 x15 x16 w1, Cd wr.drew f1 f2 lv true false false false false false true false x4 x5 x10 x11 x13 x14 x15 x16 w1 → Wp 9 #[true, true, true, true, true, false, true, true, true, true, false, false, true, false, false, true, false, false, false, false] (put8 a0 x4 x5 x10 x11 x13 x14 x15 x16) w1 from by
     intro x4 x5 x10 x11 x13 x14 x15 x16 w1 hc
     rw [hWp.out, ha0.out]
     simp only [put8, List.setIfInBounds_toArray, List.set_cons_zero, List.set_cons_succ]
     refine wpAnyH_ready (rs := [5, 10, 14, 16]) (by kernel_rfl) (by simp) ?_
     refine AllReadyH.cons rfl (fun K hK => ?_) (AllReadyH.cons rfl (fun K hK => ?_) (AllReadyH.cons rfl (fun K hK => ?_) (AllReadyH.cons rfl (fun K hK => ?_) AllReadyH.nil)))
     ·obtain ⟨g, rfl, hg⟩ := hc.h4 rfl
      go_simp
      refine (holder_any (some ⟨g, 0, none⟩) 1 1).mono ?_
      rintro e w2 ⟨rfl, hb2, hk2⟩
      refine hK.out _ _ (bstep hc.b hb2) (fun hHeld => ?_)
      clear hK K hHeld
      have hz := P11000010.out (.slice (some ⟨g, 0, none⟩) 1 1) (.func (.func 61) #[] #[.pointer (some ⟨w1.heap.size, 0, none⟩)]) x10 x11 x13 x14 x15 x16 w2 (hc.s5 hb2 hk2)
      rw [hWp.out, ha0.out] at hz
      simp only [put8, List.setIfInBounds_toArray, List.set_cons_zero, List.set_cons_succ] at hz
      exact hz
     ·refine step_bsl rfl 22 28 1 _ rfl Try.underlying22 f2.cs.toArray (bsl_eq (by kernel_rfl) (bFl f2)) ?_
      intro w2 hk2 hb2 hs2
      refine hK.out _ _ (bstep hc.b hb2) (fun hHeld => ?_)
      clear hK K hHeld
      have hz := P10100010.out x4 x5 (.slice (some ⟨w1.heap.size, 0, none⟩) 1 1) x11 x13 x14 x15 x16 w2 (hc.s10 hb2 hk2)
      rw [hWp.out, ha0.out] at hz
      simp only [put8, List.setIfInBounds_toArray, List.set_cons_zero, List.set_cons_succ] at hz
      exact hz
     ·refine step_alloc1 rfl 83 rfl zFSB ?_
      intro w2 hk2 hb2
      refine hK.out _ _ (bstep hc.b hb2) (fun hHeld => ?_)
      clear hK K hHeld
      have hz := P10000110.out x4 x5 x10 x11 x13 (.pointer (some ⟨w1.heap.size, 0, none⟩)) x15 x16 w2 (hc.s14 hb2 hk2)
      rw [hWp.out, ha0.out] at hz
      simp only [put8, List.setIfInBounds_toArray, List.set_cons_zero, List.set_cons_succ] at hz
      exact hz
     ·refine step_alloc1 rfl 83 rfl zFSB ?_
      intro w2 hk2 hb2
      refine hK.out _ _ (bstep hc.b hb2) (fun hHeld => ?_)
      clear hK K hHeld
      have hz := P10000011.out x4 x5 x10 x11 x13 x14 x15 (.pointer (some ⟨w1.heap.size, 0, none⟩)) w2 (hc.s16 hb2 hk2)
      rw [hWp.out, ha0.out] at hz
      simp only [put8, List.setIfInBounds_toArray, List.set_cons_zero, List.set_cons_succ] at hz
      exact hz)
    have P10000001 : Hid (∀ x4 x5 x10 x11 x13 x14 x15 x16 w1, Cd wr.drew f1 f2 lv true false false false false false false true x4 x5 x10 x11 x13 x14 x15 x16 w1 → Wp 9 #[true, true, true, true, true, false, true, true, true, true, false, false, true, false, false, false, true, false, false, false] (put8 a0 x4 x5 x10 x11 x13 x14 x15 x16) w1) := (show ∀ x4 x5 x10 x11 x13 x14 x15 x16 w1, Cd wr.drew f1 f2 lv true false false false false false false true x4 x5 x10 x11 x13 x14 x15 x16 w1 → Wp 9 #[true, true, true, true, true, false, true, true, true, true, false, false, true, false, false, false, true, false, false, false] (put8 a0 x4 x5 x10 x11 x13 x14 x15 x16) w1 from by
     intro x4 x5 x10 x11 x13 x14 x15 x16 w1 hc
     rw [hWp.out, ha0.out]
     simp only [put8, List.setIfInBounds_toArray, List.set_cons_zero, List.set_cons_succ]
     refine wpAnyH_ready (rs := [5, 10, 14, 15]) (by kernel_rfl) (by simp) ?_
     refine AllReadyH.cons rfl (fun K hK => ?_) (AllReadyH.cons rfl (fun K hK => ?_) (AllReadyH.cons rfl (fun K hK => ?_) (AllReadyH.cons rfl (fun K hK => ?_) AllReadyH.nil)))
     ·obtain ⟨g, rfl, hg⟩ := hc.h4 rfl
      go_simp
      refine (holder_any (some ⟨g, 0, none⟩) 1 1).mono ?_
      rintro e w2 ⟨rfl, hb2, hk2⟩
      refine hK.out _ _ (bstep hc.b hb2) (fun hHeld => ?_)
      clear hK K hHeld
      have hz := P11000001.out (.slice (some ⟨g, 0, none⟩) 1 1) (.func (.func 61) #[] #[.pointer (some ⟨w1.heap.size, 0, none⟩)]) x10 x11 x13 x14 x15 x16 w2 (hc.s5 hb2 hk2)
      rw [hWp.out, ha0.out] at hz
      simp only [put8, List.setIfInBounds_toArray, List.set_cons_zero, List.set_cons_succ] at hz
      exact hz
     ·refine step_bsl rfl 22 28 1 _ rfl Try.underlying22 f2.cs.toArray (bsl_eq (by kernel_rfl) (bFl f2)) ?_
      intro w2 hk2 hb2 hs2
      refine hK.out _ _ (bstep hc.b hb2) (fun hHeld => ?_)
      clear hK K hHeld
      have hz := P10100001.out x4 x5 (.slice (some ⟨w1.heap.size, 0, none⟩) 1 1) x11 x13 x14 x15 x16 w2 (hc.s10 hb2 hk2)
      rw [hWp.out, ha0.out] at hz
      simp only [put8, List.setIfInBounds_toArray, List.set_cons_zero, List.set_cons_succ] at hz
      exact hz
     ·refine step_alloc1 rfl 83 rfl zFSB ?_
      intro w2 hk2 hb2
      refine hK.out _ _ (bstep hc.b hb2) (fun hHeld => ?_)
      clear hK K hHeld
      have hz := P10000101.out x4 x5 x10 x11 x13 (.pointer (some ⟨w1.heap.size, 0, none⟩)) x15 x16 w2 (hc.s14 hb2 hk2)
      rw [hWp.out, ha0.out] at hz
      simp only [put8, List.setIfInBounds_toArray, List.set_cons_zero, List.set_cons_succ] at hz
      exact hz
     ·refine step_alloc1 rfl 83 rfl zFSB ?_
      intro w2 hk2 hb2
      refine hK.out _ _ (bstep hc.b hb2) (fun hHeld => ?_)
      clear hK K hHeld
      have hz := P10000011.out x4 x5 x10 x11 x13 x14 (.pointer (some ⟨w1.heap.size, 0, none⟩)) x16 w2 (hc.s15 hb2 hk2)
      rw [hWp.out, ha0.out] at hz
      simp only [put8, List.setIfInBounds_toArray, List.set_cons_zero, List.set_cons_succ] at hz
      exact hz)
    have P00100100 : Hid (∀ x4 x5 x10 x11 x13 x14 x15 x16 w1, Cd wr.drew f1 f2 lv false false true false false true false false x4 x5 x10 x11 x13 x14 x15 x16 w1 → Wp 9 #[true, true, true, true, false, false, true, true, true, true, true, false, true, false, true, false, false, false, false, false] (put8 a0 x4 x5 x10 x11 x13 x14 x15 x16) w1) := (show ∀ x4 x5 x10 x11 x13 x14 x15 x16 w1, Cd wr.drew f1 f2 lv false false true false false true false false x4 x5 x10 x11 x13 x14 x15 x16 w1 → Wp 9 #[true, true, true, true, false, false, true, true, true, true, true, false, true, false, true, false, false, false, false, false] (put8 a0 x4 x5 x10 x11 x13 x14 x15 x16) w1 from by
     intro x4 x5 x10 x11 x13 x14 x15 x16 w1 hc
     rw [hWp.out, ha0.out]
     simp only [put8, List.setIfInBounds_toArray, List.set_cons_zero, List.set_cons_succ]
     refine wpAnyH_ready (rs := [4, 15, 16]) (by kernel_rfl) (by simp) ?_
     refine AllReadyH.cons rfl (fun K hK => ?_) (AllReadyH.cons rfl (fun K hK => ?_) (AllReadyH.cons rfl (fun K hK => ?_) AllReadyH.nil))
     ·refine step_bsl rfl 22 28 1 _ rfl Try.underlying22 f1.cs.toArray (bsl_eq (by kernel_rfl) (bFl f1)) ?_
      intro w2 hk2 hb2 hs2
      refine hK.out _ _ (bstep hc.b hb2) (fun hHeld => ?_)
      clear hK K hHeld
      have hz := P10100100.out (.slice (some ⟨w1.heap.size, 0, none⟩) 1 1) x5 x10 x11 x13 x14 x15 x16 w2 (hc.s4 hb2 hk2)
      rw [hWp.out, ha0.out] at hz
      simp only [put8, List.setIfInBounds_toArray, List.set_cons_zero, List.set_cons_succ] at hz
      exact hz
     ·refine step_alloc1 rfl 83 rfl zFSB ?_
      intro w2 hk2 hb2
      refine hK.out _ _ (bstep hc.b hb2) (fun hHeld => ?_)
      clear hK K hHeld
      have hz := P00100110.out x4 x5 x10 x11 x13 x14 (.pointer (some ⟨w1.heap.size, 0, none⟩)) x16 w2 (hc.s15 hb2 hk2)
      rw [hWp.out, ha0.out] at hz
      simp only [put8, List.setIfInBounds_toArray, List.set_cons_zero, List.set_cons_succ] at hz
      exact hz
     ·refine step_alloc1 rfl 83 rfl zFSB ?_
      intro w2 hk2 hb2
      refine hK.out _ _ (bstep hc.b hb2) (fun hHeld => ?_)
      clear hK K hHeld
      have hz := P00100101.out x4 x5 x10 x11 x13 x14 x15 (.pointer (some ⟨w1.heap.size, 0, none⟩)) w2 (hc.s16 hb2 hk2)
      rw [hWp.out, ha0.out] at hz
      simp only [put8, List.setIfInBounds_toArray, List.set_cons_zero, List.set_cons_succ] at hz
      exact hz)
    have P00100010 : Hid (∀ x4 x5 x10 x11 x13 x14 x15 x16 w1, Cd wr.drew f1 f2 lv false false true false false false true false x4 x5 x10 x11 x13 x14 x15 x16 w1 → Wp 9 #[true, true, true, true, false, false, true, true, true, true, true, false, true, false, false, true, false, false, false, false] (put8 a0 x4 x5 x10 x11 x13 x14 x15 x16) w1) := (show ∀ x4 x5 x10 x11 x13 x14 x15 x16 w1, Cd wr.drew f1 f2 lv false false true false false false true false x4 x5 x10 x11 x13 x14 x15 x16 w1 → Wp 9 #[true, true, true, true, false, false, true, true, true, true, true, false, true, false, false, true, false, false, false, false] (put8 a0 x4 x5 x10 x11 x13 x14 x15 x16) w1 from by
     intro x4 x5 x10 x11 x13 x14 x15 x16 w1 hc
     rw [hWp.out, ha0.out]
     simp only [put8, List.setIfInBounds_toArray, List.set_cons_zero, List.set_cons_succ]
     refine wpAnyH_ready (rs := [4, 14, 16]) (by kernel_rfl) (by simp) ?_
     refine AllReadyH.cons rfl (fun K hK => ?_) (AllReadyH.cons rfl (fun K hK => ?_) (AllReadyH.cons rfl (fun K hK => ?_) AllReadyH.nil))
     ·refine step_bsl rfl 22 28 1 _ rfl Try.underlying22 f1.cs.toArray (bsl_eq (by kernel_rfl) (bFl f1)) ?_
      intro w2 hk2 hb2 hs2
      refine hK.out _ _ (bstep hc.b hb2) (fun hHeld => ?_)
      clear hK K hHeld
      have hz := P10100010.out (.slice (some ⟨w1.heap.size, 0, none⟩) 1 1) x5 x10 x11 x13 x14 x15 x16 w2 (hc.s4 hb2 hk2)
      rw [hWp.out, ha0.out] at hz
      simp only [put8, List.setIfInBounds_toArray, List.set_cons_zero, List.set_cons_succ] at hz
      exact hz
     ·refine step_alloc1 rfl 83 rfl zFSB ?_
      intro w2 hk2 hb2
      refine hK.out _ _ (bstep hc.b hb2) (fun hHeld => ?_)
      clear hK K hHeld
      have hz := P00100110.out x4 x5 x10 x11 x13 (.pointer (some ⟨w1.heap.size, 0, none⟩)) x15 x16 w2 (hc.s14 hb2 hk2)
      rw [hWp.out, ha0.out] at hz
      simp only [put8, List.setIfInBounds_toArray, List.set_cons_zero, List.set_cons_succ] at hz
      exact hz
     ·refine step_alloc1 rfl 83 rfl zFSB ?_
      intro w2 hk2 hb2
      refine hK.out _ _ (bstep hc.b hb2) (fun hHeld => ?_)
      clear hK K hHeld
      have hz := P00100011.out x4 x5 x10 x11 x13 x14 x15 (.pointer (some ⟨w1.heap.size, 0, none⟩)) w2 (hc.s16 hb2 hk2)
      rw [hWp.out, ha0.out] at hz
      simp only [put8, List.setIfInBounds_toArray, List.set_cons_zero, List.set_cons_succ] at hz
      exact hz)
    have P00100001 : Hid (∀ x4 x5 x10 x11 x13 x14 x15 x16 w1, Cd wr.drew f1 f2 lv false false true false false false false true x4 x5 x10 x11 x13 x14 x15 x16 w1 → Wp 9 #[true, true, true, true, false, false, true, true, true, true, true, false, true, false, false, false, true, false, false, false] (put8 a0 x4 x5 x10 x11 x13 x14 x15 x16) w1) := (show ∀ x4 x5 x10 x11 x13 x14 x15 x16 w1, Cd wr.drew f1 f2 lv false false true false false false false true x4 x5 x10 x11 x13 x14 x15 x16 w1 → Wp 9 #[true, true, true, true, false, false, true, true, true, true, true, false, true, false, false, false, true, false, false, false] (put8 a0 x4 x5 x10 x11 x13 x14 x15 x16) w1 from by
     intro x4 x5 x10 x11 x13 x14 x15 x16 w1 hc
     rw [hWp.out, ha0.out]
     simp only [put8, List.setIfInBounds_toArray, List.set_cons_zero, List.set_cons_succ]
     refine wpAnyH_ready (rs := [4, 14, 15]) (by kernel_rfl) (by simp) ?_
     refine AllReadyH.cons rfl (fun K hK => ?_) (AllReadyH.cons rfl (fun K hK => ?_) (AllReadyH.cons rfl (fun K hK => ?_) AllReadyH.nil))
     ·refine step_bsl rfl 22 28 1 _ rfl Try.underlying22 f1.cs.toArray (bsl_eq (by kernel_rfl) (bFl f1)) ?_
      intro w2 hk2 hb2 hs2
      refine hK.out _ _ (bstep hc.b hb2) (fun hHeld => ?_)
      clear hK K hHeld
      have hz := P10100001.out (.slice (some ⟨w1.heap.size, 0, none⟩) 1 1) x5 x10 x11 x13 x14 x15 x16 w2 (hc.s4 hb2 hk2)
      rw [hWp.out, ha0.out] at hz
      simp only [put8, List.setIfInBounds_toArray, List.set_cons_zero, List.set_cons_succ] at hz
      exact hz
     ·refine step_alloc1 rfl 83 rfl zFSB ?_
      intro w2 hk2 hb2
      refine hK.out _ _ (bstep hc.b hb2) (fun hHeld => ?_)
      clear hK K hHeld
      have hz := P00100101.out x4 x5 x10 x11 x13 (.pointer (some ⟨w1.heap.size, 0, none⟩)) x15 x16 w2 (hc.s14 hb2 hk2)
      rw [hWp.out, ha0.out] at hz
      simp only [put8, List.setIfInBounds_toArray, List.set_cons_zero, List.set_cons_succ] at hz
      exact hz
     ·refine step_alloc1 rfl 83 rfl zFSB ?_
      intro w2 hk2 hb2
      refine hK.out _ _ (bstep hc.b hb2) (fun hHeld => ?_)
      clear hK K hHeld
      have hz := P00100011.out x4 x5 x10 x11 x13 x14 (.pointer (some ⟨w1.heap.size, 0, none⟩)) x16 w2 (hc.s15 hb2 hk2)
      rw [hWp.out, ha0.out] at hz
      simp only [put8, List.setIfInBounds_toArray, List.set_cons_zero, List.set_cons_succ] at hz
      exact hz)
    have P00000110 : Hid (∀ x4 x5 x10 x11 x13 x14 x15 x16 w1, Cd wr.drew f1 f2 lv false false false false false true true false x4 x5 x10 x11 x13 x14 x15 x16 w1 → Wp 9 #[true, true, true, true, false, false, true, true, true, true, false, false, true, false, true, true, false, false, false, false] (put8 a0 x4 x5 x10 x11 x13 x14 x15 x16) w1) := (show ∀ x4 x5 x10 x11 x13 x14 x15 x16 w1, Cd wr.drew f1 f2 lv false false false false false true true false x4 x5 x10 x11 x13 x14 x15 x16 w1 → Wp 9 #[true, true, true, true, false, false, true, true, true, true, false, false, true, false, true, true, false, false, false, false] (put8 a0 x4 x5 x10 x11 x13 x14 x15 x16) w1 from by
     intro x4 x5 x10 x11 x13 x14 x15 x16 w1 hc
     rw [hWp.out, ha0.out]
     simp only [put8, List.setIfInBounds_toArray, List.set_cons_zero, List.set_cons_succ]
     refine wpAnyH_ready (rs := [4, 10, 16]) (by kernel_rfl) (by simp) ?_
     refine AllReadyH.cons rfl (fun K hK => ?_) (AllReadyH.cons rfl (fun K hK => ?_) (AllReadyH.cons rfl (fun K hK => ?_) AllReadyH.nil))
     ·refine step_bsl rfl 22 28 1 _ rfl Try.underlying22 f1.cs.toArray (bsl_eq (by kernel_rfl) (bFl f1)) ?_
      intro w2 hk2 hb2 hs2
      refine hK.out _ _ (bstep hc.b hb2) (fun hHeld => ?_)
      clear hK K hHeld
      have hz := P10000110.out (.slice (some ⟨w1.heap.size, 0, none⟩) 1 1) x5 x10 x11 x13 x14 x15 x16 w2 (hc.s4 hb2 hk2)
      rw [hWp.out, ha0.out] at hz
      simp only [put8, List.setIfInBounds_toArray, List.set_cons_zero, List.set_cons_succ] at hz
      exact hz
     ·refine step_bsl rfl 22 28 1 _ rfl Try.underlying22 f2.cs.toArray (bsl_eq (by kernel_rfl) (bFl f2)) ?_
      intro w2 hk2 hb2 hs2
      refine hK.out _ _ (bstep hc.b hb2) (fun hHeld => ?_)
      clear hK K hHeld
      have hz := P00100110.out x4 x5 (.slice (some ⟨w1.heap.size, 0, none⟩) 1 1) x11 x13 x14 x15 x16 w2 (hc.s10 hb2 hk2)
      rw [hWp.out, ha0.out] at hz
      simp only [put8, List.setIfInBounds_toArray, List.set_cons_zero, List.set_cons_succ] at hz
      exact hz
     ·refine step_alloc1 rfl 83 rfl zFSB ?_
      intro w2 hk2 hb2
      refine hK.out _ _ (bstep hc.b hb2) (fun hHeld => ?_)
      clear hK K hHeld
      have hz := P00000111.out x4 x5 x10 x11 x13 x14 x15 (.pointer (some ⟨w1.heap.size, 0, none⟩)) w2 (hc.s16 hb2 hk2)
      rw [hWp.out, ha0.out] at hz
      simp only [put8, List.setIfInBounds_toArray, List.set_cons_zero, List.set_cons_succ] at hz
      exact hz)
    have P00000101 : Hid (∀ x4 x5 x10 x11 x13 x14 x15 x16 w1, Cd wr.drew f1 f2 lv false false false false false true false true x4 x5 x10 x11 x13 x14 x15 x16 w1 → Wp 9 #[true, true, true, true, false, false, true, true, true, true, false, false, true, false, true, false, true, false, false, false] (put8 a0 x4 x5 x10 x11 x13 x14 x15 x16) w1) := (show ∀ x4 x5 x10 x11 x13 x14 x15 x16 w1, Cd wr.drew f1 f2 lv false false false false false true false true x4 x5 x10 x11 x13 x14 x15 x16 w1 → Wp 9 #[true, true, true, true, false, false, true, true, true, true, false, false, true, false, true, false, true, false, false, false] (put8 a0 x4 x5 x10 x11 x13 x14 x15 x16) w1 from by
     intro x4 x5 x10 x11 x13 x14 x15 x16 w1 hc
     rw [hWp.out, ha0.out]
     simp only [put8, List.setIfInBounds_toArray, List.set_cons_zero, List.set_cons_succ]
     refine wpAnyH_ready (rs := [4, 10, 15]) (by kernel_rfl) (by simp) ?_
     refine AllReadyH.cons rfl (fun K hK => ?_) (AllReadyH.cons rfl (fun K hK => ?_) (AllReadyH.cons rfl (fun K hK => ?_) AllReadyH.nil))
     ·refine step_bsl rfl 22 28 1 _ rfl Try.underlying22 f1.cs.toArray (bsl_eq (by kernel_rfl) (bFl f1)) ?_
      intro w2 hk2 hb2 hs2
      refine hK.out _ _ (bstep hc.b hb2) (fun hHeld => ?_)
      clear hK K hHeld
      have hz := P10000101.out (.slice (some ⟨w1.heap.size, 0, none⟩) 1 1) x5 x10 x11 x13 x14 x15 x16 w2 (hc.s4 hb2 hk2)
      rw [hWp.out, ha0.out] at hz
      simp only [put8, List.setIfInBounds_toArray, List.set_cons_zero, List.set_cons_succ] at hz
      exact hz
     ·refine step_bsl rfl 22 28 1 _ rfl Try.underlying22 f2.cs.toArray (bsl_eq (by kernel_rfl) (bFl f2)) ?_
      intro w2 hk2 hb2 hs2
      refine hK.out _ _ (bstep hc.b hb2) (fun hHeld => ?_)
      clear hK K hHeld
      have hz := P00100101.out x4 x5 (.slice (some ⟨w1.heap.size, 0, none⟩) 1 1) x11 x13 x14 x15 x16 w2 (hc.s10 hb2 hk2)
      rw [hWp.out, ha0.out] at hz
      simp only [put8, List.setIfInBounds_toArray, List.set_cons_zero, List.set_cons_succ] at hz
      exact hz
     ·refine step_alloc1 rfl 83 rfl zFSB ?_
      intro w2 hk2 hb2
      refine hK.out _ _ (bstep hc.b hb2) (fun hHeld => ?_)
      clear hK K hHeld
      have hz := P00000111.out x4 x5 x10 x11 x13 x14 (.pointer (some ⟨w1.heap.size, 0, none⟩)) x16 w2 (hc.s15 hb2 hk2)
      rw [hWp.out, ha0.out] at hz
      simp only [put8, List.setIfInBounds_toArray, List.set_cons_zero, List.set_cons_succ] at hz
      exact hz)
    have P00000011 : Hid (∀ x4 x5 x10 x11 x13 x14 x15 x16 w1, Cd wr.drew f1 f2 lv false false false false false false true true x4 x5 x10 x11 x13 x14 x15 x16 w1 → Wp 9 #[true, true, true, true, false, false, true, true, true, true, false, false, true, false, false, true, true, false, false, false] (put8 a0 x4 x5 x10 x11 x13 x14 x15 x16) w1) := (show ∀ x4 x5 x10 x11 x13 x14 x15 x16 w1, Cd wr.drew f1 f2 lv false false false false false false true true x4 x5 x10 x11 x13 x14 x15 x16 w1 → Wp 9 #[true, true, true, true, false, false, true, true, true, true, false, false, true, false, false, true, true, false, false, false] (put8 a0 x4 x5 x10 x11 x13 x14 x15 x16) w1 from by
     intro x4 x5 x10 x11 x13 x14 x15 x16 w1 hc
     rw [hWp.out, ha0.out]
     simp only [put8, List.setIfInBounds_toArray, List.set_cons_zero, List.set_cons_succ]
     refine wpAnyH_ready (rs := [4, 10, 14]) (by kernel_rfl) (by simp) ?_
     refine AllReadyH.cons rfl (fun K hK => ?_) (AllReadyH.cons rfl (fun K hK => ?_) (AllReadyH.cons rfl (fun K hK => ?_) AllReadyH.nil))
     ·refine step_bsl rfl 22 28 1 _ rfl Try.underlying22 f1.cs.toArray (bsl_eq (by kernel_rfl) (bFl f1)) ?_
      intro w2 hk2 hb2 hs2
      refine hK.out _ _ (bstep hc.b hb2) (fun hHeld => ?_)
      clear hK K hHeld
      have hz := P10000011.out (.slice (some ⟨w1.heap.size, 0, none⟩) 1 1) x5 x10 x11 x13 x14 x15 x16 w2 (hc.s4 hb2 hk2)
      rw [hWp.out, ha0.out] at hz
      simp only [put8, List.setIfInBounds_toArray, List.set_cons_zero, List.set_cons_succ] at hz
      exact hz
     ·refine step_bsl rfl 22 28 1 _ rfl Try.underlying22 f2.cs.toArray (bsl_eq (by kernel_rfl) (bFl f2)) ?_
      intro w2 hk2 hb2 hs2
      refine hK.out _ _ (bstep hc.b hb2) (fun hHeld => ?_)
      clear hK K hHeld
      have hz := P00100011.out x4 x5 (.slice (some ⟨w1.heap.size, 0, none⟩) 1 1) x11 x13 x14 x15 x16 w2 (hc.s10 hb2 hk2)
      rw [hWp.out, ha0.out] at hz
      simp only [put8, List.setIfInBounds_toArray, List.set_cons_zero, List.set_cons_succ] at hz
      exact hz
     ·refine step_alloc1 rfl 83 rfl zFSB ?_
      intro w2 hk2 hb2
      refine hK.out _ _ (bstep hc.b hb2) (fun hHeld => ?_)
      clear hK K hHeld
      have hz := P00000111.out x4 x5 x10 x11 x13 (.pointer (some ⟨w1.heap.size, 0, none⟩)) x15 x16 w2 (hc.s14 hb2 hk2)
      rw [hWp.out, ha0.out] at hz
      simp only [put8, List.setIfInBounds_toArray, List.set_cons_zero, List.set_cons_succ] at hz
      exact hz)
    have P10000000 : Hid (∀ x4 x5 x10 x11 x13 x14 x15 x16 w1, Cd wr.drew f1 f2 lv true false false false false false false false x4 x5 x10 x11 x13 x14 x15 x16 w1 → Wp 10 #[true, true, true, true, true, false, true, true, true, true, false, false, true, false, false, false, false, false, false, false] (put8 a0 x4 x5 x10 x11 x13 x14 x15 x16) w1) := (show ∀ x4 x5 x10 x11 x13 x14 x15 x16 w1, Cd wr.drew f1 f2 lv true false false false false false false false x4 x5 x10 x11 x13 x14 x15 x16 w1 → Wp 10 #[true, true, true, true, true, false, true, true, true, true, false, false, true, false, false, false, false, false, false, false] (put8 a0 x4 x5 x10 x11 x13 x14 x15 x16) w1 from by
     intro x4 x5 x10 x11 x13 x14 x15 x16 w1 hc
     rw [hWp.out, ha0.out]
     simp only [put8, List.setIfInBounds_toArray, List.set_cons_zero, List.set_cons_succ]
     refine wpAnyH_ready (rs := [5, 10, 14, 15, 16]) (by kernel_rfl) (by simp) ?_
     refine AllReadyH.cons rfl (fun K hK => ?_) (AllReadyH.cons rfl (fun K hK => ?_) (AllReadyH.cons rfl (fun K hK => ?_) (AllReadyH.cons rfl (fun K hK => ?_) (AllReadyH.cons rfl (fun K hK => ?_) AllReadyH.nil))))
     ·obtain ⟨g, rfl, hg⟩ := hc.h4 rfl
      go_simp
      refine (holder_any (some ⟨g, 0, none⟩) 1 1).mono ?_
      rintro e w2 ⟨rfl, hb2, hk2⟩
      refine hK.out _ _ (bstep hc.b hb2) (fun hHeld => ?_)
      clear hK K hHeld
      have hz := P11000000.out (.slice (some ⟨g, 0, none⟩) 1 1) (.func (.func 61) #[] #[.pointer (some ⟨w1.heap.size, 0, none⟩)]) x10 x11 x13 x14 x15 x16 w2 (hc.s5 hb2 hk2)
      rw [hWp.out, ha0.out] at hz
      simp only [put8, List.setIfInBounds_toArray, List.set_cons_zero, List.set_cons_succ] at hz
      exact hz
     ·refine step_bsl rfl 22 28 1 _ rfl Try.underlying22 f2.cs.toArray (bsl_eq (by kernel_rfl) (bFl f2)) ?_
      intro w2 hk2 hb2 hs2
      refine hK.out _ _ (bstep hc.b hb2) (fun hHeld => ?_)
      clear hK K hHeld
      have hz := P10100000.out x4 x5 (.slice (some ⟨w1.heap.size, 0, none⟩) 1 1) x11 x13 x14 x15 x16 w2 (hc.s10 hb2 hk2)
      rw [hWp.out, ha0.out] at hz
      simp only [put8, List.setIfInBounds_toArray, List.set_cons_zero, List.set_cons_succ] at hz
      exact hz
     ·refine step_alloc1 rfl 83 rfl zFSB ?_
      intro w2 hk2 hb2
      refine hK.out _ _ (bstep hc.b hb2) (fun hHeld => ?_)
      clear hK K hHeld
      have hz := P10000100.out x4 x5 x10 x11 x13 (.pointer (some ⟨w1.heap.size, 0, none⟩)) x15 x16 w2 (hc.s14 hb2 hk2)
      rw [hWp.out, ha0.out] at hz
      simp only [put8, List.setIfInBounds_toArray, List.set_cons_zero, List.set_cons_succ] at hz
      exact hz
     ·refine step_alloc1 rfl 83 rfl zFSB ?_
      intro w2 hk2 hb2
      refine hK.out _ _ (bstep hc.b hb2) (fun hHeld => ?_)
      clear hK K hHeld
      have hz := P10000010.out x4 x5 x10 x11 x13 x14 (.pointer (some ⟨w1.heap.size, 0, none⟩)) x16 w2 (hc.s15 hb2 hk2)
      rw [hWp.out, ha0.out] at hz
      simp only [put8, List.setIfInBounds_toArray, List.set_cons_zero, List.set_cons_succ] at hz
      exact hz
     ·refine step_alloc1 rfl 83 rfl zFSB ?_
      intro w2 hk2 hb2
      refine hK.out _ _ (bstep hc.b hb2) (fun hHeld => ?_)
      clear hK K hHeld
      have hz := P10000001.out x4 x5 x10 x11 x13 x14 x15 (.pointer (some ⟨w1.heap.size, 0, none⟩)) w2 (hc.s16 hb2 hk2)
      rw [hWp.out, ha0.out] at hz
      simp only [put8, List.setIfInBounds_toArray, List.set_cons_zero, List.set_cons_succ] at hz
      exact hz)
    have P00100000 : Hid (∀ x4 x5 x10 x11 x13 x14 x15 x16 w1, Cd wr.drew f1 f2 lv false false true false false false false false x4 x5 x10 x11 x13 x14 x15 x16 w1 → Wp 10 #[true, true, true, true, false, false, true, true, true, true, true, false, true, false, false, false, false, false, false, false] (put8 a0 x4 x5 x10 x11 x13 x14 x15 x16) w1) := (show ∀ x4 x5 x10 x11 x13 x14 x15 x16 w1, Cd wr.drew f1 f2 lv false false true false false false false false x4 x5 x10 x11 x13 x14 x15 x16 w1 → Wp 10 #[true, true, true, true, false, false, true, true, true, true, true, false, true, false, false, false, false, false, false, false] (put8 a0 x4 x5 x10 x11 x13 x14 x15 x16) w1 from by
     intro x4 x5 x10 x11 x13 x14 x15 x16 w1 hc
     rw [hWp.out, ha0.out]
     simp only [put8, List.setIfInBounds_toArray, List.set_cons_zero, List.set_cons_succ]
     refine wpAnyH_ready (rs := [4, 14, 15, 16]) (by kernel_rfl) (by simp) ?_
     refine AllReadyH.cons rfl (fun K hK => ?_) (AllReadyH.cons rfl (fun K hK => ?_) (AllReadyH.cons rfl (fun K hK => ?_) (AllReadyH.cons rfl (fun K hK => ?_) AllReadyH.nil)))
     ·refine step_bsl rfl 22 28 1 _ rfl Try.underlying22 f1.cs.toArray (bsl_eq (by kernel_rfl) (bFl f1)) ?_
      intro w2 hk2 hb2 hs2
      refine hK.out _ _ (bstep hc.b hb2) (fun hHeld => ?_)
      clear hK K hHeld
      have hz := P10100000.out (.slice (some ⟨w1.heap.size, 0, none⟩) 1 1) x5 x10 x11 x13 x14 x15 x16 w2 (hc.s4 hb2 hk2)
      rw [hWp.out, ha0.out] at hz
      simp only [put8, List.setIfInBounds_toArray, List.set_cons_zero, List.set_cons_succ] at hz
      exact hz
     ·refine step_alloc1 rfl 83 rfl zFSB ?_
      intro w2 hk2 hb2
      refine hK.out _ _ (bstep hc.b hb2) (fun hHeld => ?_)
      clear hK K hHeld
      have hz := P00100100.out x4 x5 x10 x11 x13 (.pointer (some ⟨w1.heap.size, 0, none⟩)) x15 x16 w2 (hc.s14 hb2 hk2)
      rw [hWp.out, ha0.out] at hz
      simp only [put8, List.setIfInBounds_toArray, List.set_cons_zero, List.set_cons_succ] at hz
      exact hz
     ·refine step_alloc1 rfl 83 rfl zFSB ?_
      intro w2 hk2 hb2
      refine hK.out _ _ (bstep hc.b hb2) (fun hHeld => ?_)
      clear hK K hHeld
      have hz := P00100010.out x4 x5 x10 x11 x13 x14 (.pointer (some ⟨w1.heap.size, 0, none⟩)) x16 w2 (hc.s15 hb2 hk2)
      rw [hWp.out, ha0.out] at hz
      simp only [put8, List.setIfInBounds_toArray, List.set_cons_zero, List.set_cons_succ] at hz
      exact hz
     ·refine step_alloc1 rfl 83 rfl zFSB ?_
      intro w2 hk2 hb2
      refine hK.out _ _ (bstep hc.b hb2) (fun hHeld => ?_)
      clear hK K hHeld
      have hz := P00100001.out x4 x5 x10 x11 x13 x14 x15 (.pointer (some ⟨w1.heap.size, 0, none⟩)) w2 (hc.s16 hb2 hk2)
      rw [hWp.out, ha0.out] at hz
      simp only [put8, List.setIfInBounds_toArray, List.set_cons_zero, List.set_cons_succ] at hz
      exact hz)
    have P00000100 : Hid (∀ x4 x5 x10 x11 x13 x14 x15 x16 w1, Cd wr.drew f1 f2 lv false false false false false true false false x4 x5 x10 x11 x13 x14 x15 x16 w1 → Wp 10 #[true, true, true, true, false, false, true, true, true, true, false, false, true, false, true, false, false, false, false, false] (put8 a0 x4 x5 x10 x11 x13 x14 x15 x16) w1) := (show ∀ x4 x5 x10 x11 x13 x14 x15 x16 w1, Cd wr.drew f1 f2 lv false false false false false true false false x4 x5 x10 x11 x13 x14 x15 x16 w1 → Wp 10 #[true, true, true, true, false, false, true, true, true, true, false, false, true, false, true, false, false, false, false, false] (put8 a0 x4 x5 x10 x11 x13 x14 x15 x16) w1 from by
     intro x4 x5 x10 x11 x13 x14 x15 x16 w1 hc
     rw [hWp.out, ha0.out]
     simp only [put8, List.setIfInBounds_toArray, List.set_cons_zero, List.set_cons_succ]
     refine wpAnyH_ready (rs := [4, 10, 15, 16]) (by kernel_rfl) (by simp) ?_
     refine AllReadyH.cons rfl (fun K hK => ?_) (AllReadyH.cons rfl (fun K hK => ?_) (AllReadyH.cons rfl (fun K hK => ?_) (AllReadyH.cons rfl (fun K hK => ?_) AllReadyH.nil)))
     ·refine step_bsl rfl 22 28 1 _ rfl Try.underlying22 f1.cs.toArray (bsl_eq (by kernel_rfl) (bFl f1)) ?_
      intro w2 hk2 hb2 hs2
      refine hK.out _ _ (bstep hc.b hb2) (fun hHeld => ?_)
      clear hK K hHeld
      have hz := P10000100.out (.slice (some ⟨w1.heap.size, 0, none⟩) 1 1) x5 x10 x11 x13 x14 x15 x16 w2 (hc.s4 hb2 hk2)
      rw [hWp.out, ha0.out] at hz
      simp only [put8, List.setIfInBounds_toArray, List.set_cons_zero, List.set_cons_succ] at hz
      exact hz
     ·refine step_bsl rfl 22 28 1 _ rfl Try.underlying22 f2.cs.toArray (bsl_eq (by kernel_rfl) (bFl f2)) ?_
      intro w2 hk2 hb2 hs2
      refine hK.out _ _ (bstep hc.b hb2) (fun hHeld => ?_)
      clear hK K hHeld
      have hz := P00100100.out x4 x5 (.slice (some ⟨w1.heap.size, 0, none⟩) 1 1) x11 x13 x14 x15 x16 w2 (hc.s10 hb2 hk2)
      rw [hWp.out, ha0.out] at hz
      simp only [put8, List.setIfInBounds_toArray, List.set_cons_zero, List.set_cons_succ] at hz
      exact hz
     ·refine step_alloc1 rfl 83 rfl zFSB ?_
      intro w2 hk2 hb2
      refine hK.out _ _ (bstep hc.b hb2) (fun hHeld => ?_)
      clear hK K hHeld
      have hz := P00000110.out x4 x5 x10 x11 x13 x14 (.pointer (some ⟨w1.heap.size, 0, none⟩)) x16 w2 (hc.s15 hb2 hk2)
      rw [hWp.out, ha0.out] at hz
      simp only [put8, List.setIfInBounds_toArray, List.set_cons_zero, List.set_cons_succ] at hz
      exact hz
     ·refine step_alloc1 rfl 83 rfl zFSB ?_
      intro w2 hk2 hb2
      refine hK.out _ _ (bstep hc.b hb2) (fun hHeld => ?_)
      clear hK K hHeld
      have hz := P00000101.out x4 x5 x10 x11 x13 x14 x15 (.pointer (some ⟨w1.heap.size, 0, none⟩)) w2 (hc.s16 hb2 hk2)
      rw [hWp.out, ha0.out] at hz
      simp only [put8, List.setIfInBounds_toArray, List.set_cons_zero, List.set_cons_succ] at hz
      exact hz)
    have P00000010 : Hid (∀ x4 x5 x10 x11 x13 x14 x15 x16 w1, Cd wr.drew f1 f2 lv false false false false false false true false x4 x5 x10 x11 x13 x14 x15 x16 w1 → Wp 10 #[true, true, true, true, false, false, true, true, true, true, false, false, true, false, false, true, false, false, false, false] (put8 a0 x4 x5 x10 x11 x13 x14 x15 x16) w1) := (show ∀ x4 x5 x10 x11 x13 x14 x15 x16 w1, Cd wr.drew f1 f2 lv false false false false false false true false x4 x5 x10 x11 x13 x14 x15 x16 w1 → Wp 10 #[true, true, true, true, false, false, true, true, true, true, false, false, true, false, false, true, false, false, false, false] (put8 a0 x4 x5 x10 x11 x13 x14 x15 x16) w1 from by
     intro x4 x5 x10 x11 x13 x14 x15 x16 w1 hc
     rw [hWp.out, ha0.out]
     simp only [put8, List.setIfInBounds_toArray, List.set_cons_zero, List.set_cons_succ]
     refine wpAnyH_ready (rs := [4, 10, 14, 16]) (by kernel_rfl) (by simp) ?_
     refine AllReadyH.cons rfl (fun K hK => ?_) (AllReadyH.cons rfl (fun K hK => ?_) (AllReadyH.cons rfl (fun K hK => ?_) (AllReadyH.cons rfl (fun K hK => ?_) AllReadyH.nil)))
     ·refine step_bsl rfl 22 28 1 _ rfl Try.underlying22 f1.cs.toArray (bsl_eq (by kernel_rfl) (bFl f1)) ?_
      intro w2 hk2 hb2 hs2
      refine hK.out _ _ (bstep hc.b hb2) (fun hHeld => ?_)
      clear hK K hHeld
      have hz := P10000010.out (.slice (some ⟨w1.heap.size, 0, none⟩) 1 1) x5 x10 x11 x13 x14 x15 x16 w2 (hc.s4 hb2 hk2)
      rw [hWp.out, ha0.out] at hz
      simp only [put8, List.setIfInBounds_toArray, List.set_cons_zero, List.set_cons_succ] at hz
      exact hz
     ·refine step_bsl rfl 22 28 1 _ rfl Try.underlying22 f2.cs.toArray (bsl_eq (by kernel_rfl) (bFl f2)) ?_
      intro w2 hk2 hb2 hs2
      refine hK.out _ _ (bstep hc.b hb2) (fun hHeld => ?_)
      clear hK K hHeld
      have hz := P00100010.out x4 x5 (.slice (some ⟨w1.heap.size, 0, none⟩) 1 1) x11 x13 x14 x15 x16 w2 (hc.s10 hb2 hk2)
      rw [hWp.out, ha0.out] at hz
      simp only [put8, List.setIfInBounds_toArray, List.set_cons_zero, List.set_cons_succ] at hz
      exact hz
     ·refine step_alloc1 rfl 83 rfl zFSB ?_
      intro w2 hk2 hb2
      refine hK.out _ _ (bstep hc.b hb2) (fun hHeld => ?_)
      clear hK K hHeld
      have hz := P00000110.out x4 x5 x10 x11 x13 (.pointer (some ⟨w1.heap.size, 0, none⟩)) x15 x16 w2 (hc.s14 hb2 hk2)
      rw [hWp.out, ha0.out] at hz
      simp only [put8, List.setIfInBounds_toArray, List.set_cons_zero, List.set_cons_succ] at hz
      exact hz
     ·refine step_alloc1 rfl 83 rfl zFSB ?_
      intro w2 hk2 hb2
      refine hK.out _ _ (bstep hc.b hb2) (fun hHeld => ?_)
      clear hK K hHeld
      have hz := P00000011.out x4 x5 x10 x11 x13 x14 x15 (.pointer (some ⟨w1.heap.size, 0, none⟩)) w2 (hc.s16 hb2 hk2)
      rw [hWp.out, ha0.out] at hz
      simp only [put8, List.setIfInBounds_toArray, List.set_cons_zero, List.set_cons_succ] at hz
      exact hz)
    have P00000001 : Hid (∀ x4 x5 x10 x11 x13 x14 x15 x16 w1, Cd wr.drew f1 f2 lv false false false false false false false true x4 x5 x10 x11 x13 x14 x15 x16 w1 → Wp 10 #[true, true, true, true, false, false, true, true, true, true, false, false, true, false, false, false, true, false, false, false] (put8 a0 x4 x5 x10 x11 x13 x14 x15 x16) w1) := (show ∀ x4 x5 x10 x11 x13 x14 x15 x16 w1, Cd wr.drew f1 f2 lv false false false false false false false true x4 x5 x10 x11 x13 x14 x15 x16 w1 → Wp 10 #[true, true, true, true, false, false, true, true, true, true, false, false, true, false, false, false, true, false, false, false] (put8 a0 x4 x5 x10 x11 x13 x14 x15 x16) w1 from by
     intro x4 x5 x10 x11 x13 x14 x15 x16 w1 hc
     rw [hWp.out, ha0.out]
     simp only [put8, List.setIfInBounds_toArray, List.set_cons_zero, List.set_cons_succ]
     refine wpAnyH_ready (rs := [4, 10, 14, 15]) (by kernel_rfl) (by simp) ?_
     refine AllReadyH.cons rfl (fun K hK => ?_) (AllReadyH.cons rfl (fun K hK => ?_) (AllReadyH.cons rfl (fun K hK => ?_) (AllReadyH.cons rfl (fun K hK => ?_) AllReadyH.nil)))
     ·refine step_bsl rfl 22 28 1 _ rfl Try.underlying22 f1.cs.toArray (bsl_eq (by kernel_rfl) (bFl f1)) ?_
      intro w2 hk2 hb2 hs2
      refine hK.out _ _ (bstep hc.b hb2) (fun hHeld => ?_)
      clear hK K hHeld
      have hz := P10000001.out (.slice (some ⟨w1.heap.size, 0, none⟩) 1 1) x5 x10 x11 x13 x14 x15 x16 w2 (hc.s4 hb2 hk2)
      rw [hWp.out, ha0.out] at hz
      simp only [put8, List.setIfInBounds_toArray, List.set_cons_zero, List.set_cons_succ] at hz
      exact hz
     ·refine step_bsl rfl 22 28 1 _ rfl Try.underlying22 f2.cs.toArray (bsl_eq (by kernel_rfl) (bFl f2)) ?_
      intro w2 hk2 hb2 hs2
      refine hK.out _ _ (bstep hc.b hb2) (fun hHeld => ?_)
      clear hK K hHeld
      have hz := P00100001.out x4 x5 (.slice (some ⟨w1.heap.size, 0, none⟩) 1 1) x11 x13 x14 x15 x16 w2 (hc.s10 hb2 hk2)
      rw [hWp.out, ha0.out] at hz
      simp only [put8, List.setIfInBounds_toArray, List.set_cons_zero, List.set_cons_succ] at hz
      exact hz
     ·refine step_alloc1 rfl 83 rfl zFSB ?_
      intro w2 hk2 hb2
      refine hK.out _ _ (bstep hc.b hb2) (fun hHeld => ?_)
      clear hK K hHeld
      have hz := P00000101.out x4 x5 x10 x11 x13 (.pointer (some ⟨w1.heap.size, 0, none⟩)) x15 x16 w2 (hc.s14 hb2 hk2)
      rw [hWp.out, ha0.out] at hz
      simp only [put8, List.setIfInBounds_toArray, List.set_cons_zero, List.set_cons_succ] at hz
      exact hz
     ·refine step_alloc1 rfl 83 rfl zFSB ?_
      intro w2 hk2 hb2
      refine hK.out _ _ (bstep hc.b hb2) (fun hHeld => ?_)
      clear hK K hHeld
      have hz := P00000011.out x4 x5 x10 x11 x13 x14 (.pointer (some ⟨w1.heap.size, 0, none⟩)) x16 w2 (hc.s15 hb2 hk2)
      rw [hWp.out, ha0.out] at hz
      simp only [put8, List.setIfInBounds_toArray, List.set_cons_zero, List.set_cons_succ] at hz
      exact hz)
    have P00000000 : Hid (∀ x4 x5 x10 x11 x13 x14 x15 x16 w1, Cd wr.drew f1 f2 lv false false false false false false false false x4 x5 x10 x11 x13 x14 x15 x16 w1 → Wp 11 #[true, true, true, true, false, false, true, true, true, true, false, false, true, false, false, false, false, false, false, false] (put8 a0 x4 x5 x10 x11 x13 x14 x15 x16) w1) := (show ∀ x4 x5 x10 x11 x13 x14 x15 x16 w1, Cd wr.drew f1 f2 lv false false false false false false false false x4 x5 x10 x11 x13 x14 x15 x16 w1 → Wp 11 #[true, true, true, true, false, false, true, true, true, true, false, false, true, false, false, false, false, false, false, false] (put8 a0 x4 x5 x10 x11 x13 x14 x15 x16) w1 from by
     intro x4 x5 x10 x11 x13 x14 x15 x16 w1 hc
     rw [hWp.out, ha0.out]
     simp only [put8, List.setIfInBounds_toArray, List.set_cons_zero, List.set_cons_succ]
     refine wpAnyH_ready (rs := [4, 10, 14, 15, 16]) (by kernel_rfl) (by simp) ?_
     refine AllReadyH.cons rfl (fun K hK => ?_) (AllReadyH.cons rfl (fun K hK => ?_) (AllReadyH.cons rfl (fun K hK => ?_) (AllReadyH.cons rfl (fun K hK => ?_) (AllReadyH.cons rfl (fun K hK => ?_) AllReadyH.nil))))
     ·refine step_bsl rfl 22 28 1 _ rfl Try.underlying22 f1.cs.toArray (bsl_eq (by kernel_rfl) (bFl f1)) ?_
      intro w2 hk2 hb2 hs2
      refine hK.out _ _ (bstep hc.b hb2) (fun hHeld => ?_)
      clear hK K hHeld
      have hz := P10000000.out (.slice (some ⟨w1.heap.size, 0, none⟩) 1 1) x5 x10 x11 x13 x14 x15 x16 w2 (hc.s4 hb2 hk2)
      rw [hWp.out, ha0.out] at hz
      simp only [put8, List.setIfInBounds_toArray, List.set_cons_zero, List.set_cons_succ] at hz
      exact hz
     ·refine step_bsl rfl 22 28 1 _ rfl Try.underlying22 f2.cs.toArray (bsl_eq (by kernel_rfl) (bFl f2)) ?_
      intro w2 hk2 hb2 hs2
      refine hK.out _ _ (bstep hc.b hb2) (fun hHeld => ?_)
      clear hK K hHeld
      have hz := P00100000.out x4 x5 (.slice (some ⟨w1.heap.size, 0, none⟩) 1 1) x11 x13 x14 x15 x16 w2 (hc.s10 hb2 hk2)
      rw [hWp.out, ha0.out] at hz
      simp only [put8, List.setIfInBounds_toArray, List.set_cons_zero, List.set_cons_succ] at hz
      exact hz
     ·refine step_alloc1 rfl 83 rfl zFSB ?_
      intro w2 hk2 hb2
      refine hK.out _ _ (bstep hc.b hb2) (fun hHeld => ?_)
      clear hK K hHeld
      have hz := P00000100.out x4 x5 x10 x11 x13 (.pointer (some ⟨w1.heap.size, 0, none⟩)) x15 x16 w2 (hc.s14 hb2 hk2)
      rw [hWp.out, ha0.out] at hz
      simp only [put8, List.setIfInBounds_toArray, List.set_cons_zero, List.set_cons_succ] at hz
      exact hz
     ·refine step_alloc1 rfl 83 rfl zFSB ?_
      intro w2 hk2 hb2
      refine hK.out _ _ (bstep hc.b hb2) (fun hHeld => ?_)
      clear hK K hHeld
      have hz := P00000010.out x4 x5 x10 x11 x13 x14 (.pointer (some ⟨w1.heap.size, 0, none⟩)) x16 w2 (hc.s15 hb2 hk2)
      rw [hWp.out, ha0.out] at hz
      simp only [put8, List.setIfInBounds_toArray, List.set_cons_zero, List.set_cons_succ] at hz
      exact hz
     ·refine step_alloc1 rfl 83 rfl zFSB ?_
      intro w2 hk2 hb2
      refine hK.out _ _ (bstep hc.b hb2) (fun hHeld => ?_)
      clear hK K hHeld
      have hz := P00000001.out x4 x5 x10 x11 x13 x14 x15 (.pointer (some ⟨w1.heap.size, 0, none⟩)) w2 (hc.s16 hb2 hk2)
      rw [hWp.out, ha0.out] at hz
      simp only [put8, List.setIfInBounds_toArray, List.set_cons_zero, List.set_cons_succ] at hz
      exact hz)
    have hz := P00000000.out undef undef undef undef undef undef undef undef wr.drew (Cd.start _ _ _ _ _ _ _ _ _ _ _ _)
    have hp : put8 a0 undef undef undef undef undef undef undef undef = a0 := by
     rw [ha0.out]
     simp only [put8, List.setIfInBounds_toArray, List.set_cons_zero, List.set_cons_succ]
    rw [hp] at hz
    exact hz
   case rest =>
    obtain ⟨hb7, k1, k2, k3, b1, b2, b3, g1, g2, rfl, rfl, rfl, c1, c2, c3, d1, e1, d2, e2, d3⟩ := hcut
    have HB7 : Hid (Below w.heap.size w wc) := bstep HBd.out hb7
    have hB6 : Below V6.heap.size V6 wc := bstep (bstep HBr.out (drew_bel wr)) hb7
    have hBw : Below wr.heap.size wr wc := bstep (drew_bel wr) hb7
    have HRs : Hid (RdS wc ja ss) := own_rdS (own_still HOw.out hB6) HSl.out.1
    have HsL : Hid (ss.length = jn) := HSl.out.1
    have q1 : wc.cell? ⟨eb, 1, none⟩ = some (.slice ja jn jc) := blk_cell (blk_on hB6 H6.out) 1
    have HP : Hid (∀ w', Below wc.heap.size wc w' → ∀ i, i < ss.length → Calls Try.prog 38 #[.agg (slotV (ss.getD i z2)).toArray, .pointer (some ⟨k1, 0, none⟩), .pointer (some ⟨k2, 0, none⟩), .pointer (some ⟨k3, 0, none⟩)] w' fun e w2 => e = .returned (.bool (duP (cos fs) who sf me you (ss.getD i z2))) ∧ Below w'.heap.size w' w2) := fun w' hb i hi => by
     have hbw := bstep HB7.out hb
     have := du1_any (w := w') (a1 := some ⟨g1, 0, none⟩) (a2 := some ⟨g2, 0, none⟩) (a3 := la) (c1 := 1) (c2 := 1) (c3 := lc) (f1 := [f1]) (f2 := [f2]) (f3 := lf) (ss.getD i z2) (HS1.out i hi).1
      (rd_one (blk_on hb e1) (HE1.out w' hbw)) (by simp) (fun j hj => by
       have hj0 : j = 0 := by simpa using hj
       subst hj0
       exact (HS1.out i hi).2) k1 b1 (blk_on hb d1) (blk_on hb c1)
      (rd_one (blk_on hb e2) (HE2.out w' hbw)) (by simp) (fun j hj => by
       have hj0 : j = 0 := by simpa using hj
       subst hj0
       exact (HS2.out i hi).2) k2 b2 (blk_on hb d2) (blk_on hb c2)
      (HRl.out.still (bstep hBw hb)) (by rw [HLl.out]; exact HLn.out) (fun j hj => by
       obtain ⟨k, hk, e⟩ := HLm.out j (by rw [← HLl.out]; exact hj)
       rw [e]
       exact (HsP.out i hi k hk).2) k3 b3 (by rw [HLl.out, Hlv.out]; exact blk_on hb d3) (blk_on hb c3)
     rw [hasA_one, hasA_one, HPq.out] at this
     exact this
    have HPk : Hid (Calls Try.prog 33 #[.slice ja jn jc, .func (.func 38) #[] #[.pointer (some ⟨k1, 0, none⟩), .pointer (some ⟨k2, 0, none⟩), .pointer (some ⟨k3, 0, none⟩)]] wc fun e w' => ∃ a c, e = .returned (.slice a (pick (duP (cos fs) who sf me you) ss).length c) ∧ w'.ownsRow wc.heap.size 76 2 (.slice a (pick (duP (cos fs) who sf me you) ss).length c) (pick (duP (cos fs) who sf me you) ss).length (slCells (pick (duP (cos fs) who sf me you) ss)) ∧ Below wc.heap.size wc w') := by
     have := pickedD_any (cp := jc) HRs.out (by rw [HsL.out]; have := Hn128.out; omega) (duP (cos fs) who sf me you) k1 k2 k3 HP.out
     rw [HsL.out] at this
     exact this
    generalize pick (duP (cos fs) who sf me you) ss = lst at HPk HDS
    clear hb7 c1 c2 c3 d1 e1 d2 e2 d3 hB6 hBw
    go_wp2_with (first
     | (go_at_call 33; refine HPk.out.mono ?_; rintro e V9 ⟨pa, pc, rfl, hpo, hb9⟩)
     | fail)
    go_ret2
    exact ⟨pa, pc, lst, 0, rfl, HDS.out, own_lower hpo HB7.out.size, bstep HB7.out hb9⟩
end
end Go.Proofs.Ytobaooebjgoaiaa.Fm
