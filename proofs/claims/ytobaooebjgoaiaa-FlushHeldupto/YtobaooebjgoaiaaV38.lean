import Derived.Test.YtobaooebjgoaiaaV30
import Derived.Laws.EntriesVeiled
namespace Go.Proofs.Ytobaooebjgoaiaa.Fm
open Go.RowKit Go.Maps Mb
set_option linter.unusedVariables false
set_option maxRecDepth 100000
set_option linter.unusedSimpArgs false
section
variable {w w' W : World} {B : Nat}
theorem hasA_1 (f : Fl) (s : Int × Int) : hasA (cos [f]) s = has f.c s := by simp [hasA, cos]
set_option maxHeartbeats 16000000 in
theorem lacks_any {ao : Option Addr} {cp : Nat} {fs : List Fl} {own : Fl} (hr : RdFs w ao fs) (ho : own.Rd w) (hcp : fs.length ≤ cp) (hcm : cp ≤ 9223372036854775807) (hln : fs.length ≤ 1048576) (d : Int) : Calls Try.prog 9 #[.int .i64 d, .agg own.cs.toArray, .slice ao fs.length cp] w fun e w' => ∃ a c l E, e = .returned (.tuple #[.slice a (l : List (Int × Int)).length c, .int .i64 E]) ∧ LkS (cos fs) own.c d E l ∧ w'.ownsRow w.heap.size 76 2 (.slice a l.length c) l.length (slCells l) ∧ Below w.heap.size w w' := by
 have hcl := cos_len fs
 have HWg : Hid (∀ v lo hi w', Calls Try.prog 29 #[.int .i64 v, .int .i64 lo, .int .i64 hi] w' fun e w2 => e = .returned (.bool (inR lo hi v)) ∧ w' = w2) := fun v lo hi w' => (within_any _ _ _).mono fun _ _ h => ⟨h.1, h.2.symm⟩
 have HNo : Hid (lkB (cos fs) d = false → LkS (cos fs) own.c d 1 []) := fun h => .inl ⟨h, rfl, rfl⟩
 have HlB : Hid (lkB (cos fs) d = (inR 0 4611686018427387904 d && inR 1 16 (fs.length : Int))) := (show lkB (cos fs) d = _ from by unfold lkB; rw [hcl])
 generalize hW1 : w.alloc (.cells own.cs.toArray 28) = W1
 have b1 : Below w.heap.size w W1 := hW1 ▸ balloc (Below.refl _ _)
 have k1 : W1.heap[w.heap.size]? = some (.cells own.cs.toArray 28 (0, 0)) := by rw [← hW1]; exact heap_alloc_new w _
 have HB1 : Hid (Below w.heap.size w W1) := b1
 have HK1 : Hid (W1.heap[w.heap.size]? = some (.cells own.cs.toArray 28 (0, 0))) := k1
 have HR1 : Hid (RdFs W1 ao fs) := hr.still b1
 have HO1 : Hid (own.Rd W1) := ho.still b1
 generalize hL : fs.length = L at *
 have HLe : Hid (fs.length = L) := hL
 generalize hos : own.cs.toArray = oa at hW1
 have Hoa : Hid (own.cs.toArray = oa) := hos
 try rw [hos]
 clear hr ho hcl hL b1 k1 hos
 cases h1 : inR 0 4611686018427387904 d with
 | false =>
  have H1 : Hid (inR 0 4611686018427387904 d = false) := h1
  have HS : Hid (LkS (cos fs) own.c d 1 []) := HNo.out (by rw [HlB.out, h1]; rfl)
  clear h1
  go_enter Try.func9, Try.ntmps9
  go_wp2_with (first | (go_at_call 29; refine (HWg.out _ _ _ _).mono ?_; rintro e w2 ⟨rfl, rfl⟩; rw [H1.out]) | fail)
  go_ret2
  exact ⟨none, 0, [], 1, rfl, HS.out, ⟨rfl, .inl ⟨rfl, rfl⟩⟩, HB1.out⟩
 | true =>
  have H1 : Hid (inR 0 4611686018427387904 d = true) := h1
  cases h2 : inR 1 16 (L : Int) with
  | false =>
   have H2 : Hid (inR 1 16 (L : Int) = false) := h2
   have HS : Hid (LkS (cos fs) own.c d 1 []) := HNo.out (by rw [HlB.out, h1, h2]; rfl)
   clear h1 h2
   go_enter Try.func9, Try.ntmps9
   go_wp2_with (first | (go_at_call 29; refine (HWg.out _ _ _ _).mono ?_; rintro e w2 ⟨rfl, rfl⟩; first | rw [H1.out] | rw [H2.out]) | fail)
   go_ret2
   exact ⟨none, 0, [], 1, rfl, HS.out, ⟨rfl, .inl ⟨rfl, rfl⟩⟩, HB1.out⟩
  | true =>
   have H2 : Hid (inR 1 16 (L : Int) = true) := h2
   have hin : 1 ≤ L ∧ L ≤ 16 := by simp [inR] at h2; omega
   have hdd : 0 ≤ d ∧ d ≤ 4611686018427387904 := by simp [inR] at h1; omega
   have Hyes : Hid (lkB (cos fs) d = true) := (show lkB (cos fs) d = true from by rw [HlB.out, h1, h2]; rfl)
   clear h1 h2
   have h16 : L ≤ 16 := hin.2
   obtain ⟨b, off, rfl, _⟩ := HR1.out.at (i := 0) (by rw [HLe.out]; omega)
   have HR : Hid (RdFs W1.drew (some ⟨b, off, none⟩) fs) := HR1.out.still (drew_bel _)
   have Hown : Hid (own.Rd W1.drew) := HO1.out.still (drew_bel _)
   have HRg : Hid (W1.drew.rangeAt w.heap.size 0 own.cs) := range_on (blk_range HK1.out) (drew_bel _)
   have HCl : Hid (∀ w', Calls Try.prog 31 #[.slice (some ⟨b, off, none⟩) L cp] w' fun e w2 => e = .returned (.slice (some ⟨b, off, none⟩) L L) ∧ w' = w2) := fun w' => (clip_any hcp hcm hin.1).mono fun _ _ h => ⟨h.1, h.2.symm⟩
   have HJn : Hid (∀ (X : World) a4 c4, RdFs X a4 (fs ++ [own]) → Calls Try.prog 30 #[.slice a4 (L + 1) c4] X fun e w' => ∃ bb a n c ev, e = .returned (.tuple #[.agg (endV bb a n c).toArray, .int .i64 ev]) ∧ JQ (fs ++ [own]) X w' bb a n c ev ∧ Below X.heap.size X w') := fun X a4 c4 hX => by
    have := join_one (cp := c4) hX (by rw [List.length_append, HLe.out]; simp; omega)
    rwa [List.length_append, HLe.out] at this
   have HSt : Hid (∀ (X Z : World) (eb : Nat), Below W1.drew.heap.size W1.drew X → ∀ {C : Array Value}, X.heap[eb]? = some (.cells C 79 (0, 0)) → W1.drew.heap.size ≤ eb → Kept X Z (fun j => j = eb) → Z.rangeAt w.heap.size 0 own.cs) := fun X Z eb hX C hC hge hk => by
    have hb : Below W1.drew.heap.size W1.drew Z := hX.trans (hk.below hX.size (fun k hk e => by omega))
    exact range_on HRg.out hb
   go_enter Try.func9, Try.ntmps9
   go_upto_region 3 with (first | (go_at_call 29; refine (HWg.out _ _ _ _).mono ?_; rintro e w2 ⟨rfl, rfl⟩; first | rw [H1.out] | rw [H2.out]) | fail)
   go_cut [8, 9] (fun p ev wx => LkJ (fs ++ [own]) W1.drew p ev wx)
   case first =>
    refine wp_region_held_drew (S := (fun w' => w'.rangeAt w.heap.size 0 own.cs)) (by kernel_rfl) HRg.out (fun hHeld => ?_)
    simp only [Act.put, List.size_toArray, List.length_cons, List.length_nil, Nat.zero_add]
    refine wG9 0 (.slice (some ⟨b, off, none⟩) L cp) rfl hHeld ?_
    simp only [Act.put,gA9,gZ9,gC9,sA9,sZ9,sC9]
    refine wpAnyH_take (i := 2) (v := .agg own.cs.toArray) rfl (by kernel_rfl) (by kernel_rfl) (by kernel_rfl) (fun _ _ _ h => h) (yieldsIf_load_mid (by rfl) 28 (.tmp 4) rfl w.heap.size 0 (by rfl) own.cs _ (fun w' hS => hS) Try.underlying28 rfl info_flush) hHeld ?_
    simp only [Act.put,gA9,gZ9,gC9,sA9,sZ9,sC9]
    refine wpAnyH_ready (rs := [1, 3, 9]) (by kernel_rfl) (by simp) ?_
    refine AllReadyH.cons rfl (fun K hK => ?_) (AllReadyH.cons rfl (fun K hK => ?_) (AllReadyH.cons rfl (fun K hK => ?_) AllReadyH.nil))
    ·go_simp
     refine (HCl.out _).mono ?_
     rintro e wz ⟨rfl, rfl⟩
     refine hK.out _ _ (range_on HRg.out (Below.refl W1.drew.heap.size W1.drew)) (fun hHeld => ?_)
     clear hK K
     refine wpAnyH_ready (rs := [3, 9]) (by kernel_rfl) (by simp) ?_
     refine AllReadyH.cons rfl (fun K hK => ?_) (AllReadyH.cons rfl (fun K hK => ?_) AllReadyH.nil)
     ·refine step_bsl rfl 22 28 1 _ rfl Try.underlying22 own.cs.toArray (bsl_eq (by kernel_rfl) (bFl own)) ?_
      intro V2 k2 b2 s2
      have K2 : Hid _ := k2
      have B2 : Hid _ := b2
      clear k2 b2
      refine hK.out _ _ (range_on HRg.out (bstep (Below.refl W1.drew.heap.size W1.drew) B2.out)) (fun hHeld => ?_)
      clear hK K
      refine wpAnyH_ready (rs := [4, 9]) (by kernel_rfl) (by simp) ?_
      refine AllReadyH.cons rfl (fun K hK => ?_) (AllReadyH.cons rfl (fun K hK => ?_) AllReadyH.nil)
      ·refine step_appF rfl _ _ rfl (fs := fs) (f := own) rfl HLe.out h16 (HR.out.still (bstep (Below.refl W1.drew.heap.size W1.drew) B2.out)) (Hown.out.still (bstep (Below.refl W1.drew.heap.size W1.drew) B2.out)) rfl K2.out ?_
       intro a4 c4 V3 r3 b3
       have Rr3 : Hid _ := r3
       have B3 : Hid _ := b3
       clear r3 b3
       refine hK.out _ _ (range_on HRg.out (bstep (bstep (Below.refl W1.drew.heap.size W1.drew) B2.out) B3.out)) (fun hHeld => ?_)
       clear hK K
       refine wpAnyH_ready (rs := [5, 9]) (by kernel_rfl) (by simp) ?_
       refine AllReadyH.cons rfl (fun K hK => ?_) (AllReadyH.cons rfl (fun K hK => ?_) AllReadyH.nil)
       ·go_simp
        refine (HJn.out V3 a4 c4 Rr3.out).mono ?_
        rintro e V4 ⟨bb, aj, nj, cj, ej, rfl, q4, b4⟩
        have Q4 : Hid _ := q4
        have B4 : Hid _ := b4
        clear q4 b4
        refine hK.out _ _ (range_on HRg.out (bstep (bstep (bstep (Below.refl W1.drew.heap.size W1.drew) B2.out) B3.out) B4.out)) (fun hHeld => ?_)
        clear hK K
        refine wG9 6 (.tuple #[.agg (endV bb aj nj cj).toArray, .int .i64 ej]) rfl hHeld ?_
        simp only [Act.put,gA9,gZ9,gC9,sA9,sZ9,sC9]
        refine wG9 7 (.agg (endV bb aj nj cj).toArray) rfl hHeld ?_
        simp only [Act.put,gA9,gZ9,gC9,sA9,sZ9,sC9]
        refine wG9 8 (.int .i64 ej) rfl hHeld ?_
        simp only [Act.put,gA9,gZ9,gC9,sA9,sZ9,sC9]
        refine wpAnyH_ready (rs := [9]) (by kernel_rfl) (by simp) ?_
        refine AllReadyH.cons rfl (fun K hK => ?_) AllReadyH.nil
        refine step_allocZ rfl 79 rfl zEnd ?_
        intro V5 k5 b5 s5
        have K5 : Hid _ := k5
        have B5 : Hid _ := b5
        clear k5 b5
        refine hK.out _ _ (range_on HRg.out (bstep (bstep (bstep (bstep (Below.refl W1.drew.heap.size W1.drew) B2.out) B3.out) B4.out) B5.out)) (fun hHeld => ?_)
        clear hK K
        refine wpAnyH_ready (rs := [10]) (by kernel_rfl) (by simp) ?_
        refine AllReadyH.cons rfl (fun K hK => ?_) AllReadyH.nil
        refine step_storeZ rfl 79 _ _ rfl (L := endV bb aj nj cj) rfl rfl K5.out info_end rfl (endV_one _ _ _ _) ?_
        intro V10 h10 hk10
        refine hK.out _ _ (HSt.out _ _ _ (bstep (bstep (bstep (bstep (Below.refl W1.drew.heap.size W1.drew) B2.out) B3.out) B4.out) B5.out) K5.out (bstep (bstep (bstep (Below.refl W1.drew.heap.size W1.drew) B2.out) B3.out) B4.out).size hk10) (fun hHeld => ?_)
        clear hK K
        refine wG9 11 (.int .i64 ej) rfl hHeld ?_
        simp only [Act.put,gA9,gZ9,gC9,sA9,sZ9,sC9]
        refine wpAnyH_done (by kernel_rfl) ?_ _
        clear hHeld
        go_wp2_with fail
        go_meet
        exact LkJ.fin Q4.out (bstep (bstep (Below.refl W1.drew.heap.size W1.drew) B2.out) B3.out) (bstep (bstep (bstep (Below.refl W1.drew.heap.size W1.drew) B2.out) B3.out) B4.out) (bstep (Below.refl V4.heap.size V4) B5.out) K5.out (bstep (bstep (bstep (Below.refl W1.drew.heap.size W1.drew) B2.out) B3.out) B4.out).size hk10 h10
       ·refine step_allocZ rfl 79 rfl zEnd ?_
        intro V7 k7 b7 s7
        have K7 : Hid _ := k7
        have B7 : Hid _ := b7
        clear k7 b7
        refine hK.out _ _ (range_on HRg.out (bstep (bstep (bstep (Below.refl W1.drew.heap.size W1.drew) B2.out) B3.out) B7.out)) (fun hHeld => ?_)
        clear hK K
        refine wpAnyH_ready (rs := [5]) (by kernel_rfl) (by simp) ?_
        refine AllReadyH.cons rfl (fun K hK => ?_) AllReadyH.nil
        go_simp
        refine (HJn.out V7 a4 c4 (Rr3.out.still B7.out)).mono ?_
        rintro e V8 ⟨bb, aj, nj, cj, ej, rfl, q8, b8⟩
        have Q8 : Hid _ := q8
        have B8 : Hid _ := b8
        clear q8 b8
        refine hK.out _ _ (range_on HRg.out (bstep (bstep (bstep (bstep (Below.refl W1.drew.heap.size W1.drew) B2.out) B3.out) B7.out) B8.out)) (fun hHeld => ?_)
        clear hK K
        refine wG9 6 (.tuple #[.agg (endV bb aj nj cj).toArray, .int .i64 ej]) rfl hHeld ?_
        simp only [Act.put,gA9,gZ9,gC9,sA9,sZ9,sC9]
        refine wG9 7 (.agg (endV bb aj nj cj).toArray) rfl hHeld ?_
        simp only [Act.put,gA9,gZ9,gC9,sA9,sZ9,sC9]
        refine wG9 8 (.int .i64 ej) rfl hHeld ?_
        simp only [Act.put,gA9,gZ9,gC9,sA9,sZ9,sC9]
        refine wpAnyH_ready (rs := [10]) (by kernel_rfl) (by simp) ?_
        refine AllReadyH.cons rfl (fun K hK => ?_) AllReadyH.nil
        refine step_storeZ rfl 79 _ _ rfl (L := endV bb aj nj cj) rfl rfl (blk_on B8.out K7.out) info_end rfl (endV_one _ _ _ _) ?_
        intro V10 h10 hk10
        refine hK.out _ _ (HSt.out _ _ _ (bstep (bstep (bstep (bstep (Below.refl W1.drew.heap.size W1.drew) B2.out) B3.out) B7.out) B8.out) (blk_on B8.out K7.out) (bstep (bstep (Below.refl W1.drew.heap.size W1.drew) B2.out) B3.out).size hk10) (fun hHeld => ?_)
        clear hK K
        refine wG9 11 (.int .i64 ej) rfl hHeld ?_
        simp only [Act.put,gA9,gZ9,gC9,sA9,sZ9,sC9]
        refine wpAnyH_done (by kernel_rfl) ?_ _
        clear hHeld
        go_wp2_with fail
        go_meet
        exact LkJ.fin Q8.out (bstep (bstep (bstep (Below.refl W1.drew.heap.size W1.drew) B2.out) B3.out) B7.out) (bstep (bstep (bstep (bstep (Below.refl W1.drew.heap.size W1.drew) B2.out) B3.out) B7.out) B8.out) (Below.refl V8.heap.size V8) (blk_on B8.out K7.out) (bstep (bstep (Below.refl W1.drew.heap.size W1.drew) B2.out) B3.out).size hk10 h10
      ·refine step_allocZ rfl 79 rfl zEnd ?_
       intro V10 k10 b10 s10
       have K10 : Hid _ := k10
       have B10 : Hid _ := b10
       clear k10 b10
       refine hK.out _ _ (range_on HRg.out (bstep (bstep (Below.refl W1.drew.heap.size W1.drew) B2.out) B10.out)) (fun hHeld => ?_)
       clear hK K
       refine wpAnyH_ready (rs := [4]) (by kernel_rfl) (by simp) ?_
       refine AllReadyH.cons rfl (fun K hK => ?_) AllReadyH.nil
       refine step_appF rfl _ _ rfl (fs := fs) (f := own) rfl HLe.out h16 (HR.out.still (bstep (bstep (Below.refl W1.drew.heap.size W1.drew) B2.out) B10.out)) (Hown.out.still (bstep (bstep (Below.refl W1.drew.heap.size W1.drew) B2.out) B10.out)) rfl (blk_on B10.out K2.out) ?_
       intro a4 c4 V11 r11 b11
       have Rr11 : Hid _ := r11
       have B11 : Hid _ := b11
       clear r11 b11
       refine hK.out _ _ (range_on HRg.out (bstep (bstep (bstep (Below.refl W1.drew.heap.size W1.drew) B2.out) B10.out) B11.out)) (fun hHeld => ?_)
       clear hK K
       refine wpAnyH_ready (rs := [5]) (by kernel_rfl) (by simp) ?_
       refine AllReadyH.cons rfl (fun K hK => ?_) AllReadyH.nil
       go_simp
       refine (HJn.out V11 a4 c4 Rr11.out).mono ?_
       rintro e V12 ⟨bb, aj, nj, cj, ej, rfl, q12, b12⟩
       have Q12 : Hid _ := q12
       have B12 : Hid _ := b12
       clear q12 b12
       refine hK.out _ _ (range_on HRg.out (bstep (bstep (bstep (bstep (Below.refl W1.drew.heap.size W1.drew) B2.out) B10.out) B11.out) B12.out)) (fun hHeld => ?_)
       clear hK K
       refine wG9 6 (.tuple #[.agg (endV bb aj nj cj).toArray, .int .i64 ej]) rfl hHeld ?_
       simp only [Act.put,gA9,gZ9,gC9,sA9,sZ9,sC9]
       refine wG9 7 (.agg (endV bb aj nj cj).toArray) rfl hHeld ?_
       simp only [Act.put,gA9,gZ9,gC9,sA9,sZ9,sC9]
       refine wG9 8 (.int .i64 ej) rfl hHeld ?_
       simp only [Act.put,gA9,gZ9,gC9,sA9,sZ9,sC9]
       refine wpAnyH_ready (rs := [10]) (by kernel_rfl) (by simp) ?_
       refine AllReadyH.cons rfl (fun K hK => ?_) AllReadyH.nil
       refine step_storeZ rfl 79 _ _ rfl (L := endV bb aj nj cj) rfl rfl (blk_on B12.out (blk_on B11.out K10.out)) info_end rfl (endV_one _ _ _ _) ?_
       intro V10 h10 hk10
       refine hK.out _ _ (HSt.out _ _ _ (bstep (bstep (bstep (bstep (Below.refl W1.drew.heap.size W1.drew) B2.out) B10.out) B11.out) B12.out) (blk_on B12.out (blk_on B11.out K10.out)) (bstep (Below.refl W1.drew.heap.size W1.drew) B2.out).size hk10) (fun hHeld => ?_)
       clear hK K
       refine wG9 11 (.int .i64 ej) rfl hHeld ?_
       simp only [Act.put,gA9,gZ9,gC9,sA9,sZ9,sC9]
       refine wpAnyH_done (by kernel_rfl) ?_ _
       clear hHeld
       go_wp2_with fail
       go_meet
       exact LkJ.fin Q12.out (bstep (bstep (bstep (Below.refl W1.drew.heap.size W1.drew) B2.out) B10.out) B11.out) (bstep (bstep (bstep (bstep (Below.refl W1.drew.heap.size W1.drew) B2.out) B10.out) B11.out) B12.out) (Below.refl V12.heap.size V12) (blk_on B12.out (blk_on B11.out K10.out)) (bstep (Below.refl W1.drew.heap.size W1.drew) B2.out).size hk10 h10
     ·refine step_allocZ rfl 79 rfl zEnd ?_
      intro V14 k14 b14 s14
      have K14 : Hid _ := k14
      have B14 : Hid _ := b14
      clear k14 b14
      refine hK.out _ _ (range_on HRg.out (bstep (Below.refl W1.drew.heap.size W1.drew) B14.out)) (fun hHeld => ?_)
      clear hK K
      refine wpAnyH_ready (rs := [3]) (by kernel_rfl) (by simp) ?_
      refine AllReadyH.cons rfl (fun K hK => ?_) AllReadyH.nil
      refine step_bsl rfl 22 28 1 _ rfl Try.underlying22 own.cs.toArray (bsl_eq (by kernel_rfl) (bFl own)) ?_
      intro V15 k15 b15 s15
      have K15 : Hid _ := k15
      have B15 : Hid _ := b15
      clear k15 b15
      refine hK.out _ _ (range_on HRg.out (bstep (bstep (Below.refl W1.drew.heap.size W1.drew) B14.out) B15.out)) (fun hHeld => ?_)
      clear hK K
      refine wpAnyH_ready (rs := [4]) (by kernel_rfl) (by simp) ?_
      refine AllReadyH.cons rfl (fun K hK => ?_) AllReadyH.nil
      refine step_appF rfl _ _ rfl (fs := fs) (f := own) rfl HLe.out h16 (HR.out.still (bstep (bstep (Below.refl W1.drew.heap.size W1.drew) B14.out) B15.out)) (Hown.out.still (bstep (bstep (Below.refl W1.drew.heap.size W1.drew) B14.out) B15.out)) rfl K15.out ?_
      intro a4 c4 V16 r16 b16
      have Rr16 : Hid _ := r16
      have B16 : Hid _ := b16
      clear r16 b16
      refine hK.out _ _ (range_on HRg.out (bstep (bstep (bstep (Below.refl W1.drew.heap.size W1.drew) B14.out) B15.out) B16.out)) (fun hHeld => ?_)
      clear hK K
      refine wpAnyH_ready (rs := [5]) (by kernel_rfl) (by simp) ?_
      refine AllReadyH.cons rfl (fun K hK => ?_) AllReadyH.nil
      go_simp
      refine (HJn.out V16 a4 c4 Rr16.out).mono ?_
      rintro e V17 ⟨bb, aj, nj, cj, ej, rfl, q17, b17⟩
      have Q17 : Hid _ := q17
      have B17 : Hid _ := b17
      clear q17 b17
      refine hK.out _ _ (range_on HRg.out (bstep (bstep (bstep (bstep (Below.refl W1.drew.heap.size W1.drew) B14.out) B15.out) B16.out) B17.out)) (fun hHeld => ?_)
      clear hK K
      refine wG9 6 (.tuple #[.agg (endV bb aj nj cj).toArray, .int .i64 ej]) rfl hHeld ?_
      simp only [Act.put,gA9,gZ9,gC9,sA9,sZ9,sC9]
      refine wG9 7 (.agg (endV bb aj nj cj).toArray) rfl hHeld ?_
      simp only [Act.put,gA9,gZ9,gC9,sA9,sZ9,sC9]
      refine wG9 8 (.int .i64 ej) rfl hHeld ?_
      simp only [Act.put,gA9,gZ9,gC9,sA9,sZ9,sC9]
      refine wpAnyH_ready (rs := [10]) (by kernel_rfl) (by simp) ?_
      refine AllReadyH.cons rfl (fun K hK => ?_) AllReadyH.nil
      refine step_storeZ rfl 79 _ _ rfl (L := endV bb aj nj cj) rfl rfl (blk_on B17.out (blk_on B16.out (blk_on B15.out K14.out))) info_end rfl (endV_one _ _ _ _) ?_
      intro V10 h10 hk10
      refine hK.out _ _ (HSt.out _ _ _ (bstep (bstep (bstep (bstep (Below.refl W1.drew.heap.size W1.drew) B14.out) B15.out) B16.out) B17.out) (blk_on B17.out (blk_on B16.out (blk_on B15.out K14.out))) (Below.refl W1.drew.heap.size W1.drew).size hk10) (fun hHeld => ?_)
      clear hK K
      refine wG9 11 (.int .i64 ej) rfl hHeld ?_
      simp only [Act.put,gA9,gZ9,gC9,sA9,sZ9,sC9]
      refine wpAnyH_done (by kernel_rfl) ?_ _
      clear hHeld
      go_wp2_with fail
      go_meet
      exact LkJ.fin Q17.out (bstep (bstep (bstep (Below.refl W1.drew.heap.size W1.drew) B14.out) B15.out) B16.out) (bstep (bstep (bstep (bstep (Below.refl W1.drew.heap.size W1.drew) B14.out) B15.out) B16.out) B17.out) (Below.refl V17.heap.size V17) (blk_on B17.out (blk_on B16.out (blk_on B15.out K14.out))) (Below.refl W1.drew.heap.size W1.drew).size hk10 h10
    ·refine step_bsl rfl 22 28 1 _ rfl Try.underlying22 own.cs.toArray (bsl_eq (by kernel_rfl) (bFl own)) ?_
     intro V19 k19 b19 s19
     have K19 : Hid _ := k19
     have B19 : Hid _ := b19
     clear k19 b19
     refine hK.out _ _ (range_on HRg.out (bstep (Below.refl W1.drew.heap.size W1.drew) B19.out)) (fun hHeld => ?_)
     clear hK K
     refine wpAnyH_ready (rs := [1, 9]) (by kernel_rfl) (by simp) ?_
     refine AllReadyH.cons rfl (fun K hK => ?_) (AllReadyH.cons rfl (fun K hK => ?_) AllReadyH.nil)
     ·go_simp
      refine (HCl.out _).mono ?_
      rintro e wz ⟨rfl, rfl⟩
      refine hK.out _ _ (range_on HRg.out (bstep (Below.refl W1.drew.heap.size W1.drew) B19.out)) (fun hHeld => ?_)
      clear hK K
      refine wpAnyH_ready (rs := [4, 9]) (by kernel_rfl) (by simp) ?_
      refine AllReadyH.cons rfl (fun K hK => ?_) (AllReadyH.cons rfl (fun K hK => ?_) AllReadyH.nil)
      ·refine step_appF rfl _ _ rfl (fs := fs) (f := own) rfl HLe.out h16 (HR.out.still (bstep (Below.refl W1.drew.heap.size W1.drew) B19.out)) (Hown.out.still (bstep (Below.refl W1.drew.heap.size W1.drew) B19.out)) rfl K19.out ?_
       intro a4 c4 V21 r21 b21
       have Rr21 : Hid _ := r21
       have B21 : Hid _ := b21
       clear r21 b21
       refine hK.out _ _ (range_on HRg.out (bstep (bstep (Below.refl W1.drew.heap.size W1.drew) B19.out) B21.out)) (fun hHeld => ?_)
       clear hK K
       refine wpAnyH_ready (rs := [5, 9]) (by kernel_rfl) (by simp) ?_
       refine AllReadyH.cons rfl (fun K hK => ?_) (AllReadyH.cons rfl (fun K hK => ?_) AllReadyH.nil)
       ·go_simp
        refine (HJn.out V21 a4 c4 Rr21.out).mono ?_
        rintro e V22 ⟨bb, aj, nj, cj, ej, rfl, q22, b22⟩
        have Q22 : Hid _ := q22
        have B22 : Hid _ := b22
        clear q22 b22
        refine hK.out _ _ (range_on HRg.out (bstep (bstep (bstep (Below.refl W1.drew.heap.size W1.drew) B19.out) B21.out) B22.out)) (fun hHeld => ?_)
        clear hK K
        refine wG9 6 (.tuple #[.agg (endV bb aj nj cj).toArray, .int .i64 ej]) rfl hHeld ?_
        simp only [Act.put,gA9,gZ9,gC9,sA9,sZ9,sC9]
        refine wG9 7 (.agg (endV bb aj nj cj).toArray) rfl hHeld ?_
        simp only [Act.put,gA9,gZ9,gC9,sA9,sZ9,sC9]
        refine wG9 8 (.int .i64 ej) rfl hHeld ?_
        simp only [Act.put,gA9,gZ9,gC9,sA9,sZ9,sC9]
        refine wpAnyH_ready (rs := [9]) (by kernel_rfl) (by simp) ?_
        refine AllReadyH.cons rfl (fun K hK => ?_) AllReadyH.nil
        refine step_allocZ rfl 79 rfl zEnd ?_
        intro V23 k23 b23 s23
        have K23 : Hid _ := k23
        have B23 : Hid _ := b23
        clear k23 b23
        refine hK.out _ _ (range_on HRg.out (bstep (bstep (bstep (bstep (Below.refl W1.drew.heap.size W1.drew) B19.out) B21.out) B22.out) B23.out)) (fun hHeld => ?_)
        clear hK K
        refine wpAnyH_ready (rs := [10]) (by kernel_rfl) (by simp) ?_
        refine AllReadyH.cons rfl (fun K hK => ?_) AllReadyH.nil
        refine step_storeZ rfl 79 _ _ rfl (L := endV bb aj nj cj) rfl rfl K23.out info_end rfl (endV_one _ _ _ _) ?_
        intro V10 h10 hk10
        refine hK.out _ _ (HSt.out _ _ _ (bstep (bstep (bstep (bstep (Below.refl W1.drew.heap.size W1.drew) B19.out) B21.out) B22.out) B23.out) K23.out (bstep (bstep (bstep (Below.refl W1.drew.heap.size W1.drew) B19.out) B21.out) B22.out).size hk10) (fun hHeld => ?_)
        clear hK K
        refine wG9 11 (.int .i64 ej) rfl hHeld ?_
        simp only [Act.put,gA9,gZ9,gC9,sA9,sZ9,sC9]
        refine wpAnyH_done (by kernel_rfl) ?_ _
        clear hHeld
        go_wp2_with fail
        go_meet
        exact LkJ.fin Q22.out (bstep (bstep (Below.refl W1.drew.heap.size W1.drew) B19.out) B21.out) (bstep (bstep (bstep (Below.refl W1.drew.heap.size W1.drew) B19.out) B21.out) B22.out) (bstep (Below.refl V22.heap.size V22) B23.out) K23.out (bstep (bstep (bstep (Below.refl W1.drew.heap.size W1.drew) B19.out) B21.out) B22.out).size hk10 h10
       ·refine step_allocZ rfl 79 rfl zEnd ?_
        intro V25 k25 b25 s25
        have K25 : Hid _ := k25
        have B25 : Hid _ := b25
        clear k25 b25
        refine hK.out _ _ (range_on HRg.out (bstep (bstep (bstep (Below.refl W1.drew.heap.size W1.drew) B19.out) B21.out) B25.out)) (fun hHeld => ?_)
        clear hK K
        refine wpAnyH_ready (rs := [5]) (by kernel_rfl) (by simp) ?_
        refine AllReadyH.cons rfl (fun K hK => ?_) AllReadyH.nil
        go_simp
        refine (HJn.out V25 a4 c4 (Rr21.out.still B25.out)).mono ?_
        rintro e V26 ⟨bb, aj, nj, cj, ej, rfl, q26, b26⟩
        have Q26 : Hid _ := q26
        have B26 : Hid _ := b26
        clear q26 b26
        refine hK.out _ _ (range_on HRg.out (bstep (bstep (bstep (bstep (Below.refl W1.drew.heap.size W1.drew) B19.out) B21.out) B25.out) B26.out)) (fun hHeld => ?_)
        clear hK K
        refine wG9 6 (.tuple #[.agg (endV bb aj nj cj).toArray, .int .i64 ej]) rfl hHeld ?_
        simp only [Act.put,gA9,gZ9,gC9,sA9,sZ9,sC9]
        refine wG9 7 (.agg (endV bb aj nj cj).toArray) rfl hHeld ?_
        simp only [Act.put,gA9,gZ9,gC9,sA9,sZ9,sC9]
        refine wG9 8 (.int .i64 ej) rfl hHeld ?_
        simp only [Act.put,gA9,gZ9,gC9,sA9,sZ9,sC9]
        refine wpAnyH_ready (rs := [10]) (by kernel_rfl) (by simp) ?_
        refine AllReadyH.cons rfl (fun K hK => ?_) AllReadyH.nil
        refine step_storeZ rfl 79 _ _ rfl (L := endV bb aj nj cj) rfl rfl (blk_on B26.out K25.out) info_end rfl (endV_one _ _ _ _) ?_
        intro V10 h10 hk10
        refine hK.out _ _ (HSt.out _ _ _ (bstep (bstep (bstep (bstep (Below.refl W1.drew.heap.size W1.drew) B19.out) B21.out) B25.out) B26.out) (blk_on B26.out K25.out) (bstep (bstep (Below.refl W1.drew.heap.size W1.drew) B19.out) B21.out).size hk10) (fun hHeld => ?_)
        clear hK K
        refine wG9 11 (.int .i64 ej) rfl hHeld ?_
        simp only [Act.put,gA9,gZ9,gC9,sA9,sZ9,sC9]
        refine wpAnyH_done (by kernel_rfl) ?_ _
        clear hHeld
        go_wp2_with fail
        go_meet
        exact LkJ.fin Q26.out (bstep (bstep (bstep (Below.refl W1.drew.heap.size W1.drew) B19.out) B21.out) B25.out) (bstep (bstep (bstep (bstep (Below.refl W1.drew.heap.size W1.drew) B19.out) B21.out) B25.out) B26.out) (Below.refl V26.heap.size V26) (blk_on B26.out K25.out) (bstep (bstep (Below.refl W1.drew.heap.size W1.drew) B19.out) B21.out).size hk10 h10
      ·refine step_allocZ rfl 79 rfl zEnd ?_
       intro V28 k28 b28 s28
       have K28 : Hid _ := k28
       have B28 : Hid _ := b28
       clear k28 b28
       refine hK.out _ _ (range_on HRg.out (bstep (bstep (Below.refl W1.drew.heap.size W1.drew) B19.out) B28.out)) (fun hHeld => ?_)
       clear hK K
       refine wpAnyH_ready (rs := [4]) (by kernel_rfl) (by simp) ?_
       refine AllReadyH.cons rfl (fun K hK => ?_) AllReadyH.nil
       refine step_appF rfl _ _ rfl (fs := fs) (f := own) rfl HLe.out h16 (HR.out.still (bstep (bstep (Below.refl W1.drew.heap.size W1.drew) B19.out) B28.out)) (Hown.out.still (bstep (bstep (Below.refl W1.drew.heap.size W1.drew) B19.out) B28.out)) rfl (blk_on B28.out K19.out) ?_
       intro a4 c4 V29 r29 b29
       have Rr29 : Hid _ := r29
       have B29 : Hid _ := b29
       clear r29 b29
       refine hK.out _ _ (range_on HRg.out (bstep (bstep (bstep (Below.refl W1.drew.heap.size W1.drew) B19.out) B28.out) B29.out)) (fun hHeld => ?_)
       clear hK K
       refine wpAnyH_ready (rs := [5]) (by kernel_rfl) (by simp) ?_
       refine AllReadyH.cons rfl (fun K hK => ?_) AllReadyH.nil
       go_simp
       refine (HJn.out V29 a4 c4 Rr29.out).mono ?_
       rintro e V30 ⟨bb, aj, nj, cj, ej, rfl, q30, b30⟩
       have Q30 : Hid _ := q30
       have B30 : Hid _ := b30
       clear q30 b30
       refine hK.out _ _ (range_on HRg.out (bstep (bstep (bstep (bstep (Below.refl W1.drew.heap.size W1.drew) B19.out) B28.out) B29.out) B30.out)) (fun hHeld => ?_)
       clear hK K
       refine wG9 6 (.tuple #[.agg (endV bb aj nj cj).toArray, .int .i64 ej]) rfl hHeld ?_
       simp only [Act.put,gA9,gZ9,gC9,sA9,sZ9,sC9]
       refine wG9 7 (.agg (endV bb aj nj cj).toArray) rfl hHeld ?_
       simp only [Act.put,gA9,gZ9,gC9,sA9,sZ9,sC9]
       refine wG9 8 (.int .i64 ej) rfl hHeld ?_
       simp only [Act.put,gA9,gZ9,gC9,sA9,sZ9,sC9]
       refine wpAnyH_ready (rs := [10]) (by kernel_rfl) (by simp) ?_
       refine AllReadyH.cons rfl (fun K hK => ?_) AllReadyH.nil
       refine step_storeZ rfl 79 _ _ rfl (L := endV bb aj nj cj) rfl rfl (blk_on B30.out (blk_on B29.out K28.out)) info_end rfl (endV_one _ _ _ _) ?_
       intro V10 h10 hk10
       refine hK.out _ _ (HSt.out _ _ _ (bstep (bstep (bstep (bstep (Below.refl W1.drew.heap.size W1.drew) B19.out) B28.out) B29.out) B30.out) (blk_on B30.out (blk_on B29.out K28.out)) (bstep (Below.refl W1.drew.heap.size W1.drew) B19.out).size hk10) (fun hHeld => ?_)
       clear hK K
       refine wG9 11 (.int .i64 ej) rfl hHeld ?_
       simp only [Act.put,gA9,gZ9,gC9,sA9,sZ9,sC9]
       refine wpAnyH_done (by kernel_rfl) ?_ _
       clear hHeld
       go_wp2_with fail
       go_meet
       exact LkJ.fin Q30.out (bstep (bstep (bstep (Below.refl W1.drew.heap.size W1.drew) B19.out) B28.out) B29.out) (bstep (bstep (bstep (bstep (Below.refl W1.drew.heap.size W1.drew) B19.out) B28.out) B29.out) B30.out) (Below.refl V30.heap.size V30) (blk_on B30.out (blk_on B29.out K28.out)) (bstep (Below.refl W1.drew.heap.size W1.drew) B19.out).size hk10 h10
     ·refine step_allocZ rfl 79 rfl zEnd ?_
      intro V32 k32 b32 s32
      have K32 : Hid _ := k32
      have B32 : Hid _ := b32
      clear k32 b32
      refine hK.out _ _ (range_on HRg.out (bstep (bstep (Below.refl W1.drew.heap.size W1.drew) B19.out) B32.out)) (fun hHeld => ?_)
      clear hK K
      refine wpAnyH_ready (rs := [1]) (by kernel_rfl) (by simp) ?_
      refine AllReadyH.cons rfl (fun K hK => ?_) AllReadyH.nil
      go_simp
      refine (HCl.out _).mono ?_
      rintro e wz ⟨rfl, rfl⟩
      refine hK.out _ _ (range_on HRg.out (bstep (bstep (Below.refl W1.drew.heap.size W1.drew) B19.out) B32.out)) (fun hHeld => ?_)
      clear hK K
      refine wpAnyH_ready (rs := [4]) (by kernel_rfl) (by simp) ?_
      refine AllReadyH.cons rfl (fun K hK => ?_) AllReadyH.nil
      refine step_appF rfl _ _ rfl (fs := fs) (f := own) rfl HLe.out h16 (HR.out.still (bstep (bstep (Below.refl W1.drew.heap.size W1.drew) B19.out) B32.out)) (Hown.out.still (bstep (bstep (Below.refl W1.drew.heap.size W1.drew) B19.out) B32.out)) rfl (blk_on B32.out K19.out) ?_
      intro a4 c4 V34 r34 b34
      have Rr34 : Hid _ := r34
      have B34 : Hid _ := b34
      clear r34 b34
      refine hK.out _ _ (range_on HRg.out (bstep (bstep (bstep (Below.refl W1.drew.heap.size W1.drew) B19.out) B32.out) B34.out)) (fun hHeld => ?_)
      clear hK K
      refine wpAnyH_ready (rs := [5]) (by kernel_rfl) (by simp) ?_
      refine AllReadyH.cons rfl (fun K hK => ?_) AllReadyH.nil
      go_simp
      refine (HJn.out V34 a4 c4 Rr34.out).mono ?_
      rintro e V35 ⟨bb, aj, nj, cj, ej, rfl, q35, b35⟩
      have Q35 : Hid _ := q35
      have B35 : Hid _ := b35
      clear q35 b35
      refine hK.out _ _ (range_on HRg.out (bstep (bstep (bstep (bstep (Below.refl W1.drew.heap.size W1.drew) B19.out) B32.out) B34.out) B35.out)) (fun hHeld => ?_)
      clear hK K
      refine wG9 6 (.tuple #[.agg (endV bb aj nj cj).toArray, .int .i64 ej]) rfl hHeld ?_
      simp only [Act.put,gA9,gZ9,gC9,sA9,sZ9,sC9]
      refine wG9 7 (.agg (endV bb aj nj cj).toArray) rfl hHeld ?_
      simp only [Act.put,gA9,gZ9,gC9,sA9,sZ9,sC9]
      refine wG9 8 (.int .i64 ej) rfl hHeld ?_
      simp only [Act.put,gA9,gZ9,gC9,sA9,sZ9,sC9]
      refine wpAnyH_ready (rs := [10]) (by kernel_rfl) (by simp) ?_
      refine AllReadyH.cons rfl (fun K hK => ?_) AllReadyH.nil
      refine step_storeZ rfl 79 _ _ rfl (L := endV bb aj nj cj) rfl rfl (blk_on B35.out (blk_on B34.out K32.out)) info_end rfl (endV_one _ _ _ _) ?_
      intro V10 h10 hk10
      refine hK.out _ _ (HSt.out _ _ _ (bstep (bstep (bstep (bstep (Below.refl W1.drew.heap.size W1.drew) B19.out) B32.out) B34.out) B35.out) (blk_on B35.out (blk_on B34.out K32.out)) (bstep (Below.refl W1.drew.heap.size W1.drew) B19.out).size hk10) (fun hHeld => ?_)
      clear hK K
      refine wG9 11 (.int .i64 ej) rfl hHeld ?_
      simp only [Act.put,gA9,gZ9,gC9,sA9,sZ9,sC9]
      refine wpAnyH_done (by kernel_rfl) ?_ _
      clear hHeld
      go_wp2_with fail
      go_meet
      exact LkJ.fin Q35.out (bstep (bstep (bstep (Below.refl W1.drew.heap.size W1.drew) B19.out) B32.out) B34.out) (bstep (bstep (bstep (bstep (Below.refl W1.drew.heap.size W1.drew) B19.out) B32.out) B34.out) B35.out) (Below.refl V35.heap.size V35) (blk_on B35.out (blk_on B34.out K32.out)) (bstep (Below.refl W1.drew.heap.size W1.drew) B19.out).size hk10 h10
    ·refine step_allocZ rfl 79 rfl zEnd ?_
     intro V37 k37 b37 s37
     have K37 : Hid _ := k37
     have B37 : Hid _ := b37
     clear k37 b37
     refine hK.out _ _ (range_on HRg.out (bstep (Below.refl W1.drew.heap.size W1.drew) B37.out)) (fun hHeld => ?_)
     clear hK K
     refine wpAnyH_ready (rs := [1, 3]) (by kernel_rfl) (by simp) ?_
     refine AllReadyH.cons rfl (fun K hK => ?_) (AllReadyH.cons rfl (fun K hK => ?_) AllReadyH.nil)
     ·go_simp
      refine (HCl.out _).mono ?_
      rintro e wz ⟨rfl, rfl⟩
      refine hK.out _ _ (range_on HRg.out (bstep (Below.refl W1.drew.heap.size W1.drew) B37.out)) (fun hHeld => ?_)
      clear hK K
      refine wpAnyH_ready (rs := [3]) (by kernel_rfl) (by simp) ?_
      refine AllReadyH.cons rfl (fun K hK => ?_) AllReadyH.nil
      refine step_bsl rfl 22 28 1 _ rfl Try.underlying22 own.cs.toArray (bsl_eq (by kernel_rfl) (bFl own)) ?_
      intro V39 k39 b39 s39
      have K39 : Hid _ := k39
      have B39 : Hid _ := b39
      clear k39 b39
      refine hK.out _ _ (range_on HRg.out (bstep (bstep (Below.refl W1.drew.heap.size W1.drew) B37.out) B39.out)) (fun hHeld => ?_)
      clear hK K
      refine wpAnyH_ready (rs := [4]) (by kernel_rfl) (by simp) ?_
      refine AllReadyH.cons rfl (fun K hK => ?_) AllReadyH.nil
      refine step_appF rfl _ _ rfl (fs := fs) (f := own) rfl HLe.out h16 (HR.out.still (bstep (bstep (Below.refl W1.drew.heap.size W1.drew) B37.out) B39.out)) (Hown.out.still (bstep (bstep (Below.refl W1.drew.heap.size W1.drew) B37.out) B39.out)) rfl K39.out ?_
      intro a4 c4 V40 r40 b40
      have Rr40 : Hid _ := r40
      have B40 : Hid _ := b40
      clear r40 b40
      refine hK.out _ _ (range_on HRg.out (bstep (bstep (bstep (Below.refl W1.drew.heap.size W1.drew) B37.out) B39.out) B40.out)) (fun hHeld => ?_)
      clear hK K
      refine wpAnyH_ready (rs := [5]) (by kernel_rfl) (by simp) ?_
      refine AllReadyH.cons rfl (fun K hK => ?_) AllReadyH.nil
      go_simp
      refine (HJn.out V40 a4 c4 Rr40.out).mono ?_
      rintro e V41 ⟨bb, aj, nj, cj, ej, rfl, q41, b41⟩
      have Q41 : Hid _ := q41
      have B41 : Hid _ := b41
      clear q41 b41
      refine hK.out _ _ (range_on HRg.out (bstep (bstep (bstep (bstep (Below.refl W1.drew.heap.size W1.drew) B37.out) B39.out) B40.out) B41.out)) (fun hHeld => ?_)
      clear hK K
      refine wG9 6 (.tuple #[.agg (endV bb aj nj cj).toArray, .int .i64 ej]) rfl hHeld ?_
      simp only [Act.put,gA9,gZ9,gC9,sA9,sZ9,sC9]
      refine wG9 7 (.agg (endV bb aj nj cj).toArray) rfl hHeld ?_
      simp only [Act.put,gA9,gZ9,gC9,sA9,sZ9,sC9]
      refine wG9 8 (.int .i64 ej) rfl hHeld ?_
      simp only [Act.put,gA9,gZ9,gC9,sA9,sZ9,sC9]
      refine wpAnyH_ready (rs := [10]) (by kernel_rfl) (by simp) ?_
      refine AllReadyH.cons rfl (fun K hK => ?_) AllReadyH.nil
      refine step_storeZ rfl 79 _ _ rfl (L := endV bb aj nj cj) rfl rfl (blk_on B41.out (blk_on B40.out (blk_on B39.out K37.out))) info_end rfl (endV_one _ _ _ _) ?_
      intro V10 h10 hk10
      refine hK.out _ _ (HSt.out _ _ _ (bstep (bstep (bstep (bstep (Below.refl W1.drew.heap.size W1.drew) B37.out) B39.out) B40.out) B41.out) (blk_on B41.out (blk_on B40.out (blk_on B39.out K37.out))) (Below.refl W1.drew.heap.size W1.drew).size hk10) (fun hHeld => ?_)
      clear hK K
      refine wG9 11 (.int .i64 ej) rfl hHeld ?_
      simp only [Act.put,gA9,gZ9,gC9,sA9,sZ9,sC9]
      refine wpAnyH_done (by kernel_rfl) ?_ _
      clear hHeld
      go_wp2_with fail
      go_meet
      exact LkJ.fin Q41.out (bstep (bstep (bstep (Below.refl W1.drew.heap.size W1.drew) B37.out) B39.out) B40.out) (bstep (bstep (bstep (bstep (Below.refl W1.drew.heap.size W1.drew) B37.out) B39.out) B40.out) B41.out) (Below.refl V41.heap.size V41) (blk_on B41.out (blk_on B40.out (blk_on B39.out K37.out))) (Below.refl W1.drew.heap.size W1.drew).size hk10 h10
     ·refine step_bsl rfl 22 28 1 _ rfl Try.underlying22 own.cs.toArray (bsl_eq (by kernel_rfl) (bFl own)) ?_
      intro V43 k43 b43 s43
      have K43 : Hid _ := k43
      have B43 : Hid _ := b43
      clear k43 b43
      refine hK.out _ _ (range_on HRg.out (bstep (bstep (Below.refl W1.drew.heap.size W1.drew) B37.out) B43.out)) (fun hHeld => ?_)
      clear hK K
      refine wpAnyH_ready (rs := [1]) (by kernel_rfl) (by simp) ?_
      refine AllReadyH.cons rfl (fun K hK => ?_) AllReadyH.nil
      go_simp
      refine (HCl.out _).mono ?_
      rintro e wz ⟨rfl, rfl⟩
      refine hK.out _ _ (range_on HRg.out (bstep (bstep (Below.refl W1.drew.heap.size W1.drew) B37.out) B43.out)) (fun hHeld => ?_)
      clear hK K
      refine wpAnyH_ready (rs := [4]) (by kernel_rfl) (by simp) ?_
      refine AllReadyH.cons rfl (fun K hK => ?_) AllReadyH.nil
      refine step_appF rfl _ _ rfl (fs := fs) (f := own) rfl HLe.out h16 (HR.out.still (bstep (bstep (Below.refl W1.drew.heap.size W1.drew) B37.out) B43.out)) (Hown.out.still (bstep (bstep (Below.refl W1.drew.heap.size W1.drew) B37.out) B43.out)) rfl K43.out ?_
      intro a4 c4 V45 r45 b45
      have Rr45 : Hid _ := r45
      have B45 : Hid _ := b45
      clear r45 b45
      refine hK.out _ _ (range_on HRg.out (bstep (bstep (bstep (Below.refl W1.drew.heap.size W1.drew) B37.out) B43.out) B45.out)) (fun hHeld => ?_)
      clear hK K
      refine wpAnyH_ready (rs := [5]) (by kernel_rfl) (by simp) ?_
      refine AllReadyH.cons rfl (fun K hK => ?_) AllReadyH.nil
      go_simp
      refine (HJn.out V45 a4 c4 Rr45.out).mono ?_
      rintro e V46 ⟨bb, aj, nj, cj, ej, rfl, q46, b46⟩
      have Q46 : Hid _ := q46
      have B46 : Hid _ := b46
      clear q46 b46
      refine hK.out _ _ (range_on HRg.out (bstep (bstep (bstep (bstep (Below.refl W1.drew.heap.size W1.drew) B37.out) B43.out) B45.out) B46.out)) (fun hHeld => ?_)
      clear hK K
      refine wG9 6 (.tuple #[.agg (endV bb aj nj cj).toArray, .int .i64 ej]) rfl hHeld ?_
      simp only [Act.put,gA9,gZ9,gC9,sA9,sZ9,sC9]
      refine wG9 7 (.agg (endV bb aj nj cj).toArray) rfl hHeld ?_
      simp only [Act.put,gA9,gZ9,gC9,sA9,sZ9,sC9]
      refine wG9 8 (.int .i64 ej) rfl hHeld ?_
      simp only [Act.put,gA9,gZ9,gC9,sA9,sZ9,sC9]
      refine wpAnyH_ready (rs := [10]) (by kernel_rfl) (by simp) ?_
      refine AllReadyH.cons rfl (fun K hK => ?_) AllReadyH.nil
      refine step_storeZ rfl 79 _ _ rfl (L := endV bb aj nj cj) rfl rfl (blk_on B46.out (blk_on B45.out (blk_on B43.out K37.out))) info_end rfl (endV_one _ _ _ _) ?_
      intro V10 h10 hk10
      refine hK.out _ _ (HSt.out _ _ _ (bstep (bstep (bstep (bstep (Below.refl W1.drew.heap.size W1.drew) B37.out) B43.out) B45.out) B46.out) (blk_on B46.out (blk_on B45.out (blk_on B43.out K37.out))) (Below.refl W1.drew.heap.size W1.drew).size hk10) (fun hHeld => ?_)
      clear hK K
      refine wG9 11 (.int .i64 ej) rfl hHeld ?_
      simp only [Act.put,gA9,gZ9,gC9,sA9,sZ9,sC9]
      refine wpAnyH_done (by kernel_rfl) ?_ _
      clear hHeld
      go_wp2_with fail
      go_meet
      exact LkJ.fin Q46.out (bstep (bstep (bstep (Below.refl W1.drew.heap.size W1.drew) B37.out) B43.out) B45.out) (bstep (bstep (bstep (bstep (Below.refl W1.drew.heap.size W1.drew) B37.out) B43.out) B45.out) B46.out) (Below.refl V46.heap.size V46) (blk_on B46.out (blk_on B45.out (blk_on B43.out K37.out))) (Below.refl W1.drew.heap.size W1.drew).size hk10 h10
   case rest =>
   obtain ⟨⟨eb, bb, a, n, c, e, rfl, rfl, hheap, hte, hz⟩, hbw⟩ := hcut
   have HBw : Hid (Below w.heap.size w wc) := bstep HB1.out (bstep (drew_bel _) hbw)
   have Heb : Hid (wc.heap[eb]? = some (.cells (endV bb a n c).toArray 79 (0, 0))) := hheap
   have Hte : Hid (e = togE (cos fs ++ [own.c])) := (show e = _ from by rw [hte, cos_app])
   by_cases h0 : e = 0
   ·subst h0
    obtain ⟨rfl, hEn, ss, hsl, hown⟩ := hz rfl
    rw [cos_app] at hEn hsl Heb
    have HT : Hid (Tog (cos fs ++ [own.c])) := tog_of Hte.out.symm
    have HEn : Hid (Ends (cos fs ++ [own.c]) n) := hEn
    have HSl : Hid (SlOf (cos fs ++ [own.c]) n ss) := hsl
    have HOw : Hid (wc.ownsRow w.heap.size 76 2 (.slice a n c) n (slCells ss)) := own_lower hown (Nat.le_trans HB1.out.size (drew_bel W1).size)
    have q0 : wc.cell? ⟨eb, 0, none⟩ = some (.int .i64 (baseOf (cos fs ++ [own.c]))) := blk_cell Heb.out 0
    have hb0 : 0 ≤ baseOf (cos fs ++ [own.c]) := baseK_nn _ _
    have hbM : baseOf (cos fs ++ [own.c]) ≤ 4611686018427387904 := baseK_le _ HT.out.snd _ (Nat.le_refl _)
    have Hown2 : Hid (own.Rd wc) := Hown.out.still hbw
    have HRg2 : Hid (wc.rangeAt w.heap.size 0 own.cs) := range_on HRg.out hbw
    have HlF : Hid (¬ d < baseOf (cos fs ++ [own.c]) → LkS (cos fs) own.c d 0 (pick (fun s => !has own.c s) (ss.drop (d - baseOf (cos fs ++ [own.c])).toNat))) := fun h => .inr (.inr (.inr ⟨Hyes.out, Hte.out.symm, h, rfl, n, ss, HEn.out, HSl.out, rfl⟩))
    have HlE : Hid (d < baseOf (cos fs ++ [own.c]) → LkS (cos fs) own.c d 82 []) := fun h => .inr (.inr (.inl ⟨Hyes.out, Hte.out.symm, h, rfl, rfl⟩))
    have HsP : Hid (∀ i, i < ss.length → 0 ≤ (ss.getD i z2).1 ∧ (ss.getD i z2).1 < own.c.hv.length) := fun i hi => by
     have h1 := HSl.out.2 i (by rw [← HSl.out.1]; exact hi)
     have h2 := tog_pair HT.out ((atP_iff HT.out.con _ _).1 h1)
     have h3 := HT.out.len fs.length (by simp [cos])
     have h4 : (cos fs ++ [own.c]).getD fs.length c0 = own.c := by simp [cos, List.getD]
     rw [h4] at h3
     rw [h3]
     exact ⟨h2.2.2.2.1, h2.2.2.2.2.1⟩
    have hn128 : n ≤ 128 := Ends.le HT.out HEn.out.1
    have HsL : Hid (ss.length = n) := HSl.out.1
    clear hheap hte hz hEn hsl hown hbw hW1
    generalize baseOf (cos fs ++ [own.c]) = bs at *
    by_cases hlt : d < bs
    ·go_wp2
     go_ret2
     exact ⟨none, 0, [], 82, rfl, HlE.out hlt, ⟨rfl, .inl ⟨rfl, rfl⟩⟩, HBw.out⟩
    ·have hge : bs ≤ d := by omega
     go_upto_region 9 with (first
      | (refine load_mid 28 (.tmp 4) HRg2.out _ Try.underlying28 rfl info_flush rfl rfl rfl ?_)
      | (refine wl_bsl rfl 22 28 1 _ rfl Try.underlying22 own.cs.toArray (bsl_eq (by kernel_rfl) (bFl own)) ?_; intro V1 k1 b1 s1; have K1 : Hid _ := k1; have B1 : Hid _ := b1; clear k1 b1 s1)
      | (go_at_call 32; refine (holder_any _ _ _).mono ?_; rintro e V2 ⟨rfl, hb2, hh2⟩; have B2 : Hid _ := hb2; have H2' : Hid _ := hh2; clear hb2 hh2)
      | fail)
     generalize hV3 : V2.alloc (.cells #[.func (.func 61) #[] #[.pointer (some ⟨V1.heap.size, 0, none⟩)]] 83) = V3 at *
     have B3 : Hid (Below V2.heap.size V2 V3) := hV3 ▸ balloc (Below.refl _ _)
     have K3 : Hid (V3.heap[V2.heap.size]? = some (.cells #[.func (.func 61) #[] #[.pointer (some ⟨V1.heap.size, 0, none⟩)]] 83 (0, 0))) := (show _ = _ from by rw [← hV3]; exact heap_alloc_new _ _)
     have BW3 : Hid (Below wc.heap.size wc V3) := bstep (bstep B1.out B2.out) B3.out
     have HB3 : Hid (Below w.heap.size w V3) := bstep HBw.out BW3.out
     have HRo : Hid (RdFs V3 (some ⟨wc.heap.size, 0, none⟩) [own]) := ⟨.inr ⟨wc.heap.size, 0, rfl, fun i hi => by
      have hi' : i < 7 := by simpa using hi
      rw [Nat.zero_add, blk_cell (blk_on (bstep B2.out B3.out) K1.out)]
      unfold flC
      rw [show i / 7 = 0 by omega, show i % 7 = i by omega]
      simp only [List.getD_cons_zero]
      rw [List.getElem?_toArray, List.getD, List.getElem?_eq_getElem (by rw [Fl.cs_len]; exact hi')]
      rfl⟩, fun i hi => by
      have hi0 : i = 0 := by simpa using hi
      subst hi0
      exact Hown2.out.still BW3.out⟩
     have HP : Hid (∀ w', Below V3.heap.size V3 w' → ∀ s : Int × Int, 0 ≤ s.1 → s.1 < own.c.hv.length → Calls Try.prog 35 #[.agg (slotV s).toArray, .pointer (some ⟨V2.heap.size, 0, none⟩)] w' fun e w2 => e = .returned (.bool (!has own.c s)) ∧ Below w'.heap.size w' w2) := fun w' hb s h1 h2 => by
      have := lk1_any (cp := 1) (HRo.out.still hb) (by simp) s h1 (fun i hi => by
       have hi0 : i = 0 := by simpa using hi
       subst hi0
       exact h2) V2.heap.size V1.heap.size (blk_on hb (blk_on B3.out H2'.out)) (blk_on hb K3.out)
      rw [hasA_1] at this
      exact this
     have Hld : Hid (V3.rangeAt eb 0 (endV bs a n c)) := blk_range (blk_on BW3.out Heb.out)
     have HOw3 : Hid (V3.ownsRow w.heap.size 76 2 (.slice a n c) n (slCells ss)) := own_still HOw.out BW3.out
     have Hlen2 : Hid ((endV bs a n c).length = 2) := rfl
     clear hV3 q0 HRg2 Heb HR HR1 HCl HJn HSt HRg Hown HO1
     rcases own_two HOw3.out with ⟨ev, hn0⟩ | ⟨g, cc, ev, hgB⟩
     ·simp only [Value.slice.injEq] at ev
      obtain ⟨rfl, -, rfl⟩ := ev
      subst hn0
      have Hss : Hid (ss = []) := List.length_eq_zero_iff.1 HsL.out
      have Hbe := behind_none bs hb0 d hge hdd.2 (w := V3)
      have Hpk := fun (X : World) (hX : Below V3.heap.size V3 X) => pickedL_any (w := X) (ao := none) (cp := 0) (ss := []) (.inl rfl) (by simp) (fun s => !has own.c s) V2.heap.size (fun w' hb i hi => by simp at hi)
      have HpkH : Hid _ := Hpk
      clear Hpk
      go_wp2_with (first
       | (refine load_mid 79 (.tmp 8) Hld.out _ Try.underlying79 rfl (by rw [Hlen2.out]; exact info_end) rfl rfl rfl ?_)
       | (go_at_call 34; refine Hbe.mono ?_; rintro e V4 ⟨rfl, hb4⟩; have B4 : Hid _ := hb4; clear hb4)
       | (go_at_call 33; refine (HpkH.out _ B4.out).mono ?_; rintro e V5 ⟨pa, pc, rfl, hpo, hb5⟩)
       | fail)
      go_ret2
      refine ⟨pa, pc, _, 0, rfl, ?_, own_lower hpo (Nat.le_trans HB3.out.size B4.out.size), bstep (bstep HB3.out B4.out) hb5⟩
      have := HlF.out hlt
      rw [Hss.out] at this
      simpa using this
     ·simp only [Value.slice.injEq] at ev
      obtain ⟨rfl, -, rfl⟩ := ev
      have hcap : n ≤ c ∧ c ≤ 9223372036854775807 := by
       rcases HOw3.out.2 with ⟨h3, h4⟩ | ⟨g', cap, cur, hv, _, _, hnc, hcm', _⟩
       ·simp at h3
       ·simp at hv
        unfold maxLen at hcm'
        omega
      have Hbe := behind_any (w := V3) bs g n c hcap.1 hcap.2 hb0 d hge hdd.2
      have Hdr : Hid (ss.drop (d - bs).toNat = ss.drop (min (d - bs).toNat n)) := (show ss.drop (d - bs).toNat = ss.drop (min (d - bs).toNat n) from by
       by_cases hm : (d - bs).toNat ≤ n
       ·rw [Nat.min_eq_left hm]
       ·rw [Nat.min_eq_right (by omega), List.drop_eq_nil_of_le (by rw [HsL.out]; omega), List.drop_eq_nil_of_le (by rw [HsL.out]; omega)])
      generalize hkk : min (d - bs).toNat n = kk at *
      have hkn : kk ≤ n := by omega
      have Hrd : Hid (RdS V3 (some ⟨g, if c = kk then 0 else kk * 2, none⟩) (ss.drop kk)) := rdS_drop (own_rdS HOw3.out HsL.out) HsL.out hcap.1 hkn
      generalize (if c = kk then 0 else kk * 2) = oo at *
      have Hpk : Hid (∀ (X : World), Below V3.heap.size V3 X → Calls Try.prog 33 #[.slice (some ⟨g, oo, none⟩) (n - kk) (c - kk), .func (.func 35) #[] #[.pointer (some ⟨V2.heap.size, 0, none⟩)]] X fun e w' => ∃ a c, e = .returned (.slice a (pick (fun s => !has own.c s) (ss.drop kk)).length c) ∧ w'.ownsRow X.heap.size 76 2 (.slice a (pick (fun s => !has own.c s) (ss.drop kk)).length c) (pick (fun s => !has own.c s) (ss.drop kk)).length (slCells (pick (fun s => !has own.c s) (ss.drop kk))) ∧ Below X.heap.size X w') := fun X hX => by
       have := pickedL_any (cp := c - kk) (Hrd.out.still hX) (by rw [List.length_drop, HsL.out]; omega) (fun s => !has own.c s) V2.heap.size (fun w' hb i hi => by
        rw [List.length_drop] at hi
        have e1 : (ss.drop kk).getD i z2 = ss.getD (kk + i) z2 := by simp [List.getD]
        rw [e1]
        have h5 := HsP.out (kk + i) (by omega)
        exact HP.out w' (bstep hX hb) _ h5.1 h5.2)
       rw [List.length_drop, HsL.out] at this
       exact this
      clear hkk
      go_wp2_with (first
       | (refine load_mid 79 (.tmp 8) Hld.out _ Try.underlying79 rfl (by rw [Hlen2.out]; exact info_end) rfl rfl rfl ?_)
       | (go_at_call 34; refine Hbe.mono ?_; rintro e V4 ⟨rfl, hb4⟩; have B4 : Hid _ := hb4; clear hb4)
       | (go_at_call 33; refine (Hpk.out _ B4.out).mono ?_; rintro e V5 ⟨pa, pc, rfl, hpo, hb5⟩)
       | fail)
      go_ret2
      refine ⟨pa, pc, _, 0, rfl, ?_, own_lower hpo (Nat.le_trans HB3.out.size B4.out.size), bstep (bstep HB3.out B4.out) hb5⟩
      have := HlF.out hlt
      rw [Hdr.out] at this
      exact this
   ·have h0' : (e == 0) = false := by simpa using h0
    have HS : Hid (LkS (cos fs) own.c d e []) := .inr (.inl ⟨Hyes.out, by rw [← Hte.out]; exact h0, Hte.out, rfl⟩)
    clear hz hte h0
    go_wp2
    go_ret2
    exact ⟨none, 0, [], e, rfl, HS.out, ⟨rfl, .inl ⟨rfl, rfl⟩⟩, HBw.out⟩
end
end Go.Proofs.Ytobaooebjgoaiaa.Fm
