import Derived.Test.YtpgckdbjedepcaaGreatDoorMxq
namespace Go.Proofs.YtpgckdbjedepcaaGreatDoor.Mx
open Go.RowKit Mb Mh Lo
set_option linter.unusedVariables false
set_option maxRecDepth 100000
set_option linter.unusedSimpArgs false
section
variable {w w' W : World} {B : Nat}
set_option maxHeartbeats 16000000 in
theorem back_any (hg : Gl w) {cl inc req op : Int} (ky v old : ByteArray) {ao : Option Addr} {n c : Nat} {bs : List Int} (hr : Rd w ao n c bs) (hnc : n ≤ c) (hn : n ≤ 140737488351232) :
    Calls Tryz.prog 3 #[.agg #[.int .i64 cl, .int .i64 inc, .int .i64 req, .int .i64 op, .string ky, .string v, .string old], .slice ao n c] w fun e w' => e = .returned (.bool true) ∧ Below w.heap.size w w' := by
  have HR : Hid (Rd w ao n c bs) := hr
  have HG : Hid (Gl w) := hg
  have HN : Hid (n ≤ c ∧ n ≤ 140737488351232) := ⟨hnc, hn⟩
  clear hr hg hnc hn
  obtain ⟨A1, hA1⟩ : ∃ X, w.alloc (.cells #[.int .i64 cl, .int .i64 inc, .int .i64 req, .int .i64 op, .string ky, .string v, .string old] 23) = X := ⟨_, rfl⟩
  obtain ⟨cb, hcb⟩ : ∃ x, w.heap.size = x := ⟨_, rfl⟩
  have HC0 : Hid (A1.heap[cb]? = some (.cells #[.int .i64 cl, .int .i64 inc, .int .i64 req, .int .i64 op, .string ky, .string v, .string old] 23 (0, 0))) := by rw [← hA1, ← hcb]; exact heap_alloc_new w _
  have B0 : Hid (Below w.heap.size w A1) := by rw [← hA1]; exact balloc (Below.refl _ _)
  obtain ⟨aA, aS0, aS1, aS2, aS3, aS4, aS5, aS6, ahA, af0, aq0, ah0, af1, aq1, ah1, af2, aq2, ah2, af3, aq3, ah3, af4, aq4, ah4, af5, aq5, ah5, af6, aq6, ah6, aH, aB⟩ := newcmd A1 (.int .i64 15) (.int .i64 4611686018427387904) (.int .i64 4611686018427387904) (.int .i64 3) (.string sK) (.string sV) (.string sO)
  have HK : Hid (sK = ⟨#[49, 50, 51, 52, 53, 54, 55, 56]⟩ ∧ sV = ⟨#[97, 98, 99, 100, 101, 102, 103, 104]⟩ ∧ sO = ⟨#[65, 66, 67, 68, 69, 70, 71, 72]⟩) := ⟨rfl, rfl, rfl⟩
  have hK1 := HK.out.1.symm
  have hK2 := HK.out.2.1.symm
  have hK3 := HK.out.2.2.symm
  have s0 := blk_cell aH.out 0
  have s1 := blk_cell aH.out 1
  have s2 := blk_cell aH.out 2
  have s3 := blk_cell aH.out 3
  have s4 := blk_cell aH.out 4
  have s5 := blk_cell aH.out 5
  have s6 := blk_cell aH.out 6
  simp only [List.getElem?_toArray, List.getElem?_cons_succ, List.getElem?_cons_zero] at s0 s1 s2 s3 s4 s5 s6
  go_enter Tryz.func3, Tryz.ntmps3
  go_wp2_with (first | (go_at_call 7; refine (num_any _).mono ?_; rintro e wx ⟨rfl, rfl⟩) | fail)
  clear ahA af0 aq0 ah0 af1 aq1 ah1 af2 aq2 ah2 af3 aq3 ah3 af4 aq4 ah4 af5 aq5 ah5 af6 aq6 ah6
  clear s0 s1 s2 s3 s4 s5 s6
  clear hA1 hK1 hK2 hK3
  have B1 : Hid (Below w.heap.size w aS6) := bstep B0.out aB.out
  have HC1 : Hid (aS6.heap[cb]? = some (.cells #[.int .i64 cl, .int .i64 inc, .int .i64 req, .int .i64 op, .string ky, .string v, .string old] 23 (0, 0))) := blk_below HC0.out aB.out
  clear B0 HC0 aB
  generalize A1.heap.size = sb at *
  refine (enc_ok (HG.out.still B1.out) sK sV sO sure_ok).mono ?_
  rintro e w2 ⟨x, rfl, hO, hb⟩
  obtain ⟨ta, tc, rfl, hRt⟩ := hO.rdAny (enc_rng sure_ok)
  have htc := own_le hO
  have HT : Hid (Rd w2 ta 47 tc (encC 15 4611686018427387904 4611686018427387904 3 sK sV sO)) := by rw [sure_len] at hRt; exact hRt
  simp only [sure_len] at *
  have B2 : Hid (Below w.heap.size w w2) := bstep B1.out hb
  have HC2 : Hid (w2.heap[cb]? = some (.cells #[.int .i64 cl, .int .i64 inc, .int .i64 req, .int .i64 op, .string ky, .string v, .string old] 23 (0, 0))) := blk_below HC1.out hb
  have HS2 : Hid (w2.heap[sb]? = some (.cells #[.int .i64 15, .int .i64 4611686018427387904, .int .i64 4611686018427387904, .int .i64 3, .string sK, .string sV, .string sO] 23 (0, 0))) := blk_below aH.out hb
  clear B1 HC1 aH hO hb hRt
  go_wp2_with (first | (go_at_call 7; refine (num_any _).mono ?_; rintro e wx ⟨rfl, rfl⟩) | fail)
  refine (dec_any (HG.out.still B2.out) HT.out htc (by omega)).mono ?_
  rintro e w3 ⟨he, hb⟩
  rw [dec_enc sure_ok] at he
  simp only [decV] at he
  subst he
  have B3 : Hid (Below w.heap.size w w3) := bstep B2.out hb
  have HC3 : Hid (w3.heap[cb]? = some (.cells #[.int .i64 cl, .int .i64 inc, .int .i64 req, .int .i64 op, .string ky, .string v, .string old] 23 (0, 0))) := blk_below HC2.out hb
  have HS3 : Hid (w3.heap[sb]? = some (.cells #[.int .i64 15, .int .i64 4611686018427387904, .int .i64 4611686018427387904, .int .i64 3, .string sK, .string sV, .string sO] 23 (0, 0))) := blk_below HS2.out hb
  clear B2 HC2 HS2 hb HT
  obtain ⟨bA, bS0, bS1, bS2, bS3, bS4, bS5, bS6, bhA, bf0, bq0, bh0, bf1, bq1, bh1, bf2, bq2, bh2, bf3, bq3, bh3, bf4, bq4, bh4, bf5, bq5, bh5, bf6, bq6, bh6, bH, bB⟩ := newcmd w3 (.int .i64 15) (.int .i64 4611686018427387904) (.int .i64 4611686018427387904) (.int .i64 3) (.string sK) (.string sV) (.string sO)
  have B4 : Hid (Below w.heap.size w bS6) := bstep B3.out bB.out
  have HC4 : Hid (bS6.heap[cb]? = some (.cells #[.int .i64 cl, .int .i64 inc, .int .i64 req, .int .i64 op, .string ky, .string v, .string old] 23 (0, 0))) := blk_below HC3.out bB.out
  have HS4 : Hid (bS6.heap[sb]? = some (.cells #[.int .i64 15, .int .i64 4611686018427387904, .int .i64 4611686018427387904, .int .i64 3, .string sK, .string sV, .string sO] 23 (0, 0))) := blk_below HS3.out bB.out
  clear B3 HC3 HS3 bB
  have s0 := blk_cell HS4.out 0
  have s1 := blk_cell HS4.out 1
  have s2 := blk_cell HS4.out 2
  have s3 := blk_cell HS4.out 3
  have s4 := blk_cell HS4.out 4
  have s5 := blk_cell HS4.out 5
  have s6 := blk_cell HS4.out 6
  simp only [List.getElem?_toArray, List.getElem?_cons_succ, List.getElem?_cons_zero] at s0 s1 s2 s3 s4 s5 s6
  have r0 := blk_cell bH.out 0
  have r1 := blk_cell bH.out 1
  have r2 := blk_cell bH.out 2
  have r3 := blk_cell bH.out 3
  have r4 := blk_cell bH.out 4
  have r5 := blk_cell bH.out 5
  have r6 := blk_cell bH.out 6
  simp only [List.getElem?_toArray, List.getElem?_cons_succ, List.getElem?_cons_zero] at r0 r1 r2 r3 r4 r5 r6
  have k0 := blk_cell HC4.out 0
  have k1 := blk_cell HC4.out 1
  have k2 := blk_cell HC4.out 2
  have k3 := blk_cell HC4.out 3
  have k4 := blk_cell HC4.out 4
  have k5 := blk_cell HC4.out 5
  have k6 := blk_cell HC4.out 6
  simp only [List.getElem?_toArray, List.getElem?_cons_succ, List.getElem?_cons_zero] at k0 k1 k2 k3 k4 k5 k6
  go_wp2_with (first | (go_at_call 7; refine (num_any _).mono ?_; rintro e wx ⟨rfl, rfl⟩) | fail)
  clear bhA bf0 bq0 bh0 bf1 bq1 bh1 bf2 bq2 bh2 bf3 bq3 bh3 bf4 bq4 bh4 bf5 bq5 bh5 bf6 bq6 bh6
  clear s0 s1 s2 s3 s4 s5 s6
  clear r0 r1 r2 r3 r4 r5 r6
  clear k0 k1 k2 k3 k4 k5 k6
  clear HS4 bH
  rcases hok : okC cl inc req op ky v old with _ | _
  · refine (enc_no (HG.out.still B4.out) ky v old hok).mono ?_
    rintro e V ⟨rfl, hb⟩
    have B5 : Hid (Below w.heap.size w V) := bstep B4.out hb
    have HC5 : Hid (V.heap[cb]? = some (.cells #[.int .i64 cl, .int .i64 inc, .int .i64 req, .int .i64 op, .string ky, .string v, .string old] 23 (0, 0))) := blk_below HC4.out hb
    clear hb B4 HC4
    go_wp2_with (first | (go_at_call 7; refine (num_any _).mono ?_; rintro e wx ⟨rfl, rfl⟩) | fail)
    refine wp_region_held_drew (S := (fun w' => Below V.heap.size V w')) (by kernel_rfl) (Below.refl _ V).drew (fun hHeld => ?_)
    simp only [Act.put, List.size_toArray, List.length_cons, List.length_nil, Nat.zero_add]
    refine wpAnyH_take (i := 0) (v := .int .i64 130) rfl (by kernel_rfl) (by kernel_rfl) (by kernel_rfl) (fun _ _ _ h => h) (Or.inl ⟨by rfl, fun w' hS => by go_simp⟩) hHeld ?_
    simp only [Act.put, List.getElem_toArray, List.getElem_cons_zero, List.getElem_cons_succ, List.setIfInBounds_toArray, List.set_cons_zero, List.set_cons_succ]
    refine wpAnyH_take (i := 3) (v := .agg #[.int .i64 cl, .int .i64 inc, .int .i64 req, .int .i64 op, .string ky, .string v, .string old]) rfl (by kernel_rfl) (by kernel_rfl) (by kernel_rfl) (fun _ _ _ h => h) (Or.inl ⟨by rfl, fun w' hS => by (have Hx := blk_below HC5.out hS; have s0 := blk_cell Hx 0; have s1 := blk_cell Hx 1; have s2 := blk_cell Hx 2; have s3 := blk_cell Hx 3; have s4 := blk_cell Hx 4; have s5 := blk_cell Hx 5; have s6 := blk_cell Hx 6; simp only [List.getElem?_toArray, List.getElem?_cons_succ, List.getElem?_cons_zero] at s0 s1 s2 s3 s4 s5 s6; clear Hx; go_simp)⟩) hHeld ?_
    simp only [Act.put, List.getElem_toArray, List.getElem_cons_zero, List.getElem_cons_succ, List.setIfInBounds_toArray, List.set_cons_zero, List.set_cons_succ]
    refine wpAnyH_ready (rs := [1]) (by kernel_rfl) (by simp) ?_
    refine AllReadyH.cons rfl (fun K hK => ?_) AllReadyH.nil
    go_simp
    refine (num_any _).mono ?_
    rintro e wx ⟨rfl, rfl⟩
    refine hK.out _ _ hHeld (fun hHeld => ?_)
    clear hK K
    refine wpAnyH_take (i := 2) (v := .bool false) rfl (by kernel_rfl) (by kernel_rfl) (by kernel_rfl) (fun _ _ _ h => h) (Or.inl ⟨by rfl, fun w' hS => by go_simp⟩) hHeld ?_
    simp only [Act.put, List.getElem_toArray, List.getElem_cons_zero, List.getElem_cons_succ, List.setIfInBounds_toArray, List.set_cons_zero, List.set_cons_succ]
    refine wpAnyH_ready (rs := [4]) (by kernel_rfl) (by simp) ?_
    refine AllReadyH.cons rfl (fun K hK => ?_) AllReadyH.nil
    go_simp
    refine (check_any (HG.out.still (bstep B5.out hHeld)) ky v old).mono ?_
    rintro e w9 ⟨rfl, hb9⟩
    simp only [hok, Bool.false_eq_true, if_false]
    refine hK.out _ _ (bstep hHeld hb9) (fun hHeld => ?_)
    clear hK K hb9
    refine wpAnyH_ready (rs := [5]) (by kernel_rfl) (by simp) ?_
    refine AllReadyH.cons rfl (fun K hK => ?_) AllReadyH.nil
    go_simp
    refine (num_any _).mono ?_
    rintro e wx ⟨rfl, rfl⟩
    refine hK.out _ _ hHeld (fun hHeld => ?_)
    clear hK K
    refine wpAnyH_take (i := 6) (v := .bool false) rfl (by kernel_rfl) (by kernel_rfl) (by kernel_rfl) (fun _ _ _ h => h) (Or.inl ⟨by rfl, fun w' hS => by go_simp⟩) hHeld ?_
    simp only [Act.put, List.getElem_toArray, List.getElem_cons_zero, List.getElem_cons_succ, List.setIfInBounds_toArray, List.set_cons_zero, List.set_cons_succ]
    refine wpAnyH_take (i := 7) (v := .bool false) rfl (by kernel_rfl) (by kernel_rfl) (by kernel_rfl) (fun _ _ _ h => h) (Or.inl ⟨by rfl, fun w' hS => by go_simp⟩) hHeld ?_
    simp only [Act.put, List.getElem_toArray, List.getElem_cons_zero, List.getElem_cons_succ, List.setIfInBounds_toArray, List.set_cons_zero, List.set_cons_succ]
    refine wpAnyH_done (by kernel_rfl) ?_ _
    have B6 : Hid (Below w.heap.size w w9) := bstep B5.out hHeld
    clear hHeld B5 HC5 hok
    go_wp2_with (first | (go_at_call 7; refine (num_any _).mono ?_; rintro e wx ⟨rfl, rfl⟩) | fail)
    refine (Lo.copied_any ao n c bs w9 (HR.out.below B6.out) (by have := HN.out; omega)).mono ?_
    rintro e z1 ⟨kv, rfl, hO, hb⟩
    obtain ⟨ka, kc, rfl, hRk⟩ := hO.rdAny HR.out.2.2.2
    have hlen : Hid (bs.length = n) := HR.out.1
    have B7 : Hid (Below w.heap.size w z1) := bstep B6.out hb
    have HRk : Hid (Rd z1 ka n kc bs) := hlen.out ▸ hRk
    simp only [hlen.out]
    clear hO hb hRk B6
    go_wp2_with (first | (go_at_call 7; refine (num_any _).mono ?_; rintro e wx ⟨rfl, rfl⟩) | fail)
    refine (dec_any (HG.out.still B7.out) (HR.out.below B7.out) HN.out.1 (by have := HN.out; omega)).mono ?_
    rintro e z2 ⟨he, hb⟩
    rcases hd : decO bs with _ | ⟨d0, d1, d2, d3, e0, e1, e2⟩
    · rw [hd] at he
      simp only [decV] at he
      subst he
      have B8 : Hid (Below w.heap.size w z2) := bstep B7.out hb
      clear hb B7 HRk hd
      obtain ⟨cA, cS0, cS1, cS2, cS3, cS4, cS5, cS6, chA, cf0, cq0, ch0, cf1, cq1, ch1, cf2, cq2, ch2, cf3, cq3, ch3, cf4, cq4, ch4, cf5, cq5, ch5, cf6, cq6, ch6, cH, cB⟩ := newcmd z2 (.int .i64 0) (.int .i64 0) (.int .i64 0) (.int .i64 0) (.string ⟨#[]⟩) (.string ⟨#[]⟩) (.string ⟨#[]⟩)
      have BF : Hid (Below w.heap.size w cS6) := bstep B8.out cB.out
      have r0 := blk_cell cH.out 0
      have r1 := blk_cell cH.out 1
      have r2 := blk_cell cH.out 2
      have r3 := blk_cell cH.out 3
      have r4 := blk_cell cH.out 4
      have r5 := blk_cell cH.out 5
      have r6 := blk_cell cH.out 6
      simp only [List.getElem?_toArray, List.getElem?_cons_succ, List.getElem?_cons_zero] at r0 r1 r2 r3 r4 r5 r6
      clear cB cH
      go_wp2_with (first | (go_at_call 7; refine (num_any _).mono ?_; rintro e wx ⟨rfl, rfl⟩) | fail)
      go_ret
      exact ⟨rfl, BF.out⟩
    · rw [hd] at he
      simp only [decV] at he
      subst he
      have HD : Hid (okC d0 d1 d2 d3 e0 e1 e2 = true ∧ encC d0 d1 d2 d3 e0 e1 e2 = bs) := enc_dec HR.out.2.2.2 hd
      have B8 : Hid (Below w.heap.size w z2) := bstep B7.out hb
      have HRk2 : Hid (Rd z2 ka n kc bs) := HRk.out.below hb
      clear hb B7 HRk hd
      obtain ⟨cA, cS0, cS1, cS2, cS3, cS4, cS5, cS6, chA, cf0, cq0, ch0, cf1, cq1, ch1, cf2, cq2, ch2, cf3, cq3, ch3, cf4, cq4, ch4, cf5, cq5, ch5, cf6, cq6, ch6, cH, cB⟩ := newcmd z2 (.int .i64 d0) (.int .i64 d1) (.int .i64 d2) (.int .i64 d3) (.string e0) (.string e1) (.string e2)
      have B9 : Hid (Below w.heap.size w cS6) := bstep B8.out cB.out
      have HRk3 : Hid (Rd cS6 ka n kc bs) := HRk2.out.below cB.out
      clear HRk2 B8
      have r0 := blk_cell cH.out 0
      have r1 := blk_cell cH.out 1
      have r2 := blk_cell cH.out 2
      have r3 := blk_cell cH.out 3
      have r4 := blk_cell cH.out 4
      have r5 := blk_cell cH.out 5
      have r6 := blk_cell cH.out 6
      simp only [List.getElem?_toArray, List.getElem?_cons_succ, List.getElem?_cons_zero] at r0 r1 r2 r3 r4 r5 r6
      clear cB cH
      go_wp2_with (first | (go_at_call 7; refine (num_any _).mono ?_; rintro e wx ⟨rfl, rfl⟩) | fail)
      clear chA cf0 cq0 ch0 cf1 cq1 ch1 cf2 cq2 ch2 cf3 cq3 ch3 cf4 cq4 ch4 cf5 cq5 ch5 cf6 cq6 ch6
      clear r0 r1 r2 r3 r4 r5 r6
      refine (enc_ok (HG.out.still B9.out) e0 e1 e2 HD.out.1).mono ?_
      rintro e z3 ⟨x, rfl, hO, hb⟩
      rw [HD.out.2] at hO
      obtain ⟨ya, yc, rfl, hRy⟩ := hO.rdAny HR.out.2.2.2
      have HRy : Hid (Rd z3 ya n yc bs) := by rw [hlen.out] at hRy; exact hRy
      have HRk4 : Hid (Rd z3 ka n kc bs) := HRk3.out.below hb
      have B10 : Hid (Below w.heap.size w z3) := bstep B9.out hb
      simp only [hlen.out]
      clear hO hb hRy HRk3 B9
      go_wp2_with (first | (go_at_call 7; refine (num_any _).mono ?_; rintro e wx ⟨rfl, rfl⟩) | fail)
      refine (same_any ya ka n yc kc bs z3 HRy.out HRk4.out (by have := HN.out; omega)).mono ?_
      rintro e z4 ⟨rfl, hb⟩
      have BF : Hid (Below w.heap.size w z4) := bstep B10.out hb
      clear hb
      go_wp2_with (first | (go_at_call 7; refine (num_any _).mono ?_; rintro e wx ⟨rfl, rfl⟩) | fail)
      go_ret
      exact ⟨rfl, BF.out⟩
  · refine (enc_ok (HG.out.still B4.out) ky v old hok).mono ?_
    rintro e w5 ⟨x, rfl, hO, hb⟩
    obtain ⟨xa, xc, rfl, hRx⟩ := hO.rdAny (enc_rng hok)
    have hxc := own_le hO
    have hxl := enc_len hok
    have hde := dec_enc hok
    obtain ⟨XL, hXL⟩ : ∃ L, encC cl inc req op ky v old = L := ⟨_, rfl⟩
    rw [hXL] at hRx hxc hxl hde
    rw [hXL]
    have HX : Hid (Rd w5 xa XL.length xc XL ∧ XL.length ≤ xc ∧ XL.length ≤ 47 ∧ decO XL = some (cl, inc, req, op, ky, v, old)) := ⟨hRx, hxc, hxl.2, hde⟩
    obtain ⟨xn, hxn⟩ : ∃ m, XL.length = m := ⟨_, rfl⟩
    rw [hxn] at HX hxl ⊢
    have hx8 : ¬ ((xn : Int) < 8) := by omega
    have hx47 : ¬ ((47 : Int) < (xn : Int)) := by omega
    have B6 : Hid (Below w.heap.size w w5) := bstep B4.out hb
    have HC6 : Hid (w5.heap[cb]? = some (.cells #[.int .i64 cl, .int .i64 inc, .int .i64 req, .int .i64 op, .string ky, .string v, .string old] 23 (0, 0))) := blk_below HC4.out hb
    clear hb B4 HC4 hO hRx hxc hde hXL hxn hxl
    go_wp2_with (first | (go_at_call 7; refine (num_any _).mono ?_; rintro e wx ⟨rfl, rfl⟩) | fail)
    refine (dec_any (HG.out.still B6.out) HX.out.1 HX.out.2.1 (by have := HX.out; omega)).mono ?_
    rintro e w6 ⟨he, hb⟩
    rw [HX.out.2.2.2] at he
    simp only [decV] at he
    subst he
    have B7 : Hid (Below w.heap.size w w6) := bstep B6.out hb
    have HC7 : Hid (w6.heap[cb]? = some (.cells #[.int .i64 cl, .int .i64 inc, .int .i64 req, .int .i64 op, .string ky, .string v, .string old] 23 (0, 0))) := blk_below HC6.out hb
    clear hb B6 HC6 HX
    obtain ⟨dA, dS0, dS1, dS2, dS3, dS4, dS5, dS6, dhA, df0, dq0, dh0, df1, dq1, dh1, df2, dq2, dh2, df3, dq3, dh3, df4, dq4, dh4, df5, dq5, dh5, df6, dq6, dh6, dH, dB⟩ := newcmd w6 (.int .i64 cl) (.int .i64 inc) (.int .i64 req) (.int .i64 op) (.string ky) (.string v) (.string old)
    have B5 : Hid (Below w.heap.size w dS6) := bstep B7.out dB.out
    have HC5 : Hid (dS6.heap[cb]? = some (.cells #[.int .i64 cl, .int .i64 inc, .int .i64 req, .int .i64 op, .string ky, .string v, .string old] 23 (0, 0))) := blk_below HC7.out dB.out
    have s0 := blk_cell HC5.out 0
    have s1 := blk_cell HC5.out 1
    have s2 := blk_cell HC5.out 2
    have s3 := blk_cell HC5.out 3
    have s4 := blk_cell HC5.out 4
    have s5 := blk_cell HC5.out 5
    have s6 := blk_cell HC5.out 6
    simp only [List.getElem?_toArray, List.getElem?_cons_succ, List.getElem?_cons_zero] at s0 s1 s2 s3 s4 s5 s6
    have r0 := blk_cell dH.out 0
    have r1 := blk_cell dH.out 1
    have r2 := blk_cell dH.out 2
    have r3 := blk_cell dH.out 3
    have r4 := blk_cell dH.out 4
    have r5 := blk_cell dH.out 5
    have r6 := blk_cell dH.out 6
    simp only [List.getElem?_toArray, List.getElem?_cons_succ, List.getElem?_cons_zero] at r0 r1 r2 r3 r4 r5 r6
    clear dB dH B7 HC7
    go_wp2_with (first | (go_at_call 7; refine (num_any _).mono ?_; rintro e wx ⟨rfl, rfl⟩) | fail)
    clear dhA df0 dq0 dh0 df1 dq1 dh1 df2 dq2 dh2 df3 dq3 dh3 df4 dq4 dh4 df5 dq5 dh5 df6 dq6 dh6
    clear s0 s1 s2 s3 s4 s5 s6
    clear r0 r1 r2 r3 r4 r5 r6
    refine wp_region_held_drew (S := (fun w' => Below dS6.heap.size dS6 w')) (by kernel_rfl) (Below.refl _ dS6).drew (fun hHeld => ?_)
    simp only [Act.put, List.size_toArray, List.length_cons, List.length_nil, Nat.zero_add]
    refine wpAnyH_take (i := 0) (v := .int .i64 0) rfl (by kernel_rfl) (by kernel_rfl) (by kernel_rfl) (fun _ _ _ h => h) (Or.inl ⟨by rfl, fun w' hS => by go_simp⟩) hHeld ?_
    simp only [Act.put, List.getElem_toArray, List.getElem_cons_zero, List.getElem_cons_succ, List.setIfInBounds_toArray, List.set_cons_zero, List.set_cons_succ]
    refine wpAnyH_take (i := 3) (v := .agg #[.int .i64 cl, .int .i64 inc, .int .i64 req, .int .i64 op, .string ky, .string v, .string old]) rfl (by kernel_rfl) (by kernel_rfl) (by kernel_rfl) (fun _ _ _ h => h) (Or.inl ⟨by rfl, fun w' hS => by (have Hx := blk_below HC5.out hS; have s0 := blk_cell Hx 0; have s1 := blk_cell Hx 1; have s2 := blk_cell Hx 2; have s3 := blk_cell Hx 3; have s4 := blk_cell Hx 4; have s5 := blk_cell Hx 5; have s6 := blk_cell Hx 6; simp only [List.getElem?_toArray, List.getElem?_cons_succ, List.getElem?_cons_zero] at s0 s1 s2 s3 s4 s5 s6; clear Hx; go_simp)⟩) hHeld ?_
    simp only [Act.put, List.getElem_toArray, List.getElem_cons_zero, List.getElem_cons_succ, List.setIfInBounds_toArray, List.set_cons_zero, List.set_cons_succ]
    refine wpAnyH_ready (rs := [1]) (by kernel_rfl) (by simp) ?_
    refine AllReadyH.cons rfl (fun K hK => ?_) AllReadyH.nil
    go_simp
    refine (num_any _).mono ?_
    rintro e wx ⟨rfl, rfl⟩
    refine hK.out _ _ hHeld (fun hHeld => ?_)
    clear hK K
    refine wpAnyH_take (i := 2) (v := .bool true) rfl (by kernel_rfl) (by kernel_rfl) (by kernel_rfl) (fun _ _ _ h => h) (Or.inl ⟨by rfl, fun w' hS => by go_simp⟩) hHeld ?_
    simp only [Act.put, List.getElem_toArray, List.getElem_cons_zero, List.getElem_cons_succ, List.setIfInBounds_toArray, List.set_cons_zero, List.set_cons_succ]
    refine wpAnyH_ready (rs := [4]) (by kernel_rfl) (by simp) ?_
    refine AllReadyH.cons rfl (fun K hK => ?_) AllReadyH.nil
    go_simp
    refine (check_any (HG.out.still (bstep B5.out hHeld)) ky v old).mono ?_
    rintro e w9 ⟨rfl, hb9⟩
    simp only [hok, if_true]
    refine hK.out _ _ (bstep hHeld hb9) (fun hHeld => ?_)
    clear hK K hb9
    refine wpAnyH_ready (rs := [5]) (by kernel_rfl) (by simp) ?_
    refine AllReadyH.cons rfl (fun K hK => ?_) AllReadyH.nil
    go_simp
    refine (num_any _).mono ?_
    rintro e wx ⟨rfl, rfl⟩
    refine hK.out _ _ hHeld (fun hHeld => ?_)
    clear hK K
    refine wpAnyH_take (i := 6) (v := .bool true) rfl (by kernel_rfl) (by kernel_rfl) (by kernel_rfl) (fun _ _ _ h => h) (Or.inl ⟨by rfl, fun w' hS => by go_simp⟩) hHeld ?_
    simp only [Act.put, List.getElem_toArray, List.getElem_cons_zero, List.getElem_cons_succ, List.setIfInBounds_toArray, List.set_cons_zero, List.set_cons_succ]
    refine wpAnyH_take (i := 7) (v := .bool false) rfl (by kernel_rfl) (by kernel_rfl) (by kernel_rfl) (fun _ _ _ h => h) (Or.inl ⟨by rfl, fun w' hS => by go_simp⟩) hHeld ?_
    simp only [Act.put, List.getElem_toArray, List.getElem_cons_zero, List.getElem_cons_succ, List.setIfInBounds_toArray, List.set_cons_zero, List.set_cons_succ]
    refine wpAnyH_done (by kernel_rfl) ?_ _
    have B6 : Hid (Below w.heap.size w w9) := bstep B5.out hHeld
    clear hHeld B5 HC5 hok
    go_wp2_with (first | (go_at_call 7; refine (num_any _).mono ?_; rintro e wx ⟨rfl, rfl⟩) | fail)
    refine (Lo.copied_any ao n c bs w9 (HR.out.below B6.out) (by have := HN.out; omega)).mono ?_
    rintro e z1 ⟨kv, rfl, hO, hb⟩
    obtain ⟨ka, kc, rfl, hRk⟩ := hO.rdAny HR.out.2.2.2
    have hlen : Hid (bs.length = n) := HR.out.1
    have B7 : Hid (Below w.heap.size w z1) := bstep B6.out hb
    have HRk : Hid (Rd z1 ka n kc bs) := hlen.out ▸ hRk
    simp only [hlen.out]
    clear hO hb hRk B6
    go_wp2_with (first | (go_at_call 7; refine (num_any _).mono ?_; rintro e wx ⟨rfl, rfl⟩) | fail)
    refine (dec_any (HG.out.still B7.out) (HR.out.below B7.out) HN.out.1 (by have := HN.out; omega)).mono ?_
    rintro e z2 ⟨he, hb⟩
    rcases hd : decO bs with _ | ⟨d0, d1, d2, d3, e0, e1, e2⟩
    · rw [hd] at he
      simp only [decV] at he
      subst he
      have B8 : Hid (Below w.heap.size w z2) := bstep B7.out hb
      clear hb B7 HRk hd
      obtain ⟨cA, cS0, cS1, cS2, cS3, cS4, cS5, cS6, chA, cf0, cq0, ch0, cf1, cq1, ch1, cf2, cq2, ch2, cf3, cq3, ch3, cf4, cq4, ch4, cf5, cq5, ch5, cf6, cq6, ch6, cH, cB⟩ := newcmd z2 (.int .i64 0) (.int .i64 0) (.int .i64 0) (.int .i64 0) (.string ⟨#[]⟩) (.string ⟨#[]⟩) (.string ⟨#[]⟩)
      have BF : Hid (Below w.heap.size w cS6) := bstep B8.out cB.out
      have r0 := blk_cell cH.out 0
      have r1 := blk_cell cH.out 1
      have r2 := blk_cell cH.out 2
      have r3 := blk_cell cH.out 3
      have r4 := blk_cell cH.out 4
      have r5 := blk_cell cH.out 5
      have r6 := blk_cell cH.out 6
      simp only [List.getElem?_toArray, List.getElem?_cons_succ, List.getElem?_cons_zero] at r0 r1 r2 r3 r4 r5 r6
      clear cB cH
      go_wp2_with (first | (go_at_call 7; refine (num_any _).mono ?_; rintro e wx ⟨rfl, rfl⟩) | fail)
      go_ret
      exact ⟨rfl, BF.out⟩
    · rw [hd] at he
      simp only [decV] at he
      subst he
      have HD : Hid (okC d0 d1 d2 d3 e0 e1 e2 = true ∧ encC d0 d1 d2 d3 e0 e1 e2 = bs) := enc_dec HR.out.2.2.2 hd
      have B8 : Hid (Below w.heap.size w z2) := bstep B7.out hb
      have HRk2 : Hid (Rd z2 ka n kc bs) := HRk.out.below hb
      clear hb B7 HRk hd
      obtain ⟨cA, cS0, cS1, cS2, cS3, cS4, cS5, cS6, chA, cf0, cq0, ch0, cf1, cq1, ch1, cf2, cq2, ch2, cf3, cq3, ch3, cf4, cq4, ch4, cf5, cq5, ch5, cf6, cq6, ch6, cH, cB⟩ := newcmd z2 (.int .i64 d0) (.int .i64 d1) (.int .i64 d2) (.int .i64 d3) (.string e0) (.string e1) (.string e2)
      have B9 : Hid (Below w.heap.size w cS6) := bstep B8.out cB.out
      have HRk3 : Hid (Rd cS6 ka n kc bs) := HRk2.out.below cB.out
      clear HRk2 B8
      have r0 := blk_cell cH.out 0
      have r1 := blk_cell cH.out 1
      have r2 := blk_cell cH.out 2
      have r3 := blk_cell cH.out 3
      have r4 := blk_cell cH.out 4
      have r5 := blk_cell cH.out 5
      have r6 := blk_cell cH.out 6
      simp only [List.getElem?_toArray, List.getElem?_cons_succ, List.getElem?_cons_zero] at r0 r1 r2 r3 r4 r5 r6
      clear cB cH
      go_wp2_with (first | (go_at_call 7; refine (num_any _).mono ?_; rintro e wx ⟨rfl, rfl⟩) | fail)
      clear chA cf0 cq0 ch0 cf1 cq1 ch1 cf2 cq2 ch2 cf3 cq3 ch3 cf4 cq4 ch4 cf5 cq5 ch5 cf6 cq6 ch6
      clear r0 r1 r2 r3 r4 r5 r6
      refine (enc_ok (HG.out.still B9.out) e0 e1 e2 HD.out.1).mono ?_
      rintro e z3 ⟨x, rfl, hO, hb⟩
      rw [HD.out.2] at hO
      obtain ⟨ya, yc, rfl, hRy⟩ := hO.rdAny HR.out.2.2.2
      have HRy : Hid (Rd z3 ya n yc bs) := by rw [hlen.out] at hRy; exact hRy
      have HRk4 : Hid (Rd z3 ka n kc bs) := HRk3.out.below hb
      have B10 : Hid (Below w.heap.size w z3) := bstep B9.out hb
      simp only [hlen.out]
      clear hO hb hRy HRk3 B9
      go_wp2_with (first | (go_at_call 7; refine (num_any _).mono ?_; rintro e wx ⟨rfl, rfl⟩) | fail)
      refine (same_any ya ka n yc kc bs z3 HRy.out HRk4.out (by have := HN.out; omega)).mono ?_
      rintro e z4 ⟨rfl, hb⟩
      have BF : Hid (Below w.heap.size w z4) := bstep B10.out hb
      clear hb
      go_wp2_with (first | (go_at_call 7; refine (num_any _).mono ?_; rintro e wx ⟨rfl, rfl⟩) | fail)
      go_ret
      exact ⟨rfl, BF.out⟩
end
end Go.Proofs.YtpgckdbjedepcaaGreatDoor.Mx
