import Derived.Test.YthanifbimndhaaaM34
namespace Go.Proofs.Ythanifbimndhaaa.Ln
set_option maxHeartbeats 40000000
open Go.RowKit Mb
set_option linter.unusedVariables false
set_option maxRecDepth 100000
set_option linter.unusedSimpArgs false
section
variable {w w' W w1 : World} {B T : Nat} {Y Y1 : Pl}
theorem bodies_zero {la wa : Option Addr} {n lc wc : Nat} {ys os : List Bn} (hn0 : n = 0) (h : PlOk Y w B T) (ht : Y.tn ≤ (Y.os.length : Int)) (hI : BIn w B Y la n lc ys wa os) (hwr : ∃ Bw, w.ownsRow Bw 40 1 (.slice wa n wc) n (os.map Bn.v)) : Calls Try.prog 41 #[.pointer (some ⟨Y.b, 0, none⟩), .slice la n lc, .slice wa n wc] w fun e w' => e = .returned (.bool true) /\ BdE w w' B T Y (.slice la n lc) ys := by
 have Hn0 : Hid (n = 0) := hn0
 clear hn0
 have H0 : Hid (PlOk Y w B T) := h
 have HI0 : Hid (BIn w B Y la n lc ys wa os) := hI
 have hn := hI.n1
 have hco := h.co
 have htb := h.tb
 obtain ⟨oa, oc, hov⟩ := row_shape' h.ro
 obtain ⟨no, hno⟩ : ∃ n, Y.os.length = n := ⟨_, rfl⟩
 have Hov0 : Hid (Y.ov = .slice oa no oc /\ Y.os.length = no) := (show _ /\ _ from ⟨by rw [hov, hno], hno⟩)
 obtain ⟨yb, hyb⟩ : ∃ b, Y.b = b := ⟨_, rfl⟩
 have Hyb0 : Hid (Y.b = yb) := hyb
 obtain ⟨tn, htn⟩ : ∃ t, Y.tn = t := ⟨_, rfl⟩
 have Htn : Hid (Y.tn = tn /\ Y.tn ≤ (Y.os.length : Int)) := (show _ /\ _ from ⟨htn, ht⟩)
 rw [hno, htn] at ht htb
 rw [hno] at hco
 have t1 : 0 ≤ tn := htb.1
 have t2 : tn ≤ 24 := by omega
 have HSL : Hid (Calls Try.prog 80 #[.slice la n lc, .slice wa n wc] w fun e w' => e = .returned (.bool true) /\ Below w.heap.size w w') := (show Calls _ _ _ _ _ from by
  obtain ⟨Bw, h3⟩ := hwr
  have l1 := hI.len.1
  have l2 := hI.len.2
  have r1 := hI.row
  rw [<- l1] at r1
  have r2 := h3
  rw [<- l2] at r2
  have q1 := RdL.of r1 fun y hy => by
   have hb := hI.bod y hy
   have e3 : (⟨y.k, y.bs.length, y.bs⟩ : Bn) = y := by rw [<- hb.2]
   rw [<- e3]
   exact hb.1.bn
  have q2 : RdL w (.slice wa os.length wc) os := RdL.of (B := Nat.min Bw B) (own_lower r2 (Nat.min_le_left _ _)) fun z hz => { hI.wok z hz with lo := Nat.le_trans (Nat.min_le_right _ _) (hI.wok z hz).lo }
  have := lists_yes q1 q2 hI.eq (by omega)
  rw [l1, l2] at this
  exact this)
 rw [hyb]
 clear h hI hov hno hyb htn hwr htb ht
 go_enter Try.func41, Try.ntmps41
 go_wp2_with (first | (go_at_call 80; refine HSL.out.mono ?_) | fail)
 rintro e ws ⟨rfl, hbs⟩
 have hs := H0.out.still hbs
 have c10 : ws.cell? ⟨yb, 10, none⟩ = some (.slice oa no oc) := by rw [<- Hov0.out.1, <- Hyb0.out]; exact hs.c 10 rfl
 have c11 : ws.cell? ⟨yb, 11, none⟩ = some (.int .i64 tn) := by rw [<- Htn.out.1, <- Hyb0.out]; exact hs.c 11 rfl
 have f11 : ws.frozen? ⟨yb, 11, none⟩ = false := by rw [<- Hyb0.out]; exact frozen_of_row ws _ 11 _ _ hs.bk.k
 by_cases hfull : no < 24
 ·have j2 : ¬ (no : Int) ≥ 24 := by omega
  have j3 : decide ((24 : Int) ≤ (no : Int)) = false := by simp; omega
  obtain ⟨tt, htt⟩ : ∃ t : Int, tn + 1 = t := ⟨_, rfl⟩
  have t3 : 0 ≤ tt := by omega
  have t4 : tt ≤ 25 := by omega
  obtain ⟨mk, hmk⟩ : ∃ m : Int, (no : Int) + 1 = m := ⟨_, rfl⟩
  have hm1 : 0 ≤ mk := by omega
  have hm2 : mk ≤ 255 := by omega
  generalize hw1 : ws.setCell ⟨yb, 11, none⟩ (.int .i64 tt) = w1
  obtain ⟨Y1, hY1⟩ : ∃ y : Pl, y = { Y with tn := Y.tn + 1 } := ⟨_, rfl⟩
  have hP1 : PlOk Y1 w1 B T := by
   have h9 := hs.turn Htn.out.2
   rw [Htn.out.1, htt, Hyb0.out, hw1] at h9
   rw [hY1, Htn.out.1, htt, Hyb0.out]
   exact h9
  have k1 : Kept ws w1 (fun j => j = Y.b) := by rw [<- hw1, Hyb0.out]; exact kset (P := fun j => j = yb) _ _ _ _ rfl
  have H : Hid (PlOk Y1 w1 B T) := hP1
  have HI : Hid (BIn w1 B Y1 la n lc ys wa os) := (show BIn _ _ _ _ _ _ _ _ _ from by
   have h8 := HI0.out.keep (Y' := Y) (Kept.ofBelow hbs (fun _ => False)) (fun _ _ => id) rfl rfl rfl rfl
   refine h8.keep k1 (fun hj ht e => ?_) (by rw [hY1]) (by rw [hY1]) (by rw [hY1]) (by rw [hY1])
   rw [e] at hj
   exact blk_ne hj hs.bk.k (by rcases ht with rfl | rfl <;> decide) rfl)
  have Hyb : Hid (Y1.b = yb) := (show _ = _ from by rw [hY1]; exact Hyb0.out)
  have Hov : Hid (Y1.ov = .slice oa no oc /\ Y1.os.length = no) := (show _ /\ _ from by rw [hY1]; exact Hov0.out)
  have Htt : Hid (Y1.tn = tt) := (show _ = _ from by rw [hY1]; show Y.tn + 1 = tt; rw [Htn.out.1]; exact htt)
  have HEn : Hid (∀ w', BdOut w1 w' B T Y1 (.slice la n lc) ys -> BdE w w' B T Y (.slice la n lc) ys) := fun w' ho => (show BdE _ _ _ _ _ _ _ from BdOut.e H0.out hbs (by rw [Hyb0.out]; exact hw1) hY1 Htn.out.2 ho)
  have d10 : w1.cell? ⟨yb, 10, none⟩ = some (.slice oa no oc) := by rw [<- Hov.out.1, <- Hyb.out]; exact hP1.c 10 rfl
  obtain ⟨tc, htc⟩ : ∃ tc : Prop, (Int.tmod tt 2 = 0) = tc := ⟨_, rfl⟩
  have Htc : Hid ((Int.tmod tt 2 = 0) = tc) := htc
  have Hpar : Hid (Int.tmod tt 2 = 0 ∨ Int.tmod tt 2 = 1) := (show _ ∨ _ from by rw [Int.tmod_eq_emod_of_nonneg t3]; omega)
  have HF0 : Hid (∃ v zs Yi, BL w1 (w1.alloc (.cells #[.slice la n lc, .slice none 0 0, .slice none 0 0, .int .i64 mk, .bool false] 51)) B T Y1 (.slice la n lc) mk ys os tc 0 0 v zs Yi) := (show ∃ v zs Yi, BL _ _ _ _ _ _ _ _ _ _ _ _ v zs Yi from ⟨_, _, _, BL.first hP1⟩)
  clear htc hP1 k1 hY1 hs HSL
  go_wp2
  clear c10 c11 f11 d10 hw1 htt hmk j2 j3
  go_loopw [8] (fun v8 wr => ∃ i : Nat, i ≤ n /\ v8 = .int .i64 (i : Int) /\ Hid (∃ v zs Yi, BL w1 wr B T Y1 (.slice la n lc) mk ys os tc i i v zs Yi)) (fun v8 _ => n - (intOf v8).toNat)
  case atStart => exact ⟨0, by omega, rfl, HF0⟩
  case round =>
   clear HF0
   obtain ⟨i, hi, rfl, hs'⟩ := hrel
   obtain ⟨v, zs, Yi, hS⟩ := hs'.out
   clear hs'
   by_cases hlt : i < n
   ·have := Hn0.out
    omega
   ·have hin : i = n := by omega
    rw [hin] at hS
    rw [hin]
    clear hin hlt hi
    have i2 : ¬ (n : Int) < (n : Int) := by omega
    obtain ⟨va, vc, hv⟩ := row_shape' hS.row
    subst hv
    have h2 := hS
    have c11 : wr.cell? ⟨yb, 11, none⟩ = some (.int .i64 tt) := by
     have h9 := h2.ok.c 11 rfl
     rw [h2.b, Hyb.out] at h9
     rw [h9]
     show some (Value.int .i64 Yi.tn) = _
     rw [h2.tn, Htt.out]
    clear hS
    rcases Hpar.out with hpar | hpar
    ·have HWr : Hid (Calls Try.prog 18 #[.pointer (some ⟨w1.heap.size, 0, none⟩)] wr fun e w' => e = .returned (.tuple #[]) /\ OWrO wr w' B la n lc mk w1.heap.size 0 #[.slice la n lc, .slice none 0 0, .slice va n vc, .int .i64 mk, .bool false]) := (show Calls _ _ _ _ _ from owrite_any (h2.lift H.out HI.out) h2.ok.bk.b h2.blk rfl ⟨_, rfl⟩ rfl ⟨_, rfl⟩ (by omega) ⟨hm1, hm2⟩)
     have H2 : Hid (BL w1 wr B T Y1 (.slice la n lc) mk ys os tc n n (.slice va n vc) zs Yi) := h2
     clear h2
     go_wp2_with (first | (go_at_call 18; refine HWr.out.mono ?_) | fail)
     rintro e wy he hwo
     subst he
     obtain ⟨ga, gc, PP, ZZ, d1, d2, ⟨xs, d3⟩, ⟨us, d4⟩, d5, d6⟩ := hwo.out
     have h2 := H2.out
     have hq := bd_keep1 H.out HI.out h2 d5
     have y0 : wy.cell? ⟨w1.heap.size, 0, none⟩ = some (.slice la n lc) := bC d2 0
     have y1 : wy.cell? ⟨w1.heap.size, 1, none⟩ = some (.slice ga (n + 64) gc) := bC d2 1
     have y2 : wy.cell? ⟨w1.heap.size, 2, none⟩ = some (.slice va n vc) := bC d2 2
     have y3 : wy.cell? ⟨w1.heap.size, 3, none⟩ = some (.int .i64 mk) := bC d2 3
     have y4 : wy.cell? ⟨w1.heap.size, 4, none⟩ = some (.bool true) := bC d2 4
     have HOk : Hid (∀ D, Below wy.heap.size wy D -> D.ownsRow B 51 5 (.slice oa no oc) no (Y1.os.flatMap Kr.cs)) := fun D hb => (show World.ownsRow _ _ _ _ _ _ _ from by have := own_still hq.ro hb; rw [h2.ov, h2.os, Hov.out.1, Hov.out.2] at this; exact this)
     have HBs : Hid (B ≤ wy.heap.size) := (show _ ≤ _ from hq.bk.b)
     have HNk : Hid (¬ (Value.slice oa no oc).ownBlock = some w1.heap.size) := (show ¬ _ from fun e => by have h9 := H.out.ro; rw [Hov.out.1] at h9; have := (World.ownsRow.lt h9 _ e).2; omega)
     have k9 : wy.cell? ⟨yb, 10, none⟩ = some (.slice oa no oc) := by have := hq.c 10 rfl; rw [h2.b, Hyb.out] at this; rw [<- Hov.out.1, <- h2.ov]; exact this
     have HZc : Hid (∀ D D', Below wy.heap.size wy D -> Kept D D' (fun j => (Value.slice oa no oc).ownBlock = some j) -> D'.frozen? ⟨yb, 10, none⟩ = false /\ ∃ zv, D'.cell? ⟨yb, 10, none⟩ = some zv) := fun D D' hb hk => (show _ /\ _ from by
      have h8 := hq.bk.k
      rw [h2.b, Hyb.out] at h8
      have h9 := hk.obj (blk_up hb h8) fun e => by
       obtain ⟨C, hC⟩ := own_ty (HOk.out D hb) e
       exact blk_ne hC (blk_up hb h8) (by decide) rfl
      exact ⟨frozen_of_row D' _ 10 _ _ h9, _, bC h9 10⟩)
     have hne2 : w1.heap.size ≠ yb := fun e => by
      have h8 := lt_heap H.out.bk.k
      rw [Hyb.out] at h8
      omega
     have HFn : Hid (∀ D w7 gg cap, Below wy.heap.size wy D -> w7.ownsRow B 51 5 (.slice (some ⟨gg, 0, none⟩) (no + 1) cap) (no + 1) (Y1.os.flatMap Kr.cs ++ [.slice la n lc, .slice ga (n + 64) gc, .slice va n vc, .int .i64 mk, .bool true]) -> Kept D w7 (fun j => (Value.slice oa no oc).ownBlock = some j) -> BdOut w1 (w7.setCell ⟨yb, 10, none⟩ (.slice (some ⟨gg, 0, none⟩) (no + 1) cap)) B T Y1 (.slice la n lc) ys) := fun D w7 gg cap hD ho hk => (show BdOut _ _ _ _ _ _ _ from by
      rw [<- Hov.out.1] at hk
      rw [<- Hov.out.2] at ho ⊢
      rw [<- Hyb.out]
      exact bd_fin1 H.out HI.out h2 d5 d1 d3 d4 d6 ⟨hm1, hm2⟩ (by rw [Hov.out.2]; exact hfull) hD ho hk)
     clear h2 hq d1 d2 d3 d4 d5 d6 hwo H2 HWr c11
     go_wp2
     refine wp_region_held_drew (S := (fun w' => w'.cell? ⟨w1.heap.size, 0, none⟩ = some (.slice la n lc) /\ w'.cell? ⟨w1.heap.size, 1, none⟩ = some (.slice ga (n + 64) gc) /\ w'.cell? ⟨w1.heap.size, 2, none⟩ = some (.slice va n vc) /\ w'.cell? ⟨w1.heap.size, 3, none⟩ = some (.int .i64 mk) /\ w'.cell? ⟨w1.heap.size, 4, none⟩ = some (.bool true))) (by kernel_rfl) ⟨(dW0 y0), (dW0 y1), (dW0 y2), (dW0 y3), (dW0 y4)⟩ (fun hH => ?_)
     simp only [Act.put, lA, lC, lN, zA]
     refine tG 0 79 (.pointer (some ⟨yb, 0, none⟩)) rfl hH ?_
     simp only [aP, sA, sZ, sC]
     refine tG 1 80 (.pointer (some ⟨yb, 0, none⟩)) rfl hH ?_
     simp only [aP, sA, sZ, sC]
     refine tG 2 81 (.pointer (some ⟨yb, 0, none⟩)) rfl hH ?_
     simp only [aP, sA, sZ, sC]
     refine tG 3 82 (.pointer (some ⟨yb, 10, none⟩)) rfl hH ?_
     simp only [aP, sA, sZ, sC]
     refine tL 5 84 (.agg #[.slice la n lc, .slice ga (n + 64) gc, .slice va n vc, .int .i64 mk, .bool true]) rfl hH ?_
     simp only [aP, sA, sZ, sC]
     have hbD6 : Below wy.heap.size wy wy.drew := dB _
     have q0 := bA hbD6 y0
     have q1 := bA hbD6 y1
     have q2 := bA hbD6 y2
     have q3 := bA hbD6 y3
     have q4 := bA hbD6 y4
     have iq0 := bA hbD6 k9
     generalize wy.drew = D6 at *
     refine wpAnyH_ready (rs := [4, 6]) (by kernel_rfl) (by simp) ?_
     refine AllReadyH.cons rfl (fun K hK => ?_) (AllReadyH.cons rfl (fun K hK => ?_) AllReadyH.nil)
     ·have zim := iq0
      go_simp
      clear zim
      refine hK.out _ _ ⟨q0, q1, q2, q3, q4⟩ (fun hH => ?_)
      clear hK K
      refine rY 6 rfl fun K hK => ?_
      go_simp
      refine hK.out _ _ ⟨(aL0 q0), (aL0 q1), (aL0 q2), (aL0 q3), (aL0 q4)⟩ (fun hH => ?_)
      clear hK K
      obtain ⟨w6a, hw6a⟩ : ∃ x, D6.alloc (.cells ([.slice la n lc, .slice ga (n + 64) gc, .slice va n vc, .int .i64 mk, .bool true] : List Value).toArray 51) = x := ⟨_, rfl⟩
      have hb6a : Below D6.heap.size D6 w6a := by rw [<- hw6a]; exact balloc (Below.refl _ _)
      rw [hw6a] at hH ⊢
      refine rY 7 rfl fun K hK => ?_
      refine step_pushO (B := B) rfl _ _ rfl D6 _ _ [.slice la n lc, .slice ga (n + 64) gc, .slice va n vc, .int .i64 mk, .bool true] rfl (kr_one _ _ _ _ _ _ _ _ _ _ _) rfl no (HOk.out D6 hbD6) hw6a.symm rfl (by omega) (Nat.le_trans HBs.out hbD6.size) ?_
      intro gg cap w7 ho7 hk7 hg7 hl7
      have z0 := kC hk7 HNk.out q0
      have z1 := kC hk7 HNk.out q1
      have z2 := kC hk7 HNk.out q2
      have z3 := kC hk7 HNk.out q3
      have z4 := kC hk7 HNk.out q4
      refine hK.out _ _ ⟨z0, z1, z2, z3, z4⟩ (fun hH => ?_)
      clear hK K
      refine tG 8 87 (.pointer (some ⟨yb, 0, none⟩)) rfl hH ?_
      simp only [aP, sA, sZ, sC]
      refine tG 9 88 (.pointer (some ⟨yb, 10, none⟩)) rfl hH ?_
      simp only [aP, sA, sZ, sC]
      refine rY 10 rfl fun K hK => ?_
      obtain ⟨hzf, zv, hzv⟩ := HZc.out D6 w7 hbD6 hk7
      go_simp
      clear hzf hzv
      refine hK.out _ _ ⟨(below_set1 hne2 z0), (below_set1 hne2 z1), (below_set1 hne2 z2), (below_set1 hne2 z3), (below_set1 hne2 z4)⟩ (fun hH => ?_)
      clear hK K
      refine wpAnyH_done (by kernel_rfl) ?_ _
      clear hH
      have HO : Hid (BdE w (w7.setCell ⟨yb, 10, none⟩ (.slice (some ⟨gg, 0, none⟩) (no + 1) cap)) B T Y (.slice la n lc) ys) := (show BdE _ _ _ _ _ _ _ from HEn.out _ (HFn.out D6 w7 gg cap hbD6 ho7 hk7))
      clear hbD6 ho7 hk7 hg7 hl7 z0 q0 y0 z1 q1 y1 z2 q2 y2 z3 q3 y3 z4 q4 y4 hb6a hw6a iq0 k9
      generalize w7.setCell ⟨yb, 10, none⟩ (.slice (some ⟨gg, 0, none⟩) (no + 1) cap) = wq at HO ⊢
      go_wp2
      go_ret
      exact ⟨rfl, HO.out⟩
     ·go_simp
      refine hK.out _ _ ⟨(aL0 q0), (aL0 q1), (aL0 q2), (aL0 q3), (aL0 q4)⟩ (fun hH => ?_)
      clear hK K
      obtain ⟨w6a, hw6a⟩ : ∃ x, D6.alloc (.cells ([.slice la n lc, .slice ga (n + 64) gc, .slice va n vc, .int .i64 mk, .bool true] : List Value).toArray 51) = x := ⟨_, rfl⟩
      have hb6a : Below D6.heap.size D6 w6a := by rw [<- hw6a]; exact balloc (Below.refl _ _)
      rw [hw6a] at hH ⊢
      refine rY 4 rfl fun K hK => ?_
      have zim := (bA hb6a iq0)
      go_simp
      clear zim
      refine hK.out _ _ ⟨(bA hb6a q0), (bA hb6a q1), (bA hb6a q2), (bA hb6a q3), (bA hb6a q4)⟩ (fun hH => ?_)
      clear hK K
      refine rY 7 rfl fun K hK => ?_
      refine step_pushO (B := B) rfl _ _ rfl D6 _ _ [.slice la n lc, .slice ga (n + 64) gc, .slice va n vc, .int .i64 mk, .bool true] rfl (kr_one _ _ _ _ _ _ _ _ _ _ _) rfl no (HOk.out D6 hbD6) hw6a.symm rfl (by omega) (Nat.le_trans HBs.out hbD6.size) ?_
      intro gg cap w7 ho7 hk7 hg7 hl7
      have z0 := kC hk7 HNk.out q0
      have z1 := kC hk7 HNk.out q1
      have z2 := kC hk7 HNk.out q2
      have z3 := kC hk7 HNk.out q3
      have z4 := kC hk7 HNk.out q4
      refine hK.out _ _ ⟨z0, z1, z2, z3, z4⟩ (fun hH => ?_)
      clear hK K
      refine tG 8 87 (.pointer (some ⟨yb, 0, none⟩)) rfl hH ?_
      simp only [aP, sA, sZ, sC]
      refine tG 9 88 (.pointer (some ⟨yb, 10, none⟩)) rfl hH ?_
      simp only [aP, sA, sZ, sC]
      refine rY 10 rfl fun K hK => ?_
      obtain ⟨hzf, zv, hzv⟩ := HZc.out D6 w7 hbD6 hk7
      go_simp
      clear hzf hzv
      refine hK.out _ _ ⟨(below_set1 hne2 z0), (below_set1 hne2 z1), (below_set1 hne2 z2), (below_set1 hne2 z3), (below_set1 hne2 z4)⟩ (fun hH => ?_)
      clear hK K
      refine wpAnyH_done (by kernel_rfl) ?_ _
      clear hH
      have HO : Hid (BdE w (w7.setCell ⟨yb, 10, none⟩ (.slice (some ⟨gg, 0, none⟩) (no + 1) cap)) B T Y (.slice la n lc) ys) := (show BdE _ _ _ _ _ _ _ from HEn.out _ (HFn.out D6 w7 gg cap hbD6 ho7 hk7))
      clear hbD6 ho7 hk7 hg7 hl7 z0 q0 y0 z1 q1 y1 z2 q2 y2 z3 q3 y3 z4 q4 y4 hb6a hw6a iq0 k9
      generalize w7.setCell ⟨yb, 10, none⟩ (.slice (some ⟨gg, 0, none⟩) (no + 1) cap) = wq at HO ⊢
      go_wp2
      go_ret
      exact ⟨rfl, HO.out⟩
    ·
     have y0 : wr.cell? ⟨w1.heap.size, 0, none⟩ = some (.slice la n lc) := bC h2.blk 0
     have y1 : wr.cell? ⟨w1.heap.size, 1, none⟩ = some (.slice none 0 0) := bC h2.blk 1
     have y2 : wr.cell? ⟨w1.heap.size, 2, none⟩ = some (.slice va n vc) := bC h2.blk 2
     have y3 : wr.cell? ⟨w1.heap.size, 3, none⟩ = some (.int .i64 mk) := bC h2.blk 3
     have y4 : wr.cell? ⟨w1.heap.size, 4, none⟩ = some (.bool false) := bC h2.blk 4
     have HOk : Hid (∀ D, Below wr.heap.size wr D -> D.ownsRow B 51 5 (.slice oa no oc) no (Y1.os.flatMap Kr.cs)) := fun D hb => (show World.ownsRow _ _ _ _ _ _ _ from by have := own_still h2.ok.ro hb; rw [h2.ov, h2.os, Hov.out.1, Hov.out.2] at this; exact this)
     have HBs : Hid (B ≤ wr.heap.size) := (show _ ≤ _ from h2.ok.bk.b)
     have HNk : Hid (¬ (Value.slice oa no oc).ownBlock = some w1.heap.size) := (show ¬ _ from fun e => by have h9 := H.out.ro; rw [Hov.out.1] at h9; have := (World.ownsRow.lt h9 _ e).2; omega)
     have k9 : wr.cell? ⟨yb, 10, none⟩ = some (.slice oa no oc) := by have := h2.ok.c 10 rfl; rw [h2.b, Hyb.out] at this; rw [<- Hov.out.1, <- h2.ov]; exact this
     have HZc : Hid (∀ D D', Below wr.heap.size wr D -> Kept D D' (fun j => (Value.slice oa no oc).ownBlock = some j) -> D'.frozen? ⟨yb, 10, none⟩ = false /\ ∃ zv, D'.cell? ⟨yb, 10, none⟩ = some zv) := fun D D' hb hk => (show _ /\ _ from by
      have h8 := h2.ok.bk.k
      rw [h2.b, Hyb.out] at h8
      have h9 := hk.obj (blk_up hb h8) fun e => by
       obtain ⟨C, hC⟩ := own_ty (HOk.out D hb) e
       exact blk_ne hC (blk_up hb h8) (by decide) rfl
      exact ⟨frozen_of_row D' _ 10 _ _ h9, _, bC h9 10⟩)
     have hne2 : w1.heap.size ≠ yb := fun e => by
      have h8 := lt_heap H.out.bk.k
      rw [Hyb.out] at h8
      omega
     have HFn : Hid (∀ D w7 gg cap, Below wr.heap.size wr D -> w7.ownsRow B 51 5 (.slice (some ⟨gg, 0, none⟩) (no + 1) cap) (no + 1) (Y1.os.flatMap Kr.cs ++ [.slice la n lc, .slice none 0 0, .slice va n vc, .int .i64 mk, .bool false]) -> Kept D w7 (fun j => (Value.slice oa no oc).ownBlock = some j) -> BdOut w1 (w7.setCell ⟨yb, 10, none⟩ (.slice (some ⟨gg, 0, none⟩) (no + 1) cap)) B T Y1 (.slice la n lc) ys) := fun D w7 gg cap hD ho hk => (show BdOut _ _ _ _ _ _ _ from by
      rw [<- Hov.out.1] at hk
      rw [<- Hov.out.2] at ho ⊢
      rw [<- Hyb.out]
      have eF : tc = False := by rw [<- Htc.out, hpar]; simp
      rw [eF] at h2
      exact bd_fin0 H.out HI.out h2 ⟨hm1, hm2⟩ (by rw [Hov.out.2]; exact hfull) hD ho hk)
     clear h2
     go_wp2
     refine wp_region_held_drew (S := (fun w' => w'.cell? ⟨w1.heap.size, 0, none⟩ = some (.slice la n lc) /\ w'.cell? ⟨w1.heap.size, 1, none⟩ = some (.slice none 0 0) /\ w'.cell? ⟨w1.heap.size, 2, none⟩ = some (.slice va n vc) /\ w'.cell? ⟨w1.heap.size, 3, none⟩ = some (.int .i64 mk) /\ w'.cell? ⟨w1.heap.size, 4, none⟩ = some (.bool false))) (by kernel_rfl) ⟨(dW0 y0), (dW0 y1), (dW0 y2), (dW0 y3), (dW0 y4)⟩ (fun hH => ?_)
     simp only [Act.put, lA, lC, lN, zA]
     refine tG 0 79 (.pointer (some ⟨yb, 0, none⟩)) rfl hH ?_
     simp only [aP, sA, sZ, sC]
     refine tG 1 80 (.pointer (some ⟨yb, 0, none⟩)) rfl hH ?_
     simp only [aP, sA, sZ, sC]
     refine tG 2 81 (.pointer (some ⟨yb, 0, none⟩)) rfl hH ?_
     simp only [aP, sA, sZ, sC]
     refine tG 3 82 (.pointer (some ⟨yb, 10, none⟩)) rfl hH ?_
     simp only [aP, sA, sZ, sC]
     refine tL 5 84 (.agg #[.slice la n lc, .slice none 0 0, .slice va n vc, .int .i64 mk, .bool false]) rfl hH ?_
     simp only [aP, sA, sZ, sC]
     have hbD6 : Below wr.heap.size wr wr.drew := dB _
     have q0 := bA hbD6 y0
     have q1 := bA hbD6 y1
     have q2 := bA hbD6 y2
     have q3 := bA hbD6 y3
     have q4 := bA hbD6 y4
     have iq0 := bA hbD6 k9
     generalize wr.drew = D6 at *
     refine wpAnyH_ready (rs := [4, 6]) (by kernel_rfl) (by simp) ?_
     refine AllReadyH.cons rfl (fun K hK => ?_) (AllReadyH.cons rfl (fun K hK => ?_) AllReadyH.nil)
     ·have zim := iq0
      go_simp
      clear zim
      refine hK.out _ _ ⟨q0, q1, q2, q3, q4⟩ (fun hH => ?_)
      clear hK K
      refine rY 6 rfl fun K hK => ?_
      go_simp
      refine hK.out _ _ ⟨(aL0 q0), (aL0 q1), (aL0 q2), (aL0 q3), (aL0 q4)⟩ (fun hH => ?_)
      clear hK K
      obtain ⟨w6a, hw6a⟩ : ∃ x, D6.alloc (.cells ([.slice la n lc, .slice none 0 0, .slice va n vc, .int .i64 mk, .bool false] : List Value).toArray 51) = x := ⟨_, rfl⟩
      have hb6a : Below D6.heap.size D6 w6a := by rw [<- hw6a]; exact balloc (Below.refl _ _)
      rw [hw6a] at hH ⊢
      refine rY 7 rfl fun K hK => ?_
      refine step_pushO (B := B) rfl _ _ rfl D6 _ _ [.slice la n lc, .slice none 0 0, .slice va n vc, .int .i64 mk, .bool false] rfl (kr_one _ _ _ _ _ _ _ _ _ _ _) rfl no (HOk.out D6 hbD6) hw6a.symm rfl (by omega) (Nat.le_trans HBs.out hbD6.size) ?_
      intro gg cap w7 ho7 hk7 hg7 hl7
      have z0 := kC hk7 HNk.out q0
      have z1 := kC hk7 HNk.out q1
      have z2 := kC hk7 HNk.out q2
      have z3 := kC hk7 HNk.out q3
      have z4 := kC hk7 HNk.out q4
      refine hK.out _ _ ⟨z0, z1, z2, z3, z4⟩ (fun hH => ?_)
      clear hK K
      refine tG 8 87 (.pointer (some ⟨yb, 0, none⟩)) rfl hH ?_
      simp only [aP, sA, sZ, sC]
      refine tG 9 88 (.pointer (some ⟨yb, 10, none⟩)) rfl hH ?_
      simp only [aP, sA, sZ, sC]
      refine rY 10 rfl fun K hK => ?_
      obtain ⟨hzf, zv, hzv⟩ := HZc.out D6 w7 hbD6 hk7
      go_simp
      clear hzf hzv
      refine hK.out _ _ ⟨(below_set1 hne2 z0), (below_set1 hne2 z1), (below_set1 hne2 z2), (below_set1 hne2 z3), (below_set1 hne2 z4)⟩ (fun hH => ?_)
      clear hK K
      refine wpAnyH_done (by kernel_rfl) ?_ _
      clear hH
      have HO : Hid (BdE w (w7.setCell ⟨yb, 10, none⟩ (.slice (some ⟨gg, 0, none⟩) (no + 1) cap)) B T Y (.slice la n lc) ys) := (show BdE _ _ _ _ _ _ _ from HEn.out _ (HFn.out D6 w7 gg cap hbD6 ho7 hk7))
      clear hbD6 ho7 hk7 hg7 hl7 z0 q0 y0 z1 q1 y1 z2 q2 y2 z3 q3 y3 z4 q4 y4 hb6a hw6a iq0 k9
      generalize w7.setCell ⟨yb, 10, none⟩ (.slice (some ⟨gg, 0, none⟩) (no + 1) cap) = wq at HO ⊢
      go_wp2
      go_ret
      exact ⟨rfl, HO.out⟩
     ·go_simp
      refine hK.out _ _ ⟨(aL0 q0), (aL0 q1), (aL0 q2), (aL0 q3), (aL0 q4)⟩ (fun hH => ?_)
      clear hK K
      obtain ⟨w6a, hw6a⟩ : ∃ x, D6.alloc (.cells ([.slice la n lc, .slice none 0 0, .slice va n vc, .int .i64 mk, .bool false] : List Value).toArray 51) = x := ⟨_, rfl⟩
      have hb6a : Below D6.heap.size D6 w6a := by rw [<- hw6a]; exact balloc (Below.refl _ _)
      rw [hw6a] at hH ⊢
      refine rY 4 rfl fun K hK => ?_
      have zim := (bA hb6a iq0)
      go_simp
      clear zim
      refine hK.out _ _ ⟨(bA hb6a q0), (bA hb6a q1), (bA hb6a q2), (bA hb6a q3), (bA hb6a q4)⟩ (fun hH => ?_)
      clear hK K
      refine rY 7 rfl fun K hK => ?_
      refine step_pushO (B := B) rfl _ _ rfl D6 _ _ [.slice la n lc, .slice none 0 0, .slice va n vc, .int .i64 mk, .bool false] rfl (kr_one _ _ _ _ _ _ _ _ _ _ _) rfl no (HOk.out D6 hbD6) hw6a.symm rfl (by omega) (Nat.le_trans HBs.out hbD6.size) ?_
      intro gg cap w7 ho7 hk7 hg7 hl7
      have z0 := kC hk7 HNk.out q0
      have z1 := kC hk7 HNk.out q1
      have z2 := kC hk7 HNk.out q2
      have z3 := kC hk7 HNk.out q3
      have z4 := kC hk7 HNk.out q4
      refine hK.out _ _ ⟨z0, z1, z2, z3, z4⟩ (fun hH => ?_)
      clear hK K
      refine tG 8 87 (.pointer (some ⟨yb, 0, none⟩)) rfl hH ?_
      simp only [aP, sA, sZ, sC]
      refine tG 9 88 (.pointer (some ⟨yb, 10, none⟩)) rfl hH ?_
      simp only [aP, sA, sZ, sC]
      refine rY 10 rfl fun K hK => ?_
      obtain ⟨hzf, zv, hzv⟩ := HZc.out D6 w7 hbD6 hk7
      go_simp
      clear hzf hzv
      refine hK.out _ _ ⟨(below_set1 hne2 z0), (below_set1 hne2 z1), (below_set1 hne2 z2), (below_set1 hne2 z3), (below_set1 hne2 z4)⟩ (fun hH => ?_)
      clear hK K
      refine wpAnyH_done (by kernel_rfl) ?_ _
      clear hH
      have HO : Hid (BdE w (w7.setCell ⟨yb, 10, none⟩ (.slice (some ⟨gg, 0, none⟩) (no + 1) cap)) B T Y (.slice la n lc) ys) := (show BdE _ _ _ _ _ _ _ from HEn.out _ (HFn.out D6 w7 gg cap hbD6 ho7 hk7))
      clear hbD6 ho7 hk7 hg7 hl7 z0 q0 y0 z1 q1 y1 z2 q2 y2 z3 q3 y3 z4 q4 y4 hb6a hw6a iq0 k9
      generalize w7.setCell ⟨yb, 10, none⟩ (.slice (some ⟨gg, 0, none⟩) (no + 1) cap) = wq at HO ⊢
      go_wp2
      go_ret
      exact ⟨rfl, HO.out⟩
 ·have j2 : (no : Int) ≥ 24 := by omega
  have j3 : decide ((24 : Int) ≤ (no : Int)) = true := by simp; omega
  have HFu : Hid (BdE w ws B T Y (.slice la n lc) ys) := (show BdE _ _ _ _ _ _ _ from ⟨Y, hs, rfl, rfl, Htn.out.2, rfl, fun j hj => hj.elim .inl fun e => .inr (.inl e), Kept.ofBelow hbs _⟩)
  clear hs hbs c11 f11
  go_wp2
  go_ret
  exact ⟨rfl, HFu.out⟩
theorem bodies_any {la wa : Option Addr} {n lc wc : Nat} {ys os : List Bn} (h : PlOk Y w B T) (ht : Y.tn ≤ (Y.os.length : Int)) (hI : BIn w B Y la n lc ys wa os) (hwr : ∃ Bw, w.ownsRow Bw 40 1 (.slice wa n wc) n (os.map Bn.v)) : Calls Try.prog 41 #[.pointer (some ⟨Y.b, 0, none⟩), .slice la n lc, .slice wa n wc] w fun e w' => e = .returned (.bool true) /\ BdE w w' B T Y (.slice la n lc) ys := by
 by_cases hn : n = 0
 ·exact bodies_zero hn h ht hI hwr
 ·obtain ⟨lb, rfl⟩ := row_addr hI.row (by omega)
  obtain ⟨Bw, h3⟩ := hwr
  obtain ⟨wb, rfl⟩ := row_addr h3 (by omega)
  exact bodies_pos h ht hI ⟨Bw, h3⟩
end
end Go.Proofs.Ythanifbimndhaaa.Ln
