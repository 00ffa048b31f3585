import Derived.Test.YthanifbimndhaaaM28
namespace Go.Proofs.Ythanifbimndhaaa.Ln
set_option maxHeartbeats 40000000
open Go.RowKit Mb
set_option linter.unusedVariables false
set_option maxRecDepth 100000
set_option linter.unusedSimpArgs false
section
variable {w w' W : World} {B T : Nat} {Y : Pl}
theorem frames_zero {la wa : Option Addr} {n lc wc : Nat} {fs gs : List Fm} {tch : Bool} (hn0 : n = 0) (h : PlOk Y w B T) (hI : FrIn w B Y la n lc fs wa gs) : Calls Try.prog 49 #[.pointer (some ⟨Y.b, 0, none⟩), .slice la n lc, .slice wa n wc, .bool tch] w fun e w' => e = .returned (.bool true) /\ FrOut w w' B T Y (.slice la n lc) fs (tch = true) := by
 have Hn0 : Hid (n = 0) := hn0
 clear hn0
 have H : Hid (PlOk Y w B T) := h
 have HI : Hid (FrIn w B Y la n lc fs wa gs) := hI
 have hn := hI.n1
 have hck := h.ck
 obtain ⟨ka, kc, hkv⟩ := row_shape' h.rk
 obtain ⟨nk, hnk⟩ : ∃ n, Y.ks.length = n := ⟨_, rfl⟩
 have Hkv : Hid (Y.kv = .slice ka nk kc /\ Y.ks.length = nk) := (show _ /\ _ from ⟨by rw [hkv, hnk], hnk⟩)
 rw [hnk] at hck
 obtain ⟨yb, hyb⟩ : ∃ b, Y.b = b := ⟨_, rfl⟩
 have Hyb : Hid (Y.b = yb) := hyb
 have c9 : w.cell? ⟨yb, 9, none⟩ = some (.slice ka nk kc) := by rw [<- Hkv.out.1, <- hyb]; exact h.c 9 rfl
 rw [hyb]
 obtain ⟨mk, hmk⟩ : ∃ m : Int, -1000 * ((nk : Int) + 1) = m := ⟨_, rfl⟩
 have hm1 : -25000 ≤ mk := by omega
 have hm2 : mk ≤ 0 := by omega
 have HF0 : Hid (∃ v hs, FL1 w (w.alloc (.cells #[.slice la n lc, .slice none 0 0, .slice none 0 0, .int .i64 mk, .bool false] 48)) la n lc mk gs 0 v hs) := (show ∃ v hs, FL1 _ _ _ _ _ _ _ _ v hs from ⟨_, _, FL1.first⟩)
 clear h hI hkv hnk hyb
 go_enter Try.func49, Try.ntmps49
 go_wp2
 go_loopw [10] (fun v10 wr => ∃ i : Nat, i ≤ n /\ v10 = .int .i64 (i : Int) /\ Hid (∃ v hs, FL1 w wr la n lc mk gs i v hs)) (fun v10 _ => n - (intOf v10).toNat)
 case atStart => exact ⟨0, by omega, rfl, HF0⟩
 case round =>
  clear HF0 c9 hmk
  obtain ⟨i, hi, rfl, hs'⟩ := hrel
  obtain ⟨v, hs, hS⟩ := hs'.out
  clear hs'
  by_cases hlt : i < n
  ·have := Hn0.out
   omega
  ·have hin : i = n := by omega
   subst hin
   have i2 : ¬ (i : Int) < (i : Int) := by omega
   have H1 : Hid (FL1 w wr la i lc mk gs i v hs) := hS
   have hPz := H.out.still hS.bel
   have c9 : wr.cell? ⟨yb, 9, none⟩ = some (.slice ka nk kc) := by rw [<- Hkv.out.1, <- Hyb.out]; exact hPz.c 9 rfl
   have HF : Hid (∃ Yi, FL2 w wr wr B T Y (.slice la i lc) fs (tch = true) 0 Yi) := (show ∃ Yi, FL2 _ _ _ _ _ _ _ _ _ _ Yi from ⟨Y, FL2.first hPz⟩)
   have HFu : Hid (FrOut w wr B T Y (.slice la i lc) fs (tch = true)) := (show FrOut _ _ _ _ _ _ _ _ from fr_full (wa := none) (gs := gs) H.out hS.bel)
   clear hS hlt hi hPz
   generalize wr = wz at *
   by_cases hfull : nk < 24
   ·have j2 : ¬ (nk : Int) ≥ 24 := by omega
    have j3 : decide ((24 : Int) ≤ (nk : Int)) = false := by simp; omega
    clear HFu
    go_wp2
    go_loopw [11] (fun v11 wr => ∃ j : Nat, j ≤ i /\ v11 = .int .i64 (j : Int) /\ Hid (∃ Yi, FL2 w wz wr B T Y (.slice la i lc) fs (tch = true) j Yi)) (fun v11 _ => i - (intOf v11).toNat)
    case atStart => exact ⟨0, by omega, rfl, HF⟩
    case round =>
     clear HF c9 j2 j3
     obtain ⟨j, hj, rfl, hs2⟩ := hrel
     by_cases hlt : j < i
     ·have := Hn0.out
      omega
     ·have hje : j = i := by omega
      rw [hje] at hs2
      rw [hje]
      clear hje hlt hj
      obtain ⟨Yi, h2⟩ := hs2.out
      clear hs2
      obtain ⟨va, vc, hv⟩ := row_shape' H1.out.row
      subst hv
      have hkb := h2.up H.out (fun f hf => (HI.out.bod f hf).1) H1.out.bel H1.out.blk (by decide) (by decide) (.inl (Nat.le_refl _))
      cases tch with
      | false =>
       have y0 : wr.cell? ⟨w.heap.size, 0, none⟩ = some (.slice la i lc) := bC hkb 0
       have y1 : wr.cell? ⟨w.heap.size, 1, none⟩ = some (.slice none 0 0) := bC hkb 1
       have y2 : wr.cell? ⟨w.heap.size, 2, none⟩ = some (.slice va i vc) := bC hkb 2
       have y3 : wr.cell? ⟨w.heap.size, 3, none⟩ = some (.int .i64 mk) := bC hkb 3
       have y4 : wr.cell? ⟨w.heap.size, 4, none⟩ = some (.bool false) := bC hkb 4
       have HOk : Hid (∀ D, Below wr.heap.size wr D -> D.ownsRow B 48 5 (.slice ka nk kc) nk (Y.ks.flatMap Kr.cs)) := fun D hb => (show World.ownsRow _ _ _ _ _ _ _ from by have := own_still h2.ok.rk hb; rw [h2.kv, h2.ks, Hkv.out.1, Hkv.out.2] at this; exact this)
       have HBs : Hid (B ≤ wr.heap.size) := (show _ ≤ _ from h2.ok.bk.b)
       have HNk : Hid (¬ (Value.slice ka nk kc).ownBlock = some w.heap.size) := (show ¬ _ from fun e => by have h9 := H.out.rk; rw [Hkv.out.1] at h9; have := (World.ownsRow.lt h9 _ e).2; omega)
       have k9 : wr.cell? ⟨yb, 9, none⟩ = some (.slice ka nk kc) := by have := h2.ok.c 9 rfl; rw [h2.b, Hyb.out] at this; rw [<- Hkv.out.1, <- h2.kv]; exact this
       have HZc : Hid (∀ D D', Below wr.heap.size wr D -> Kept D D' (fun j => (Value.slice ka nk kc).ownBlock = some j) -> D'.frozen? ⟨yb, 9, none⟩ = false /\ ∃ zv, D'.cell? ⟨yb, 9, none⟩ = some zv) := fun D D' hb hk => (show _ /\ _ from by
        have h8 := h2.ok.bk.k
        rw [h2.b, Hyb.out] at h8
        have h9 := hk.obj (blk_up hb h8) fun e => by
         obtain ⟨C, hC⟩ := own_ty (HOk.out D hb) e
         exact blk_ne hC (blk_up hb h8) (by decide) rfl
        exact ⟨frozen_of_row D' _ 9 _ _ h9, _, bC h9 9⟩)
       have hne2 : w.heap.size ≠ yb := fun e => by
        have h8 := lt_heap H.out.bk.k
        rw [Hyb.out] at h8
        omega
       have HFn : Hid (∀ D w7 gg cap, Below wr.heap.size wr D -> w7.ownsRow B 48 5 (.slice (some ⟨gg, 0, none⟩) (nk + 1) cap) (nk + 1) (Y.ks.flatMap Kr.cs ++ [.slice la i lc, .slice none 0 0, .slice va i vc, .int .i64 mk, .bool false]) -> Kept D w7 (fun j => (Value.slice ka nk kc).ownBlock = some j) -> FrOut w (w7.setCell ⟨yb, 9, none⟩ (.slice (some ⟨gg, 0, none⟩) (nk + 1) cap)) B T Y (.slice la i lc) fs (false = true)) := fun D w7 gg cap hD ho hk => (show FrOut _ _ _ _ _ _ _ _ from by
        rw [<- Hkv.out.1] at hk
        rw [<- Hkv.out.2] at ho ⊢
        rw [<- Hyb.out]
        have eF : (false = true) = False := by simp
        rw [eF] at h2 ⊢
        exact fr_fin0 H.out H.out.bk.b HI.out H1.out h2 ⟨by omega, hm2⟩ (by rw [Hkv.out.2]; exact hfull) hD ho hk)
       clear h2 hkb
       go_wp2
       refine wp_region_held_drew (S := (fun w' => w'.cell? ⟨w.heap.size, 0, none⟩ = some (.slice la i lc) /\ w'.cell? ⟨w.heap.size, 1, none⟩ = some (.slice none 0 0) /\ w'.cell? ⟨w.heap.size, 2, none⟩ = some (.slice va i vc) /\ w'.cell? ⟨w.heap.size, 3, none⟩ = some (.int .i64 mk) /\ w'.cell? ⟨w.heap.size, 4, none⟩ = some (.bool false))) (by kernel_rfl) ⟨(dW0 y0), (dW0 y1), (dW0 y2), (dW0 y3), (dW0 y4)⟩ (fun hH => ?_)
       simp only [Act.put, lA, lC, lN, zA]
       refine tG 0 97 (.pointer (some ⟨yb, 0, none⟩)) rfl hH ?_
       simp only [aP, sA, sZ, sC]
       refine tG 1 98 (.pointer (some ⟨yb, 0, none⟩)) rfl hH ?_
       simp only [aP, sA, sZ, sC]
       refine tG 2 99 (.pointer (some ⟨yb, 0, none⟩)) rfl hH ?_
       simp only [aP, sA, sZ, sC]
       refine tG 3 100 (.pointer (some ⟨yb, 9, none⟩)) rfl hH ?_
       simp only [aP, sA, sZ, sC]
       refine tL 5 102 (.agg #[.slice la i lc, .slice none 0 0, .slice va i vc, .int .i64 mk, .bool false]) rfl hH ?_
       simp only [aP, sA, sZ, sC]
       have hbD6 : Below wr.heap.size wr wr.drew := dB _
       have q0 := bA hbD6 y0
       have q1 := bA hbD6 y1
       have q2 := bA hbD6 y2
       have q3 := bA hbD6 y3
       have q4 := bA hbD6 y4
       have iq0 := bA hbD6 k9
       generalize wr.drew = D6 at *
       refine wpAnyH_ready (rs := [4, 6]) (by kernel_rfl) (by simp) ?_
       refine AllReadyH.cons rfl (fun K hK => ?_) (AllReadyH.cons rfl (fun K hK => ?_) AllReadyH.nil)
       ·have zim := iq0
        go_simp
        clear zim
        refine hK.out _ _ ⟨q0, q1, q2, q3, q4⟩ (fun hH => ?_)
        clear hK K
        refine rY 6 rfl fun K hK => ?_
        go_simp
        refine hK.out _ _ ⟨(aL0 q0), (aL0 q1), (aL0 q2), (aL0 q3), (aL0 q4)⟩ (fun hH => ?_)
        clear hK K
        obtain ⟨w6a, hw6a⟩ : ∃ x, D6.alloc (.cells ([.slice la i lc, .slice none 0 0, .slice va i vc, .int .i64 mk, .bool false] : List Value).toArray 48) = x := ⟨_, rfl⟩
        have hb6a : Below D6.heap.size D6 w6a := by rw [<- hw6a]; exact balloc (Below.refl _ _)
        rw [hw6a] at hH ⊢
        refine rY 7 rfl fun K hK => ?_
        refine step_pushK (B := B) rfl _ _ rfl D6 _ _ [.slice la i lc, .slice none 0 0, .slice va i vc, .int .i64 mk, .bool false] rfl (kr_one _ _ _ _ _ _ _ _ _ _ _) rfl nk (HOk.out D6 hbD6) hw6a.symm rfl (by omega) (Nat.le_trans HBs.out hbD6.size) ?_
        intro gg cap w7 ho7 hk7 hg7 hl7
        have z0 := kC hk7 HNk.out q0
        have z1 := kC hk7 HNk.out q1
        have z2 := kC hk7 HNk.out q2
        have z3 := kC hk7 HNk.out q3
        have z4 := kC hk7 HNk.out q4
        refine hK.out _ _ ⟨z0, z1, z2, z3, z4⟩ (fun hH => ?_)
        clear hK K
        refine tG 8 105 (.pointer (some ⟨yb, 0, none⟩)) rfl hH ?_
        simp only [aP, sA, sZ, sC]
        refine tG 9 106 (.pointer (some ⟨yb, 9, none⟩)) rfl hH ?_
        simp only [aP, sA, sZ, sC]
        refine rY 10 rfl fun K hK => ?_
        obtain ⟨hzf, zv, hzv⟩ := HZc.out D6 w7 hbD6 hk7
        go_simp
        clear hzf hzv
        refine hK.out _ _ ⟨(below_set1 hne2 z0), (below_set1 hne2 z1), (below_set1 hne2 z2), (below_set1 hne2 z3), (below_set1 hne2 z4)⟩ (fun hH => ?_)
        clear hK K
        refine wpAnyH_done (by kernel_rfl) ?_ _
        clear hH
        have HO : Hid (FrOut w (w7.setCell ⟨yb, 9, none⟩ (.slice (some ⟨gg, 0, none⟩) (nk + 1) cap)) B T Y (.slice la i lc) fs (false = true)) := (show FrOut _ _ _ _ _ _ _ _ from (HFn.out D6 w7 gg cap hbD6 ho7 hk7).conv (by simp))
        clear hbD6 ho7 hk7 hg7 hl7 z0 q0 y0 z1 q1 y1 z2 q2 y2 z3 q3 y3 z4 q4 y4 hb6a hw6a iq0 k9
        generalize w7.setCell ⟨yb, 9, none⟩ (.slice (some ⟨gg, 0, none⟩) (nk + 1) cap) = wq at HO ⊢
        go_wp2
        go_ret
        exact ⟨rfl, HO.out.conv (by simp)⟩
       ·go_simp
        refine hK.out _ _ ⟨(aL0 q0), (aL0 q1), (aL0 q2), (aL0 q3), (aL0 q4)⟩ (fun hH => ?_)
        clear hK K
        obtain ⟨w6a, hw6a⟩ : ∃ x, D6.alloc (.cells ([.slice la i lc, .slice none 0 0, .slice va i vc, .int .i64 mk, .bool false] : List Value).toArray 48) = x := ⟨_, rfl⟩
        have hb6a : Below D6.heap.size D6 w6a := by rw [<- hw6a]; exact balloc (Below.refl _ _)
        rw [hw6a] at hH ⊢
        refine rY 4 rfl fun K hK => ?_
        have zim := (bA hb6a iq0)
        go_simp
        clear zim
        refine hK.out _ _ ⟨(bA hb6a q0), (bA hb6a q1), (bA hb6a q2), (bA hb6a q3), (bA hb6a q4)⟩ (fun hH => ?_)
        clear hK K
        refine rY 7 rfl fun K hK => ?_
        refine step_pushK (B := B) rfl _ _ rfl D6 _ _ [.slice la i lc, .slice none 0 0, .slice va i vc, .int .i64 mk, .bool false] rfl (kr_one _ _ _ _ _ _ _ _ _ _ _) rfl nk (HOk.out D6 hbD6) hw6a.symm rfl (by omega) (Nat.le_trans HBs.out hbD6.size) ?_
        intro gg cap w7 ho7 hk7 hg7 hl7
        have z0 := kC hk7 HNk.out q0
        have z1 := kC hk7 HNk.out q1
        have z2 := kC hk7 HNk.out q2
        have z3 := kC hk7 HNk.out q3
        have z4 := kC hk7 HNk.out q4
        refine hK.out _ _ ⟨z0, z1, z2, z3, z4⟩ (fun hH => ?_)
        clear hK K
        refine tG 8 105 (.pointer (some ⟨yb, 0, none⟩)) rfl hH ?_
        simp only [aP, sA, sZ, sC]
        refine tG 9 106 (.pointer (some ⟨yb, 9, none⟩)) rfl hH ?_
        simp only [aP, sA, sZ, sC]
        refine rY 10 rfl fun K hK => ?_
        obtain ⟨hzf, zv, hzv⟩ := HZc.out D6 w7 hbD6 hk7
        go_simp
        clear hzf hzv
        refine hK.out _ _ ⟨(below_set1 hne2 z0), (below_set1 hne2 z1), (below_set1 hne2 z2), (below_set1 hne2 z3), (below_set1 hne2 z4)⟩ (fun hH => ?_)
        clear hK K
        refine wpAnyH_done (by kernel_rfl) ?_ _
        clear hH
        have HO : Hid (FrOut w (w7.setCell ⟨yb, 9, none⟩ (.slice (some ⟨gg, 0, none⟩) (nk + 1) cap)) B T Y (.slice la i lc) fs (false = true)) := (show FrOut _ _ _ _ _ _ _ _ from (HFn.out D6 w7 gg cap hbD6 ho7 hk7).conv (by simp))
        clear hbD6 ho7 hk7 hg7 hl7 z0 q0 y0 z1 q1 y1 z2 q2 y2 z3 q3 y3 z4 q4 y4 hb6a hw6a iq0 k9
        generalize w7.setCell ⟨yb, 9, none⟩ (.slice (some ⟨gg, 0, none⟩) (nk + 1) cap) = wq at HO ⊢
        go_wp2
        go_ret
        exact ⟨rfl, HO.out.conv (by simp)⟩
      | true =>
       have HWr : Hid (Calls Try.prog 17 #[.pointer (some ⟨w.heap.size, 0, none⟩)] wr fun e w' => e = .returned (.tuple #[]) /\ WrO wr w' B la i lc mk w.heap.size 0 #[.slice la i lc, .slice none 0 0, .slice va i vc, .int .i64 mk, .bool false]) := (show Calls _ _ _ _ _ from write_any (h2.lift H.out HI.out H1.out.bel) h2.ok.bk.b hkb rfl ⟨_, rfl⟩ rfl ⟨_, rfl⟩ (by omega) ⟨by omega, hm2⟩)
       have H2 : Hid (FL2 w wz wr B T Y (.slice la i lc) fs (true = true) i Yi) := h2
       have Hkb : Hid (wr.heap[w.heap.size]? = some (.cells #[.slice la i lc, .slice none 0 0, .slice va i vc, .int .i64 mk, .bool false] 48 (0, 0))) := hkb
       clear h2 hkb
       go_wp2_with (first | (go_at_call 17; refine HWr.out.mono ?_) | fail)
       rintro e wy he hwo
       subst he
       obtain ⟨ga, gc, w1, w2b, ⟨xs, w3⟩, ⟨ys, w4⟩, w5, w6⟩ := hwo.out
       have h2 := H2.out
       have eT : (true = true) = True := by simp
       try rw [eT] at h2
       have hq := fr_keep1 H.out HI.out H1.out h2 Hkb.out w5
       have y0 : wy.cell? ⟨w.heap.size, 0, none⟩ = some (.slice la i lc) := bC w2b 0
       have y1 : wy.cell? ⟨w.heap.size, 1, none⟩ = some (.slice ga (i + 64) gc) := bC w2b 1
       have y2 : wy.cell? ⟨w.heap.size, 2, none⟩ = some (.slice va i vc) := bC w2b 2
       have y3 : wy.cell? ⟨w.heap.size, 3, none⟩ = some (.int .i64 mk) := bC w2b 3
       have y4 : wy.cell? ⟨w.heap.size, 4, none⟩ = some (.bool true) := bC w2b 4
       have HOk : Hid (∀ D, Below wy.heap.size wy D -> D.ownsRow B 48 5 (.slice ka nk kc) nk (Y.ks.flatMap Kr.cs)) := fun D hb => (show World.ownsRow _ _ _ _ _ _ _ from by have := own_still hq.rk hb; rw [h2.kv, h2.ks, Hkv.out.1, Hkv.out.2] at this; exact this)
       have HBs : Hid (B ≤ wy.heap.size) := (show _ ≤ _ from hq.bk.b)
       have HNk : Hid (¬ (Value.slice ka nk kc).ownBlock = some w.heap.size) := (show ¬ _ from fun e => by have h9 := H.out.rk; rw [Hkv.out.1] at h9; have := (World.ownsRow.lt h9 _ e).2; omega)
       have k9 : wy.cell? ⟨yb, 9, none⟩ = some (.slice ka nk kc) := by have := hq.c 9 rfl; rw [h2.b, Hyb.out] at this; rw [<- Hkv.out.1, <- h2.kv]; exact this
       have HZc : Hid (∀ D D', Below wy.heap.size wy D -> Kept D D' (fun j => (Value.slice ka nk kc).ownBlock = some j) -> D'.frozen? ⟨yb, 9, none⟩ = false /\ ∃ zv, D'.cell? ⟨yb, 9, none⟩ = some zv) := fun D D' hb hk => (show _ /\ _ from by
        have h8 := hq.bk.k
        rw [h2.b, Hyb.out] at h8
        have h9 := hk.obj (blk_up hb h8) fun e => by
         obtain ⟨C, hC⟩ := own_ty (HOk.out D hb) e
         exact blk_ne hC (blk_up hb h8) (by decide) rfl
        exact ⟨frozen_of_row D' _ 9 _ _ h9, _, bC h9 9⟩)
       have hne2 : w.heap.size ≠ yb := fun e => by
        have h8 := lt_heap H.out.bk.k
        rw [Hyb.out] at h8
        omega
       have HFn : Hid (∀ D w7 gg cap, Below wy.heap.size wy D -> w7.ownsRow B 48 5 (.slice (some ⟨gg, 0, none⟩) (nk + 1) cap) (nk + 1) (Y.ks.flatMap Kr.cs ++ [.slice la i lc, .slice ga (i + 64) gc, .slice va i vc, .int .i64 mk, .bool true]) -> Kept D w7 (fun j => (Value.slice ka nk kc).ownBlock = some j) -> FrOut w (w7.setCell ⟨yb, 9, none⟩ (.slice (some ⟨gg, 0, none⟩) (nk + 1) cap)) B T Y (.slice la i lc) fs (true = true)) := fun D w7 gg cap hD ho hk => (show FrOut _ _ _ _ _ _ _ _ from by
        rw [<- Hkv.out.1] at hk
        rw [<- Hkv.out.2] at ho ⊢
        rw [<- Hyb.out]
        rw [eT]
        exact fr_fin1 H.out HI.out H1.out h2 Hkb.out w5 w1 w3 w4 w6 ⟨by omega, hm2⟩ (by rw [Hkv.out.2]; exact hfull) hD ho hk)
       clear h2 hq w1 w2b w3 w4 w5 w6 hwo H2 Hkb HWr eT
       go_wp2
       refine wp_region_held_drew (S := (fun w' => w'.cell? ⟨w.heap.size, 0, none⟩ = some (.slice la i lc) /\ w'.cell? ⟨w.heap.size, 1, none⟩ = some (.slice ga (i + 64) gc) /\ w'.cell? ⟨w.heap.size, 2, none⟩ = some (.slice va i vc) /\ w'.cell? ⟨w.heap.size, 3, none⟩ = some (.int .i64 mk) /\ w'.cell? ⟨w.heap.size, 4, none⟩ = some (.bool true))) (by kernel_rfl) ⟨(dW0 y0), (dW0 y1), (dW0 y2), (dW0 y3), (dW0 y4)⟩ (fun hH => ?_)
       simp only [Act.put, lA, lC, lN, zA]
       refine tG 0 97 (.pointer (some ⟨yb, 0, none⟩)) rfl hH ?_
       simp only [aP, sA, sZ, sC]
       refine tG 1 98 (.pointer (some ⟨yb, 0, none⟩)) rfl hH ?_
       simp only [aP, sA, sZ, sC]
       refine tG 2 99 (.pointer (some ⟨yb, 0, none⟩)) rfl hH ?_
       simp only [aP, sA, sZ, sC]
       refine tG 3 100 (.pointer (some ⟨yb, 9, none⟩)) rfl hH ?_
       simp only [aP, sA, sZ, sC]
       refine tL 5 102 (.agg #[.slice la i lc, .slice ga (i + 64) gc, .slice va i vc, .int .i64 mk, .bool true]) rfl hH ?_
       simp only [aP, sA, sZ, sC]
       have hbD6 : Below wy.heap.size wy wy.drew := dB _
       have q0 := bA hbD6 y0
       have q1 := bA hbD6 y1
       have q2 := bA hbD6 y2
       have q3 := bA hbD6 y3
       have q4 := bA hbD6 y4
       have iq0 := bA hbD6 k9
       generalize wy.drew = D6 at *
       refine wpAnyH_ready (rs := [4, 6]) (by kernel_rfl) (by simp) ?_
       refine AllReadyH.cons rfl (fun K hK => ?_) (AllReadyH.cons rfl (fun K hK => ?_) AllReadyH.nil)
       ·have zim := iq0
        go_simp
        clear zim
        refine hK.out _ _ ⟨q0, q1, q2, q3, q4⟩ (fun hH => ?_)
        clear hK K
        refine rY 6 rfl fun K hK => ?_
        go_simp
        refine hK.out _ _ ⟨(aL0 q0), (aL0 q1), (aL0 q2), (aL0 q3), (aL0 q4)⟩ (fun hH => ?_)
        clear hK K
        obtain ⟨w6a, hw6a⟩ : ∃ x, D6.alloc (.cells ([.slice la i lc, .slice ga (i + 64) gc, .slice va i vc, .int .i64 mk, .bool true] : List Value).toArray 48) = x := ⟨_, rfl⟩
        have hb6a : Below D6.heap.size D6 w6a := by rw [<- hw6a]; exact balloc (Below.refl _ _)
        rw [hw6a] at hH ⊢
        refine rY 7 rfl fun K hK => ?_
        refine step_pushK (B := B) rfl _ _ rfl D6 _ _ [.slice la i lc, .slice ga (i + 64) gc, .slice va i vc, .int .i64 mk, .bool true] rfl (kr_one _ _ _ _ _ _ _ _ _ _ _) rfl nk (HOk.out D6 hbD6) hw6a.symm rfl (by omega) (Nat.le_trans HBs.out hbD6.size) ?_
        intro gg cap w7 ho7 hk7 hg7 hl7
        have z0 := kC hk7 HNk.out q0
        have z1 := kC hk7 HNk.out q1
        have z2 := kC hk7 HNk.out q2
        have z3 := kC hk7 HNk.out q3
        have z4 := kC hk7 HNk.out q4
        refine hK.out _ _ ⟨z0, z1, z2, z3, z4⟩ (fun hH => ?_)
        clear hK K
        refine tG 8 105 (.pointer (some ⟨yb, 0, none⟩)) rfl hH ?_
        simp only [aP, sA, sZ, sC]
        refine tG 9 106 (.pointer (some ⟨yb, 9, none⟩)) rfl hH ?_
        simp only [aP, sA, sZ, sC]
        refine rY 10 rfl fun K hK => ?_
        obtain ⟨hzf, zv, hzv⟩ := HZc.out D6 w7 hbD6 hk7
        go_simp
        clear hzf hzv
        refine hK.out _ _ ⟨(below_set1 hne2 z0), (below_set1 hne2 z1), (below_set1 hne2 z2), (below_set1 hne2 z3), (below_set1 hne2 z4)⟩ (fun hH => ?_)
        clear hK K
        refine wpAnyH_done (by kernel_rfl) ?_ _
        clear hH
        have HO : Hid (FrOut w (w7.setCell ⟨yb, 9, none⟩ (.slice (some ⟨gg, 0, none⟩) (nk + 1) cap)) B T Y (.slice la i lc) fs (true = true)) := (show FrOut _ _ _ _ _ _ _ _ from (HFn.out D6 w7 gg cap hbD6 ho7 hk7).conv (by simp))
        clear hbD6 ho7 hk7 hg7 hl7 z0 q0 y0 z1 q1 y1 z2 q2 y2 z3 q3 y3 z4 q4 y4 hb6a hw6a iq0 k9
        generalize w7.setCell ⟨yb, 9, none⟩ (.slice (some ⟨gg, 0, none⟩) (nk + 1) cap) = wq at HO ⊢
        go_wp2
        go_ret
        exact ⟨rfl, HO.out.conv (by simp)⟩
       ·go_simp
        refine hK.out _ _ ⟨(aL0 q0), (aL0 q1), (aL0 q2), (aL0 q3), (aL0 q4)⟩ (fun hH => ?_)
        clear hK K
        obtain ⟨w6a, hw6a⟩ : ∃ x, D6.alloc (.cells ([.slice la i lc, .slice ga (i + 64) gc, .slice va i vc, .int .i64 mk, .bool true] : List Value).toArray 48) = x := ⟨_, rfl⟩
        have hb6a : Below D6.heap.size D6 w6a := by rw [<- hw6a]; exact balloc (Below.refl _ _)
        rw [hw6a] at hH ⊢
        refine rY 4 rfl fun K hK => ?_
        have zim := (bA hb6a iq0)
        go_simp
        clear zim
        refine hK.out _ _ ⟨(bA hb6a q0), (bA hb6a q1), (bA hb6a q2), (bA hb6a q3), (bA hb6a q4)⟩ (fun hH => ?_)
        clear hK K
        refine rY 7 rfl fun K hK => ?_
        refine step_pushK (B := B) rfl _ _ rfl D6 _ _ [.slice la i lc, .slice ga (i + 64) gc, .slice va i vc, .int .i64 mk, .bool true] rfl (kr_one _ _ _ _ _ _ _ _ _ _ _) rfl nk (HOk.out D6 hbD6) hw6a.symm rfl (by omega) (Nat.le_trans HBs.out hbD6.size) ?_
        intro gg cap w7 ho7 hk7 hg7 hl7
        have z0 := kC hk7 HNk.out q0
        have z1 := kC hk7 HNk.out q1
        have z2 := kC hk7 HNk.out q2
        have z3 := kC hk7 HNk.out q3
        have z4 := kC hk7 HNk.out q4
        refine hK.out _ _ ⟨z0, z1, z2, z3, z4⟩ (fun hH => ?_)
        clear hK K
        refine tG 8 105 (.pointer (some ⟨yb, 0, none⟩)) rfl hH ?_
        simp only [aP, sA, sZ, sC]
        refine tG 9 106 (.pointer (some ⟨yb, 9, none⟩)) rfl hH ?_
        simp only [aP, sA, sZ, sC]
        refine rY 10 rfl fun K hK => ?_
        obtain ⟨hzf, zv, hzv⟩ := HZc.out D6 w7 hbD6 hk7
        go_simp
        clear hzf hzv
        refine hK.out _ _ ⟨(below_set1 hne2 z0), (below_set1 hne2 z1), (below_set1 hne2 z2), (below_set1 hne2 z3), (below_set1 hne2 z4)⟩ (fun hH => ?_)
        clear hK K
        refine wpAnyH_done (by kernel_rfl) ?_ _
        clear hH
        have HO : Hid (FrOut w (w7.setCell ⟨yb, 9, none⟩ (.slice (some ⟨gg, 0, none⟩) (nk + 1) cap)) B T Y (.slice la i lc) fs (true = true)) := (show FrOut _ _ _ _ _ _ _ _ from (HFn.out D6 w7 gg cap hbD6 ho7 hk7).conv (by simp))
        clear hbD6 ho7 hk7 hg7 hl7 z0 q0 y0 z1 q1 y1 z2 q2 y2 z3 q3 y3 z4 q4 y4 hb6a hw6a iq0 k9
        generalize w7.setCell ⟨yb, 9, none⟩ (.slice (some ⟨gg, 0, none⟩) (nk + 1) cap) = wq at HO ⊢
        go_wp2
        go_ret
        exact ⟨rfl, HO.out.conv (by simp)⟩
   ·have j2 : (nk : Int) ≥ 24 := by omega
    have j3 : decide ((24 : Int) ≤ (nk : Int)) = true := by simp; omega
    clear HF H1
    go_wp2
    go_ret
    exact ⟨rfl, HFu.out.conv (by simp)⟩
theorem frames_any {la wa : Option Addr} {n lc wc : Nat} {fs gs : List Fm} {tch : Bool} (h : PlOk Y w B T) (hI : FrIn w B Y la n lc fs wa gs) : Calls Try.prog 49 #[.pointer (some ⟨Y.b, 0, none⟩), .slice la n lc, .slice wa n wc, .bool tch] w fun e w' => e = .returned (.bool true) /\ FrOut w w' B T Y (.slice la n lc) fs (tch = true) := by
 by_cases hn : n = 0
 ·exact frames_zero hn h hI
 ·obtain ⟨lb, rfl⟩ := row_addr hI.row (by omega)
  obtain ⟨wb, rfl⟩ := hI.wrow.addr (by omega)
  exact frames_pos h hI
end
end Go.Proofs.Ythanifbimndhaaa.Ln
