import Derived.Test.YthanifbimndhaaaM25
namespace Go.Proofs.Ythanifbimndhaaa.Ln
set_option maxHeartbeats 40000000
open Go.RowKit Mb
set_option linter.unusedVariables false
set_option maxRecDepth 100000
set_option linter.unusedSimpArgs false
section
variable {w w' W w1 : World} {B T : Nat} {Y Y1 : Pl}
structure BdE (w w' : World) (B T : Nat) (Y : Pl) (L : Value) (ys : List Bn) : Prop where
 out : ∃ Y', PlOk Y' w' B T /\ Y'.b = Y.b /\ Y'.M = Y.M /\ Y'.tn ≤ (Y'.os.length : Int) /\ Y'.ks = Y.ks /\ (∀ j, Y'.of j ∨ Y'.pf j -> Y.of j ∨ Y.pf j ∨ OLset L ys j ∨ w.heap.size ≤ j) /\ Kept w w' (fun j => j = Y.b ∨ tyP B w j ∨ tyO B w j ∨ OLset L ys j)
theorem BdOut.e {ws : World} {tt : Int} {L : Value} {ys : List Bn} (h : PlOk Y w B T) (hb : Below w.heap.size w ws) (hw : ws.setCell ⟨Y.b, 11, none⟩ (.int .i64 tt) = w1) (hY : Y1 = { Y with tn := Y.tn + 1 }) (ht : Y.tn ≤ (Y.os.length : Int)) (ho : BdOut w1 w' B T Y1 L ys) : BdE w w' B T Y L ys := by
 obtain ⟨Y', h1, h2, h3, h4, h5, hk5, hp5, h6⟩ := ho.out
 subst hY
 have k1 : Kept w w1 (fun j => j = Y.b) := by rw [<- hw]; exact (Kept.ofBelow hb _).trans (kset (P := fun j => j = Y.b) _ _ _ _ rfl)
 have hup : ∀ j, j < w.heap.size -> j ≠ Y.b -> w1.heap[j]? = w.heap[j]? := fun j hj hn => k1.block j hj hn
 refine ⟨Y', h1, h2, h3, by rw [h4, h5]; show Y.tn + 1 ≤ ((Y.os.length + 1 : Nat) : Int); omega, hk5, fun j hj => (hp5 j hj).imp id fun e => e.imp id fun e => e.imp id fun e => Nat.le_trans k1.size e, (k1.mono fun j _ e => .inl e).step h6 fun j hj => ?_⟩
 by_cases hjw : j < w.heap.size
 ·left
  by_cases hjb : j = Y.b
  ·exact .inl hjb
  ·rcases hj with e | ⟨C, hC⟩ | ⟨C, hC⟩ | e
   ·exact .inl e
   ·exact .inr (.inl ⟨C, by rw [<- hup j hjw hjb]; exact hC⟩)
   ·exact .inr (.inr (.inl ⟨C, by rw [<- hup j hjw hjb]; exact hC⟩))
   ·exact .inr (.inr (.inr e))
 ·exact .inr (by omega)
theorem bodies_pos {lb wb n lc wc : Nat} {ys os : List Bn} (h : PlOk Y w B T) (ht : Y.tn ≤ (Y.os.length : Int)) (hI : BIn w B Y (some ⟨lb, 0, none⟩) n lc ys (some ⟨wb, 0, none⟩) os) (hwr : ∃ Bw, w.ownsRow Bw 40 1 (.slice (some ⟨wb, 0, none⟩) n wc) n (os.map Bn.v)) : Calls Try.prog 41 #[.pointer (some ⟨Y.b, 0, none⟩), .slice (some ⟨lb, 0, none⟩) n lc, .slice (some ⟨wb, 0, none⟩) n wc] w fun e w' => e = .returned (.bool true) /\ BdE w w' B T Y (.slice (some ⟨lb, 0, none⟩) n lc) ys := by
 have H0 : Hid (PlOk Y w B T) := h
 have HI0 : Hid (BIn w B Y (some ⟨lb, 0, none⟩) n lc ys (some ⟨wb, 0, none⟩) os) := hI
 have hn := hI.n1
 have hco := h.co
 have htb := h.tb
 obtain ⟨oa, oc, hov⟩ := row_shape' h.ro
 obtain ⟨no, hno⟩ : ∃ n, Y.os.length = n := ⟨_, rfl⟩
 have Hov0 : Hid (Y.ov = .slice oa no oc /\ Y.os.length = no) := (show _ /\ _ from ⟨by rw [hov, hno], hno⟩)
 obtain ⟨yb, hyb⟩ : ∃ b, Y.b = b := ⟨_, rfl⟩
 have Hyb0 : Hid (Y.b = yb) := hyb
 obtain ⟨tn, htn⟩ : ∃ t, Y.tn = t := ⟨_, rfl⟩
 have Htn : Hid (Y.tn = tn /\ Y.tn ≤ (Y.os.length : Int)) := (show _ /\ _ from ⟨htn, ht⟩)
 rw [hno, htn] at ht htb
 rw [hno] at hco
 have t1 : 0 ≤ tn := htb.1
 have t2 : tn ≤ 24 := by omega
 have HSL : Hid (Calls Try.prog 80 #[.slice (some ⟨lb, 0, none⟩) n lc, .slice (some ⟨wb, 0, none⟩) n wc] w fun e w' => e = .returned (.bool true) /\ Below w.heap.size w w') := (show Calls _ _ _ _ _ from by
  obtain ⟨Bw, h3⟩ := hwr
  have l1 := hI.len.1
  have l2 := hI.len.2
  have r1 := hI.row
  rw [<- l1] at r1
  have r2 := h3
  rw [<- l2] at r2
  have q1 := RdL.of r1 fun y hy => by
   have hb := hI.bod y hy
   have e3 : (⟨y.k, y.bs.length, y.bs⟩ : Bn) = y := by rw [<- hb.2]
   rw [<- e3]
   exact hb.1.bn
  have q2 : RdL w (.slice (some ⟨wb, 0, none⟩) os.length wc) os := RdL.of (B := Nat.min Bw B) (own_lower r2 (Nat.min_le_left _ _)) fun z hz => { hI.wok z hz with lo := Nat.le_trans (Nat.min_le_right _ _) (hI.wok z hz).lo }
  have := lists_yes q1 q2 hI.eq (by omega)
  rw [l1, l2] at this
  exact this)
 rw [hyb]
 clear h hI hov hno hyb htn hwr htb ht
 go_enter Try.func41, Try.ntmps41
 go_wp2_with (first | (go_at_call 80; refine HSL.out.mono ?_) | fail)
 rintro e ws ⟨rfl, hbs⟩
 have hs := H0.out.still hbs
 have c10 : ws.cell? ⟨yb, 10, none⟩ = some (.slice oa no oc) := by rw [<- Hov0.out.1, <- Hyb0.out]; exact hs.c 10 rfl
 have c11 : ws.cell? ⟨yb, 11, none⟩ = some (.int .i64 tn) := by rw [<- Htn.out.1, <- Hyb0.out]; exact hs.c 11 rfl
 have f11 : ws.frozen? ⟨yb, 11, none⟩ = false := by rw [<- Hyb0.out]; exact frozen_of_row ws _ 11 _ _ hs.bk.k
 by_cases hfull : no < 24
 ·have j2 : ¬ (no : Int) ≥ 24 := by omega
  have j3 : decide ((24 : Int) ≤ (no : Int)) = false := by simp; omega
  obtain ⟨tt, htt⟩ : ∃ t : Int, tn + 1 = t := ⟨_, rfl⟩
  have t3 : 0 ≤ tt := by omega
  have t4 : tt ≤ 25 := by omega
  obtain ⟨mk, hmk⟩ : ∃ m : Int, (no : Int) + 1 = m := ⟨_, rfl⟩
  have hm1 : 0 ≤ mk := by omega
  have hm2 : mk ≤ 255 := by omega
  generalize hw1 : ws.setCell ⟨yb, 11, none⟩ (.int .i64 tt) = w1
  obtain ⟨Y1, hY1⟩ : ∃ y : Pl, y = { Y with tn := Y.tn + 1 } := ⟨_, rfl⟩
  have hP1 : PlOk Y1 w1 B T := by
   have h9 := hs.turn Htn.out.2
   rw [Htn.out.1, htt, Hyb0.out, hw1] at h9
   rw [hY1, Htn.out.1, htt, Hyb0.out]
   exact h9
  have k1 : Kept ws w1 (fun j => j = Y.b) := by rw [<- hw1, Hyb0.out]; exact kset (P := fun j => j = yb) _ _ _ _ rfl
  have H : Hid (PlOk Y1 w1 B T) := hP1
  have HI : Hid (BIn w1 B Y1 (some ⟨lb, 0, none⟩) n lc ys (some ⟨wb, 0, none⟩) os) := (show BIn _ _ _ _ _ _ _ _ _ from by
   have h8 := HI0.out.keep (Y' := Y) (Kept.ofBelow hbs (fun _ => False)) (fun _ _ => id) rfl rfl rfl rfl
   refine h8.keep k1 (fun hj ht e => ?_) (by rw [hY1]) (by rw [hY1]) (by rw [hY1]) (by rw [hY1])
   rw [e] at hj
   exact blk_ne hj hs.bk.k (by rcases ht with rfl | rfl <;> decide) rfl)
  have Hyb : Hid (Y1.b = yb) := (show _ = _ from by rw [hY1]; exact Hyb0.out)
  have Hov : Hid (Y1.ov = .slice oa no oc /\ Y1.os.length = no) := (show _ /\ _ from by rw [hY1]; exact Hov0.out)
  have Htt : Hid (Y1.tn = tt) := (show _ = _ from by rw [hY1]; show Y.tn + 1 = tt; rw [Htn.out.1]; exact htt)
  have HEn : Hid (∀ w', BdOut w1 w' B T Y1 (.slice (some ⟨lb, 0, none⟩) n lc) ys -> BdE w w' B T Y (.slice (some ⟨lb, 0, none⟩) n lc) ys) := fun w' ho => (show BdE _ _ _ _ _ _ _ from BdOut.e H0.out hbs (by rw [Hyb0.out]; exact hw1) hY1 Htn.out.2 ho)
  have d10 : w1.cell? ⟨yb, 10, none⟩ = some (.slice oa no oc) := by rw [<- Hov.out.1, <- Hyb.out]; exact hP1.c 10 rfl
  obtain ⟨tc, htc⟩ : ∃ tc : Prop, (Int.tmod tt 2 = 0) = tc := ⟨_, rfl⟩
  have Htc : Hid ((Int.tmod tt 2 = 0) = tc) := htc
  have Hpar : Hid (Int.tmod tt 2 = 0 ∨ Int.tmod tt 2 = 1) := (show _ ∨ _ from by rw [Int.tmod_eq_emod_of_nonneg t3]; omega)
  have HF0 : Hid (∃ v zs Yi, BL w1 (w1.alloc (.cells #[.slice (some ⟨lb, 0, none⟩) n lc, .slice none 0 0, .slice none 0 0, .int .i64 mk, .bool false] 51)) B T Y1 (.slice (some ⟨lb, 0, none⟩) n lc) mk ys os tc 0 0 v zs Yi) := (show ∃ v zs Yi, BL _ _ _ _ _ _ _ _ _ _ _ _ v zs Yi from ⟨_, _, _, BL.first hP1⟩)
  clear htc hP1 k1 hY1 hs HSL
  go_wp2
  clear c10 c11 f11 d10 hw1 htt hmk j2 j3
  go_loopw [8] (fun v8 wr => ∃ i : Nat, i ≤ n /\ v8 = .int .i64 (i : Int) /\ Hid (∃ v zs Yi, BL w1 wr B T Y1 (.slice (some ⟨lb, 0, none⟩) n lc) mk ys os tc i i v zs Yi)) (fun v8 _ => n - (intOf v8).toNat)
  case atStart => exact ⟨0, by omega, rfl, HF0⟩
  case round =>
   clear HF0
   obtain ⟨i, hi, rfl, hs'⟩ := hrel
   obtain ⟨v, zs, Yi, hS⟩ := hs'.out
   clear hs'
   by_cases hlt : i < n
   ·have i1 : (0 : Int) ≤ (i : Int) := Int.natCast_nonneg _
    have i2 : (i : Int) < (n : Int) := by omega
    obtain ⟨f, hf⟩ : ∃ f, ys[i]? = some f := ⟨_, List.getElem?_eq_getElem (by rw [HI.out.len.1]; exact hlt)⟩
    obtain ⟨o, ho⟩ : ∃ f, os[i]? = some f := ⟨_, List.getElem?_eq_getElem (by rw [HI.out.len.2]; exact hlt)⟩
    have hwt := hS.want H.out HI.out
    obtain ⟨⟨Bw, wc2, hwr⟩, hok⟩ := hwt
    have hoo := hok o (List.mem_of_getElem? ho)
    have x0 : wr.cell? ⟨wb, i, none⟩ = some (.slice (some ⟨o.k, 0, none⟩) o.bs.length o.c) := by
     rw [World.ownsRow.cellAt hwr i (by omega), List.getElem?_map, ho]; rfl
    obtain ⟨va, vc, hv⟩ := row_shape' hS.row
    subst hv
    have vev : wr.cell? ⟨w1.heap.size, 2, none⟩ = some (.slice va i vc) := bC hS.blk 2
    have HOw : Hid (∀ D, Below wr.heap.size wr D -> D.ownsRow w1.heap.size 40 1 (.slice va i vc) i (zs.map Bn.v)) := fun D hb => own_still hS.row hb
    have HB0 : Hid (w1.heap.size ≤ wr.heap.size) := (show _ ≤ _ from hS.kept.size)
    have hwlt : wb < w1.heap.size := by
     obtain ⟨Bx, wx, hx⟩ := HI.out.wrow
     exact (World.ownsRow.lt hx wb rfl).2
    have HNw : Hid (¬ (Value.slice va i vc).ownBlock = some wb) := (show ¬ _ from fun e => by have := (World.ownsRow.lt hS.row wb e).1; omega)
    have HCp : Hid (∀ D, Below wr.heap.size wr D -> Calls Try.prog 65 #[.slice (some ⟨o.k, 0, none⟩) o.bs.length o.c] D fun e w' => CpO D w' o.bs e) := fun D hb => (show Calls _ _ _ _ _ from copied_any (hoo.still hb).rd hoo.pos hoo.le)
    have hnk2 : ¬ (Value.slice va i vc).ownBlock = some w1.heap.size := fun e => by
     obtain ⟨C, hC⟩ := own_ty hS.row e
     exact blk_ne hC hS.blk (by decide) rfl
    have HZc : Hid (∀ D D', Below wr.heap.size wr D -> Kept D D' (fun j => (Value.slice va i vc).ownBlock = some j) -> D'.frozen? ⟨w1.heap.size, 2, none⟩ = false /\ ∃ zv, D'.cell? ⟨w1.heap.size, 2, none⟩ = some zv) := fun D D' hb hk => (show _ /\ _ from by
     have h1 := hk.obj (blk_up hb hS.blk) hnk2
     exact ⟨frozen_of_row D' _ 2 _ _ h1, _, bC h1 2⟩)
    have HNx : Hid (∀ D w6 w7 (y : Bn) gg cap, Below wr.heap.size wr D -> Below D.heap.size D w6 -> y.Ok w6 D.heap.size -> y.bs = o.bs -> w7.ownsRow w1.heap.size 40 1 (.slice (some ⟨gg, 0, none⟩) (i + 1) cap) (i + 1) (zs.map Bn.v ++ [.slice (some ⟨y.k, 0, none⟩) y.bs.length y.c]) -> Kept w6 w7 (fun j => (Value.slice va i vc).ownBlock = some j) -> ∃ v zs Yi, BL w1 (w7.setCell ⟨w1.heap.size, 2, none⟩ (.slice (some ⟨gg, 0, none⟩) (i + 1) cap)) B T Y1 (.slice (some ⟨lb, 0, none⟩) n lc) mk ys os tc (i + 1) i v zs Yi) := fun D w6 w7 y gg cap h1 h2 h3 h4 h5 h6 => (show ∃ v zs Yi, BL _ _ _ _ _ _ _ _ _ _ _ _ v zs Yi from ⟨_, _, _, hS.app H.out ho (bstep h1 h2) { h3 with lo := Nat.le_trans h1.size h3.lo } h4 h5 h6⟩)
    have hne2 : wb ≠ w1.heap.size := by omega
    have Hf : Hid (ys[i]? = some f /\ f.c = f.bs.length) := (show _ /\ _ from ⟨hf, (HI.out.bod f (List.mem_of_getElem? hf)).2⟩)
    clear hS hlt hf ho hwr hok hoo hnk2 hwlt
    go_upto_region 10 with (fail)
    go_cut [49] (fun _ wx => Hid (∃ v zs Yi, BL w1 wx B T Y1 (.slice (some ⟨lb, 0, none⟩) n lc) mk ys os tc (i + 1) i v zs Yi))
    case first =>
     go_wp2_with (fail)
     refine wp_region_held_drew (S := (fun w' => w'.cell? ⟨wb, i, none⟩ = some (.slice (some ⟨o.k, 0, none⟩) o.bs.length o.c))) (by kernel_rfl) (dW0 x0) (fun hH => ?_)
     simp only [Act.put, lA, lC, lN, zA]
     refine tG 0 40 (.pointer (some ⟨w1.heap.size, 2, none⟩)) rfl hH ?_
     simp only [aP, sA, sZ, sC]
     refine tG 2 42 (.slice (some ⟨wb, 0, none⟩) n wc) rfl hH ?_
     simp only [aP, sA, sZ, sC]
     refine tG 3 43 (.int .i64 (i : Int)) rfl hH ?_
     simp only [aP, sA, sZ, sC]
     refine tG 4 44 (.pointer (some ⟨wb, i, none⟩)) rfl hH ?_
     simp only [aP, sA, sZ, sC]
     refine tL 5 45 (.slice (some ⟨o.k, 0, none⟩) o.bs.length o.c) rfl hH ?_
     simp only [aP, sA, sZ, sC]
     have hbD6 : Below wr.heap.size wr wr.drew := dB _
     have q0 := bA hbD6 x0
     have iq0 := bA hbD6 vev
     generalize wr.drew = D6 at *
     refine wpAnyH_ready (rs := [1, 6]) (by kernel_rfl) (by simp) ?_
     refine AllReadyH.cons rfl (fun K hK => ?_) (AllReadyH.cons rfl (fun K hK => ?_) AllReadyH.nil)
     ·have zim := iq0
      go_simp
      clear zim
      refine hK.out _ _ q0 (fun hH => ?_)
      clear hK K
      refine rY 6 rfl fun K hK => ?_
      go_simp
      refine (HCp.out D6 hbD6).mono ?_
      rintro e w6 hx6
      obtain ⟨⟨y, he6, hy6, hok6⟩, hb6⟩ := hx6
      rw [show y.v = Value.slice (some ⟨y.k, 0, none⟩) y.bs.length y.c from rfl] at he6
      subst he6
      have Hy6 : Hid (y.bs = o.bs) := hy6
      have Hok6 : Hid (y.Ok w6 D6.heap.size) := hok6
      clear hy6 hok6
      refine hK.out _ _ (bA hb6 q0) (fun hH => ?_)
      clear hK K
      refine rY 7 rfl fun K hK => ?_
      go_simp
      refine hK.out _ _ (bA (w' := w6.alloc (.cells #[.slice (some ⟨y.k, 0, none⟩) y.bs.length y.c] 40)) (balloc (Below.refl _ _)) (bA hb6 q0)) (fun hH => ?_)
      clear hK K
      obtain ⟨w6a, hw6a⟩ : ∃ x, w6.alloc (.cells #[.slice (some ⟨y.k, 0, none⟩) y.bs.length y.c] 40) = x := ⟨_, rfl⟩
      have hb6a : Below w6.heap.size w6 w6a := by rw [<- hw6a]; exact balloc (Below.refl _ _)
      rw [hw6a] at hH ⊢
      refine rY 8 rfl fun K hK => ?_
      refine step_push rfl _ _ rfl w6 w1.heap.size _ _ (.slice (some ⟨y.k, 0, none⟩) y.bs.length y.c) rfl i (HOw.out w6 (bstep hbD6 hb6)) hw6a.symm rfl rfl (by omega) (Nat.le_trans HB0.out (bstep hbD6 hb6).size) ?_
      intro gg cap w7 ho7 hk7 hg7 hl7
      have z0 := kC hk7 HNw.out (bA hb6 q0)
      refine hK.out _ _ z0 (fun hH => ?_)
      clear hK K
      refine tG 9 49 (.pointer (some ⟨w1.heap.size, 2, none⟩)) rfl hH ?_
      simp only [aP, sA, sZ, sC]
      refine rY 10 rfl fun K hK => ?_
      obtain ⟨hzf, zv, hzv⟩ := HZc.out w6 w7 (bstep hbD6 hb6) hk7
      go_simp
      clear hzf hzv
      refine hK.out _ _ (below_set1 hne2 z0) (fun hH => ?_)
      clear hK K
      refine wpAnyH_done (by kernel_rfl) ?_ _
      clear hH
      have HT0 : Hid (∃ v zs Yi, BL w1 (w7.setCell ⟨w1.heap.size, 2, none⟩ (.slice (some ⟨gg, 0, none⟩) (i + 1) cap)) B T Y1 (.slice (some ⟨lb, 0, none⟩) n lc) mk ys os tc (i + 1) i v zs Yi) := (show ∃ v zs Yi, BL _ _ _ _ _ _ _ _ _ _ _ _ v zs Yi from HNx.out D6 w6 w7 y gg cap hbD6 hb6 Hok6.out Hy6.out ho7 hk7)
      clear hbD6 hb6 Hok6 ho7 hk7 hg7 hl7 z0 Hy6 hb6a hw6a
      generalize w7.setCell ⟨w1.heap.size, 2, none⟩ (.slice (some ⟨gg, 0, none⟩) (i + 1) cap) = wq at HT0 ⊢
      clear HOw HNw HCp HZc HNx vev x0 q0 iq0
      go_wp2_with (fail)
      go_meet
      exact HT0
     ·go_simp
      refine (HCp.out D6 hbD6).mono ?_
      rintro e w6 hx6
      obtain ⟨⟨y, he6, hy6, hok6⟩, hb6⟩ := hx6
      rw [show y.v = Value.slice (some ⟨y.k, 0, none⟩) y.bs.length y.c from rfl] at he6
      subst he6
      have Hy6 : Hid (y.bs = o.bs) := hy6
      have Hok6 : Hid (y.Ok w6 D6.heap.size) := hok6
      clear hy6 hok6
      refine hK.out _ _ (bA hb6 q0) (fun hH => ?_)
      clear hK K
      refine wpAnyH_ready (rs := [1, 7]) (by kernel_rfl) (by simp) ?_
      refine AllReadyH.cons rfl (fun K hK => ?_) (AllReadyH.cons rfl (fun K hK => ?_) AllReadyH.nil)
      ·have zim := (bA hb6 iq0)
       go_simp
       clear zim
       refine hK.out _ _ (bA hb6 q0) (fun hH => ?_)
       clear hK K
       refine rY 7 rfl fun K hK => ?_
       go_simp
       refine hK.out _ _ (bA (w' := w6.alloc (.cells #[.slice (some ⟨y.k, 0, none⟩) y.bs.length y.c] 40)) (balloc (Below.refl _ _)) (bA hb6 q0)) (fun hH => ?_)
       clear hK K
       obtain ⟨w6a, hw6a⟩ : ∃ x, w6.alloc (.cells #[.slice (some ⟨y.k, 0, none⟩) y.bs.length y.c] 40) = x := ⟨_, rfl⟩
       have hb6a : Below w6.heap.size w6 w6a := by rw [<- hw6a]; exact balloc (Below.refl _ _)
       rw [hw6a] at hH ⊢
       refine rY 8 rfl fun K hK => ?_
       refine step_push rfl _ _ rfl w6 w1.heap.size _ _ (.slice (some ⟨y.k, 0, none⟩) y.bs.length y.c) rfl i (HOw.out w6 (bstep hbD6 hb6)) hw6a.symm rfl rfl (by omega) (Nat.le_trans HB0.out (bstep hbD6 hb6).size) ?_
       intro gg cap w7 ho7 hk7 hg7 hl7
       have z0 := kC hk7 HNw.out (bA hb6 q0)
       refine hK.out _ _ z0 (fun hH => ?_)
       clear hK K
       refine tG 9 49 (.pointer (some ⟨w1.heap.size, 2, none⟩)) rfl hH ?_
       simp only [aP, sA, sZ, sC]
       refine rY 10 rfl fun K hK => ?_
       obtain ⟨hzf, zv, hzv⟩ := HZc.out w6 w7 (bstep hbD6 hb6) hk7
       go_simp
       clear hzf hzv
       refine hK.out _ _ (below_set1 hne2 z0) (fun hH => ?_)
       clear hK K
       refine wpAnyH_done (by kernel_rfl) ?_ _
       clear hH
       have HT0 : Hid (∃ v zs Yi, BL w1 (w7.setCell ⟨w1.heap.size, 2, none⟩ (.slice (some ⟨gg, 0, none⟩) (i + 1) cap)) B T Y1 (.slice (some ⟨lb, 0, none⟩) n lc) mk ys os tc (i + 1) i v zs Yi) := (show ∃ v zs Yi, BL _ _ _ _ _ _ _ _ _ _ _ _ v zs Yi from HNx.out D6 w6 w7 y gg cap hbD6 hb6 Hok6.out Hy6.out ho7 hk7)
       clear hbD6 hb6 Hok6 ho7 hk7 hg7 hl7 z0 Hy6 hb6a hw6a
       generalize w7.setCell ⟨w1.heap.size, 2, none⟩ (.slice (some ⟨gg, 0, none⟩) (i + 1) cap) = wq at HT0 ⊢
       clear HOw HNw HCp HZc HNx vev x0 q0 iq0
       go_wp2_with (fail)
       go_meet
       exact HT0
      ·go_simp
       refine hK.out _ _ (bA (w' := w6.alloc (.cells #[.slice (some ⟨y.k, 0, none⟩) y.bs.length y.c] 40)) (balloc (Below.refl _ _)) (bA hb6 q0)) (fun hH => ?_)
       clear hK K
       obtain ⟨w6a, hw6a⟩ : ∃ x, w6.alloc (.cells #[.slice (some ⟨y.k, 0, none⟩) y.bs.length y.c] 40) = x := ⟨_, rfl⟩
       have hb6a : Below w6.heap.size w6 w6a := by rw [<- hw6a]; exact balloc (Below.refl _ _)
       rw [hw6a] at hH ⊢
       refine rY 1 rfl fun K hK => ?_
       have zim := (bA hb6a (bA hb6 iq0))
       go_simp
       clear zim
       refine hK.out _ _ (bA hb6a (bA hb6 q0)) (fun hH => ?_)
       clear hK K
       refine rY 8 rfl fun K hK => ?_
       refine step_push rfl _ _ rfl w6 w1.heap.size _ _ (.slice (some ⟨y.k, 0, none⟩) y.bs.length y.c) rfl i (HOw.out w6 (bstep hbD6 hb6)) hw6a.symm rfl rfl (by omega) (Nat.le_trans HB0.out (bstep hbD6 hb6).size) ?_
       intro gg cap w7 ho7 hk7 hg7 hl7
       have z0 := kC hk7 HNw.out (bA hb6 q0)
       refine hK.out _ _ z0 (fun hH => ?_)
       clear hK K
       refine tG 9 49 (.pointer (some ⟨w1.heap.size, 2, none⟩)) rfl hH ?_
       simp only [aP, sA, sZ, sC]
       refine rY 10 rfl fun K hK => ?_
       obtain ⟨hzf, zv, hzv⟩ := HZc.out w6 w7 (bstep hbD6 hb6) hk7
       go_simp
       clear hzf hzv
       refine hK.out _ _ (below_set1 hne2 z0) (fun hH => ?_)
       clear hK K
       refine wpAnyH_done (by kernel_rfl) ?_ _
       clear hH
       have HT0 : Hid (∃ v zs Yi, BL w1 (w7.setCell ⟨w1.heap.size, 2, none⟩ (.slice (some ⟨gg, 0, none⟩) (i + 1) cap)) B T Y1 (.slice (some ⟨lb, 0, none⟩) n lc) mk ys os tc (i + 1) i v zs Yi) := (show ∃ v zs Yi, BL _ _ _ _ _ _ _ _ _ _ _ _ v zs Yi from HNx.out D6 w6 w7 y gg cap hbD6 hb6 Hok6.out Hy6.out ho7 hk7)
       clear hbD6 hb6 Hok6 ho7 hk7 hg7 hl7 z0 Hy6 hb6a hw6a
       generalize w7.setCell ⟨w1.heap.size, 2, none⟩ (.slice (some ⟨gg, 0, none⟩) (i + 1) cap) = wq at HT0 ⊢
       clear HOw HNw HCp HZc HNx vev x0 q0 iq0
       go_wp2_with (fail)
       go_meet
       exact HT0
    case rest =>
    clear HOw HNw HCp HZc HNx vev x0
    obtain ⟨v2, zs2, Yj, h2⟩ := hcut.out
    clear hcut
    have hbd := h2.body HI.out H.out Hf.out.1
    have hf := Hf.out.1
    have hcell : ∀ (D : World) (a j : Nat) (v : Value) (zs : List Bn) (Yi : Pl), BL w1 D B T Y1 (.slice (some ⟨lb, 0, none⟩) n lc) mk ys os tc a j v zs Yi -> D.cell? ⟨lb, i, none⟩ = some (.slice (some ⟨f.k, 0, none⟩) f.bs.length f.bs.length) := fun D a j v zs Yi h5 => by
     have h6 := h5.lift H.out HI.out
     rw [World.ownsRow.cellAt h6 i (by omega), List.getElem?_map, hf]
     show some f.v = _
     unfold Bn.v
     rw [Hf.out.2]
    have l5 := hcell wc _ _ _ _ _ h2
    have c11 : wc.cell? ⟨yb, 11, none⟩ = some (.int .i64 tt) := by
     have h9 := h2.ok.c 11 rfl
     rw [h2.b, Hyb.out] at h9
     rw [h9]
     show some (Value.int .i64 Yj.tn) = _
     rw [h2.tn, Htt.out]
    rcases Hpar.out with hpar | hpar
    ·have htc : tc := by rw [<- Htc.out]; exact hpar
     have HW : Hid (∀ D, Below wc.heap.size wc D -> Calls Try.prog 81 #[.pointer (some ⟨yb, 6, none⟩), .slice (some ⟨f.k, 0, none⟩) f.bs.length f.bs.length] D fun e w' => e = .returned (.tuple #[]) /\ w'.cell? ⟨lb, i, none⟩ = some (.slice (some ⟨f.k, 0, none⟩) f.bs.length f.bs.length) /\ Hid (∃ v zs Yi, BL w1 w' B T Y1 (.slice (some ⟨lb, 0, none⟩) n lc) mk ys os tc (i + 1) (i + 1) v zs Yi)) := fun D hb => (show Calls _ _ _ _ _ from by
      have h4 := pwrite_any (h2.still hb).ok (hbd.1.still hb) hbd.2.1 hbd.2.2.1 hbd.2.2.2.1 hbd.2.2.2.2
      rw [h2.b, Hyb.out] at h4
      refine h4.mono fun e w' hx => ?_
      obtain ⟨Y2, h5⟩ := (h2.still hb).page HI.out H.out hf (wrt := True) (fun _ => htc) hx.2
      have h6 := hcell w' _ _ _ _ _ h5
      exact ⟨hx.1, h6, (show ∃ v zs Yi, BL _ _ _ _ _ _ _ _ _ _ _ _ v zs Yi from ⟨_, _, Y2, h5⟩)⟩)
     clear h2 hbd hf hcell htc
     go_wp2
     refine wp_region_held_drew (S := (fun w' => w'.cell? ⟨lb, i, none⟩ = some (.slice (some ⟨f.k, 0, none⟩) f.bs.length f.bs.length))) (by kernel_rfl) (dW0 l5) (fun hH => ?_)
     simp only [Act.put, lA, lC, lN, zA]
     refine tG 0 56 (.pointer (some ⟨yb, 0, none⟩)) rfl hH ?_
     simp only [aP, sA, sZ, sC]
     refine tG 1 57 (.pointer (some ⟨yb, 0, none⟩)) rfl hH ?_
     simp only [aP, sA, sZ, sC]
     refine tG 2 58 (.pointer (some ⟨yb, 6, none⟩)) rfl hH ?_
     simp only [aP, sA, sZ, sC]
     refine tG 3 59 (.slice (some ⟨lb, 0, none⟩) n lc) rfl hH ?_
     simp only [aP, sA, sZ, sC]
     refine tG 4 60 (.int .i64 (i : Int)) rfl hH ?_
     simp only [aP, sA, sZ, sC]
     refine tG 5 61 (.pointer (some ⟨lb, i, none⟩)) rfl hH ?_
     simp only [aP, sA, sZ, sC]
     refine tL 6 62 (.slice (some ⟨f.k, 0, none⟩) f.bs.length f.bs.length) rfl hH ?_
     simp only [aP, sA, sZ, sC]
     have hbD1 : Below wc.heap.size wc wc.drew := dB _
     have q0 := bA hbD1 l5
     generalize wc.drew = D1 at *
     refine rY 7 rfl fun K hK => ?_
     go_simp
     refine (HW.out D1 hbD1).mono ?_
     rintro e w2 ⟨rfl, z5, hx2⟩
     refine hK.out _ _ z5 (fun hH => ?_)
     clear hK K
     refine wpAnyH_done (by kernel_rfl) ?_ _
     clear hH
     clear hbD1 q0 l5
     go_wp2
     exact ⟨⟨i + 1, by omega, by go_num, hx2⟩, by simp [intOf]; omega⟩
    ·
     have HW : Hid (∀ D, Below wc.heap.size wc D -> Calls Try.prog 82 #[.pointer (some ⟨yb, 6, none⟩), .slice (some ⟨f.k, 0, none⟩) f.bs.length f.bs.length] D fun e w' => e = .returned (.tuple #[]) /\ w'.cell? ⟨lb, i, none⟩ = some (.slice (some ⟨f.k, 0, none⟩) f.bs.length f.bs.length) /\ Hid (∃ v zs Yi, BL w1 w' B T Y1 (.slice (some ⟨lb, 0, none⟩) n lc) mk ys os tc (i + 1) (i + 1) v zs Yi)) := fun D hb => (show Calls _ _ _ _ _ from by
      have h4 := pkeep_any (h2.still hb).ok (hbd.1.still hb) hbd.2.1 hbd.2.2.1 hbd.2.2.2.1 hbd.2.2.2.2
      rw [h2.b, Hyb.out] at h4
      refine h4.mono fun e w' hx => ?_
      obtain ⟨Y2, h5⟩ := (h2.still hb).page HI.out H.out hf (wrt := False) (fun e => e.elim) hx.2
      have h6 := hcell w' _ _ _ _ _ h5
      exact ⟨hx.1, h6, (show ∃ v zs Yi, BL _ _ _ _ _ _ _ _ _ _ _ _ v zs Yi from ⟨_, _, Y2, h5⟩)⟩)
     clear h2 hbd hf hcell
     go_wp2
     refine wp_region_held_drew (S := (fun w' => w'.cell? ⟨lb, i, none⟩ = some (.slice (some ⟨f.k, 0, none⟩) f.bs.length f.bs.length))) (by kernel_rfl) (dW0 l5) (fun hH => ?_)
     simp only [Act.put, lA, lC, lN, zA]
     refine tG 0 64 (.pointer (some ⟨yb, 0, none⟩)) rfl hH ?_
     simp only [aP, sA, sZ, sC]
     refine tG 1 65 (.pointer (some ⟨yb, 0, none⟩)) rfl hH ?_
     simp only [aP, sA, sZ, sC]
     refine tG 2 66 (.pointer (some ⟨yb, 6, none⟩)) rfl hH ?_
     simp only [aP, sA, sZ, sC]
     refine tG 3 67 (.slice (some ⟨lb, 0, none⟩) n lc) rfl hH ?_
     simp only [aP, sA, sZ, sC]
     refine tG 4 68 (.int .i64 (i : Int)) rfl hH ?_
     simp only [aP, sA, sZ, sC]
     refine tG 5 69 (.pointer (some ⟨lb, i, none⟩)) rfl hH ?_
     simp only [aP, sA, sZ, sC]
     refine tL 6 70 (.slice (some ⟨f.k, 0, none⟩) f.bs.length f.bs.length) rfl hH ?_
     simp only [aP, sA, sZ, sC]
     have hbD1 : Below wc.heap.size wc wc.drew := dB _
     have q0 := bA hbD1 l5
     generalize wc.drew = D1 at *
     refine rY 7 rfl fun K hK => ?_
     go_simp
     refine (HW.out D1 hbD1).mono ?_
     rintro e w2 ⟨rfl, z5, hx2⟩
     refine hK.out _ _ z5 (fun hH => ?_)
     clear hK K
     refine wpAnyH_done (by kernel_rfl) ?_ _
     clear hH
     clear hbD1 q0 l5
     go_wp2
     exact ⟨⟨i + 1, by omega, by go_num, hx2⟩, by simp [intOf]; omega⟩
   ·have hin : i = n := by omega
    rw [hin] at hS
    rw [hin]
    clear hin hlt hi
    have i2 : ¬ (n : Int) < (n : Int) := by omega
    obtain ⟨va, vc, hv⟩ := row_shape' hS.row
    subst hv
    have h2 := hS
    have c11 : wr.cell? ⟨yb, 11, none⟩ = some (.int .i64 tt) := by
     have h9 := h2.ok.c 11 rfl
     rw [h2.b, Hyb.out] at h9
     rw [h9]
     show some (Value.int .i64 Yi.tn) = _
     rw [h2.tn, Htt.out]
    clear hS
    rcases Hpar.out with hpar | hpar
    ·have HWr : Hid (Calls Try.prog 18 #[.pointer (some ⟨w1.heap.size, 0, none⟩)] wr fun e w' => e = .returned (.tuple #[]) /\ OWrO wr w' B (some ⟨lb, 0, none⟩) n lc mk w1.heap.size 0 #[.slice (some ⟨lb, 0, none⟩) n lc, .slice none 0 0, .slice va n vc, .int .i64 mk, .bool false]) := (show Calls _ _ _ _ _ from owrite_any (h2.lift H.out HI.out) h2.ok.bk.b h2.blk rfl ⟨_, rfl⟩ rfl ⟨_, rfl⟩ (by omega) ⟨hm1, hm2⟩)
     have H2 : Hid (BL w1 wr B T Y1 (.slice (some ⟨lb, 0, none⟩) n lc) mk ys os tc n n (.slice va n vc) zs Yi) := h2
     clear h2
     go_wp2_with (first | (go_at_call 18; refine HWr.out.mono ?_) | fail)
     rintro e wy he hwo
     subst he
     obtain ⟨ga, gc, PP, ZZ, d1, d2, ⟨xs, d3⟩, ⟨us, d4⟩, d5, d6⟩ := hwo.out
     have h2 := H2.out
     have hq := bd_keep1 H.out HI.out h2 d5
     have y0 : wy.cell? ⟨w1.heap.size, 0, none⟩ = some (.slice (some ⟨lb, 0, none⟩) n lc) := bC d2 0
     have y1 : wy.cell? ⟨w1.heap.size, 1, none⟩ = some (.slice ga (n + 64) gc) := bC d2 1
     have y2 : wy.cell? ⟨w1.heap.size, 2, none⟩ = some (.slice va n vc) := bC d2 2
     have y3 : wy.cell? ⟨w1.heap.size, 3, none⟩ = some (.int .i64 mk) := bC d2 3
     have y4 : wy.cell? ⟨w1.heap.size, 4, none⟩ = some (.bool true) := bC d2 4
     have HOk : Hid (∀ D, Below wy.heap.size wy D -> D.ownsRow B 51 5 (.slice oa no oc) no (Y1.os.flatMap Kr.cs)) := fun D hb => (show World.ownsRow _ _ _ _ _ _ _ from by have := own_still hq.ro hb; rw [h2.ov, h2.os, Hov.out.1, Hov.out.2] at this; exact this)
     have HBs : Hid (B ≤ wy.heap.size) := (show _ ≤ _ from hq.bk.b)
     have HNk : Hid (¬ (Value.slice oa no oc).ownBlock = some w1.heap.size) := (show ¬ _ from fun e => by have h9 := H.out.ro; rw [Hov.out.1] at h9; have := (World.ownsRow.lt h9 _ e).2; omega)
     have k9 : wy.cell? ⟨yb, 10, none⟩ = some (.slice oa no oc) := by have := hq.c 10 rfl; rw [h2.b, Hyb.out] at this; rw [<- Hov.out.1, <- h2.ov]; exact this
     have HZc : Hid (∀ D D', Below wy.heap.size wy D -> Kept D D' (fun j => (Value.slice oa no oc).ownBlock = some j) -> D'.frozen? ⟨yb, 10, none⟩ = false /\ ∃ zv, D'.cell? ⟨yb, 10, none⟩ = some zv) := fun D D' hb hk => (show _ /\ _ from by
      have h8 := hq.bk.k
      rw [h2.b, Hyb.out] at h8
      have h9 := hk.obj (blk_up hb h8) fun e => by
       obtain ⟨C, hC⟩ := own_ty (HOk.out D hb) e
       exact blk_ne hC (blk_up hb h8) (by decide) rfl
      exact ⟨frozen_of_row D' _ 10 _ _ h9, _, bC h9 10⟩)
     have hne2 : w1.heap.size ≠ yb := fun e => by
      have h8 := lt_heap H.out.bk.k
      rw [Hyb.out] at h8
      omega
     have HFn : Hid (∀ D w7 gg cap, Below wy.heap.size wy D -> w7.ownsRow B 51 5 (.slice (some ⟨gg, 0, none⟩) (no + 1) cap) (no + 1) (Y1.os.flatMap Kr.cs ++ [.slice (some ⟨lb, 0, none⟩) n lc, .slice ga (n + 64) gc, .slice va n vc, .int .i64 mk, .bool true]) -> Kept D w7 (fun j => (Value.slice oa no oc).ownBlock = some j) -> BdOut w1 (w7.setCell ⟨yb, 10, none⟩ (.slice (some ⟨gg, 0, none⟩) (no + 1) cap)) B T Y1 (.slice (some ⟨lb, 0, none⟩) n lc) ys) := fun D w7 gg cap hD ho hk => (show BdOut _ _ _ _ _ _ _ from by
      rw [<- Hov.out.1] at hk
      rw [<- Hov.out.2] at ho ⊢
      rw [<- Hyb.out]
      exact bd_fin1 H.out HI.out h2 d5 d1 d3 d4 d6 ⟨hm1, hm2⟩ (by rw [Hov.out.2]; exact hfull) hD ho hk)
     clear h2 hq d1 d2 d3 d4 d5 d6 hwo H2 HWr c11
     go_wp2
     refine wp_region_held_drew (S := (fun w' => w'.cell? ⟨w1.heap.size, 0, none⟩ = some (.slice (some ⟨lb, 0, none⟩) n lc) /\ w'.cell? ⟨w1.heap.size, 1, none⟩ = some (.slice ga (n + 64) gc) /\ w'.cell? ⟨w1.heap.size, 2, none⟩ = some (.slice va n vc) /\ w'.cell? ⟨w1.heap.size, 3, none⟩ = some (.int .i64 mk) /\ w'.cell? ⟨w1.heap.size, 4, none⟩ = some (.bool true))) (by kernel_rfl) ⟨(dW0 y0), (dW0 y1), (dW0 y2), (dW0 y3), (dW0 y4)⟩ (fun hH => ?_)
     simp only [Act.put, lA, lC, lN, zA]
     refine tG 0 79 (.pointer (some ⟨yb, 0, none⟩)) rfl hH ?_
     simp only [aP, sA, sZ, sC]
     refine tG 1 80 (.pointer (some ⟨yb, 0, none⟩)) rfl hH ?_
     simp only [aP, sA, sZ, sC]
     refine tG 2 81 (.pointer (some ⟨yb, 0, none⟩)) rfl hH ?_
     simp only [aP, sA, sZ, sC]
     refine tG 3 82 (.pointer (some ⟨yb, 10, none⟩)) rfl hH ?_
     simp only [aP, sA, sZ, sC]
     refine tL 5 84 (.agg #[.slice (some ⟨lb, 0, none⟩) n lc, .slice ga (n + 64) gc, .slice va n vc, .int .i64 mk, .bool true]) rfl hH ?_
     simp only [aP, sA, sZ, sC]
     have hbD6 : Below wy.heap.size wy wy.drew := dB _
     have q0 := bA hbD6 y0
     have q1 := bA hbD6 y1
     have q2 := bA hbD6 y2
     have q3 := bA hbD6 y3
     have q4 := bA hbD6 y4
     have iq0 := bA hbD6 k9
     generalize wy.drew = D6 at *
     refine wpAnyH_ready (rs := [4, 6]) (by kernel_rfl) (by simp) ?_
     refine AllReadyH.cons rfl (fun K hK => ?_) (AllReadyH.cons rfl (fun K hK => ?_) AllReadyH.nil)
     ·have zim := iq0
      go_simp
      clear zim
      refine hK.out _ _ ⟨q0, q1, q2, q3, q4⟩ (fun hH => ?_)
      clear hK K
      refine rY 6 rfl fun K hK => ?_
      go_simp
      refine hK.out _ _ ⟨(aL0 q0), (aL0 q1), (aL0 q2), (aL0 q3), (aL0 q4)⟩ (fun hH => ?_)
      clear hK K
      obtain ⟨w6a, hw6a⟩ : ∃ x, D6.alloc (.cells ([.slice (some ⟨lb, 0, none⟩) n lc, .slice ga (n + 64) gc, .slice va n vc, .int .i64 mk, .bool true] : List Value).toArray 51) = x := ⟨_, rfl⟩
      have hb6a : Below D6.heap.size D6 w6a := by rw [<- hw6a]; exact balloc (Below.refl _ _)
      rw [hw6a] at hH ⊢
      refine rY 7 rfl fun K hK => ?_
      refine step_pushO (B := B) rfl _ _ rfl D6 _ _ [.slice (some ⟨lb, 0, none⟩) n lc, .slice ga (n + 64) gc, .slice va n vc, .int .i64 mk, .bool true] rfl (kr_one _ _ _ _ _ _ _ _ _ _ _) rfl no (HOk.out D6 hbD6) hw6a.symm rfl (by omega) (Nat.le_trans HBs.out hbD6.size) ?_
      intro gg cap w7 ho7 hk7 hg7 hl7
      have z0 := kC hk7 HNk.out q0
      have z1 := kC hk7 HNk.out q1
      have z2 := kC hk7 HNk.out q2
      have z3 := kC hk7 HNk.out q3
      have z4 := kC hk7 HNk.out q4
      refine hK.out _ _ ⟨z0, z1, z2, z3, z4⟩ (fun hH => ?_)
      clear hK K
      refine tG 8 87 (.pointer (some ⟨yb, 0, none⟩)) rfl hH ?_
      simp only [aP, sA, sZ, sC]
      refine tG 9 88 (.pointer (some ⟨yb, 10, none⟩)) rfl hH ?_
      simp only [aP, sA, sZ, sC]
      refine rY 10 rfl fun K hK => ?_
      obtain ⟨hzf, zv, hzv⟩ := HZc.out D6 w7 hbD6 hk7
      go_simp
      clear hzf hzv
      refine hK.out _ _ ⟨(below_set1 hne2 z0), (below_set1 hne2 z1), (below_set1 hne2 z2), (below_set1 hne2 z3), (below_set1 hne2 z4)⟩ (fun hH => ?_)
      clear hK K
      refine wpAnyH_done (by kernel_rfl) ?_ _
      clear hH
      have HO : Hid (BdE w (w7.setCell ⟨yb, 10, none⟩ (.slice (some ⟨gg, 0, none⟩) (no + 1) cap)) B T Y (.slice (some ⟨lb, 0, none⟩) n lc) ys) := (show BdE _ _ _ _ _ _ _ from HEn.out _ (HFn.out D6 w7 gg cap hbD6 ho7 hk7))
      clear hbD6 ho7 hk7 hg7 hl7 z0 q0 y0 z1 q1 y1 z2 q2 y2 z3 q3 y3 z4 q4 y4 hb6a hw6a iq0 k9
      generalize w7.setCell ⟨yb, 10, none⟩ (.slice (some ⟨gg, 0, none⟩) (no + 1) cap) = wq at HO ⊢
      go_wp2
      go_ret
      exact ⟨rfl, HO.out⟩
     ·go_simp
      refine hK.out _ _ ⟨(aL0 q0), (aL0 q1), (aL0 q2), (aL0 q3), (aL0 q4)⟩ (fun hH => ?_)
      clear hK K
      obtain ⟨w6a, hw6a⟩ : ∃ x, D6.alloc (.cells ([.slice (some ⟨lb, 0, none⟩) n lc, .slice ga (n + 64) gc, .slice va n vc, .int .i64 mk, .bool true] : List Value).toArray 51) = x := ⟨_, rfl⟩
      have hb6a : Below D6.heap.size D6 w6a := by rw [<- hw6a]; exact balloc (Below.refl _ _)
      rw [hw6a] at hH ⊢
      refine rY 4 rfl fun K hK => ?_
      have zim := (bA hb6a iq0)
      go_simp
      clear zim
      refine hK.out _ _ ⟨(bA hb6a q0), (bA hb6a q1), (bA hb6a q2), (bA hb6a q3), (bA hb6a q4)⟩ (fun hH => ?_)
      clear hK K
      refine rY 7 rfl fun K hK => ?_
      refine step_pushO (B := B) rfl _ _ rfl D6 _ _ [.slice (some ⟨lb, 0, none⟩) n lc, .slice ga (n + 64) gc, .slice va n vc, .int .i64 mk, .bool true] rfl (kr_one _ _ _ _ _ _ _ _ _ _ _) rfl no (HOk.out D6 hbD6) hw6a.symm rfl (by omega) (Nat.le_trans HBs.out hbD6.size) ?_
      intro gg cap w7 ho7 hk7 hg7 hl7
      have z0 := kC hk7 HNk.out q0
      have z1 := kC hk7 HNk.out q1
      have z2 := kC hk7 HNk.out q2
      have z3 := kC hk7 HNk.out q3
      have z4 := kC hk7 HNk.out q4
      refine hK.out _ _ ⟨z0, z1, z2, z3, z4⟩ (fun hH => ?_)
      clear hK K
      refine tG 8 87 (.pointer (some ⟨yb, 0, none⟩)) rfl hH ?_
      simp only [aP, sA, sZ, sC]
      refine tG 9 88 (.pointer (some ⟨yb, 10, none⟩)) rfl hH ?_
      simp only [aP, sA, sZ, sC]
      refine rY 10 rfl fun K hK => ?_
      obtain ⟨hzf, zv, hzv⟩ := HZc.out D6 w7 hbD6 hk7
      go_simp
      clear hzf hzv
      refine hK.out _ _ ⟨(below_set1 hne2 z0), (below_set1 hne2 z1), (below_set1 hne2 z2), (below_set1 hne2 z3), (below_set1 hne2 z4)⟩ (fun hH => ?_)
      clear hK K
      refine wpAnyH_done (by kernel_rfl) ?_ _
      clear hH
      have HO : Hid (BdE w (w7.setCell ⟨yb, 10, none⟩ (.slice (some ⟨gg, 0, none⟩) (no + 1) cap)) B T Y (.slice (some ⟨lb, 0, none⟩) n lc) ys) := (show BdE _ _ _ _ _ _ _ from HEn.out _ (HFn.out D6 w7 gg cap hbD6 ho7 hk7))
      clear hbD6 ho7 hk7 hg7 hl7 z0 q0 y0 z1 q1 y1 z2 q2 y2 z3 q3 y3 z4 q4 y4 hb6a hw6a iq0 k9
      generalize w7.setCell ⟨yb, 10, none⟩ (.slice (some ⟨gg, 0, none⟩) (no + 1) cap) = wq at HO ⊢
      go_wp2
      go_ret
      exact ⟨rfl, HO.out⟩
    ·
     have y0 : wr.cell? ⟨w1.heap.size, 0, none⟩ = some (.slice (some ⟨lb, 0, none⟩) n lc) := bC h2.blk 0
     have y1 : wr.cell? ⟨w1.heap.size, 1, none⟩ = some (.slice none 0 0) := bC h2.blk 1
     have y2 : wr.cell? ⟨w1.heap.size, 2, none⟩ = some (.slice va n vc) := bC h2.blk 2
     have y3 : wr.cell? ⟨w1.heap.size, 3, none⟩ = some (.int .i64 mk) := bC h2.blk 3
     have y4 : wr.cell? ⟨w1.heap.size, 4, none⟩ = some (.bool false) := bC h2.blk 4
     have HOk : Hid (∀ D, Below wr.heap.size wr D -> D.ownsRow B 51 5 (.slice oa no oc) no (Y1.os.flatMap Kr.cs)) := fun D hb => (show World.ownsRow _ _ _ _ _ _ _ from by have := own_still h2.ok.ro hb; rw [h2.ov, h2.os, Hov.out.1, Hov.out.2] at this; exact this)
     have HBs : Hid (B ≤ wr.heap.size) := (show _ ≤ _ from h2.ok.bk.b)
     have HNk : Hid (¬ (Value.slice oa no oc).ownBlock = some w1.heap.size) := (show ¬ _ from fun e => by have h9 := H.out.ro; rw [Hov.out.1] at h9; have := (World.ownsRow.lt h9 _ e).2; omega)
     have k9 : wr.cell? ⟨yb, 10, none⟩ = some (.slice oa no oc) := by have := h2.ok.c 10 rfl; rw [h2.b, Hyb.out] at this; rw [<- Hov.out.1, <- h2.ov]; exact this
     have HZc : Hid (∀ D D', Below wr.heap.size wr D -> Kept D D' (fun j => (Value.slice oa no oc).ownBlock = some j) -> D'.frozen? ⟨yb, 10, none⟩ = false /\ ∃ zv, D'.cell? ⟨yb, 10, none⟩ = some zv) := fun D D' hb hk => (show _ /\ _ from by
      have h8 := h2.ok.bk.k
      rw [h2.b, Hyb.out] at h8
      have h9 := hk.obj (blk_up hb h8) fun e => by
       obtain ⟨C, hC⟩ := own_ty (HOk.out D hb) e
       exact blk_ne hC (blk_up hb h8) (by decide) rfl
      exact ⟨frozen_of_row D' _ 10 _ _ h9, _, bC h9 10⟩)
     have hne2 : w1.heap.size ≠ yb := fun e => by
      have h8 := lt_heap H.out.bk.k
      rw [Hyb.out] at h8
      omega
     have HFn : Hid (∀ D w7 gg cap, Below wr.heap.size wr D -> w7.ownsRow B 51 5 (.slice (some ⟨gg, 0, none⟩) (no + 1) cap) (no + 1) (Y1.os.flatMap Kr.cs ++ [.slice (some ⟨lb, 0, none⟩) n lc, .slice none 0 0, .slice va n vc, .int .i64 mk, .bool false]) -> Kept D w7 (fun j => (Value.slice oa no oc).ownBlock = some j) -> BdOut w1 (w7.setCell ⟨yb, 10, none⟩ (.slice (some ⟨gg, 0, none⟩) (no + 1) cap)) B T Y1 (.slice (some ⟨lb, 0, none⟩) n lc) ys) := fun D w7 gg cap hD ho hk => (show BdOut _ _ _ _ _ _ _ from by
      rw [<- Hov.out.1] at hk
      rw [<- Hov.out.2] at ho ⊢
      rw [<- Hyb.out]
      have eF : tc = False := by rw [<- Htc.out, hpar]; simp
      rw [eF] at h2
      exact bd_fin0 H.out HI.out h2 ⟨hm1, hm2⟩ (by rw [Hov.out.2]; exact hfull) hD ho hk)
     clear h2
     go_wp2
     refine wp_region_held_drew (S := (fun w' => w'.cell? ⟨w1.heap.size, 0, none⟩ = some (.slice (some ⟨lb, 0, none⟩) n lc) /\ w'.cell? ⟨w1.heap.size, 1, none⟩ = some (.slice none 0 0) /\ w'.cell? ⟨w1.heap.size, 2, none⟩ = some (.slice va n vc) /\ w'.cell? ⟨w1.heap.size, 3, none⟩ = some (.int .i64 mk) /\ w'.cell? ⟨w1.heap.size, 4, none⟩ = some (.bool false))) (by kernel_rfl) ⟨(dW0 y0), (dW0 y1), (dW0 y2), (dW0 y3), (dW0 y4)⟩ (fun hH => ?_)
     simp only [Act.put, lA, lC, lN, zA]
     refine tG 0 79 (.pointer (some ⟨yb, 0, none⟩)) rfl hH ?_
     simp only [aP, sA, sZ, sC]
     refine tG 1 80 (.pointer (some ⟨yb, 0, none⟩)) rfl hH ?_
     simp only [aP, sA, sZ, sC]
     refine tG 2 81 (.pointer (some ⟨yb, 0, none⟩)) rfl hH ?_
     simp only [aP, sA, sZ, sC]
     refine tG 3 82 (.pointer (some ⟨yb, 10, none⟩)) rfl hH ?_
     simp only [aP, sA, sZ, sC]
     refine tL 5 84 (.agg #[.slice (some ⟨lb, 0, none⟩) n lc, .slice none 0 0, .slice va n vc, .int .i64 mk, .bool false]) rfl hH ?_
     simp only [aP, sA, sZ, sC]
     have hbD6 : Below wr.heap.size wr wr.drew := dB _
     have q0 := bA hbD6 y0
     have q1 := bA hbD6 y1
     have q2 := bA hbD6 y2
     have q3 := bA hbD6 y3
     have q4 := bA hbD6 y4
     have iq0 := bA hbD6 k9
     generalize wr.drew = D6 at *
     refine wpAnyH_ready (rs := [4, 6]) (by kernel_rfl) (by simp) ?_
     refine AllReadyH.cons rfl (fun K hK => ?_) (AllReadyH.cons rfl (fun K hK => ?_) AllReadyH.nil)
     ·have zim := iq0
      go_simp
      clear zim
      refine hK.out _ _ ⟨q0, q1, q2, q3, q4⟩ (fun hH => ?_)
      clear hK K
      refine rY 6 rfl fun K hK => ?_
      go_simp
      refine hK.out _ _ ⟨(aL0 q0), (aL0 q1), (aL0 q2), (aL0 q3), (aL0 q4)⟩ (fun hH => ?_)
      clear hK K
      obtain ⟨w6a, hw6a⟩ : ∃ x, D6.alloc (.cells ([.slice (some ⟨lb, 0, none⟩) n lc, .slice none 0 0, .slice va n vc, .int .i64 mk, .bool false] : List Value).toArray 51) = x := ⟨_, rfl⟩
      have hb6a : Below D6.heap.size D6 w6a := by rw [<- hw6a]; exact balloc (Below.refl _ _)
      rw [hw6a] at hH ⊢
      refine rY 7 rfl fun K hK => ?_
      refine step_pushO (B := B) rfl _ _ rfl D6 _ _ [.slice (some ⟨lb, 0, none⟩) n lc, .slice none 0 0, .slice va n vc, .int .i64 mk, .bool false] rfl (kr_one _ _ _ _ _ _ _ _ _ _ _) rfl no (HOk.out D6 hbD6) hw6a.symm rfl (by omega) (Nat.le_trans HBs.out hbD6.size) ?_
      intro gg cap w7 ho7 hk7 hg7 hl7
      have z0 := kC hk7 HNk.out q0
      have z1 := kC hk7 HNk.out q1
      have z2 := kC hk7 HNk.out q2
      have z3 := kC hk7 HNk.out q3
      have z4 := kC hk7 HNk.out q4
      refine hK.out _ _ ⟨z0, z1, z2, z3, z4⟩ (fun hH => ?_)
      clear hK K
      refine tG 8 87 (.pointer (some ⟨yb, 0, none⟩)) rfl hH ?_
      simp only [aP, sA, sZ, sC]
      refine tG 9 88 (.pointer (some ⟨yb, 10, none⟩)) rfl hH ?_
      simp only [aP, sA, sZ, sC]
      refine rY 10 rfl fun K hK => ?_
      obtain ⟨hzf, zv, hzv⟩ := HZc.out D6 w7 hbD6 hk7
      go_simp
      clear hzf hzv
      refine hK.out _ _ ⟨(below_set1 hne2 z0), (below_set1 hne2 z1), (below_set1 hne2 z2), (below_set1 hne2 z3), (below_set1 hne2 z4)⟩ (fun hH => ?_)
      clear hK K
      refine wpAnyH_done (by kernel_rfl) ?_ _
      clear hH
      have HO : Hid (BdE w (w7.setCell ⟨yb, 10, none⟩ (.slice (some ⟨gg, 0, none⟩) (no + 1) cap)) B T Y (.slice (some ⟨lb, 0, none⟩) n lc) ys) := (show BdE _ _ _ _ _ _ _ from HEn.out _ (HFn.out D6 w7 gg cap hbD6 ho7 hk7))
      clear hbD6 ho7 hk7 hg7 hl7 z0 q0 y0 z1 q1 y1 z2 q2 y2 z3 q3 y3 z4 q4 y4 hb6a hw6a iq0 k9
      generalize w7.setCell ⟨yb, 10, none⟩ (.slice (some ⟨gg, 0, none⟩) (no + 1) cap) = wq at HO ⊢
      go_wp2
      go_ret
      exact ⟨rfl, HO.out⟩
     ·go_simp
      refine hK.out _ _ ⟨(aL0 q0), (aL0 q1), (aL0 q2), (aL0 q3), (aL0 q4)⟩ (fun hH => ?_)
      clear hK K
      obtain ⟨w6a, hw6a⟩ : ∃ x, D6.alloc (.cells ([.slice (some ⟨lb, 0, none⟩) n lc, .slice none 0 0, .slice va n vc, .int .i64 mk, .bool false] : List Value).toArray 51) = x := ⟨_, rfl⟩
      have hb6a : Below D6.heap.size D6 w6a := by rw [<- hw6a]; exact balloc (Below.refl _ _)
      rw [hw6a] at hH ⊢
      refine rY 4 rfl fun K hK => ?_
      have zim := (bA hb6a iq0)
      go_simp
      clear zim
      refine hK.out _ _ ⟨(bA hb6a q0), (bA hb6a q1), (bA hb6a q2), (bA hb6a q3), (bA hb6a q4)⟩ (fun hH => ?_)
      clear hK K
      refine rY 7 rfl fun K hK => ?_
      refine step_pushO (B := B) rfl _ _ rfl D6 _ _ [.slice (some ⟨lb, 0, none⟩) n lc, .slice none 0 0, .slice va n vc, .int .i64 mk, .bool false] rfl (kr_one _ _ _ _ _ _ _ _ _ _ _) rfl no (HOk.out D6 hbD6) hw6a.symm rfl (by omega) (Nat.le_trans HBs.out hbD6.size) ?_
      intro gg cap w7 ho7 hk7 hg7 hl7
      have z0 := kC hk7 HNk.out q0
      have z1 := kC hk7 HNk.out q1
      have z2 := kC hk7 HNk.out q2
      have z3 := kC hk7 HNk.out q3
      have z4 := kC hk7 HNk.out q4
      refine hK.out _ _ ⟨z0, z1, z2, z3, z4⟩ (fun hH => ?_)
      clear hK K
      refine tG 8 87 (.pointer (some ⟨yb, 0, none⟩)) rfl hH ?_
      simp only [aP, sA, sZ, sC]
      refine tG 9 88 (.pointer (some ⟨yb, 10, none⟩)) rfl hH ?_
      simp only [aP, sA, sZ, sC]
      refine rY 10 rfl fun K hK => ?_
      obtain ⟨hzf, zv, hzv⟩ := HZc.out D6 w7 hbD6 hk7
      go_simp
      clear hzf hzv
      refine hK.out _ _ ⟨(below_set1 hne2 z0), (below_set1 hne2 z1), (below_set1 hne2 z2), (below_set1 hne2 z3), (below_set1 hne2 z4)⟩ (fun hH => ?_)
      clear hK K
      refine wpAnyH_done (by kernel_rfl) ?_ _
      clear hH
      have HO : Hid (BdE w (w7.setCell ⟨yb, 10, none⟩ (.slice (some ⟨gg, 0, none⟩) (no + 1) cap)) B T Y (.slice (some ⟨lb, 0, none⟩) n lc) ys) := (show BdE _ _ _ _ _ _ _ from HEn.out _ (HFn.out D6 w7 gg cap hbD6 ho7 hk7))
      clear hbD6 ho7 hk7 hg7 hl7 z0 q0 y0 z1 q1 y1 z2 q2 y2 z3 q3 y3 z4 q4 y4 hb6a hw6a iq0 k9
      generalize w7.setCell ⟨yb, 10, none⟩ (.slice (some ⟨gg, 0, none⟩) (no + 1) cap) = wq at HO ⊢
      go_wp2
      go_ret
      exact ⟨rfl, HO.out⟩
 ·have j2 : (no : Int) ≥ 24 := by omega
  have j3 : decide ((24 : Int) ≤ (no : Int)) = true := by simp; omega
  have HFu : Hid (BdE w ws B T Y (.slice (some ⟨lb, 0, none⟩) n lc) ys) := (show BdE _ _ _ _ _ _ _ from ⟨Y, hs, rfl, rfl, Htn.out.2, rfl, fun j hj => hj.elim .inl fun e => .inr (.inl e), Kept.ofBelow hbs _⟩)
  clear hs hbs c11 f11
  go_wp2
  go_ret
  exact ⟨rfl, HFu.out⟩
end
end Go.Proofs.Ythanifbimndhaaa.Ln
