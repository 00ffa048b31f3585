import Derived.Test.YthanifbimndhaaaM24
namespace Go.Proofs.Ythanifbimndhaaa.Ln
set_option maxHeartbeats 40000000
open Go.RowKit Mb
set_option linter.unusedVariables false
set_option maxRecDepth 100000
set_option linter.unusedSimpArgs false
section
variable {w w' W : World} {B T : Nat} {Y : Pl}
theorem FrOut.conv {L : Value} {fs : List Fm} {P Q : Prop} (h : FrOut w w' B T Y L fs P) (e : P ↔ Q) : FrOut w w' B T Y L fs Q := by rw [<- propext e]; exact h
theorem frames_pos {lb wb : Nat} {n lc wc : Nat} {fs gs : List Fm} {tch : Bool} (h : PlOk Y w B T) (hI : FrIn w B Y (some ⟨lb, 0, none⟩) n lc fs (some ⟨wb, 0, none⟩) gs) : Calls Try.prog 49 #[.pointer (some ⟨Y.b, 0, none⟩), .slice (some ⟨lb, 0, none⟩) n lc, .slice (some ⟨wb, 0, none⟩) n wc, .bool tch] w fun e w' => e = .returned (.bool true) /\ FrOut w w' B T Y (.slice (some ⟨lb, 0, none⟩) n lc) fs (tch = true) := by
 have H : Hid (PlOk Y w B T) := h
 have HI : Hid (FrIn w B Y (some ⟨lb, 0, none⟩) n lc fs (some ⟨wb, 0, none⟩) gs) := hI
 have hn := hI.n1
 have hck := h.ck
 obtain ⟨ka, kc, hkv⟩ := row_shape' h.rk
 obtain ⟨nk, hnk⟩ : ∃ n, Y.ks.length = n := ⟨_, rfl⟩
 have Hkv : Hid (Y.kv = .slice ka nk kc /\ Y.ks.length = nk) := (show _ /\ _ from ⟨by rw [hkv, hnk], hnk⟩)
 rw [hnk] at hck
 obtain ⟨yb, hyb⟩ : ∃ b, Y.b = b := ⟨_, rfl⟩
 have Hyb : Hid (Y.b = yb) := hyb
 have c9 : w.cell? ⟨yb, 9, none⟩ = some (.slice ka nk kc) := by rw [<- Hkv.out.1, <- hyb]; exact h.c 9 rfl
 rw [hyb]
 obtain ⟨mk, hmk⟩ : ∃ m : Int, -1000 * ((nk : Int) + 1) = m := ⟨_, rfl⟩
 have hm1 : -25000 ≤ mk := by omega
 have hm2 : mk ≤ 0 := by omega
 have HF0 : Hid (∃ v hs, FL1 w (w.alloc (.cells #[.slice (some ⟨lb, 0, none⟩) n lc, .slice none 0 0, .slice none 0 0, .int .i64 mk, .bool false] 48)) (some ⟨lb, 0, none⟩) n lc mk gs 0 v hs) := (show ∃ v hs, FL1 _ _ _ _ _ _ _ _ v hs from ⟨_, _, FL1.first⟩)
 clear h hI hkv hnk hyb
 go_enter Try.func49, Try.ntmps49
 go_wp2
 go_loopw [10] (fun v10 wr => ∃ i : Nat, i ≤ n /\ v10 = .int .i64 (i : Int) /\ Hid (∃ v hs, FL1 w wr (some ⟨lb, 0, none⟩) n lc mk gs i v hs)) (fun v10 _ => n - (intOf v10).toNat)
 case atStart => exact ⟨0, by omega, rfl, HF0⟩
 case round =>
  clear HF0 c9 hmk
  obtain ⟨i, hi, rfl, hs'⟩ := hrel
  obtain ⟨v, hs, hS⟩ := hs'.out
  clear hs'
  by_cases hlt : i < n
  ·have i1 : (0 : Int) ≤ (i : Int) := Int.natCast_nonneg _
   have i2 : (i : Int) < (n : Int) := by omega
   obtain ⟨f, g, hf, hg, et, es, eb⟩ := HI.out.at_ hlt
   have hlb : (some ⟨lb, 0, none⟩ : Option Addr) = some ⟨lb, 0, none⟩ := rfl
   have hwb : (some ⟨wb, 0, none⟩ : Option Addr) = some ⟨wb, 0, none⟩ := rfl
   have hF := (FRd.of HI.out.row).still hS.bel
   have hG := HI.out.wrow.still hS.bel
   have hwlt : wb < w.heap.size := World.block_lt_of_cell? w _ (HI.out.wrow.cells hwb hg 0 (v := .int .i64 g.t.e) rfl)
   have l0 := hF.cells hlb hf 0 (v := .int .i64 f.t.e) rfl
   have l1 := hF.cells hlb hf 1 (v := .int .i64 f.t.l) rfl
   have l2 := hF.cells hlb hf 2 (v := .int .i64 f.t.i) rfl
   have l3 := hF.cells hlb hf 3 (v := .int .i64 f.t.c) rfl
   have l4 := hF.cells hlb hf 4 (v := .int .i64 f.s) rfl
   have l5 := hF.cells hlb hf 5 (v := .slice (some ⟨f.y.k, 0, none⟩) f.y.bs.length f.y.c) rfl
   have v0 : wr.cell? ⟨wb, i * 6 + 0, none⟩ = some (.int .i64 f.t.e) := hG.cells hwb hg 0 (v := .int .i64 f.t.e) (by unfold Fm.cs Bn.v; rw [et, es, eb]; rfl)
   have v1 : wr.cell? ⟨wb, i * 6 + 1, none⟩ = some (.int .i64 f.t.l) := hG.cells hwb hg 1 (v := .int .i64 f.t.l) (by unfold Fm.cs Bn.v; rw [et, es, eb]; rfl)
   have v2 : wr.cell? ⟨wb, i * 6 + 2, none⟩ = some (.int .i64 f.t.i) := hG.cells hwb hg 2 (v := .int .i64 f.t.i) (by unfold Fm.cs Bn.v; rw [et, es, eb]; rfl)
   have v3 : wr.cell? ⟨wb, i * 6 + 3, none⟩ = some (.int .i64 f.t.c) := hG.cells hwb hg 3 (v := .int .i64 f.t.c) (by unfold Fm.cs Bn.v; rw [et, es, eb]; rfl)
   have v4 : wr.cell? ⟨wb, i * 6 + 4, none⟩ = some (.int .i64 f.s) := hG.cells hwb hg 4 (v := .int .i64 f.s) (by unfold Fm.cs Bn.v; rw [et, es, eb]; rfl)
   have v5 : wr.cell? ⟨wb, i * 6 + 5, none⟩ = some (.slice (some ⟨g.y.k, 0, none⟩) f.y.bs.length g.y.c) := hG.cells hwb hg 5 (v := .slice (some ⟨g.y.k, 0, none⟩) f.y.bs.length g.y.c) (by unfold Fm.cs Bn.v; rw [et, es, eb]; rfl)
   rw [Nat.add_zero] at l0 v0
   have hfo : ∀ D, Below wr.heap.size wr D -> f.y.Ok D B := fun D hb => by
    have h1 := (HI.out.bod f (List.mem_of_getElem? hf))
    have h2 := ((h1.1.still hS.bel).still hb).bn
    have e3 : (⟨f.y.k, f.y.bs.length, f.y.bs⟩ : Bn) = f.y := by rw [<- h1.2]
    rw [<- e3]
    exact h2
   have hgo : ∀ D, Below wr.heap.size wr D -> g.y.Ok D B := fun D hb => ((HI.out.wok g (List.mem_of_getElem? hg)).still hS.bel).still hb
   have HSf : Hid (∀ D, Below wr.heap.size wr D -> Calls Try.prog 22 #[.agg #[.int .i64 f.t.e, .int .i64 f.t.l, .int .i64 f.t.i, .int .i64 f.t.c, .int .i64 f.s, .slice (some ⟨f.y.k, 0, none⟩) f.y.bs.length f.y.c], .agg #[.int .i64 f.t.e, .int .i64 f.t.l, .int .i64 f.t.i, .int .i64 f.t.c, .int .i64 f.s, .slice (some ⟨g.y.k, 0, none⟩) f.y.bs.length g.y.c]] D fun e w' => e = .returned (.bool true) /\ Below D.heap.size D w') := fun D hb => (show Calls _ _ _ _ _ from by
    have r1 := (hfo D hb).rd
    have r2 := (hgo D hb).rd
    rw [eb] at r2
    exact sameF_any r1 r2 (by have := (hfo D hb).le; omega))
   have Hgo : Hid (∀ D, Below wr.heap.size wr D -> Calls Try.prog 65 #[.slice (some ⟨g.y.k, 0, none⟩) f.y.bs.length g.y.c] D fun e w' => CpO D w' f.y.bs e) := fun D hb => (show Calls _ _ _ _ _ from by
    have h1 := hgo D hb
    have r1 := h1.rd
    have r2 := h1.pos
    have r3 := h1.le
    rw [eb] at r1 r2 r3
    exact copied_any r1 r2 r3)
   have HS : Hid (FL1 w wr (some ⟨lb, 0, none⟩) n lc mk gs i v hs) := hS
   have Hg : Hid (gs[i]? = some g /\ g.t = f.t /\ g.s = f.s /\ g.y.bs = f.y.bs) := (show _ /\ _ from ⟨hg, et, es, eb⟩)
   clear hS hlt hf hg hF hG et es eb hfo hgo hlb hwb
   go_wp2
   refine wp_region_held_drew (S := (fun w' => w'.cell? ⟨lb, i * 6, none⟩ = some (.int .i64 f.t.e) /\ w'.cell? ⟨lb, i * 6 + 1, none⟩ = some (.int .i64 f.t.l) /\ w'.cell? ⟨lb, i * 6 + 2, none⟩ = some (.int .i64 f.t.i) /\ w'.cell? ⟨lb, i * 6 + 3, none⟩ = some (.int .i64 f.t.c) /\ w'.cell? ⟨lb, i * 6 + 4, none⟩ = some (.int .i64 f.s) /\ w'.cell? ⟨lb, i * 6 + 5, none⟩ = some (.slice (some ⟨f.y.k, 0, none⟩) f.y.bs.length f.y.c) /\ w'.cell? ⟨wb, i * 6, none⟩ = some (.int .i64 f.t.e) /\ w'.cell? ⟨wb, i * 6 + 1, none⟩ = some (.int .i64 f.t.l) /\ w'.cell? ⟨wb, i * 6 + 2, none⟩ = some (.int .i64 f.t.i) /\ w'.cell? ⟨wb, i * 6 + 3, none⟩ = some (.int .i64 f.t.c) /\ w'.cell? ⟨wb, i * 6 + 4, none⟩ = some (.int .i64 f.s) /\ w'.cell? ⟨wb, i * 6 + 5, none⟩ = some (.slice (some ⟨g.y.k, 0, none⟩) f.y.bs.length g.y.c))) (by kernel_rfl) ⟨(dW0 l0), (dW0 l1), (dW0 l2), (dW0 l3), (dW0 l4), (dW0 l5), (dW0 v0), (dW0 v1), (dW0 v2), (dW0 v3), (dW0 v4), (dW0 v5)⟩ (fun hH => ?_)
   simp only [Act.put, lA, lC, lN, zA]
   refine tG 0 32 (.slice (some ⟨lb, 0, none⟩) n lc) rfl hH ?_
   simp only [aP, sA, sZ, sC]
   refine tG 1 33 (.int .i64 (i : Int)) rfl hH ?_
   simp only [aP, sA, sZ, sC]
   refine tG 2 34 (.pointer (some ⟨lb, i * 6, none⟩)) rfl hH ?_
   simp only [aP, sA, sZ, sC]
   refine tL 3 35 (.agg #[.int .i64 f.t.e, .int .i64 f.t.l, .int .i64 f.t.i, .int .i64 f.t.c, .int .i64 f.s, .slice (some ⟨f.y.k, 0, none⟩) f.y.bs.length f.y.c]) rfl hH ?_
   simp only [aP, sA, sZ, sC]
   refine tG 4 36 (.slice (some ⟨wb, 0, none⟩) n wc) rfl hH ?_
   simp only [aP, sA, sZ, sC]
   refine tG 5 37 (.int .i64 (i : Int)) rfl hH ?_
   simp only [aP, sA, sZ, sC]
   refine tG 6 38 (.pointer (some ⟨wb, i * 6, none⟩)) rfl hH ?_
   simp only [aP, sA, sZ, sC]
   refine tL 7 39 (.agg #[.int .i64 f.t.e, .int .i64 f.t.l, .int .i64 f.t.i, .int .i64 f.t.c, .int .i64 f.s, .slice (some ⟨g.y.k, 0, none⟩) f.y.bs.length g.y.c]) rfl hH ?_
   simp only [aP, sA, sZ, sC]
   have hbD1 : Below wr.heap.size wr wr.drew := dB _
   have q0 := bA hbD1 l0
   have q1 := bA hbD1 l1
   have q2 := bA hbD1 l2
   have q3 := bA hbD1 l3
   have q4 := bA hbD1 l4
   have q5 := bA hbD1 l5
   have q6 := bA hbD1 v0
   have q7 := bA hbD1 v1
   have q8 := bA hbD1 v2
   have q9 := bA hbD1 v3
   have q10 := bA hbD1 v4
   have q11 := bA hbD1 v5
   generalize wr.drew = D1 at *
   refine rY 8 rfl fun K hK => ?_
   go_simp
   refine (HSf.out D1 hbD1).mono ?_
   rintro e w2 ⟨rfl, hb2⟩
   refine hK.out _ _ ⟨(bA hb2 q0), (bA hb2 q1), (bA hb2 q2), (bA hb2 q3), (bA hb2 q4), (bA hb2 q5), (bA hb2 q6), (bA hb2 q7), (bA hb2 q8), (bA hb2 q9), (bA hb2 q10), (bA hb2 q11)⟩ (fun hH => ?_)
   clear hK K
   refine tG 9 41 (.bool false) rfl hH ?_
   simp only [aP, sA, sZ, sC]
   refine wpAnyH_done (by kernel_rfl) ?_ _
   clear hH
   obtain ⟨wd, hwd⟩ : ∃ x, w2 = x := ⟨_, rfl⟩
   have hbd : Below wr.heap.size wr wd := by rw [<- hwd]; exact (bstep hbD1 hb2)
   rw [hwd]
   have x0 := bA hbd v0
   have x1 := bA hbd v1
   have x2 := bA hbd v2
   have x3 := bA hbd v3
   have x4 := bA hbd v4
   have x5 := bA hbd v5
   have hSd := HS.out.still hbd
   obtain ⟨va, vc, hv⟩ := row_shape' hSd.row
   have hvl : hs.length = i := by have := hSd.row.1; rw [fmR_len] at this; omega
   rw [hv] at hSd
   have vev : wd.cell? ⟨w.heap.size, 2, none⟩ = some (.slice va i vc) := bC hSd.blk 2
   have HOw : Hid (∀ D, Below wd.heap.size wd D -> D.ownsRow w.heap.size 55 6 (.slice va i vc) i (fmR hs)) := fun D hb => own_still hSd.row hb
   have HB0 : Hid (w.heap.size ≤ wd.heap.size) := (show _ ≤ _ from hSd.bel.size)
   have HNw : Hid (¬ (Value.slice va i vc).ownBlock = some wb) := (show ¬ _ from fun e => by have := (World.ownsRow.lt hSd.row wb e).1; omega)
   have HCp : Hid (∀ D, Below wd.heap.size wd D -> Calls Try.prog 65 #[.slice (some ⟨g.y.k, 0, none⟩) f.y.bs.length g.y.c] D fun e w' => CpO D w' f.y.bs e) := fun D hb => Hgo.out D (bstep hbd hb)
   have hnk2 : ∀ D, Below wd.heap.size wd D -> ¬ (Value.slice va i vc).ownBlock = some w.heap.size := fun D hb e => by
    obtain ⟨C, hC⟩ := own_ty hSd.row e
    exact blk_ne hC hSd.blk (by decide) rfl
   have HZc : Hid (∀ D D', Below wd.heap.size wd D -> Kept D D' (fun j => (Value.slice va i vc).ownBlock = some j) -> D'.frozen? ⟨w.heap.size, 2, none⟩ = false /\ ∃ zv, D'.cell? ⟨w.heap.size, 2, none⟩ = some zv) := fun D D' hb hk => (show _ /\ _ from by
    have h1 := hk.obj (blk_up hb hSd.blk) (hnk2 D hb)
    exact ⟨frozen_of_row D' _ 2 _ _ h1, _, bC h1 2⟩)
   have HNx : Hid (∀ D w6 w7 (y : Bn) gg cap, Below wd.heap.size wd D -> Below D.heap.size D w6 -> y.Ok w6 D.heap.size -> y.bs = f.y.bs -> w7.ownsRow w.heap.size 55 6 (.slice (some ⟨gg, 0, none⟩) (i + 1) cap) (i + 1) (fmR hs ++ [.int .i64 f.t.e, .int .i64 f.t.l, .int .i64 f.t.i, .int .i64 f.t.c, .int .i64 f.s, .slice (some ⟨y.k, 0, none⟩) y.bs.length y.c]) -> Kept w6 w7 (fun j => (Value.slice va i vc).ownBlock = some j) -> ∃ v hs, FL1 w (w7.setCell ⟨w.heap.size, 2, none⟩ (.slice (some ⟨gg, 0, none⟩) (i + 1) cap)) (some ⟨lb, 0, none⟩) n lc mk gs (i + 1) v hs) := fun D w6 w7 y gg cap h1 h2 h3 h4 h5 h6 => (show ∃ v hs, FL1 _ _ _ _ _ _ _ _ v hs from by
    refine ⟨_, _, hSd.next (g := g) Hg.out.1 (bstep h1 h2) { h3 with lo := Nat.le_trans h1.size h3.lo } (by rw [h4, Hg.out.2.2.2]) ?_ h6⟩
    rw [Hg.out.2.1, Hg.out.2.2.1]
    exact h5)
   have hne2 : wb ≠ w.heap.size := by omega
   clear HS HSf Hgo hSd hv hnk2 hwd hbd l0 v0 l1 v1 l2 v2 l3 v3 l4 v4 l5 v5 hbD1 hb2
   go_wp2_with (fail)
   refine wp_region_held_drew (S := (fun w' => w'.cell? ⟨wb, i * 6, none⟩ = some (.int .i64 f.t.e) /\ w'.cell? ⟨wb, i * 6 + 1, none⟩ = some (.int .i64 f.t.l) /\ w'.cell? ⟨wb, i * 6 + 2, none⟩ = some (.int .i64 f.t.i) /\ w'.cell? ⟨wb, i * 6 + 3, none⟩ = some (.int .i64 f.t.c) /\ w'.cell? ⟨wb, i * 6 + 4, none⟩ = some (.int .i64 f.s) /\ w'.cell? ⟨wb, i * 6 + 5, none⟩ = some (.slice (some ⟨g.y.k, 0, none⟩) f.y.bs.length g.y.c))) (by kernel_rfl) ⟨(dW0 x0), (dW0 x1), (dW0 x2), (dW0 x3), (dW0 x4), (dW0 x5)⟩ (fun hH => ?_)
   simp only [Act.put, lA, lC, lN, zA]
   refine tG 0 42 (.pointer (some ⟨w.heap.size, 2, none⟩)) rfl hH ?_
   simp only [aP, sA, sZ, sC]
   refine tG 2 44 (.slice (some ⟨wb, 0, none⟩) n wc) rfl hH ?_
   simp only [aP, sA, sZ, sC]
   refine tG 3 45 (.int .i64 (i : Int)) rfl hH ?_
   simp only [aP, sA, sZ, sC]
   refine tG 4 46 (.pointer (some ⟨wb, i * 6, none⟩)) rfl hH ?_
   simp only [aP, sA, sZ, sC]
   refine tG 5 47 (.pointer (some ⟨wb, i * 6, none⟩)) rfl hH ?_
   simp only [aP, sA, sZ, sC]
   refine tL 6 48 (.agg #[.int .i64 f.t.e, .int .i64 f.t.l, .int .i64 f.t.i, .int .i64 f.t.c]) rfl hH ?_
   simp only [aP, sA, sZ, sC]
   refine tG 7 49 (.slice (some ⟨wb, 0, none⟩) n wc) rfl hH ?_
   simp only [aP, sA, sZ, sC]
   refine tG 8 50 (.int .i64 (i : Int)) rfl hH ?_
   simp only [aP, sA, sZ, sC]
   refine tG 9 51 (.pointer (some ⟨wb, i * 6, none⟩)) rfl hH ?_
   simp only [aP, sA, sZ, sC]
   refine tG 10 52 (.pointer (some ⟨wb, i * 6 + 4, none⟩)) rfl hH ?_
   simp only [aP, sA, sZ, sC]
   refine tL 11 53 (.int .i64 f.s) rfl hH ?_
   simp only [aP, sA, sZ, sC]
   refine tG 12 54 (.slice (some ⟨wb, 0, none⟩) n wc) rfl hH ?_
   simp only [aP, sA, sZ, sC]
   refine tG 13 55 (.int .i64 (i : Int)) rfl hH ?_
   simp only [aP, sA, sZ, sC]
   refine tG 14 56 (.pointer (some ⟨wb, i * 6, none⟩)) rfl hH ?_
   simp only [aP, sA, sZ, sC]
   refine tG 15 57 (.pointer (some ⟨wb, i * 6 + 5, none⟩)) rfl hH ?_
   simp only [aP, sA, sZ, sC]
   refine tL 16 58 (.slice (some ⟨g.y.k, 0, none⟩) f.y.bs.length g.y.c) rfl hH ?_
   simp only [aP, sA, sZ, sC]
   have hbD6 : Below wd.heap.size wd wd.drew := dB _
   have q0 := bA hbD6 x0
   have q1 := bA hbD6 x1
   have q2 := bA hbD6 x2
   have q3 := bA hbD6 x3
   have q4 := bA hbD6 x4
   have q5 := bA hbD6 x5
   have iq0 := bA hbD6 vev
   generalize wd.drew = D6 at *
   refine wpAnyH_ready (rs := [1, 17]) (by kernel_rfl) (by simp) ?_
   refine AllReadyH.cons rfl (fun K hK => ?_) (AllReadyH.cons rfl (fun K hK => ?_) AllReadyH.nil)
   ·have zim := iq0
    go_simp
    clear zim
    refine hK.out _ _ ⟨q0, q1, q2, q3, q4, q5⟩ (fun hH => ?_)
    clear hK K
    refine rY 17 rfl fun K hK => ?_
    go_simp
    refine (HCp.out D6 hbD6).mono ?_
    rintro e w6 hx6
    obtain ⟨⟨y, he6, hy6, hok6⟩, hb6⟩ := hx6
    rw [show y.v = Value.slice (some ⟨y.k, 0, none⟩) y.bs.length y.c from rfl] at he6
    subst he6
    have Hy6 : Hid (y.bs = f.y.bs) := hy6
    have Hok6 : Hid (y.Ok w6 D6.heap.size) := hok6
    clear hy6 hok6
    refine hK.out _ _ ⟨(bA hb6 q0), (bA hb6 q1), (bA hb6 q2), (bA hb6 q3), (bA hb6 q4), (bA hb6 q5)⟩ (fun hH => ?_)
    clear hK K
    refine tG 18 60 (.agg #[.int .i64 f.t.e, .int .i64 f.t.l, .int .i64 f.t.i, .int .i64 f.t.c, .int .i64 f.s, .slice (some ⟨y.k, 0, none⟩) y.bs.length y.c]) rfl hH ?_
    simp only [aP, sA, sZ, sC]
    refine rY 19 rfl fun K hK => ?_
    go_simp
    refine hK.out _ _ ⟨(aL0 (bA hb6 q0)), (aL0 (bA hb6 q1)), (aL0 (bA hb6 q2)), (aL0 (bA hb6 q3)), (aL0 (bA hb6 q4)), (aL0 (bA hb6 q5))⟩ (fun hH => ?_)
    clear hK K
    obtain ⟨w6a, hw6a⟩ : ∃ x, w6.alloc (.cells ([.int .i64 f.t.e, .int .i64 f.t.l, .int .i64 f.t.i, .int .i64 f.t.c, .int .i64 f.s, .slice (some ⟨y.k, 0, none⟩) y.bs.length y.c] : List Value).toArray 55) = x := ⟨_, rfl⟩
    have hb6a : Below w6.heap.size w6 w6a := by rw [<- hw6a]; exact balloc (Below.refl _ _)
    rw [hw6a] at hH ⊢
    refine rY 20 rfl fun K hK => ?_
    refine step_pushR (B := w.heap.size) rfl _ _ rfl w6 _ _ [.int .i64 f.t.e, .int .i64 f.t.l, .int .i64 f.t.i, .int .i64 f.t.c, .int .i64 f.s, .slice (some ⟨y.k, 0, none⟩) y.bs.length y.c] rfl (fr_one _ _ _ _ _ _ _ _) rfl i (HOw.out w6 (bstep hbD6 hb6)) hw6a.symm rfl (by omega) (Nat.le_trans HB0.out (bstep hbD6 hb6).size) ?_
    intro gg cap w7 ho7 hk7 hg7 hl7
    have z0 := kC hk7 HNw.out (bA hb6 q0)
    have z1 := kC hk7 HNw.out (bA hb6 q1)
    have z2 := kC hk7 HNw.out (bA hb6 q2)
    have z3 := kC hk7 HNw.out (bA hb6 q3)
    have z4 := kC hk7 HNw.out (bA hb6 q4)
    have z5 := kC hk7 HNw.out (bA hb6 q5)
    refine hK.out _ _ ⟨z0, z1, z2, z3, z4, z5⟩ (fun hH => ?_)
    clear hK K
    refine tG 21 63 (.pointer (some ⟨w.heap.size, 2, none⟩)) rfl hH ?_
    simp only [aP, sA, sZ, sC]
    refine rY 22 rfl fun K hK => ?_
    obtain ⟨hzf, zv, hzv⟩ := HZc.out w6 w7 (bstep hbD6 hb6) hk7
    go_simp
    clear hzf hzv
    refine hK.out _ _ ⟨(below_set1 hne2 z0), (below_set1 hne2 z1), (below_set1 hne2 z2), (below_set1 hne2 z3), (below_set1 hne2 z4), (below_set1 hne2 z5)⟩ (fun hH => ?_)
    clear hK K
    refine wpAnyH_done (by kernel_rfl) ?_ _
    clear hH
    have HT0 : Hid (∃ v hs, FL1 w (w7.setCell ⟨w.heap.size, 2, none⟩ (.slice (some ⟨gg, 0, none⟩) (i + 1) cap)) (some ⟨lb, 0, none⟩) n lc mk gs (i + 1) v hs) := (show ∃ v hs, FL1 _ _ _ _ _ _ _ _ v hs from HNx.out D6 w6 w7 y gg cap hbD6 hb6 Hok6.out Hy6.out ho7 hk7)
    clear hbD6 hb6 Hok6 ho7 hk7 hg7 hl7 z0 z1 z2 z3 z4 z5 Hy6 hb6a hw6a
    generalize w7.setCell ⟨w.heap.size, 2, none⟩ (.slice (some ⟨gg, 0, none⟩) (i + 1) cap) = wq at HT0 ⊢
    clear HOw HNw HCp HZc HNx vev Hg x0 x1 x2 x3 x4 x5 q0 q1 q2 q3 q4 q5 iq0
    go_wp2
    exact ⟨⟨i + 1, by omega, by go_num, HT0⟩, by simp [intOf]; omega⟩
   ·go_simp
    refine (HCp.out D6 hbD6).mono ?_
    rintro e w6 hx6
    obtain ⟨⟨y, he6, hy6, hok6⟩, hb6⟩ := hx6
    rw [show y.v = Value.slice (some ⟨y.k, 0, none⟩) y.bs.length y.c from rfl] at he6
    subst he6
    have Hy6 : Hid (y.bs = f.y.bs) := hy6
    have Hok6 : Hid (y.Ok w6 D6.heap.size) := hok6
    clear hy6 hok6
    refine hK.out _ _ ⟨(bA hb6 q0), (bA hb6 q1), (bA hb6 q2), (bA hb6 q3), (bA hb6 q4), (bA hb6 q5)⟩ (fun hH => ?_)
    clear hK K
    refine tG 18 60 (.agg #[.int .i64 f.t.e, .int .i64 f.t.l, .int .i64 f.t.i, .int .i64 f.t.c, .int .i64 f.s, .slice (some ⟨y.k, 0, none⟩) y.bs.length y.c]) rfl hH ?_
    simp only [aP, sA, sZ, sC]
    refine wpAnyH_ready (rs := [1, 19]) (by kernel_rfl) (by simp) ?_
    refine AllReadyH.cons rfl (fun K hK => ?_) (AllReadyH.cons rfl (fun K hK => ?_) AllReadyH.nil)
    ·have zim := (bA hb6 iq0)
     go_simp
     clear zim
     refine hK.out _ _ ⟨(bA hb6 q0), (bA hb6 q1), (bA hb6 q2), (bA hb6 q3), (bA hb6 q4), (bA hb6 q5)⟩ (fun hH => ?_)
     clear hK K
     refine rY 19 rfl fun K hK => ?_
     go_simp
     refine hK.out _ _ ⟨(aL0 (bA hb6 q0)), (aL0 (bA hb6 q1)), (aL0 (bA hb6 q2)), (aL0 (bA hb6 q3)), (aL0 (bA hb6 q4)), (aL0 (bA hb6 q5))⟩ (fun hH => ?_)
     clear hK K
     obtain ⟨w6a, hw6a⟩ : ∃ x, w6.alloc (.cells ([.int .i64 f.t.e, .int .i64 f.t.l, .int .i64 f.t.i, .int .i64 f.t.c, .int .i64 f.s, .slice (some ⟨y.k, 0, none⟩) y.bs.length y.c] : List Value).toArray 55) = x := ⟨_, rfl⟩
     have hb6a : Below w6.heap.size w6 w6a := by rw [<- hw6a]; exact balloc (Below.refl _ _)
     rw [hw6a] at hH ⊢
     refine rY 20 rfl fun K hK => ?_
     refine step_pushR (B := w.heap.size) rfl _ _ rfl w6 _ _ [.int .i64 f.t.e, .int .i64 f.t.l, .int .i64 f.t.i, .int .i64 f.t.c, .int .i64 f.s, .slice (some ⟨y.k, 0, none⟩) y.bs.length y.c] rfl (fr_one _ _ _ _ _ _ _ _) rfl i (HOw.out w6 (bstep hbD6 hb6)) hw6a.symm rfl (by omega) (Nat.le_trans HB0.out (bstep hbD6 hb6).size) ?_
     intro gg cap w7 ho7 hk7 hg7 hl7
     have z0 := kC hk7 HNw.out (bA hb6 q0)
     have z1 := kC hk7 HNw.out (bA hb6 q1)
     have z2 := kC hk7 HNw.out (bA hb6 q2)
     have z3 := kC hk7 HNw.out (bA hb6 q3)
     have z4 := kC hk7 HNw.out (bA hb6 q4)
     have z5 := kC hk7 HNw.out (bA hb6 q5)
     refine hK.out _ _ ⟨z0, z1, z2, z3, z4, z5⟩ (fun hH => ?_)
     clear hK K
     refine tG 21 63 (.pointer (some ⟨w.heap.size, 2, none⟩)) rfl hH ?_
     simp only [aP, sA, sZ, sC]
     refine rY 22 rfl fun K hK => ?_
     obtain ⟨hzf, zv, hzv⟩ := HZc.out w6 w7 (bstep hbD6 hb6) hk7
     go_simp
     clear hzf hzv
     refine hK.out _ _ ⟨(below_set1 hne2 z0), (below_set1 hne2 z1), (below_set1 hne2 z2), (below_set1 hne2 z3), (below_set1 hne2 z4), (below_set1 hne2 z5)⟩ (fun hH => ?_)
     clear hK K
     refine wpAnyH_done (by kernel_rfl) ?_ _
     clear hH
     have HT0 : Hid (∃ v hs, FL1 w (w7.setCell ⟨w.heap.size, 2, none⟩ (.slice (some ⟨gg, 0, none⟩) (i + 1) cap)) (some ⟨lb, 0, none⟩) n lc mk gs (i + 1) v hs) := (show ∃ v hs, FL1 _ _ _ _ _ _ _ _ v hs from HNx.out D6 w6 w7 y gg cap hbD6 hb6 Hok6.out Hy6.out ho7 hk7)
     clear hbD6 hb6 Hok6 ho7 hk7 hg7 hl7 z0 z1 z2 z3 z4 z5 Hy6 hb6a hw6a
     generalize w7.setCell ⟨w.heap.size, 2, none⟩ (.slice (some ⟨gg, 0, none⟩) (i + 1) cap) = wq at HT0 ⊢
     clear HOw HNw HCp HZc HNx vev Hg x0 x1 x2 x3 x4 x5 q0 q1 q2 q3 q4 q5 iq0
     go_wp2
     exact ⟨⟨i + 1, by omega, by go_num, HT0⟩, by simp [intOf]; omega⟩
    ·go_simp
     refine hK.out _ _ ⟨(aL0 (bA hb6 q0)), (aL0 (bA hb6 q1)), (aL0 (bA hb6 q2)), (aL0 (bA hb6 q3)), (aL0 (bA hb6 q4)), (aL0 (bA hb6 q5))⟩ (fun hH => ?_)
     clear hK K
     obtain ⟨w6a, hw6a⟩ : ∃ x, w6.alloc (.cells ([.int .i64 f.t.e, .int .i64 f.t.l, .int .i64 f.t.i, .int .i64 f.t.c, .int .i64 f.s, .slice (some ⟨y.k, 0, none⟩) y.bs.length y.c] : List Value).toArray 55) = x := ⟨_, rfl⟩
     have hb6a : Below w6.heap.size w6 w6a := by rw [<- hw6a]; exact balloc (Below.refl _ _)
     rw [hw6a] at hH ⊢
     refine rY 1 rfl fun K hK => ?_
     have zim := (bA hb6a (bA hb6 iq0))
     go_simp
     clear zim
     refine hK.out _ _ ⟨(bA hb6a (bA hb6 q0)), (bA hb6a (bA hb6 q1)), (bA hb6a (bA hb6 q2)), (bA hb6a (bA hb6 q3)), (bA hb6a (bA hb6 q4)), (bA hb6a (bA hb6 q5))⟩ (fun hH => ?_)
     clear hK K
     refine rY 20 rfl fun K hK => ?_
     refine step_pushR (B := w.heap.size) rfl _ _ rfl w6 _ _ [.int .i64 f.t.e, .int .i64 f.t.l, .int .i64 f.t.i, .int .i64 f.t.c, .int .i64 f.s, .slice (some ⟨y.k, 0, none⟩) y.bs.length y.c] rfl (fr_one _ _ _ _ _ _ _ _) rfl i (HOw.out w6 (bstep hbD6 hb6)) hw6a.symm rfl (by omega) (Nat.le_trans HB0.out (bstep hbD6 hb6).size) ?_
     intro gg cap w7 ho7 hk7 hg7 hl7
     have z0 := kC hk7 HNw.out (bA hb6 q0)
     have z1 := kC hk7 HNw.out (bA hb6 q1)
     have z2 := kC hk7 HNw.out (bA hb6 q2)
     have z3 := kC hk7 HNw.out (bA hb6 q3)
     have z4 := kC hk7 HNw.out (bA hb6 q4)
     have z5 := kC hk7 HNw.out (bA hb6 q5)
     refine hK.out _ _ ⟨z0, z1, z2, z3, z4, z5⟩ (fun hH => ?_)
     clear hK K
     refine tG 21 63 (.pointer (some ⟨w.heap.size, 2, none⟩)) rfl hH ?_
     simp only [aP, sA, sZ, sC]
     refine rY 22 rfl fun K hK => ?_
     obtain ⟨hzf, zv, hzv⟩ := HZc.out w6 w7 (bstep hbD6 hb6) hk7
     go_simp
     clear hzf hzv
     refine hK.out _ _ ⟨(below_set1 hne2 z0), (below_set1 hne2 z1), (below_set1 hne2 z2), (below_set1 hne2 z3), (below_set1 hne2 z4), (below_set1 hne2 z5)⟩ (fun hH => ?_)
     clear hK K
     refine wpAnyH_done (by kernel_rfl) ?_ _
     clear hH
     have HT0 : Hid (∃ v hs, FL1 w (w7.setCell ⟨w.heap.size, 2, none⟩ (.slice (some ⟨gg, 0, none⟩) (i + 1) cap)) (some ⟨lb, 0, none⟩) n lc mk gs (i + 1) v hs) := (show ∃ v hs, FL1 _ _ _ _ _ _ _ _ v hs from HNx.out D6 w6 w7 y gg cap hbD6 hb6 Hok6.out Hy6.out ho7 hk7)
     clear hbD6 hb6 Hok6 ho7 hk7 hg7 hl7 z0 z1 z2 z3 z4 z5 Hy6 hb6a hw6a
     generalize w7.setCell ⟨w.heap.size, 2, none⟩ (.slice (some ⟨gg, 0, none⟩) (i + 1) cap) = wq at HT0 ⊢
     clear HOw HNw HCp HZc HNx vev Hg x0 x1 x2 x3 x4 x5 q0 q1 q2 q3 q4 q5 iq0
     go_wp2
     exact ⟨⟨i + 1, by omega, by go_num, HT0⟩, by simp [intOf]; omega⟩
  ·have hin : i = n := by omega
   subst hin
   have i2 : ¬ (i : Int) < (i : Int) := by omega
   have H1 : Hid (FL1 w wr (some ⟨lb, 0, none⟩) i lc mk gs i v hs) := hS
   have hPz := H.out.still hS.bel
   have c9 : wr.cell? ⟨yb, 9, none⟩ = some (.slice ka nk kc) := by rw [<- Hkv.out.1, <- Hyb.out]; exact hPz.c 9 rfl
   have HF : Hid (∃ Yi, FL2 w wr wr B T Y (.slice (some ⟨lb, 0, none⟩) i lc) fs (tch = true) 0 Yi) := (show ∃ Yi, FL2 _ _ _ _ _ _ _ _ _ _ Yi from ⟨Y, FL2.first hPz⟩)
   have HFu : Hid (FrOut w wr B T Y (.slice (some ⟨lb, 0, none⟩) i lc) fs (tch = true)) := (show FrOut _ _ _ _ _ _ _ _ from fr_full (wa := none) (gs := gs) H.out hS.bel)
   clear hS hlt hi hPz
   generalize wr = wz at *
   by_cases hfull : nk < 24
   ·have j2 : ¬ (nk : Int) ≥ 24 := by omega
    have j3 : decide ((24 : Int) ≤ (nk : Int)) = false := by simp; omega
    clear HFu
    go_wp2
    go_loopw [11] (fun v11 wr => ∃ j : Nat, j ≤ i /\ v11 = .int .i64 (j : Int) /\ Hid (∃ Yi, FL2 w wz wr B T Y (.slice (some ⟨lb, 0, none⟩) i lc) fs (tch = true) j Yi)) (fun v11 _ => i - (intOf v11).toNat)
    case atStart => exact ⟨0, by omega, rfl, HF⟩
    case round =>
     clear HF c9 j2 j3
     obtain ⟨j, hj, rfl, hs2⟩ := hrel
     by_cases hlt : j < i
     ·have i3 : (0 : Int) ≤ (j : Int) := Int.natCast_nonneg _
      have i4 : (j : Int) < (i : Int) := by omega
      obtain ⟨Yi, h2⟩ := hs2.out
      obtain ⟨f, hf⟩ : ∃ f, fs[j]? = some f := ⟨_, List.getElem?_eq_getElem (by rw [HI.out.len.1]; exact hlt)⟩
      have hbd := h2.body HI.out H.out H1.out.bel hf
      have hfc : f.y.c = f.y.bs.length := (HI.out.bod f (List.mem_of_getElem? hf)).2
      have l5 : wr.cell? ⟨lb, j * 6 + 5, none⟩ = some (.slice (some ⟨f.y.k, 0, none⟩) f.y.bs.length f.y.bs.length) := by
       have h6 := (FRd.of (h2.lift H.out HI.out H1.out.bel)).cells rfl hf 5 (v := f.y.v) rfl
       unfold Bn.v at h6
       rw [hfc] at h6
       exact h6
      clear hlt
      cases tch with
      | true =>
       have HW : Hid (∀ D, Below wr.heap.size wr D -> Calls Try.prog 81 #[.pointer (some ⟨yb, 6, none⟩), .slice (some ⟨f.y.k, 0, none⟩) f.y.bs.length f.y.bs.length] D fun e w' => e = .returned (.tuple #[]) /\ w'.cell? ⟨lb, j * 6 + 5, none⟩ = some (.slice (some ⟨f.y.k, 0, none⟩) f.y.bs.length f.y.bs.length) /\ Hid (∃ Yi, FL2 w wz w' B T Y (.slice (some ⟨lb, 0, none⟩) i lc) fs (true = true) (j + 1) Yi)) := fun D hb => (show Calls _ _ _ _ _ from by
        have h4 := pwrite_any (h2.still hb).ok (hbd.1.still hb) hbd.2.1 hbd.2.2.1 hbd.2.2.2.1 hbd.2.2.2.2
        rw [h2.b, Hyb.out] at h4
        refine h4.mono fun e w' hx => ?_
        obtain ⟨Y2, h5⟩ := (h2.still hb).next H1.out.bel hf (wrt := True) (fun _ => rfl) hx.2
        have h6 := (FRd.of (h5.lift H.out HI.out H1.out.bel)).cells rfl hf 5 (v := f.y.v) rfl
        unfold Bn.v at h6
        rw [hfc] at h6
        exact ⟨hx.1, h6, (show ∃ Yi, FL2 _ _ _ _ _ _ _ _ _ _ Yi from ⟨Y2, h5⟩)⟩)
       clear h2 hbd hfc hf hs2
       go_wp2
       refine wp_region_held_drew (S := (fun w' => w'.cell? ⟨lb, j * 6 + 5, none⟩ = some (.slice (some ⟨f.y.k, 0, none⟩) f.y.bs.length f.y.bs.length))) (by kernel_rfl) (dW0 l5) (fun hH => ?_)
       simp only [Act.put, lA, lC, lN, zA]
       refine tG 0 77 (.pointer (some ⟨yb, 0, none⟩)) rfl hH ?_
       simp only [aP, sA, sZ, sC]
       refine tG 1 78 (.pointer (some ⟨yb, 0, none⟩)) rfl hH ?_
       simp only [aP, sA, sZ, sC]
       refine tG 2 79 (.pointer (some ⟨yb, 6, none⟩)) rfl hH ?_
       simp only [aP, sA, sZ, sC]
       refine tG 3 80 (.slice (some ⟨lb, 0, none⟩) i lc) rfl hH ?_
       simp only [aP, sA, sZ, sC]
       refine tG 4 81 (.int .i64 (j : Int)) rfl hH ?_
       simp only [aP, sA, sZ, sC]
       refine tG 5 82 (.pointer (some ⟨lb, j * 6, none⟩)) rfl hH ?_
       simp only [aP, sA, sZ, sC]
       refine tG 6 83 (.pointer (some ⟨lb, j * 6 + 5, none⟩)) rfl hH ?_
       simp only [aP, sA, sZ, sC]
       refine tL 7 84 (.slice (some ⟨f.y.k, 0, none⟩) f.y.bs.length f.y.bs.length) rfl hH ?_
       simp only [aP, sA, sZ, sC]
       have hbD1 : Below wr.heap.size wr wr.drew := dB _
       have q0 := bA hbD1 l5
       generalize wr.drew = D1 at *
       refine rY 8 rfl fun K hK => ?_
       go_simp
       refine (HW.out D1 hbD1).mono ?_
       rintro e w2 ⟨rfl, z5, hx2⟩
       refine hK.out _ _ z5 (fun hH => ?_)
       clear hK K
       refine wpAnyH_done (by kernel_rfl) ?_ _
       clear hH
       clear hbD1 q0 l5
       go_wp2
       exact ⟨⟨j + 1, by omega, by go_num, hx2⟩, by simp [intOf]; omega⟩
      | false =>
       have HW : Hid (∀ D, Below wr.heap.size wr D -> Calls Try.prog 82 #[.pointer (some ⟨yb, 6, none⟩), .slice (some ⟨f.y.k, 0, none⟩) f.y.bs.length f.y.bs.length] D fun e w' => e = .returned (.tuple #[]) /\ w'.cell? ⟨lb, j * 6 + 5, none⟩ = some (.slice (some ⟨f.y.k, 0, none⟩) f.y.bs.length f.y.bs.length) /\ Hid (∃ Yi, FL2 w wz w' B T Y (.slice (some ⟨lb, 0, none⟩) i lc) fs (false = true) (j + 1) Yi)) := fun D hb => (show Calls _ _ _ _ _ from by
        have h4 := pkeep_any (h2.still hb).ok (hbd.1.still hb) hbd.2.1 hbd.2.2.1 hbd.2.2.2.1 hbd.2.2.2.2
        rw [h2.b, Hyb.out] at h4
        refine h4.mono fun e w' hx => ?_
        obtain ⟨Y2, h5⟩ := (h2.still hb).next H1.out.bel hf (wrt := False) (fun e => e.elim) hx.2
        have h6 := (FRd.of (h5.lift H.out HI.out H1.out.bel)).cells rfl hf 5 (v := f.y.v) rfl
        unfold Bn.v at h6
        rw [hfc] at h6
        exact ⟨hx.1, h6, (show ∃ Yi, FL2 _ _ _ _ _ _ _ _ _ _ Yi from ⟨Y2, h5⟩)⟩)
       clear h2 hbd hfc hf hs2
       go_wp2
       refine wp_region_held_drew (S := (fun w' => w'.cell? ⟨lb, j * 6 + 5, none⟩ = some (.slice (some ⟨f.y.k, 0, none⟩) f.y.bs.length f.y.bs.length))) (by kernel_rfl) (dW0 l5) (fun hH => ?_)
       simp only [Act.put, lA, lC, lN, zA]
       refine tG 0 86 (.pointer (some ⟨yb, 0, none⟩)) rfl hH ?_
       simp only [aP, sA, sZ, sC]
       refine tG 1 87 (.pointer (some ⟨yb, 0, none⟩)) rfl hH ?_
       simp only [aP, sA, sZ, sC]
       refine tG 2 88 (.pointer (some ⟨yb, 6, none⟩)) rfl hH ?_
       simp only [aP, sA, sZ, sC]
       refine tG 3 89 (.slice (some ⟨lb, 0, none⟩) i lc) rfl hH ?_
       simp only [aP, sA, sZ, sC]
       refine tG 4 90 (.int .i64 (j : Int)) rfl hH ?_
       simp only [aP, sA, sZ, sC]
       refine tG 5 91 (.pointer (some ⟨lb, j * 6, none⟩)) rfl hH ?_
       simp only [aP, sA, sZ, sC]
       refine tG 6 92 (.pointer (some ⟨lb, j * 6 + 5, none⟩)) rfl hH ?_
       simp only [aP, sA, sZ, sC]
       refine tL 7 93 (.slice (some ⟨f.y.k, 0, none⟩) f.y.bs.length f.y.bs.length) rfl hH ?_
       simp only [aP, sA, sZ, sC]
       have hbD1 : Below wr.heap.size wr wr.drew := dB _
       have q0 := bA hbD1 l5
       generalize wr.drew = D1 at *
       refine rY 8 rfl fun K hK => ?_
       go_simp
       refine (HW.out D1 hbD1).mono ?_
       rintro e w2 ⟨rfl, z5, hx2⟩
       refine hK.out _ _ z5 (fun hH => ?_)
       clear hK K
       refine wpAnyH_done (by kernel_rfl) ?_ _
       clear hH
       clear hbD1 q0 l5
       go_wp2
       exact ⟨⟨j + 1, by omega, by go_num, hx2⟩, by simp [intOf]; omega⟩
     ·have hje : j = i := by omega
      rw [hje] at hs2
      rw [hje]
      clear hje hlt hj
      obtain ⟨Yi, h2⟩ := hs2.out
      clear hs2
      obtain ⟨va, vc, hv⟩ := row_shape' H1.out.row
      subst hv
      have hkb := h2.up H.out (fun f hf => (HI.out.bod f hf).1) H1.out.bel H1.out.blk (by decide) (by decide) (.inl (Nat.le_refl _))
      cases tch with
      | false =>
       have y0 : wr.cell? ⟨w.heap.size, 0, none⟩ = some (.slice (some ⟨lb, 0, none⟩) i lc) := bC hkb 0
       have y1 : wr.cell? ⟨w.heap.size, 1, none⟩ = some (.slice none 0 0) := bC hkb 1
       have y2 : wr.cell? ⟨w.heap.size, 2, none⟩ = some (.slice va i vc) := bC hkb 2
       have y3 : wr.cell? ⟨w.heap.size, 3, none⟩ = some (.int .i64 mk) := bC hkb 3
       have y4 : wr.cell? ⟨w.heap.size, 4, none⟩ = some (.bool false) := bC hkb 4
       have HOk : Hid (∀ D, Below wr.heap.size wr D -> D.ownsRow B 48 5 (.slice ka nk kc) nk (Y.ks.flatMap Kr.cs)) := fun D hb => (show World.ownsRow _ _ _ _ _ _ _ from by have := own_still h2.ok.rk hb; rw [h2.kv, h2.ks, Hkv.out.1, Hkv.out.2] at this; exact this)
       have HBs : Hid (B ≤ wr.heap.size) := (show _ ≤ _ from h2.ok.bk.b)
       have HNk : Hid (¬ (Value.slice ka nk kc).ownBlock = some w.heap.size) := (show ¬ _ from fun e => by have h9 := H.out.rk; rw [Hkv.out.1] at h9; have := (World.ownsRow.lt h9 _ e).2; omega)
       have k9 : wr.cell? ⟨yb, 9, none⟩ = some (.slice ka nk kc) := by have := h2.ok.c 9 rfl; rw [h2.b, Hyb.out] at this; rw [<- Hkv.out.1, <- h2.kv]; exact this
       have HZc : Hid (∀ D D', Below wr.heap.size wr D -> Kept D D' (fun j => (Value.slice ka nk kc).ownBlock = some j) -> D'.frozen? ⟨yb, 9, none⟩ = false /\ ∃ zv, D'.cell? ⟨yb, 9, none⟩ = some zv) := fun D D' hb hk => (show _ /\ _ from by
        have h8 := h2.ok.bk.k
        rw [h2.b, Hyb.out] at h8
        have h9 := hk.obj (blk_up hb h8) fun e => by
         obtain ⟨C, hC⟩ := own_ty (HOk.out D hb) e
         exact blk_ne hC (blk_up hb h8) (by decide) rfl
        exact ⟨frozen_of_row D' _ 9 _ _ h9, _, bC h9 9⟩)
       have hne2 : w.heap.size ≠ yb := fun e => by
        have h8 := lt_heap H.out.bk.k
        rw [Hyb.out] at h8
        omega
       have HFn : Hid (∀ D w7 gg cap, Below wr.heap.size wr D -> w7.ownsRow B 48 5 (.slice (some ⟨gg, 0, none⟩) (nk + 1) cap) (nk + 1) (Y.ks.flatMap Kr.cs ++ [.slice (some ⟨lb, 0, none⟩) i lc, .slice none 0 0, .slice va i vc, .int .i64 mk, .bool false]) -> Kept D w7 (fun j => (Value.slice ka nk kc).ownBlock = some j) -> FrOut w (w7.setCell ⟨yb, 9, none⟩ (.slice (some ⟨gg, 0, none⟩) (nk + 1) cap)) B T Y (.slice (some ⟨lb, 0, none⟩) i lc) fs (false = true)) := fun D w7 gg cap hD ho hk => (show FrOut _ _ _ _ _ _ _ _ from by
        rw [<- Hkv.out.1] at hk
        rw [<- Hkv.out.2] at ho ⊢
        rw [<- Hyb.out]
        have eF : (false = true) = False := by simp
        rw [eF] at h2 ⊢
        exact fr_fin0 H.out H.out.bk.b HI.out H1.out h2 ⟨by omega, hm2⟩ (by rw [Hkv.out.2]; exact hfull) hD ho hk)
       clear h2 hkb
       go_wp2
       refine wp_region_held_drew (S := (fun w' => w'.cell? ⟨w.heap.size, 0, none⟩ = some (.slice (some ⟨lb, 0, none⟩) i lc) /\ w'.cell? ⟨w.heap.size, 1, none⟩ = some (.slice none 0 0) /\ w'.cell? ⟨w.heap.size, 2, none⟩ = some (.slice va i vc) /\ w'.cell? ⟨w.heap.size, 3, none⟩ = some (.int .i64 mk) /\ w'.cell? ⟨w.heap.size, 4, none⟩ = some (.bool false))) (by kernel_rfl) ⟨(dW0 y0), (dW0 y1), (dW0 y2), (dW0 y3), (dW0 y4)⟩ (fun hH => ?_)
       simp only [Act.put, lA, lC, lN, zA]
       refine tG 0 97 (.pointer (some ⟨yb, 0, none⟩)) rfl hH ?_
       simp only [aP, sA, sZ, sC]
       refine tG 1 98 (.pointer (some ⟨yb, 0, none⟩)) rfl hH ?_
       simp only [aP, sA, sZ, sC]
       refine tG 2 99 (.pointer (some ⟨yb, 0, none⟩)) rfl hH ?_
       simp only [aP, sA, sZ, sC]
       refine tG 3 100 (.pointer (some ⟨yb, 9, none⟩)) rfl hH ?_
       simp only [aP, sA, sZ, sC]
       refine tL 5 102 (.agg #[.slice (some ⟨lb, 0, none⟩) i lc, .slice none 0 0, .slice va i vc, .int .i64 mk, .bool false]) rfl hH ?_
       simp only [aP, sA, sZ, sC]
       have hbD6 : Below wr.heap.size wr wr.drew := dB _
       have q0 := bA hbD6 y0
       have q1 := bA hbD6 y1
       have q2 := bA hbD6 y2
       have q3 := bA hbD6 y3
       have q4 := bA hbD6 y4
       have iq0 := bA hbD6 k9
       generalize wr.drew = D6 at *
       refine wpAnyH_ready (rs := [4, 6]) (by kernel_rfl) (by simp) ?_
       refine AllReadyH.cons rfl (fun K hK => ?_) (AllReadyH.cons rfl (fun K hK => ?_) AllReadyH.nil)
       ·have zim := iq0
        go_simp
        clear zim
        refine hK.out _ _ ⟨q0, q1, q2, q3, q4⟩ (fun hH => ?_)
        clear hK K
        refine rY 6 rfl fun K hK => ?_
        go_simp
        refine hK.out _ _ ⟨(aL0 q0), (aL0 q1), (aL0 q2), (aL0 q3), (aL0 q4)⟩ (fun hH => ?_)
        clear hK K
        obtain ⟨w6a, hw6a⟩ : ∃ x, D6.alloc (.cells ([.slice (some ⟨lb, 0, none⟩) i lc, .slice none 0 0, .slice va i vc, .int .i64 mk, .bool false] : List Value).toArray 48) = x := ⟨_, rfl⟩
        have hb6a : Below D6.heap.size D6 w6a := by rw [<- hw6a]; exact balloc (Below.refl _ _)
        rw [hw6a] at hH ⊢
        refine rY 7 rfl fun K hK => ?_
        refine step_pushK (B := B) rfl _ _ rfl D6 _ _ [.slice (some ⟨lb, 0, none⟩) i lc, .slice none 0 0, .slice va i vc, .int .i64 mk, .bool false] rfl (kr_one _ _ _ _ _ _ _ _ _ _ _) rfl nk (HOk.out D6 hbD6) hw6a.symm rfl (by omega) (Nat.le_trans HBs.out hbD6.size) ?_
        intro gg cap w7 ho7 hk7 hg7 hl7
        have z0 := kC hk7 HNk.out q0
        have z1 := kC hk7 HNk.out q1
        have z2 := kC hk7 HNk.out q2
        have z3 := kC hk7 HNk.out q3
        have z4 := kC hk7 HNk.out q4
        refine hK.out _ _ ⟨z0, z1, z2, z3, z4⟩ (fun hH => ?_)
        clear hK K
        refine tG 8 105 (.pointer (some ⟨yb, 0, none⟩)) rfl hH ?_
        simp only [aP, sA, sZ, sC]
        refine tG 9 106 (.pointer (some ⟨yb, 9, none⟩)) rfl hH ?_
        simp only [aP, sA, sZ, sC]
        refine rY 10 rfl fun K hK => ?_
        obtain ⟨hzf, zv, hzv⟩ := HZc.out D6 w7 hbD6 hk7
        go_simp
        clear hzf hzv
        refine hK.out _ _ ⟨(below_set1 hne2 z0), (below_set1 hne2 z1), (below_set1 hne2 z2), (below_set1 hne2 z3), (below_set1 hne2 z4)⟩ (fun hH => ?_)
        clear hK K
        refine wpAnyH_done (by kernel_rfl) ?_ _
        clear hH
        have HO : Hid (FrOut w (w7.setCell ⟨yb, 9, none⟩ (.slice (some ⟨gg, 0, none⟩) (nk + 1) cap)) B T Y (.slice (some ⟨lb, 0, none⟩) i lc) fs (false = true)) := (show FrOut _ _ _ _ _ _ _ _ from (HFn.out D6 w7 gg cap hbD6 ho7 hk7).conv (by simp))
        clear hbD6 ho7 hk7 hg7 hl7 z0 q0 y0 z1 q1 y1 z2 q2 y2 z3 q3 y3 z4 q4 y4 hb6a hw6a iq0 k9
        generalize w7.setCell ⟨yb, 9, none⟩ (.slice (some ⟨gg, 0, none⟩) (nk + 1) cap) = wq at HO ⊢
        go_wp2
        go_ret
        exact ⟨rfl, HO.out.conv (by simp)⟩
       ·go_simp
        refine hK.out _ _ ⟨(aL0 q0), (aL0 q1), (aL0 q2), (aL0 q3), (aL0 q4)⟩ (fun hH => ?_)
        clear hK K
        obtain ⟨w6a, hw6a⟩ : ∃ x, D6.alloc (.cells ([.slice (some ⟨lb, 0, none⟩) i lc, .slice none 0 0, .slice va i vc, .int .i64 mk, .bool false] : List Value).toArray 48) = x := ⟨_, rfl⟩
        have hb6a : Below D6.heap.size D6 w6a := by rw [<- hw6a]; exact balloc (Below.refl _ _)
        rw [hw6a] at hH ⊢
        refine rY 4 rfl fun K hK => ?_
        have zim := (bA hb6a iq0)
        go_simp
        clear zim
        refine hK.out _ _ ⟨(bA hb6a q0), (bA hb6a q1), (bA hb6a q2), (bA hb6a q3), (bA hb6a q4)⟩ (fun hH => ?_)
        clear hK K
        refine rY 7 rfl fun K hK => ?_
        refine step_pushK (B := B) rfl _ _ rfl D6 _ _ [.slice (some ⟨lb, 0, none⟩) i lc, .slice none 0 0, .slice va i vc, .int .i64 mk, .bool false] rfl (kr_one _ _ _ _ _ _ _ _ _ _ _) rfl nk (HOk.out D6 hbD6) hw6a.symm rfl (by omega) (Nat.le_trans HBs.out hbD6.size) ?_
        intro gg cap w7 ho7 hk7 hg7 hl7
        have z0 := kC hk7 HNk.out q0
        have z1 := kC hk7 HNk.out q1
        have z2 := kC hk7 HNk.out q2
        have z3 := kC hk7 HNk.out q3
        have z4 := kC hk7 HNk.out q4
        refine hK.out _ _ ⟨z0, z1, z2, z3, z4⟩ (fun hH => ?_)
        clear hK K
        refine tG 8 105 (.pointer (some ⟨yb, 0, none⟩)) rfl hH ?_
        simp only [aP, sA, sZ, sC]
        refine tG 9 106 (.pointer (some ⟨yb, 9, none⟩)) rfl hH ?_
        simp only [aP, sA, sZ, sC]
        refine rY 10 rfl fun K hK => ?_
        obtain ⟨hzf, zv, hzv⟩ := HZc.out D6 w7 hbD6 hk7
        go_simp
        clear hzf hzv
        refine hK.out _ _ ⟨(below_set1 hne2 z0), (below_set1 hne2 z1), (below_set1 hne2 z2), (below_set1 hne2 z3), (below_set1 hne2 z4)⟩ (fun hH => ?_)
        clear hK K
        refine wpAnyH_done (by kernel_rfl) ?_ _
        clear hH
        have HO : Hid (FrOut w (w7.setCell ⟨yb, 9, none⟩ (.slice (some ⟨gg, 0, none⟩) (nk + 1) cap)) B T Y (.slice (some ⟨lb, 0, none⟩) i lc) fs (false = true)) := (show FrOut _ _ _ _ _ _ _ _ from (HFn.out D6 w7 gg cap hbD6 ho7 hk7).conv (by simp))
        clear hbD6 ho7 hk7 hg7 hl7 z0 q0 y0 z1 q1 y1 z2 q2 y2 z3 q3 y3 z4 q4 y4 hb6a hw6a iq0 k9
        generalize w7.setCell ⟨yb, 9, none⟩ (.slice (some ⟨gg, 0, none⟩) (nk + 1) cap) = wq at HO ⊢
        go_wp2
        go_ret
        exact ⟨rfl, HO.out.conv (by simp)⟩
      | true =>
       have HWr : Hid (Calls Try.prog 17 #[.pointer (some ⟨w.heap.size, 0, none⟩)] wr fun e w' => e = .returned (.tuple #[]) /\ WrO wr w' B (some ⟨lb, 0, none⟩) i lc mk w.heap.size 0 #[.slice (some ⟨lb, 0, none⟩) i lc, .slice none 0 0, .slice va i vc, .int .i64 mk, .bool false]) := (show Calls _ _ _ _ _ from write_any (h2.lift H.out HI.out H1.out.bel) h2.ok.bk.b hkb rfl ⟨_, rfl⟩ rfl ⟨_, rfl⟩ (by omega) ⟨by omega, hm2⟩)
       have H2 : Hid (FL2 w wz wr B T Y (.slice (some ⟨lb, 0, none⟩) i lc) fs (true = true) i Yi) := h2
       have Hkb : Hid (wr.heap[w.heap.size]? = some (.cells #[.slice (some ⟨lb, 0, none⟩) i lc, .slice none 0 0, .slice va i vc, .int .i64 mk, .bool false] 48 (0, 0))) := hkb
       clear h2 hkb
       go_wp2_with (first | (go_at_call 17; refine HWr.out.mono ?_) | fail)
       rintro e wy he hwo
       subst he
       obtain ⟨ga, gc, w1, w2b, ⟨xs, w3⟩, ⟨ys, w4⟩, w5, w6⟩ := hwo.out
       have h2 := H2.out
       have eT : (true = true) = True := by simp
       try rw [eT] at h2
       have hq := fr_keep1 H.out HI.out H1.out h2 Hkb.out w5
       have y0 : wy.cell? ⟨w.heap.size, 0, none⟩ = some (.slice (some ⟨lb, 0, none⟩) i lc) := bC w2b 0
       have y1 : wy.cell? ⟨w.heap.size, 1, none⟩ = some (.slice ga (i + 64) gc) := bC w2b 1
       have y2 : wy.cell? ⟨w.heap.size, 2, none⟩ = some (.slice va i vc) := bC w2b 2
       have y3 : wy.cell? ⟨w.heap.size, 3, none⟩ = some (.int .i64 mk) := bC w2b 3
       have y4 : wy.cell? ⟨w.heap.size, 4, none⟩ = some (.bool true) := bC w2b 4
       have HOk : Hid (∀ D, Below wy.heap.size wy D -> D.ownsRow B 48 5 (.slice ka nk kc) nk (Y.ks.flatMap Kr.cs)) := fun D hb => (show World.ownsRow _ _ _ _ _ _ _ from by have := own_still hq.rk hb; rw [h2.kv, h2.ks, Hkv.out.1, Hkv.out.2] at this; exact this)
       have HBs : Hid (B ≤ wy.heap.size) := (show _ ≤ _ from hq.bk.b)
       have HNk : Hid (¬ (Value.slice ka nk kc).ownBlock = some w.heap.size) := (show ¬ _ from fun e => by have h9 := H.out.rk; rw [Hkv.out.1] at h9; have := (World.ownsRow.lt h9 _ e).2; omega)
       have k9 : wy.cell? ⟨yb, 9, none⟩ = some (.slice ka nk kc) := by have := hq.c 9 rfl; rw [h2.b, Hyb.out] at this; rw [<- Hkv.out.1, <- h2.kv]; exact this
       have HZc : Hid (∀ D D', Below wy.heap.size wy D -> Kept D D' (fun j => (Value.slice ka nk kc).ownBlock = some j) -> D'.frozen? ⟨yb, 9, none⟩ = false /\ ∃ zv, D'.cell? ⟨yb, 9, none⟩ = some zv) := fun D D' hb hk => (show _ /\ _ from by
        have h8 := hq.bk.k
        rw [h2.b, Hyb.out] at h8
        have h9 := hk.obj (blk_up hb h8) fun e => by
         obtain ⟨C, hC⟩ := own_ty (HOk.out D hb) e
         exact blk_ne hC (blk_up hb h8) (by decide) rfl
        exact ⟨frozen_of_row D' _ 9 _ _ h9, _, bC h9 9⟩)
       have hne2 : w.heap.size ≠ yb := fun e => by
        have h8 := lt_heap H.out.bk.k
        rw [Hyb.out] at h8
        omega
       have HFn : Hid (∀ D w7 gg cap, Below wy.heap.size wy D -> w7.ownsRow B 48 5 (.slice (some ⟨gg, 0, none⟩) (nk + 1) cap) (nk + 1) (Y.ks.flatMap Kr.cs ++ [.slice (some ⟨lb, 0, none⟩) i lc, .slice ga (i + 64) gc, .slice va i vc, .int .i64 mk, .bool true]) -> Kept D w7 (fun j => (Value.slice ka nk kc).ownBlock = some j) -> FrOut w (w7.setCell ⟨yb, 9, none⟩ (.slice (some ⟨gg, 0, none⟩) (nk + 1) cap)) B T Y (.slice (some ⟨lb, 0, none⟩) i lc) fs (true = true)) := fun D w7 gg cap hD ho hk => (show FrOut _ _ _ _ _ _ _ _ from by
        rw [<- Hkv.out.1] at hk
        rw [<- Hkv.out.2] at ho ⊢
        rw [<- Hyb.out]
        rw [eT]
        exact fr_fin1 H.out HI.out H1.out h2 Hkb.out w5 w1 w3 w4 w6 ⟨by omega, hm2⟩ (by rw [Hkv.out.2]; exact hfull) hD ho hk)
       clear h2 hq w1 w2b w3 w4 w5 w6 hwo H2 Hkb HWr eT
       go_wp2
       refine wp_region_held_drew (S := (fun w' => w'.cell? ⟨w.heap.size, 0, none⟩ = some (.slice (some ⟨lb, 0, none⟩) i lc) /\ w'.cell? ⟨w.heap.size, 1, none⟩ = some (.slice ga (i + 64) gc) /\ w'.cell? ⟨w.heap.size, 2, none⟩ = some (.slice va i vc) /\ w'.cell? ⟨w.heap.size, 3, none⟩ = some (.int .i64 mk) /\ w'.cell? ⟨w.heap.size, 4, none⟩ = some (.bool true))) (by kernel_rfl) ⟨(dW0 y0), (dW0 y1), (dW0 y2), (dW0 y3), (dW0 y4)⟩ (fun hH => ?_)
       simp only [Act.put, lA, lC, lN, zA]
       refine tG 0 97 (.pointer (some ⟨yb, 0, none⟩)) rfl hH ?_
       simp only [aP, sA, sZ, sC]
       refine tG 1 98 (.pointer (some ⟨yb, 0, none⟩)) rfl hH ?_
       simp only [aP, sA, sZ, sC]
       refine tG 2 99 (.pointer (some ⟨yb, 0, none⟩)) rfl hH ?_
       simp only [aP, sA, sZ, sC]
       refine tG 3 100 (.pointer (some ⟨yb, 9, none⟩)) rfl hH ?_
       simp only [aP, sA, sZ, sC]
       refine tL 5 102 (.agg #[.slice (some ⟨lb, 0, none⟩) i lc, .slice ga (i + 64) gc, .slice va i vc, .int .i64 mk, .bool true]) rfl hH ?_
       simp only [aP, sA, sZ, sC]
       have hbD6 : Below wy.heap.size wy wy.drew := dB _
       have q0 := bA hbD6 y0
       have q1 := bA hbD6 y1
       have q2 := bA hbD6 y2
       have q3 := bA hbD6 y3
       have q4 := bA hbD6 y4
       have iq0 := bA hbD6 k9
       generalize wy.drew = D6 at *
       refine wpAnyH_ready (rs := [4, 6]) (by kernel_rfl) (by simp) ?_
       refine AllReadyH.cons rfl (fun K hK => ?_) (AllReadyH.cons rfl (fun K hK => ?_) AllReadyH.nil)
       ·have zim := iq0
        go_simp
        clear zim
        refine hK.out _ _ ⟨q0, q1, q2, q3, q4⟩ (fun hH => ?_)
        clear hK K
        refine rY 6 rfl fun K hK => ?_
        go_simp
        refine hK.out _ _ ⟨(aL0 q0), (aL0 q1), (aL0 q2), (aL0 q3), (aL0 q4)⟩ (fun hH => ?_)
        clear hK K
        obtain ⟨w6a, hw6a⟩ : ∃ x, D6.alloc (.cells ([.slice (some ⟨lb, 0, none⟩) i lc, .slice ga (i + 64) gc, .slice va i vc, .int .i64 mk, .bool true] : List Value).toArray 48) = x := ⟨_, rfl⟩
        have hb6a : Below D6.heap.size D6 w6a := by rw [<- hw6a]; exact balloc (Below.refl _ _)
        rw [hw6a] at hH ⊢
        refine rY 7 rfl fun K hK => ?_
        refine step_pushK (B := B) rfl _ _ rfl D6 _ _ [.slice (some ⟨lb, 0, none⟩) i lc, .slice ga (i + 64) gc, .slice va i vc, .int .i64 mk, .bool true] rfl (kr_one _ _ _ _ _ _ _ _ _ _ _) rfl nk (HOk.out D6 hbD6) hw6a.symm rfl (by omega) (Nat.le_trans HBs.out hbD6.size) ?_
        intro gg cap w7 ho7 hk7 hg7 hl7
        have z0 := kC hk7 HNk.out q0
        have z1 := kC hk7 HNk.out q1
        have z2 := kC hk7 HNk.out q2
        have z3 := kC hk7 HNk.out q3
        have z4 := kC hk7 HNk.out q4
        refine hK.out _ _ ⟨z0, z1, z2, z3, z4⟩ (fun hH => ?_)
        clear hK K
        refine tG 8 105 (.pointer (some ⟨yb, 0, none⟩)) rfl hH ?_
        simp only [aP, sA, sZ, sC]
        refine tG 9 106 (.pointer (some ⟨yb, 9, none⟩)) rfl hH ?_
        simp only [aP, sA, sZ, sC]
        refine rY 10 rfl fun K hK => ?_
        obtain ⟨hzf, zv, hzv⟩ := HZc.out D6 w7 hbD6 hk7
        go_simp
        clear hzf hzv
        refine hK.out _ _ ⟨(below_set1 hne2 z0), (below_set1 hne2 z1), (below_set1 hne2 z2), (below_set1 hne2 z3), (below_set1 hne2 z4)⟩ (fun hH => ?_)
        clear hK K
        refine wpAnyH_done (by kernel_rfl) ?_ _
        clear hH
        have HO : Hid (FrOut w (w7.setCell ⟨yb, 9, none⟩ (.slice (some ⟨gg, 0, none⟩) (nk + 1) cap)) B T Y (.slice (some ⟨lb, 0, none⟩) i lc) fs (true = true)) := (show FrOut _ _ _ _ _ _ _ _ from (HFn.out D6 w7 gg cap hbD6 ho7 hk7).conv (by simp))
        clear hbD6 ho7 hk7 hg7 hl7 z0 q0 y0 z1 q1 y1 z2 q2 y2 z3 q3 y3 z4 q4 y4 hb6a hw6a iq0 k9
        generalize w7.setCell ⟨yb, 9, none⟩ (.slice (some ⟨gg, 0, none⟩) (nk + 1) cap) = wq at HO ⊢
        go_wp2
        go_ret
        exact ⟨rfl, HO.out.conv (by simp)⟩
       ·go_simp
        refine hK.out _ _ ⟨(aL0 q0), (aL0 q1), (aL0 q2), (aL0 q3), (aL0 q4)⟩ (fun hH => ?_)
        clear hK K
        obtain ⟨w6a, hw6a⟩ : ∃ x, D6.alloc (.cells ([.slice (some ⟨lb, 0, none⟩) i lc, .slice ga (i + 64) gc, .slice va i vc, .int .i64 mk, .bool true] : List Value).toArray 48) = x := ⟨_, rfl⟩
        have hb6a : Below D6.heap.size D6 w6a := by rw [<- hw6a]; exact balloc (Below.refl _ _)
        rw [hw6a] at hH ⊢
        refine rY 4 rfl fun K hK => ?_
        have zim := (bA hb6a iq0)
        go_simp
        clear zim
        refine hK.out _ _ ⟨(bA hb6a q0), (bA hb6a q1), (bA hb6a q2), (bA hb6a q3), (bA hb6a q4)⟩ (fun hH => ?_)
        clear hK K
        refine rY 7 rfl fun K hK => ?_
        refine step_pushK (B := B) rfl _ _ rfl D6 _ _ [.slice (some ⟨lb, 0, none⟩) i lc, .slice ga (i + 64) gc, .slice va i vc, .int .i64 mk, .bool true] rfl (kr_one _ _ _ _ _ _ _ _ _ _ _) rfl nk (HOk.out D6 hbD6) hw6a.symm rfl (by omega) (Nat.le_trans HBs.out hbD6.size) ?_
        intro gg cap w7 ho7 hk7 hg7 hl7
        have z0 := kC hk7 HNk.out q0
        have z1 := kC hk7 HNk.out q1
        have z2 := kC hk7 HNk.out q2
        have z3 := kC hk7 HNk.out q3
        have z4 := kC hk7 HNk.out q4
        refine hK.out _ _ ⟨z0, z1, z2, z3, z4⟩ (fun hH => ?_)
        clear hK K
        refine tG 8 105 (.pointer (some ⟨yb, 0, none⟩)) rfl hH ?_
        simp only [aP, sA, sZ, sC]
        refine tG 9 106 (.pointer (some ⟨yb, 9, none⟩)) rfl hH ?_
        simp only [aP, sA, sZ, sC]
        refine rY 10 rfl fun K hK => ?_
        obtain ⟨hzf, zv, hzv⟩ := HZc.out D6 w7 hbD6 hk7
        go_simp
        clear hzf hzv
        refine hK.out _ _ ⟨(below_set1 hne2 z0), (below_set1 hne2 z1), (below_set1 hne2 z2), (below_set1 hne2 z3), (below_set1 hne2 z4)⟩ (fun hH => ?_)
        clear hK K
        refine wpAnyH_done (by kernel_rfl) ?_ _
        clear hH
        have HO : Hid (FrOut w (w7.setCell ⟨yb, 9, none⟩ (.slice (some ⟨gg, 0, none⟩) (nk + 1) cap)) B T Y (.slice (some ⟨lb, 0, none⟩) i lc) fs (true = true)) := (show FrOut _ _ _ _ _ _ _ _ from (HFn.out D6 w7 gg cap hbD6 ho7 hk7).conv (by simp))
        clear hbD6 ho7 hk7 hg7 hl7 z0 q0 y0 z1 q1 y1 z2 q2 y2 z3 q3 y3 z4 q4 y4 hb6a hw6a iq0 k9
        generalize w7.setCell ⟨yb, 9, none⟩ (.slice (some ⟨gg, 0, none⟩) (nk + 1) cap) = wq at HO ⊢
        go_wp2
        go_ret
        exact ⟨rfl, HO.out.conv (by simp)⟩
   ·have j2 : (nk : Int) ≥ 24 := by omega
    have j3 : decide ((24 : Int) ≤ (nk : Int)) = true := by simp; omega
    clear HF H1
    go_wp2
    go_ret
    exact ⟨rfl, HFu.out.conv (by simp)⟩
end
end Go.Proofs.Ythanifbimndhaaa.Ln
