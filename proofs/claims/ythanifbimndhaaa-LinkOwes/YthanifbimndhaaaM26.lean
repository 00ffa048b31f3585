import Derived.Test.YthanifbimndhaaaM25
namespace Go.Proofs.Ythanifbimndhaaa.Ln
set_option maxHeartbeats 40000000
open Go.RowKit Mb
set_option linter.unusedVariables false
set_option maxRecDepth 100000
set_option linter.unusedSimpArgs false
section
variable {w w' W w0 : World} {B T : Nat} {Y : Pl}
theorem fr_set {i : Nat} {m : Option (Mx × Rx)} {vp : Value} {nx : Int} (hi : i < 3) (h : w.heap[Y.b]? = some (.cells #[Y.fr.p0, Y.fr.p1, Y.fr.p2, Y.fr.d0, Y.fr.d1, Y.fr.d2, vp, .slice none 0 0, .int .i64 nx, Y.fr.ls, Y.fr.os, Y.fr.tn] 37 (0, 0))) : ((w.setCell ⟨Y.b, i, none⟩ (mpt m)).setCell ⟨Y.b, 3 + i, none⟩ (dpt m)).heap[Y.b]? = some (.cells #[(Y.setM i m).fr.p0, (Y.setM i m).fr.p1, (Y.setM i m).fr.p2, (Y.setM i m).fr.d0, (Y.setM i m).fr.d1, (Y.setM i m).fr.d2, vp, .slice none 0 0, .int .i64 nx, Y.fr.ls, Y.fr.os, Y.fr.tn] 37 (0, 0)) := by
 match i, hi with
 | 0, _ => exact blk_set (blk_set h rfl) rfl
 | 1, _ => exact blk_set (blk_set h rfl) rfl
 | 2, _ => exact blk_set (blk_set h rfl) rfl
theorem PlOk.made {i : Nat} {m : Option (Mx × Rx)} (h : PlOk Y w0 B T) (hb : Below w0.heap.size w0 w) (hi : i < 3) (hm : ∀ M R, m = some (M, R) -> Duo w B T M R /\ ∀ j, (M.own j ∨ R.own j) -> w0.heap.size ≤ j) : PlOk (Y.setM i m) ((w.setCell ⟨Y.b, i, none⟩ (mpt m)).setCell ⟨Y.b, 3 + i, none⟩ (dpt m)) B T := by
 have hw := h.still hb
 have hfs := fr_set (m := m) hi hw.bk.k
 generalize hX : (w.setCell ⟨Y.b, i, none⟩ (mpt m)).setCell ⟨Y.b, 3 + i, none⟩ (dpt m) = X at *
 have k1 : Kept w X (fun j => j = Y.b) := by rw [<- hX]; exact (kset (P := fun j => j = Y.b) _ _ _ _ rfl).trans (kset _ _ _ _ rfl)
 have hty : ∀ {t s : Nat} {v : Value} {n : Nat} {l : List Value}, w.ownsRow B t s v n l -> t ≠ 37 -> X.ownsRow B t s v n l := fun hr t1 => k1.owns hr fun j hj e => by
  obtain ⟨C, hC⟩ := own_ty hr hj
  rw [e] at hC
  exact blk_ne hC hw.bk.k t1 rfl
 have hKr : ∀ {t s f : Nat} {lo hi : Int} {q : Kr}, KrOK t s f lo hi w B q -> t ≠ 37 -> KrOK t s f lo hi X B q := fun hq t1 => hq.keep k1 fun j hj e => by
  rw [e] at hj
  exact hq.ne hw.bk.k (fun e => t1 e.symm) (by decide) hj
 have hbk := hw.bk
 have hybl : Y.b < w0.heap.size := lt_heap h.bk.k
 have hM : ∀ k M R, (Y.setM i m).M k = some (M, R) -> (k = i /\ m = some (M, R)) ∨ (k ≠ i /\ Y.M k = some (M, R)) := fun k M R hk => by
  have hk' : upd Y.M i m k = some (M, R) := hk
  by_cases c : k = i
  ·subst c; rw [upd_same] at hk'; exact .inl ⟨rfl, hk'⟩
  ·rw [upd_ne _ _ c] at hk'; exact .inr ⟨c, hk'⟩
 refine { bk := ⟨hfs, hty hbk.o (by decide), fun g' hg' => (hbk.ok g' hg').kept (kbk k1) fun j hj e => ?_, hbk.sep, by have := hbk.b; have := k1.size; omega, hbk.n0, hbk.n1, hbk.cnt⟩, gd := h.gd, nx := h.nx, lo := h.lo, rk := hty hw.rk (by decide), ro := hty hw.ro (by decide), kok := fun q hq => hKr (hw.kok q hq) (by decide), ook := fun q hq => hKr (hw.ook q hq) (by decide), duo := fun k M R hk hY => ?_, mm := fun k k' M R M' R' hk hk' hne hY hY' j h1 h2 => ?_, mq := ?_, kk := h.kk, oo := h.oo, dk := h.dk, dO := h.dO, ck := h.ck, co := h.co, t1 := h.t1, tb := h.tb }
 ·obtain ⟨C, hC⟩ := Bk.holds_type (hbk.ok g' hg') hj
  rw [e] at hC
  exact blk_ne hC hbk.k (by decide) rfl
 ·rcases hM k M R hY with ⟨_, e⟩ | ⟨_, e⟩
  ·have := hm M R e
   exact this.1.keep k1 fun j hj e2 => by have := this.2 j hj; omega
  ·exact (hw.duo k M R hk e).keep k1 fun j hj e2 => by rw [e2] at hj; exact hw.mo_ne hbk.k (.inl rfl) ⟨k, M, R, hk, e, hj⟩
 ·rcases hM k M R hY with ⟨c1, e1⟩ | ⟨c1, e1⟩
  ·rcases hM k' M' R' hY' with ⟨c2, e2⟩ | ⟨c2, e2⟩
   ·exact hne (c1.trans c2.symm)
   ·have h3 := (hm M R e1).2 j h1
    have h4 := ((h.duo k' M' R' hk' e2).lt h2).2
    omega
  ·rcases hM k' M' R' hY' with ⟨c2, e2⟩ | ⟨c2, e2⟩
   ·have h3 := (hm M' R' e2).2 j h2
    have h4 := ((h.duo k M R hk e1).lt h1).2
    omega
   ·exact h.mm k k' M R M' R' hk hk' hne e1 e2 j h1 h2
 ·rintro j ⟨k, M, R, hk, hY, hj⟩
  rcases hM k M R hY with ⟨_, e⟩ | ⟨_, e⟩
  ·have h3 := (hm M R e).2 j hj
   refine ⟨fun h4 => ?_, fun h4 => ?_, fun h4 => ?_⟩
   ·have := (h.kf_lt h4).2; omega
   ·have := (h.of_lt h4).2; omega
   ·have := (h.pf_lt h4).2; omega
  ·exact h.mq j ⟨k, M, R, hk, e, hj⟩
end
section
variable {w w' W : World} {B T : Nat} {Y : Pl}
theorem new_no2 {n self win room : Int} (h : nwB n self win room = false) : Calls Try.prog 23 #[.int .i64 n, .int .i64 self, .int .i64 win, .int .i64 room] w fun e w' => e = .returned (.tuple #[.pointer none, .int .i64 1]) /\ w = w' := by
 by_cases hn : -9223372036854775808 ≤ n - 1
 ·exact new_no hn h
 ·have e1 : inR 1 16 n = false := by simp [inR]; omega
  clear h hn
  go_enter Try.func23, Try.ntmps23
  go_wp2_with (first | (go_at_call 66; refine (within_any _ _ _).mono ?_; rintro e w' ⟨rfl, rfl⟩) | fail)
  exact bodyPost_ret (v := .tuple #[.pointer none, .int .i64 1]) (by simp [results, Try.results23, go_sem]) rfl ⟨rfl, rfl⟩
theorem new_duo {w1 D w2 : World} {n self win room g c b : Nat} (hB : B ≤ w.heap.size) (hT : T ≤ 1000) (h1 : (mnew (w.heap.size + 1) w.heap.size n self win room).Ok w1 w.heap.size) (hb : Below w1.heap.size w1 D) (h2 : (⟨D.heap.size, g, c, n, self, win, room, ⟨0, 0, 0, 0⟩, rnp []⟩ : Rx).Ok w2 D.heap.size 0) (hc : Below D.heap.size D w2) : Duo w2 B T (mnew (w.heap.size + 1) w.heap.size n self win room) ⟨D.heap.size, g, c, n, self, win, room, ⟨0, 0, 0, 0⟩, rnp []⟩ /\ ∀ j, ((mnew (w.heap.size + 1) w.heap.size n self win room).own j ∨ (⟨D.heap.size, g, c, n, self, win, room, ⟨0, 0, 0, 0⟩, rnp []⟩ : Rx).own j) -> w.heap.size ≤ j := by
 have hsz : w.heap.size ≤ D.heap.size := by have h3 := lt_heap h1.blk; have h4 := hb.size; have h5 : w.heap.size + 1 < w1.heap.size := h3; omega
 have hm := (h1.still hb).still hc
 refine ⟨⟨{ hm with lo := ⟨Nat.le_trans hB hm.lo.1, Nat.le_trans hB hm.lo.2⟩, el := fun q e he => (by cases he) }, ?_, ⟨rfl, rfl, rfl, rfl, rfl, fun q hq he => by simp [rnp], fun q E hq he => (by cases he)⟩, fun j hj hr => ?_⟩, fun j hj => ?_⟩
 ·have h3 := h2.mono (T' := T) (Nat.zero_le _) hT
  exact { h3 with el := fun q hq => rnp_ok [] q, lo := ⟨Nat.le_trans (Nat.le_trans hB hsz) h3.lo.1, Nat.le_trans (Nat.le_trans hB hsz) h3.lo.2⟩ }
 ·have h3 := (h1.still hb).lt hj
  have h4 := h2.loj hr
  omega
 ·rcases hj with hj | hj
  ·exact h1.loj hj
  ·exact Nat.le_trans hsz (h2.loj hj)
structure NwA (w w' : World) (n sf win room : Nat) (e : Ending) : Prop where
 out : e = .returned (.tuple #[.pointer (some ⟨w.heap.size + 1, 0, none⟩), .int .i64 0]) /\ (mnew (w.heap.size + 1) w.heap.size n sf win room).Ok w' w.heap.size /\ Below w.heap.size w w'
structure MdO (w w' : World) (B T : Nat) (Y : Pl) (k : Nat) : Prop where
 out : ∃ m, PlOk (Y.setM k m) w' B T /\ Kept w w' (fun j => j = Y.b)
theorem made_no {k bn bc pn pc : Nat} {kd pe nn mm ww : Int} {t : Tg} {ba pa : Option Addr} (h : PlOk Y w B T) (hk : k < 3) (hno : nwB nn pe mm ww = false) : Calls Try.prog 13 #[.pointer (some ⟨Y.b, 0, none⟩), .agg #[.int .i64 (k : Int), .int .i64 kd, .int .i64 pe, .int .i64 nn, .int .i64 mm, .int .i64 ww, .int .i64 t.e, .int .i64 t.l, .int .i64 t.i, .int .i64 t.c, .slice ba bn bc, .slice pa pn pc]] w fun e w' => e = .returned (.bool true) /\ MdO w w' B T Y k := by
 have H : Hid (PlOk Y w B T) := h
 obtain ⟨yb, hyb⟩ : ∃ b, Y.b = b := ⟨_, rfl⟩
 have Hyb : Hid (Y.b = yb) := hyb
 have hne : w.heap.size ≠ yb := fun e => by have := lt_heap h.bk.k; omega
 rw [hyb]
 have i1 : (0 : Int) ≤ (k : Int) := Int.natCast_nonneg _
 have i2 : (k : Int) < 3 := by omega
 generalize hW : w.alloc (.cells #[.int .i64 (k : Int), .int .i64 kd, .int .i64 pe, .int .i64 nn, .int .i64 mm, .int .i64 ww, .int .i64 t.e, .int .i64 t.l, .int .i64 t.i, .int .i64 t.c, .slice ba bn bc, .slice pa pn pc] 43) = W
 have hbW := bW0 hW
 have HbW : Hid (Below w.heap.size w W) := hbW
 have hblk := hQ0 hW
 have b0 : W.cell? ⟨w.heap.size, 0, none⟩ = some (.int .i64 (k : Int)) := bC hblk 0
 have a2 : W.cell? ⟨w.heap.size, 2, none⟩ = some (.int .i64 pe) := bC hblk 2
 have a3 : W.cell? ⟨w.heap.size, 3, none⟩ = some (.int .i64 nn) := bC hblk 3
 have a4 : W.cell? ⟨w.heap.size, 4, none⟩ = some (.int .i64 mm) := bC hblk 4
 have a5 : W.cell? ⟨w.heap.size, 5, none⟩ = some (.int .i64 ww) := bC hblk 5
 have hb2 : Below W.heap.size W W := Below.refl _ _
 have HN1 : Hid (Calls Try.prog 23 #[.int .i64 nn, .int .i64 pe, .int .i64 mm, .int .i64 ww] W fun e w' => e = .returned (.tuple #[.pointer none, .int .i64 1]) /\ W = w') := (show Calls _ _ _ _ _ from new_no2 hno)
 have HN2 : Hid (Calls Try.prog 29 #[.int .i64 nn, .int .i64 pe, .int .i64 mm, .int .i64 ww] W fun e w' => e = .returned (.tuple #[.pointer none, .int .i64 1]) /\ W = w') := (show Calls _ _ _ _ _ from rnew_no hno)
 clear h hyb hbW hblk hno
 go_enter Try.func13, Try.ntmps13
 go_wp2_with (first | (go_at_call 23; refine HN1.out.mono ?_; rintro e w9 ⟨rfl, rfl⟩) | (go_at_call 29; refine HN2.out.mono ?_; rintro e w9 ⟨rfl, rfl⟩) | fail)
 have b3 := bA hb2 b0
 have hq2 := H.out.still (bstep HbW.out hb2)
 have h8 := (hq2.still (dB _)).bk.k
 rw [Hyb.out] at h8
 have HC3 : Hid ((∃ zv, W.drew.cell? ⟨yb, k, none⟩ = some zv) /\ W.drew.frozen? ⟨yb, k, none⟩ = false) := (show _ /\ _ from ⟨⟨_, (bC h8 k).trans (Array.getElem?_eq_getElem (by simp; omega))⟩, frozen_of_row _ _ k _ _ h8⟩)
 obtain ⟨X1, hX1⟩ : ∃ x, (W.drew.setCell ⟨yb, k, none⟩ (.pointer none)) = x := ⟨_, rfl⟩
 have b4 : X1.cell? ⟨w.heap.size, 0, none⟩ = some (.int .i64 (k : Int)) := by rw [<- hX1]; exact below_set1 hne (dW0 b3)
 have HC4 : Hid ((∃ zv, X1.drew.cell? ⟨yb, 3 + k, none⟩ = some zv) /\ X1.drew.frozen? ⟨yb, 3 + k, none⟩ = false) := (show _ /\ _ from by
  have h9 := blk_set (i := k) (v := .pointer none) h8 rfl
  rw [hX1] at h9
  have h10 := blk_up (dB X1) h9
  exact ⟨⟨_, (bC h10 (3 + k)).trans (Array.getElem?_eq_getElem (by simp; omega))⟩, frozen_of_row _ _ (3 + k) _ _ h10⟩)
 obtain ⟨Xf, hXf⟩ : ∃ x, X1.drew.setCell ⟨yb, 3 + k, none⟩ (.pointer none) = x := ⟨_, rfl⟩
 have b5 : Xf.cell? ⟨w.heap.size, 0, none⟩ = some (.int .i64 (k : Int)) := by rw [<- hXf]; exact below_set1 hne (dW0 b4)
 have HR : Hid (MdO w Xf B T Y k) := (show MdO _ _ _ _ _ _ from by
  rw [<- hXf]
  have h9 := PlOk.made (m := none) (i := k) H.out (bstep (bstep HbW.out hb2) (dB _)) hk (fun M R e => by cases e)
  rw [Hyb.out] at h9
  refine ⟨none, h9.still ?_, ?_⟩
  ·rw [<- hX1]; exact ⟨rfl, rfl, rfl, Nat.le_refl _, fun _ _ => rfl⟩
  ·have k9 : Kept w W.drew (fun j => j = Y.b) := Kept.ofBelow (bstep (bstep HbW.out hb2) (dB _)) _
   rw [<- hX1, Hyb.out]
   rw [Hyb.out] at k9
   exact ((k9.trans (kset (P := fun j => j = yb) _ _ _ _ rfl)).trans (Kept.ofBelow (dB _) _)).trans (kset (P := fun j => j = yb) _ _ _ _ rfl))
 clear hq2 h8
 go_wp2
 refine wp_region_held_drew (S := (fun w' => w'.cell? ⟨w.heap.size, 0, none⟩ = some (.int .i64 (k : Int)))) (by kernel_rfl) (dW0 b3) (fun hH => ?_)
 simp only [Act.put, lA, lC, lN, zA]
 refine tG 0 33 (.pointer (some ⟨yb, 0, none⟩)) rfl hH ?_
 simp only [aP, sA, sZ, sC]
 refine tG 1 34 (.pointer (some ⟨w.heap.size, 0, none⟩)) rfl hH ?_
 simp only [aP, sA, sZ, sC]
 refine tL 2 35 (.int .i64 (k : Int)) rfl hH ?_
 simp only [aP, sA, sZ, sC]
 refine tG 3 36 (.pointer none) rfl hH ?_
 simp only [aP, sA, sZ, sC]
 refine tG 4 37 (.pointer (some ⟨yb, 0, none⟩)) rfl hH ?_
 simp only [aP, sA, sZ, sC]
 refine tG 5 38 (.pointer (some ⟨yb, 0, none⟩)) rfl hH ?_
 simp only [aP, sA, sZ, sC]
 refine tG 6 39 (.pointer (some ⟨yb, k, none⟩)) rfl hH ?_
 simp only [aP, sA, sZ, sC]
 have hbD1 : Below W.heap.size W W.drew := dB _
 have q0 := bA hbD1 b3
 refine rY 7 rfl fun K hK => ?_
 have zc := HC3.out.1
 have zf := HC3.out.2
 obtain ⟨zv, hzv⟩ := zc
 go_simp
 clear hzv zf
 refine hK.out _ _ b4 (fun hH => ?_)
 clear hK K
 refine wpAnyH_done (by kernel_rfl) ?_ _
 clear hH
 clear hX1 b3 HC3 hbD1 q0
 go_wp2
 refine wp_region_held_drew (S := (fun w' => w'.cell? ⟨w.heap.size, 0, none⟩ = some (.int .i64 (k : Int)))) (by kernel_rfl) (dW0 b4) (fun hH => ?_)
 simp only [Act.put, lA, lC, lN, zA]
 refine tG 0 40 (.pointer (some ⟨yb, 0, none⟩)) rfl hH ?_
 simp only [aP, sA, sZ, sC]
 refine tG 1 41 (.pointer (some ⟨w.heap.size, 0, none⟩)) rfl hH ?_
 simp only [aP, sA, sZ, sC]
 refine tL 2 42 (.int .i64 (k : Int)) rfl hH ?_
 simp only [aP, sA, sZ, sC]
 refine tG 3 43 (.pointer none) rfl hH ?_
 simp only [aP, sA, sZ, sC]
 refine tG 4 44 (.pointer (some ⟨yb, 0, none⟩)) rfl hH ?_
 simp only [aP, sA, sZ, sC]
 refine tG 5 45 (.pointer (some ⟨yb, 3, none⟩)) rfl hH ?_
 simp only [aP, sA, sZ, sC]
 refine tG 6 46 (.pointer (some ⟨yb, 3 + k, none⟩)) rfl hH ?_
 simp only [aP, sA, sZ, sC]
 have hbD1 : Below X1.heap.size X1 X1.drew := dB _
 have q0 := bA hbD1 b4
 refine rY 7 rfl fun K hK => ?_
 have zc := HC4.out.1
 have zf := HC4.out.2
 obtain ⟨zv, hzv⟩ := zc
 go_simp
 clear hzv zf
 refine hK.out _ _ b5 (fun hH => ?_)
 clear hK K
 refine wpAnyH_done (by kernel_rfl) ?_ _
 clear hH
 clear b4 b5 HC4 hbD1 q0 hXf
 go_wp2_with (first | (go_at_call 24; refine (num_any _).mono ?_; rintro e w9 ⟨rfl, rfl⟩) | fail)
 go_ret
 exact ⟨rfl, HR.out⟩
theorem made_yes {k bn bc pn pc n self win room : Nat} {kd : Int} {t : Tg} {ba pa : Option Addr} (h : PlOk Y w B T) (hk : k < 3) (q1 : 1 ≤ n) (q2 : n ≤ 16) (q3 : self < n) (q4 : 1 ≤ win) (q5 : win ≤ room) (q6 : room ≤ 20000) : Calls Try.prog 13 #[.pointer (some ⟨Y.b, 0, none⟩), .agg #[.int .i64 (k : Int), .int .i64 kd, .int .i64 (self : Int), .int .i64 (n : Int), .int .i64 (win : Int), .int .i64 (room : Int), .int .i64 t.e, .int .i64 t.l, .int .i64 t.i, .int .i64 t.c, .slice ba bn bc, .slice pa pn pc]] w fun e w' => e = .returned (.bool true) /\ MdO w w' B T Y k := by
 have H : Hid (PlOk Y w B T) := h
 obtain ⟨yb, hyb⟩ : ∃ b, Y.b = b := ⟨_, rfl⟩
 have Hyb : Hid (Y.b = yb) := hyb
 have hne : w.heap.size ≠ yb := fun e => by have := lt_heap h.bk.k; omega
 rw [hyb]
 have i1 : (0 : Int) ≤ (k : Int) := Int.natCast_nonneg _
 have i2 : (k : Int) < 3 := by omega
 generalize hW : w.alloc (.cells #[.int .i64 (k : Int), .int .i64 kd, .int .i64 (self : Int), .int .i64 (n : Int), .int .i64 (win : Int), .int .i64 (room : Int), .int .i64 t.e, .int .i64 t.l, .int .i64 t.i, .int .i64 t.c, .slice ba bn bc, .slice pa pn pc] 43) = W
 have hbW := bW0 hW
 have HbW : Hid (Below w.heap.size w W) := hbW
 have hblk := hQ0 hW
 have b0 : W.cell? ⟨w.heap.size, 0, none⟩ = some (.int .i64 (k : Int)) := bC hblk 0
 have a2 : W.cell? ⟨w.heap.size, 2, none⟩ = some (.int .i64 (self : Int)) := bC hblk 2
 have a3 : W.cell? ⟨w.heap.size, 3, none⟩ = some (.int .i64 (n : Int)) := bC hblk 3
 have a4 : W.cell? ⟨w.heap.size, 4, none⟩ = some (.int .i64 (win : Int)) := bC hblk 4
 have a5 : W.cell? ⟨w.heap.size, 5, none⟩ = some (.int .i64 (room : Int)) := bC hblk 5
 have Ht1 : Hid (B ≤ W.heap.size /\ T ≤ 1000 /\ w.heap.size ≤ W.heap.size) := (show _ /\ _ from ⟨Nat.le_trans h.bk.b hbW.size, by have := h.t1; omega, hbW.size⟩)
 have HN1 : Hid (Calls Try.prog 23 #[.int .i64 (n : Int), .int .i64 (self : Int), .int .i64 (win : Int), .int .i64 (room : Int)] W fun e w' => NwA W w' n self win room e) := (show Calls _ _ _ _ _ from (new_ok q1 q2 q3 q4 q5 q6).mono fun e w' hx => ⟨hx⟩)
 have HN2 : Hid (∀ D, Calls Try.prog 29 #[.int .i64 (n : Int), .int .i64 (self : Int), .int .i64 (win : Int), .int .i64 (room : Int)] D fun e w' => NwO D w' n self win room e) := fun D => (show Calls _ _ _ _ _ from rnew_ok q1 q2 q3 q4 q5 q6)
 clear h hyb hbW hblk q1 q2 q3 q4 q5 q6
 go_enter Try.func13, Try.ntmps13
 go_wp2_with (first | (go_at_call 23; refine HN1.out.mono ?_) | fail)
 rintro e w1 hx
 obtain ⟨he, hok, hb1⟩ := hx.out
 subst he
 have c2 := bA hb1 a2
 have c3 := bA hb1 a3
 have c4 := bA hb1 a4
 have c5 := bA hb1 a5
 have Hok : Hid ((mnew (W.heap.size + 1) W.heap.size n self win room).Ok w1 W.heap.size /\ Below W.heap.size W w1) := (show _ /\ _ from ⟨hok, hb1⟩)
 obtain ⟨mb, hmb⟩ : ∃ x, W.heap.size + 1 = x := ⟨_, rfl⟩
 rw [hmb]
 have Hmb : Hid (W.heap.size + 1 = mb) := hmb
 clear hx hok hb1 a2 a3 a4 a5 hmb HN1
 go_wp2_with (first | (go_at_call 29; refine (HN2.out _).mono ?_) | fail)
 rintro e w2 hx
 obtain ⟨g, c, he, hok2, hb3⟩ := hx.out
 subst he
 have hb2 : Below W.heap.size W w2 := bstep Hok.out.2 hb3
 have Hdu : Hid (∀ M R, some (mnew mb W.heap.size n self win room, (⟨w1.heap.size, g, c, n, self, win, room, ⟨0, 0, 0, 0⟩, rnp []⟩ : Rx)) = some (M, R) -> Duo w2.drew B T M R /\ ∀ j, (M.own j ∨ R.own j) -> w.heap.size ≤ j) := fun M R e => (show _ /\ _ from by
  have h7 := new_duo (B := B) (T := T) (b := 0) Ht1.out.1 Ht1.out.2.1 Hok.out.1 (Below.refl _ _) hok2 hb3
  rw [Hmb.out] at h7
  cases e
  exact ⟨h7.1.still (dB _), fun j hj => Nat.le_trans Ht1.out.2.2 (h7.2 j hj)⟩)
 obtain ⟨rb, hrb⟩ : ∃ x, w1.heap.size = x := ⟨_, rfl⟩
 rw [hrb] at Hdu
 rw [hrb]
 clear hx hok2 hb3 c2 c3 c4 c5 hrb HN2
 have b3 := bA hb2 b0
 have hq2 := H.out.still (bstep HbW.out hb2)
 have h8 := (hq2.still (dB _)).bk.k
 rw [Hyb.out] at h8
 have HC3 : Hid ((∃ zv, w2.drew.cell? ⟨yb, k, none⟩ = some zv) /\ w2.drew.frozen? ⟨yb, k, none⟩ = false) := (show _ /\ _ from ⟨⟨_, (bC h8 k).trans (Array.getElem?_eq_getElem (by simp; omega))⟩, frozen_of_row _ _ k _ _ h8⟩)
 obtain ⟨X1, hX1⟩ : ∃ x, (w2.drew.setCell ⟨yb, k, none⟩ (.pointer (some ⟨mb, 0, none⟩))) = x := ⟨_, rfl⟩
 have b4 : X1.cell? ⟨w.heap.size, 0, none⟩ = some (.int .i64 (k : Int)) := by rw [<- hX1]; exact below_set1 hne (dW0 b3)
 have HC4 : Hid ((∃ zv, X1.drew.cell? ⟨yb, 3 + k, none⟩ = some zv) /\ X1.drew.frozen? ⟨yb, 3 + k, none⟩ = false) := (show _ /\ _ from by
  have h9 := blk_set (i := k) (v := .pointer (some ⟨mb, 0, none⟩)) h8 rfl
  rw [hX1] at h9
  have h10 := blk_up (dB X1) h9
  exact ⟨⟨_, (bC h10 (3 + k)).trans (Array.getElem?_eq_getElem (by simp; omega))⟩, frozen_of_row _ _ (3 + k) _ _ h10⟩)
 obtain ⟨Xf, hXf⟩ : ∃ x, X1.drew.setCell ⟨yb, 3 + k, none⟩ (.pointer (some ⟨rb, 0, none⟩)) = x := ⟨_, rfl⟩
 have b5 : Xf.cell? ⟨w.heap.size, 0, none⟩ = some (.int .i64 (k : Int)) := by rw [<- hXf]; exact below_set1 hne (dW0 b4)
 have HR : Hid (MdO w Xf B T Y k) := (show MdO _ _ _ _ _ _ from by
  rw [<- hXf]
  have h9 := PlOk.made (m := (some (mnew mb W.heap.size n self win room, (⟨rb, g, c, n, self, win, room, ⟨0, 0, 0, 0⟩, rnp []⟩ : Rx)))) (i := k) H.out (bstep (bstep HbW.out hb2) (dB _)) hk (Hdu.out)
  rw [Hyb.out] at h9
  refine ⟨(some (mnew mb W.heap.size n self win room, (⟨rb, g, c, n, self, win, room, ⟨0, 0, 0, 0⟩, rnp []⟩ : Rx))), h9.still ?_, ?_⟩
  ·rw [<- hX1]; exact ⟨rfl, rfl, rfl, Nat.le_refl _, fun _ _ => rfl⟩
  ·have k9 : Kept w w2.drew (fun j => j = Y.b) := Kept.ofBelow (bstep (bstep HbW.out hb2) (dB _)) _
   rw [<- hX1, Hyb.out]
   rw [Hyb.out] at k9
   exact ((k9.trans (kset (P := fun j => j = yb) _ _ _ _ rfl)).trans (Kept.ofBelow (dB _) _)).trans (kset (P := fun j => j = yb) _ _ _ _ rfl))
 clear hq2 h8
 go_wp2
 refine wp_region_held_drew (S := (fun w' => w'.cell? ⟨w.heap.size, 0, none⟩ = some (.int .i64 (k : Int)))) (by kernel_rfl) (dW0 b3) (fun hH => ?_)
 simp only [Act.put, lA, lC, lN, zA]
 refine tG 0 33 (.pointer (some ⟨yb, 0, none⟩)) rfl hH ?_
 simp only [aP, sA, sZ, sC]
 refine tG 1 34 (.pointer (some ⟨w.heap.size, 0, none⟩)) rfl hH ?_
 simp only [aP, sA, sZ, sC]
 refine tL 2 35 (.int .i64 (k : Int)) rfl hH ?_
 simp only [aP, sA, sZ, sC]
 refine tG 3 36 (.pointer (some ⟨mb, 0, none⟩)) rfl hH ?_
 simp only [aP, sA, sZ, sC]
 refine tG 4 37 (.pointer (some ⟨yb, 0, none⟩)) rfl hH ?_
 simp only [aP, sA, sZ, sC]
 refine tG 5 38 (.pointer (some ⟨yb, 0, none⟩)) rfl hH ?_
 simp only [aP, sA, sZ, sC]
 refine tG 6 39 (.pointer (some ⟨yb, k, none⟩)) rfl hH ?_
 simp only [aP, sA, sZ, sC]
 have hbD1 : Below w2.heap.size w2 w2.drew := dB _
 have q0 := bA hbD1 b3
 refine rY 7 rfl fun K hK => ?_
 have zc := HC3.out.1
 have zf := HC3.out.2
 obtain ⟨zv, hzv⟩ := zc
 go_simp
 clear hzv zf
 refine hK.out _ _ b4 (fun hH => ?_)
 clear hK K
 refine wpAnyH_done (by kernel_rfl) ?_ _
 clear hH
 clear hX1 b3 HC3 hbD1 q0
 go_wp2
 refine wp_region_held_drew (S := (fun w' => w'.cell? ⟨w.heap.size, 0, none⟩ = some (.int .i64 (k : Int)))) (by kernel_rfl) (dW0 b4) (fun hH => ?_)
 simp only [Act.put, lA, lC, lN, zA]
 refine tG 0 40 (.pointer (some ⟨yb, 0, none⟩)) rfl hH ?_
 simp only [aP, sA, sZ, sC]
 refine tG 1 41 (.pointer (some ⟨w.heap.size, 0, none⟩)) rfl hH ?_
 simp only [aP, sA, sZ, sC]
 refine tL 2 42 (.int .i64 (k : Int)) rfl hH ?_
 simp only [aP, sA, sZ, sC]
 refine tG 3 43 (.pointer (some ⟨rb, 0, none⟩)) rfl hH ?_
 simp only [aP, sA, sZ, sC]
 refine tG 4 44 (.pointer (some ⟨yb, 0, none⟩)) rfl hH ?_
 simp only [aP, sA, sZ, sC]
 refine tG 5 45 (.pointer (some ⟨yb, 3, none⟩)) rfl hH ?_
 simp only [aP, sA, sZ, sC]
 refine tG 6 46 (.pointer (some ⟨yb, 3 + k, none⟩)) rfl hH ?_
 simp only [aP, sA, sZ, sC]
 have hbD1 : Below X1.heap.size X1 X1.drew := dB _
 have q0 := bA hbD1 b4
 refine rY 7 rfl fun K hK => ?_
 have zc := HC4.out.1
 have zf := HC4.out.2
 obtain ⟨zv, hzv⟩ := zc
 go_simp
 clear hzv zf
 refine hK.out _ _ b5 (fun hH => ?_)
 clear hK K
 refine wpAnyH_done (by kernel_rfl) ?_ _
 clear hH
 clear b4 b5 HC4 hbD1 q0 hXf
 go_wp2_with (first | (go_at_call 24; refine (num_any _).mono ?_; rintro e w9 ⟨rfl, rfl⟩) | fail)
 go_ret
 exact ⟨rfl, HR.out⟩
end
section
variable {w w' W : World} {B T : Nat} {Y : Pl}
structure YsO (w w' : World) (B T : Nat) (Y : Pl) : Prop where
 out : ∃ Y' : Pl, PlOk Y' w' B (T + 1) /\ Y'.b = Y.b /\ Y'.tn ≤ (Y'.os.length : Int) /\ Below B w w'
theorem PlOk.up {T' : Nat} (h : PlOk Y w B T) (hT : T ≤ T') (h1 : T' ≤ 450) : PlOk Y w B T' := { h with duo := fun i M R hi hY => (h.duo i M R hi hY).mono hT (by omega), t1 := h1 }
theorem ys_still (h : PlOk Y w B T) (ht : Y.tn ≤ (Y.os.length : Int)) (hT : T + 1 ≤ 450) (hb : Below w.heap.size w w') : YsO w w' B T Y := ⟨Y, (h.still hb).up (Nat.le_succ _) hT, rfl, ht, hb.mono h.bk.b⟩
theorem YsO.on {w2 : World} (h : YsO w w' B T Y) (hb : Below w'.heap.size w' w2) : YsO w w2 B T Y := by
 obtain ⟨Y', h1, h2, h3, h4⟩ := h.out
 exact ⟨Y', h1.still hb, h2, h3, h4.trans (hb.mono h1.bk.b)⟩
theorem YsO.pre {w0 : World} (hb : Below w0.heap.size w0 w) (hB : B ≤ w0.heap.size) (h : YsO w w' B T Y) : YsO w0 w' B T Y := by
 obtain ⟨Y', h1, h2, h3, h4⟩ := h.out
 exact ⟨Y', h1, h2, h3, (hb.mono hB).trans h4⟩
theorem ys_mux {k : Nat} {M M' : Mx} {R R' : Rx} (h : PlOk Y w B T) (ht : Y.tn ≤ (Y.os.length : Int)) (hT : T + 1 ≤ 450) (hk : k < 3) (hM : Y.M k = some (M, R)) (s : DStep w w' B (T + 1) M R M' R') : YsO w w' B T Y := by
 refine ⟨_, h.mux hk hM s (Nat.le_succ _) hT, rfl, ht, s.kept.below h.bk.b fun j hj e => ?_⟩
 have := ((h.duo k M R hk hM).lt e).1
 omega
theorem frin_one {w0 D w3 w6 : World} {la wa : Option Addr} {n lc wc E : Nat} {fs gs : List Fm} {sp : List (Tg × Int × List Int)} (h : PlOk Y w0 B T) (hD : Below w0.heap.size w0 D) (hr : w3.ownsRow D.heap.size 55 6 (.slice la n lc) n (fmR fs)) (hb : ∀ f ∈ fs, Body w3 D.heap.size ⟨f.y.k, f.y.bs⟩ /\ f.y.c = f.y.bs.length) (nd : (fs.map fun f => f.y.k).Nodup) (hx : Below w3.heap.size w3 w6) (gr : w6.ownsRow E 55 6 (.slice wa n wc) n (fmR gs)) (go : ∀ g ∈ gs, g.y.Ok w6 E) (hE : B ≤ E) (e1 : fs.map fmS = sp) (e2 : gs.map fmS = sp) (n1 : n ≤ 1000) : FrIn w6 B Y la n lc fs wa gs := by
 have hB : B ≤ D.heap.size := Nat.le_trans h.bk.b hD.size
 have hlo : ∀ j, Lset (.slice la n lc) fs j -> D.heap.size ≤ j := fun j hj => by
  rcases hj with hj | ⟨f, hf, rfl⟩
  ·exact (World.ownsRow.lt hr j hj).1
  ·exact (hb f hf).1.lo
 refine ⟨own_lower (own_still hr hx) hB, fun f hf => ?_, nd, fun j hj => ?_, FRd.of gr, fun g hg => (go g hg).lower hE, e1.trans e2.symm, n1⟩
 ·have := (hb f hf).1.still hx
  exact ⟨{ this with lo := Nat.le_trans hB this.lo }, (hb f hf).2⟩
 ·have h1 := hlo j hj
  have h2 := hD.size
  exact ⟨fun e => by have := (h.mo_lt e).2; omega, fun e => by have := (h.kf_lt e).2; omega, fun e => by have := (h.of_lt e).2; omega, fun e => by have := (h.pf_lt e).2; omega⟩
theorem frin_two {w0 D w3 w4 w5 w6 w7 : World} {Y' : Pl} {la la2 wa : Option Addr} {n lc lc2 wc E : Nat} {fs fs2 gs : List Fm} {sp : List (Tg × Int × List Int)} (h : PlOk Y w0 B T) (hD : Below w0.heap.size w0 D) (hb3 : Below D.heap.size D w3) (hr : w3.ownsRow D.heap.size 55 6 (.slice la n lc) n (fmR fs)) (hb : ∀ f ∈ fs, Body w3 D.heap.size ⟨f.y.k, f.y.bs⟩ /\ f.y.c = f.y.bs.length) (h34 : Below w3.heap.size w3 w4)
  (hr2 : w5.ownsRow w4.heap.size 55 6 (.slice la2 n lc2) n (fmR fs2)) (hb2 : ∀ f ∈ fs2, Body w5 w4.heap.size ⟨f.y.k, f.y.bs⟩ /\ f.y.c = f.y.bs.length) (nd : (fs2.map fun f => f.y.k).Nodup) (hx : Below w5.heap.size w5 w6) (gr : w6.ownsRow E 55 6 (.slice wa n wc) n (fmR gs)) (go : ∀ g ∈ gs, g.y.Ok w6 E) (hE : B ≤ E) (e1 : fs2.map fmS = sp) (e2 : gs.map fmS = sp) (n1 : n ≤ 1000)
  (hP : PlOk Y w6 B T) (eM : Y'.M = Y.M) (eos : Y'.os = Y.os) (hkp : ∀ j, Y'.kf j ∨ Y'.pf j -> Y.kf j ∨ Y.pf j ∨ Lset (.slice la n lc) fs j ∨ w6.heap.size ≤ j) (hK : Kept w6 w7 (fun j => j = Y.b ∨ tyP B w6 j ∨ tyK B w6 j ∨ (false = true /\ Lset (.slice la n lc) fs j))) : FrIn w7 B Y' la2 n lc2 fs2 wa gs := by
 have hne : ∀ {j t : Nat} {C : Array Value}, w6.heap[j]? = some (.cells C t (0, 0)) -> t = 55 ∨ t = 5 -> ¬ (j = Y.b ∨ tyP B w6 j ∨ tyK B w6 j ∨ (false = true /\ Lset (.slice la n lc) fs j)) := fun hj ht e => by
  rcases e with e | ⟨C', hC'⟩ | ⟨C', hC'⟩ | ⟨e, _⟩
  ·have := hP.bk.k; rw [<- e] at this; exact blk_ne hj this (by rcases ht with rfl | rfl <;> decide) rfl
  ·exact blk_ne hj hC' (by rcases ht with rfl | rfl <;> decide) rfl
  ·exact blk_ne hj hC' (by rcases ht with rfl | rfl <;> decide) rfl
  ·cases e
 have hB : B ≤ w4.heap.size := Nat.le_trans (Nat.le_trans h.bk.b hD.size) (Nat.le_trans hb3.size h34.size)
 have hrow {lx : Option Addr} {cx : Nat} {E' : Nat} {xs : List Fm} (hq : w6.ownsRow E' 55 6 (.slice lx n cx) n (fmR xs)) : w7.ownsRow E' 55 6 (.slice lx n cx) n (fmR xs) := hK.owns hq fun j hj e => by
  obtain ⟨C, hC⟩ := own_ty hq hj
  exact hne hC (.inl rfl) e
 refine ⟨own_lower (hrow (own_still hr2 hx)) hB, fun f hf => ?_, nd, fun j hj => ?_, FRd.of (hrow gr), fun g hg => ?_, e1.trans e2.symm, n1⟩
 ·have := ((hb2 f hf).1.still hx).keep hK fun e => hne ((hb2 f hf).1.still hx).bk (.inr rfl) e
  exact ⟨{ this with lo := Nat.le_trans hB this.lo }, (hb2 f hf).2⟩
 ·have hjl : w4.heap.size ≤ j /\ j < w6.heap.size := by
   rcases hj with hj | ⟨f, hf, rfl⟩
   ·exact ⟨(World.ownsRow.lt hr2 j hj).1, Nat.lt_of_lt_of_le (World.ownsRow.lt hr2 j hj).2 hx.size⟩
   ·exact ⟨(hb2 f hf).1.lo, lt_heap ((hb2 f hf).1.still hx).bk⟩
  have h0 : w0.heap.size ≤ j := by have := hD.size; have := hb3.size; have := h34.size; omega
  have hL : ¬ Lset (.slice la n lc) fs j := fun e => by
   have h34s := h34.size
   rcases e with e | ⟨f, hf, rfl⟩
   ·have := (World.ownsRow.lt hr j e).2; omega
   ·have := lt_heap (hb f hf).1.bk; have e2 : f.y.k < w3.heap.size := this; omega
  have hkf : ¬ (Y'.kf j ∨ Y'.pf j) := fun e => by
   rcases hkp j e with e | e | e | e
   ·have := (h.kf_lt e).2; omega
   ·have := (h.pf_lt e).2; omega
   ·exact hL e
   ·omega
  refine ⟨?_, fun e => hkf (.inl e), ?_, fun e => hkf (.inr e)⟩
  ·rintro ⟨k, M, R, hk, hY, ho⟩
   have := (h.mo_lt ⟨k, M, R, hk, by rw [<- eM]; exact hY, ho⟩).2
   omega
  ·rintro ⟨p, hp, ho⟩
   have := (h.of_lt ⟨p, by rw [<- eos]; exact hp, ho⟩).2
   omega
 ·obtain ⟨C, hC, _⟩ := (go g hg).blk
  exact ((go g hg).keep hK fun e => hne hC (.inr rfl) e).lower hE
theorem frout_below {L : Value} {fs : List Fm} {P : Prop} {Y' : Pl} (hPl : PlOk Y w B T) (hL : ∀ j, Lset L fs j -> B ≤ j) (hK : Kept w w' (fun j => j = Y.b ∨ tyP B w j ∨ tyK B w j ∨ (P /\ Lset L fs j))) : Below B w w' := by
 refine hK.below hPl.bk.b fun j hj e => ?_
 rcases e with e | ⟨C', hC'⟩ | ⟨C', hC'⟩ | ⟨_, e⟩
 ·have := hPl.lo; omega
 ·have := C'.2; omega
 ·have := C'.2; omega
 ·have := hL j e; omega
end
end Go.Proofs.Ythanifbimndhaaa.Ln
