import Derived.Test.YthanifbimndhaaaM27
import Derived.Test.YthanifbimndhaaaM30
import Derived.Test.YthanifbimndhaaaM33
import Derived.Test.YthanifbimndhaaaM36
import Derived.Test.YthanifbimndhaaaM37
import Derived.Test.YthanifbimndhaaaM32
namespace Go.Proofs.Ythanifbimndhaaa.Ln
set_option maxHeartbeats 40000000
open Go.RowKit Mb
set_option linter.unusedVariables false
set_option maxRecDepth 100000
set_option linter.unusedSimpArgs false
section
variable {w w' W : World} {B T : Nat} {Y : Pl}
theorem asks_all {k bn bc pn pc : Nat} {kd pe nn mm ww : Int} {t : Tg} {ba pa : Option Addr} {M : Mx} {R : Rx} (h : PlOk Y w B T) (ht : Y.tn ≤ (Y.os.length : Int)) (hT : T + 1 ≤ 450) (hk : k < 3) (hM : Y.M k = some (M, R)) : Calls Try.prog 16 #[.pointer (some ⟨Y.b, 0, none⟩), .agg #[.int .i64 (k : Int), .int .i64 kd, .int .i64 pe, .int .i64 nn, .int .i64 mm, .int .i64 ww, .int .i64 t.e, .int .i64 t.l, .int .i64 t.i, .int .i64 t.c, .slice ba bn bc, .slice pa pn pc]] w fun e w' => e = .returned (.bool true) /\ YsO w w' B T Y := by
 by_cases k4 : kd = 4
 ·subst k4; exact ask4 h ht hT hk hM
 by_cases k5 : kd = 5
 ·subst k5; exact ask5 h ht hT hk hM
 by_cases k6 : kd = 6
 ·subst k6; exact ask6 h ht hT hk hM
 by_cases k7 : kd = 7
 ·subst k7; exact ask7 h ht hT hk hM
 by_cases k10 : kd = 10
 ·subst k10; exact ask10 h ht hT hk hM
 by_cases k11 : kd = 11
 ·subst k11; exact ask11 h ht hT hk hM
 by_cases k12 : kd = 12
 ·subst k12; exact ask12 h ht hT hk hM
 exact ask0 h ht hT hk hM (by simpa using k4) (by simpa using k5) (by simpa using k6) (by simpa using k7) (by simpa using k10) (by simpa using k11) (by simpa using k12)
theorem made_all {k bn bc pn pc : Nat} {kd pe nn mm ww : Int} {t : Tg} {ba pa : Option Addr} (h : PlOk Y w B T) (ht : Y.tn ≤ (Y.os.length : Int)) (hT : T + 1 ≤ 450) (hk : k < 3) : Calls Try.prog 13 #[.pointer (some ⟨Y.b, 0, none⟩), .agg #[.int .i64 (k : Int), .int .i64 kd, .int .i64 pe, .int .i64 nn, .int .i64 mm, .int .i64 ww, .int .i64 t.e, .int .i64 t.l, .int .i64 t.i, .int .i64 t.c, .slice ba bn bc, .slice pa pn pc]] w fun e w' => e = .returned (.bool true) /\ YsO w w' B T Y := by
 have key : ∀ w', MdO w w' B T Y k -> YsO w w' B T Y := fun w' hm => by
  obtain ⟨m, h1, h2⟩ := hm.out
  exact ⟨_, h1.up (Nat.le_succ _) hT, rfl, ht, h2.below h.bk.b fun j hj e => by have := h.lo; omega⟩
 cases hn : nwB nn pe mm ww with
 | false => exact (made_no h hk hn).mono fun e w' hx => ⟨hx.1, key w' hx.2⟩
 | true =>
  have hr : (1 ≤ nn /\ nn ≤ 16) /\ (0 ≤ pe /\ pe ≤ nn - 1) /\ (1 ≤ ww /\ ww ≤ 20000) /\ (1 ≤ mm /\ mm ≤ ww) := by simp [nwB, inR] at hn; omega
  obtain ⟨n, rfl⟩ : ∃ n : Nat, nn = (n : Int) := ⟨nn.toNat, by omega⟩
  obtain ⟨self, rfl⟩ : ∃ n : Nat, pe = (n : Int) := ⟨pe.toNat, by omega⟩
  obtain ⟨win, rfl⟩ : ∃ n : Nat, mm = (n : Int) := ⟨mm.toNat, by omega⟩
  obtain ⟨room, rfl⟩ : ∃ n : Nat, ww = (n : Int) := ⟨ww.toNat, by omega⟩
  exact (made_yes h hk (by omega) (by omega) (by omega) (by omega) (by omega) (by omega)).mono fun e w' hx => ⟨hx.1, key w' hx.2⟩
theorem int_all (h : YsO w w' B T Y) : Calls Try.prog 14 #[.pointer (some ⟨Y.b, 0, none⟩)] w' fun e w2 => e = .returned (.bool true) /\ YsO w w2 B T Y := by
 obtain ⟨Y', h1, h2, h3, h4⟩ := h.out
 rw [<- h2]
 exact (pintact_any h1).mono fun e w2 hx => ⟨hx.1, h.on hx.2⟩
theorem step_lo {bn bc pn pc : Nat} {mu kd pe nn mm ww : Int} {t : Tg} {ba pa : Option Addr} (h : PlOk Y w B T) (ht : Y.tn ≤ (Y.os.length : Int)) (hT : T + 1 ≤ 450) (hm : mu < 0) : Calls Try.prog 10 #[.pointer (some ⟨Y.b, 0, none⟩), .agg #[.int .i64 mu, .int .i64 kd, .int .i64 pe, .int .i64 nn, .int .i64 mm, .int .i64 ww, .int .i64 t.e, .int .i64 t.l, .int .i64 t.i, .int .i64 t.c, .slice ba bn bc, .slice pa pn pc]] w fun e w' => e = .returned (.bool true) /\ YsO w w' B T Y := by
 have H : Hid (PlOk Y w B T) := h
 have Ht : Hid (Y.tn ≤ (Y.os.length : Int)) := ht
 have HT : Hid (T + 1 ≤ 450) := hT
 obtain ⟨yb, hyb⟩ : ∃ b, Y.b = b := ⟨_, rfl⟩
 have Hyb : Hid (Y.b = yb) := hyb
 generalize hW : w.alloc (.cells #[.int .i64 mu, .int .i64 kd, .int .i64 pe, .int .i64 nn, .int .i64 mm, .int .i64 ww, .int .i64 t.e, .int .i64 t.l, .int .i64 t.i, .int .i64 t.c, .slice ba bn bc, .slice pa pn pc] 43) = W
 have hbW := bW0 hW
 have HbW : Hid (Below w.heap.size w W) := hbW
 have hblk := hQ0 hW
 have b0 : W.cell? ⟨w.heap.size, 0, none⟩ = some (.int .i64 mu) := bC hblk 0
 have b1 : W.cell? ⟨w.heap.size, 1, none⟩ = some (.int .i64 kd) := bC hblk 1
 have b2 : W.cell? ⟨w.heap.size, 2, none⟩ = some (.int .i64 pe) := bC hblk 2
 have b3 : W.cell? ⟨w.heap.size, 3, none⟩ = some (.int .i64 nn) := bC hblk 3
 have b4 : W.cell? ⟨w.heap.size, 4, none⟩ = some (.int .i64 mm) := bC hblk 4
 have b5 : W.cell? ⟨w.heap.size, 5, none⟩ = some (.int .i64 ww) := bC hblk 5
 have b6 : W.cell? ⟨w.heap.size, 6, none⟩ = some (.int .i64 t.e) := bC hblk 6
 have b7 : W.cell? ⟨w.heap.size, 7, none⟩ = some (.int .i64 t.l) := bC hblk 7
 have b8 : W.cell? ⟨w.heap.size, 8, none⟩ = some (.int .i64 t.i) := bC hblk 8
 have b9 : W.cell? ⟨w.heap.size, 9, none⟩ = some (.int .i64 t.c) := bC hblk 9
 have b10 : W.cell? ⟨w.heap.size, 10, none⟩ = some (.slice ba bn bc) := bC hblk 10
 have b11 : W.cell? ⟨w.heap.size, 11, none⟩ = some (.slice pa pn pc) := bC hblk 11
 rw [hyb]
 clear h ht hT hyb hbW hblk
 go_enter Try.func10, Try.ntmps10
 go_wp2
 go_ret
 exact ⟨rfl, ys_still H.out Ht.out HT.out HbW.out⟩
theorem step_hi {bn bc pn pc : Nat} {mu kd pe nn mm ww : Int} {t : Tg} {ba pa : Option Addr} (h : PlOk Y w B T) (ht : Y.tn ≤ (Y.os.length : Int)) (hT : T + 1 ≤ 450) (hm : 2 < mu) : Calls Try.prog 10 #[.pointer (some ⟨Y.b, 0, none⟩), .agg #[.int .i64 mu, .int .i64 kd, .int .i64 pe, .int .i64 nn, .int .i64 mm, .int .i64 ww, .int .i64 t.e, .int .i64 t.l, .int .i64 t.i, .int .i64 t.c, .slice ba bn bc, .slice pa pn pc]] w fun e w' => e = .returned (.bool true) /\ YsO w w' B T Y := by
 have H : Hid (PlOk Y w B T) := h
 have Ht : Hid (Y.tn ≤ (Y.os.length : Int)) := ht
 have HT : Hid (T + 1 ≤ 450) := hT
 obtain ⟨yb, hyb⟩ : ∃ b, Y.b = b := ⟨_, rfl⟩
 have Hyb : Hid (Y.b = yb) := hyb
 generalize hW : w.alloc (.cells #[.int .i64 mu, .int .i64 kd, .int .i64 pe, .int .i64 nn, .int .i64 mm, .int .i64 ww, .int .i64 t.e, .int .i64 t.l, .int .i64 t.i, .int .i64 t.c, .slice ba bn bc, .slice pa pn pc] 43) = W
 have hbW := bW0 hW
 have HbW : Hid (Below w.heap.size w W) := hbW
 have hblk := hQ0 hW
 have b0 : W.cell? ⟨w.heap.size, 0, none⟩ = some (.int .i64 mu) := bC hblk 0
 have b1 : W.cell? ⟨w.heap.size, 1, none⟩ = some (.int .i64 kd) := bC hblk 1
 have b2 : W.cell? ⟨w.heap.size, 2, none⟩ = some (.int .i64 pe) := bC hblk 2
 have b3 : W.cell? ⟨w.heap.size, 3, none⟩ = some (.int .i64 nn) := bC hblk 3
 have b4 : W.cell? ⟨w.heap.size, 4, none⟩ = some (.int .i64 mm) := bC hblk 4
 have b5 : W.cell? ⟨w.heap.size, 5, none⟩ = some (.int .i64 ww) := bC hblk 5
 have b6 : W.cell? ⟨w.heap.size, 6, none⟩ = some (.int .i64 t.e) := bC hblk 6
 have b7 : W.cell? ⟨w.heap.size, 7, none⟩ = some (.int .i64 t.l) := bC hblk 7
 have b8 : W.cell? ⟨w.heap.size, 8, none⟩ = some (.int .i64 t.i) := bC hblk 8
 have b9 : W.cell? ⟨w.heap.size, 9, none⟩ = some (.int .i64 t.c) := bC hblk 9
 have b10 : W.cell? ⟨w.heap.size, 10, none⟩ = some (.slice ba bn bc) := bC hblk 10
 have b11 : W.cell? ⟨w.heap.size, 11, none⟩ = some (.slice pa pn pc) := bC hblk 11
 have hm0 : ¬ mu < 0 := by omega
 rw [hyb]
 clear h ht hT hyb hbW hblk
 go_enter Try.func10, Try.ntmps10
 go_wp2
 go_ret
 exact ⟨rfl, ys_still H.out Ht.out HT.out HbW.out⟩
theorem step_new {k bn bc pn pc : Nat} {pe nn mm ww : Int} {t : Tg} {ba pa : Option Addr} (h : PlOk Y w B T) (ht : Y.tn ≤ (Y.os.length : Int)) (hT : T + 1 ≤ 450) (hk : k < 3) : Calls Try.prog 10 #[.pointer (some ⟨Y.b, 0, none⟩), .agg #[.int .i64 (k : Int), .int .i64 1, .int .i64 pe, .int .i64 nn, .int .i64 mm, .int .i64 ww, .int .i64 t.e, .int .i64 t.l, .int .i64 t.i, .int .i64 t.c, .slice ba bn bc, .slice pa pn pc]] w fun e w' => e = .returned (.bool true) /\ YsO w w' B T Y := by
 have H : Hid (PlOk Y w B T) := h
 have Ht : Hid (Y.tn ≤ (Y.os.length : Int)) := ht
 have HT : Hid (T + 1 ≤ 450) := hT
 obtain ⟨yb, hyb⟩ : ∃ b, Y.b = b := ⟨_, rfl⟩
 have Hyb : Hid (Y.b = yb) := hyb
 generalize hW : w.alloc (.cells #[.int .i64 (k : Int), .int .i64 1, .int .i64 pe, .int .i64 nn, .int .i64 mm, .int .i64 ww, .int .i64 t.e, .int .i64 t.l, .int .i64 t.i, .int .i64 t.c, .slice ba bn bc, .slice pa pn pc] 43) = W
 have hbW := bW0 hW
 have HbW : Hid (Below w.heap.size w W) := hbW
 have hblk := hQ0 hW
 have b0 : W.cell? ⟨w.heap.size, 0, none⟩ = some (.int .i64 (k : Int)) := bC hblk 0
 have b1 : W.cell? ⟨w.heap.size, 1, none⟩ = some (.int .i64 1) := bC hblk 1
 have b2 : W.cell? ⟨w.heap.size, 2, none⟩ = some (.int .i64 pe) := bC hblk 2
 have b3 : W.cell? ⟨w.heap.size, 3, none⟩ = some (.int .i64 nn) := bC hblk 3
 have b4 : W.cell? ⟨w.heap.size, 4, none⟩ = some (.int .i64 mm) := bC hblk 4
 have b5 : W.cell? ⟨w.heap.size, 5, none⟩ = some (.int .i64 ww) := bC hblk 5
 have b6 : W.cell? ⟨w.heap.size, 6, none⟩ = some (.int .i64 t.e) := bC hblk 6
 have b7 : W.cell? ⟨w.heap.size, 7, none⟩ = some (.int .i64 t.l) := bC hblk 7
 have b8 : W.cell? ⟨w.heap.size, 8, none⟩ = some (.int .i64 t.i) := bC hblk 8
 have b9 : W.cell? ⟨w.heap.size, 9, none⟩ = some (.int .i64 t.c) := bC hblk 9
 have b10 : W.cell? ⟨w.heap.size, 10, none⟩ = some (.slice ba bn bc) := bC hblk 10
 have b11 : W.cell? ⟨w.heap.size, 11, none⟩ = some (.slice pa pn pc) := bC hblk 11
 have HI : Hid (∀ D, YsO w D B T Y -> Calls Try.prog 14 #[.pointer (some ⟨yb, 0, none⟩)] D fun e w2 => e = .returned (.bool true) /\ Hid (YsO w w2 B T Y)) := fun D hy => (show Calls _ _ _ _ _ from by rw [<- hyb]; exact int_all hy)
 have HC : Hid (∀ D, Below w.heap.size w D -> Calls Try.prog 13 #[.pointer (some ⟨yb, 0, none⟩), .agg #[.int .i64 (k : Int), .int .i64 1, .int .i64 pe, .int .i64 nn, .int .i64 mm, .int .i64 ww, .int .i64 t.e, .int .i64 t.l, .int .i64 t.i, .int .i64 t.c, .slice ba bn bc, .slice pa pn pc]] D fun e w2 => e = .returned (.bool true) /\ Hid (YsO w w2 B T Y)) := fun D hb => (show Calls _ _ _ _ _ from by
  rw [<- hyb]
  exact (made_all (h.still hb) ht hT hk).mono fun e w2 hx => ⟨hx.1, YsO.pre hb h.bk.b hx.2⟩)
 have i1 : (0 : Int) ≤ (k : Int) := Int.natCast_nonneg _
 have i2 : (k : Int) < 3 := by omega
 have i3 : ¬ (k : Int) < 0 := by omega
 have i4 : ¬ (2 : Int) < (k : Int) := by omega
 have Hk : Hid (k < 3) := hk
 clear hk
 rw [hyb]
 clear h ht hT hyb hbW hblk
 go_enter Try.func10, Try.ntmps10
 go_wp2_with (first | (go_at_call 13; refine (HC.out _ HbW.out).mono ?_; rintro e w3 ⟨rfl, H3⟩) | (go_at_call 14; refine (HI.out _ H3.out).mono ?_; rintro e w9 ⟨rfl, H9⟩) | fail)
 go_ret
 exact ⟨rfl, H9.out⟩
theorem step_nil {k bn bc pn pc : Nat} {kd pe nn mm ww : Int} {t : Tg} {ba pa : Option Addr} (h : PlOk Y w B T) (ht : Y.tn ≤ (Y.os.length : Int)) (hT : T + 1 ≤ 450) (hk : k < 3) (hM : Y.M k = none) (k1 : (kd == 1) = false) : Calls Try.prog 10 #[.pointer (some ⟨Y.b, 0, none⟩), .agg #[.int .i64 (k : Int), .int .i64 kd, .int .i64 pe, .int .i64 nn, .int .i64 mm, .int .i64 ww, .int .i64 t.e, .int .i64 t.l, .int .i64 t.i, .int .i64 t.c, .slice ba bn bc, .slice pa pn pc]] w fun e w' => e = .returned (.bool true) /\ YsO w w' B T Y := by
 have H : Hid (PlOk Y w B T) := h
 have Ht : Hid (Y.tn ≤ (Y.os.length : Int)) := ht
 have HT : Hid (T + 1 ≤ 450) := hT
 obtain ⟨yb, hyb⟩ : ∃ b, Y.b = b := ⟨_, rfl⟩
 have Hyb : Hid (Y.b = yb) := hyb
 generalize hW : w.alloc (.cells #[.int .i64 (k : Int), .int .i64 kd, .int .i64 pe, .int .i64 nn, .int .i64 mm, .int .i64 ww, .int .i64 t.e, .int .i64 t.l, .int .i64 t.i, .int .i64 t.c, .slice ba bn bc, .slice pa pn pc] 43) = W
 have hbW := bW0 hW
 have HbW : Hid (Below w.heap.size w W) := hbW
 have hblk := hQ0 hW
 have b0 : W.cell? ⟨w.heap.size, 0, none⟩ = some (.int .i64 (k : Int)) := bC hblk 0
 have b1 : W.cell? ⟨w.heap.size, 1, none⟩ = some (.int .i64 kd) := bC hblk 1
 have b2 : W.cell? ⟨w.heap.size, 2, none⟩ = some (.int .i64 pe) := bC hblk 2
 have b3 : W.cell? ⟨w.heap.size, 3, none⟩ = some (.int .i64 nn) := bC hblk 3
 have b4 : W.cell? ⟨w.heap.size, 4, none⟩ = some (.int .i64 mm) := bC hblk 4
 have b5 : W.cell? ⟨w.heap.size, 5, none⟩ = some (.int .i64 ww) := bC hblk 5
 have b6 : W.cell? ⟨w.heap.size, 6, none⟩ = some (.int .i64 t.e) := bC hblk 6
 have b7 : W.cell? ⟨w.heap.size, 7, none⟩ = some (.int .i64 t.l) := bC hblk 7
 have b8 : W.cell? ⟨w.heap.size, 8, none⟩ = some (.int .i64 t.i) := bC hblk 8
 have b9 : W.cell? ⟨w.heap.size, 9, none⟩ = some (.int .i64 t.c) := bC hblk 9
 have b10 : W.cell? ⟨w.heap.size, 10, none⟩ = some (.slice ba bn bc) := bC hblk 10
 have b11 : W.cell? ⟨w.heap.size, 11, none⟩ = some (.slice pa pn pc) := bC hblk 11
 have cM := (h.still hbW).cM hk
 rw [hM, hyb] at cM
 have cP : W.cell? ⟨yb, k, none⟩ = some (.pointer none) := cM.1
 clear cM hM
 have i1 : (0 : Int) ≤ (k : Int) := Int.natCast_nonneg _
 have i2 : (k : Int) < 3 := by omega
 have i3 : ¬ (k : Int) < 0 := by omega
 have i4 : ¬ (2 : Int) < (k : Int) := by omega
 have Hk : Hid (k < 3) := hk
 clear hk
 rw [hyb]
 clear h ht hT hyb hbW hblk
 go_enter Try.func10, Try.ntmps10
 go_wp2
 refine wp_region_held_drew (S := (fun w' => w'.cell? ⟨w.heap.size, 0, none⟩ = some (.int .i64 (k : Int)) /\ w'.cell? ⟨yb, k, none⟩ = some (.pointer none))) (by kernel_rfl) ⟨(dW0 b0), (dW0 cP)⟩ (fun hH => ?_)
 simp only [Act.put, lA, lC, lN, zA]
 refine tG 0 25 (.pointer (some ⟨yb, 0, none⟩)) rfl hH ?_
 simp only [aP, sA, sZ, sC]
 refine tG 1 26 (.pointer (some ⟨w.heap.size, 0, none⟩)) rfl hH ?_
 simp only [aP, sA, sZ, sC]
 refine tL 2 27 (.int .i64 (k : Int)) rfl hH ?_
 simp only [aP, sA, sZ, sC]
 refine tG 3 28 (.pointer (some ⟨yb, 0, none⟩)) rfl hH ?_
 simp only [aP, sA, sZ, sC]
 refine tG 4 29 (.pointer (some ⟨yb, 0, none⟩)) rfl hH ?_
 simp only [aP, sA, sZ, sC]
 refine tG 5 30 (.pointer (some ⟨yb, k, none⟩)) rfl hH ?_
 simp only [aP, sA, sZ, sC]
 refine tL 6 31 (.pointer none) rfl hH ?_
 simp only [aP, sA, sZ, sC]
 refine tG 7 32 (.bool true) rfl hH ?_
 simp only [aP, sA, sZ, sC]
 refine tG 8 33 (.bool true) rfl hH ?_
 simp only [aP, sA, sZ, sC]
 refine tS 9 34 rfl hH ?_
 simp only [aP, sA, sZ, sC]
 refine tS 10 35 rfl hH ?_
 simp only [aP, sA, sZ, sC]
 refine tS 11 36 rfl hH ?_
 simp only [aP, sA, sZ, sC]
 refine tS 12 37 rfl hH ?_
 simp only [aP, sA, sZ, sC]
 refine tS 13 38 rfl hH ?_
 simp only [aP, sA, sZ, sC]
 refine tS 14 39 rfl hH ?_
 simp only [aP, sA, sZ, sC]
 refine tS 15 40 rfl hH ?_
 simp only [aP, sA, sZ, sC]
 refine tS 16 41 rfl hH ?_
 simp only [aP, sA, sZ, sC]
 refine tG 17 42 (.bool true) rfl hH ?_
 simp only [aP, sA, sZ, sC]
 refine wpAnyH_done (by kernel_rfl) ?_ _
 clear hH
 have hbq : Below W.heap.size W W.drew := dB _
 have d0 := bA hbq b0
 have d1 := bA hbq b1
 have d2 := bA hbq b2
 have d3 := bA hbq b3
 have d4 := bA hbq b4
 have d5 := bA hbq b5
 have d6 := bA hbq b6
 have d7 := bA hbq b7
 have d8 := bA hbq b8
 have d9 := bA hbq b9
 have d10 := bA hbq b10
 have d11 := bA hbq b11
 have HbD : Hid (Below w.heap.size w W.drew) := (show Below _ _ _ from bstep HbW.out hbq)
 clear hbq b0 b1 b2 b3 b4 b5 b6 b7 b8 b9 b10 b11 HbW cP
 generalize W.drew = D1 at HbD d0 d1 d2 d3 d4 d5 d6 d7 d8 d9 d10 d11 ⊢
 go_wp2
 go_ret
 exact ⟨rfl, ys_still H.out Ht.out HT.out HbD.out⟩
theorem step_ask {k bn bc pn pc : Nat} {kd pe nn mm ww : Int} {t : Tg} {ba pa : Option Addr} {M : Mx} {R : Rx} (h : PlOk Y w B T) (ht : Y.tn ≤ (Y.os.length : Int)) (hT : T + 1 ≤ 450) (hk : k < 3) (hM : Y.M k = some (M, R)) (k1 : (kd == 1) = false) (k2 : (kd == 2) = false) (k3 : (kd == 3) = false) (k8 : (kd == 8) = false) (k9 : (kd == 9) = false) : Calls Try.prog 10 #[.pointer (some ⟨Y.b, 0, none⟩), .agg #[.int .i64 (k : Int), .int .i64 kd, .int .i64 pe, .int .i64 nn, .int .i64 mm, .int .i64 ww, .int .i64 t.e, .int .i64 t.l, .int .i64 t.i, .int .i64 t.c, .slice ba bn bc, .slice pa pn pc]] w fun e w' => e = .returned (.bool true) /\ YsO w w' B T Y := by
 have H : Hid (PlOk Y w B T) := h
 have Ht : Hid (Y.tn ≤ (Y.os.length : Int)) := ht
 have HT : Hid (T + 1 ≤ 450) := hT
 obtain ⟨yb, hyb⟩ : ∃ b, Y.b = b := ⟨_, rfl⟩
 have Hyb : Hid (Y.b = yb) := hyb
 generalize hW : w.alloc (.cells #[.int .i64 (k : Int), .int .i64 kd, .int .i64 pe, .int .i64 nn, .int .i64 mm, .int .i64 ww, .int .i64 t.e, .int .i64 t.l, .int .i64 t.i, .int .i64 t.c, .slice ba bn bc, .slice pa pn pc] 43) = W
 have hbW := bW0 hW
 have HbW : Hid (Below w.heap.size w W) := hbW
 have hblk := hQ0 hW
 have b0 : W.cell? ⟨w.heap.size, 0, none⟩ = some (.int .i64 (k : Int)) := bC hblk 0
 have b1 : W.cell? ⟨w.heap.size, 1, none⟩ = some (.int .i64 kd) := bC hblk 1
 have b2 : W.cell? ⟨w.heap.size, 2, none⟩ = some (.int .i64 pe) := bC hblk 2
 have b3 : W.cell? ⟨w.heap.size, 3, none⟩ = some (.int .i64 nn) := bC hblk 3
 have b4 : W.cell? ⟨w.heap.size, 4, none⟩ = some (.int .i64 mm) := bC hblk 4
 have b5 : W.cell? ⟨w.heap.size, 5, none⟩ = some (.int .i64 ww) := bC hblk 5
 have b6 : W.cell? ⟨w.heap.size, 6, none⟩ = some (.int .i64 t.e) := bC hblk 6
 have b7 : W.cell? ⟨w.heap.size, 7, none⟩ = some (.int .i64 t.l) := bC hblk 7
 have b8 : W.cell? ⟨w.heap.size, 8, none⟩ = some (.int .i64 t.i) := bC hblk 8
 have b9 : W.cell? ⟨w.heap.size, 9, none⟩ = some (.int .i64 t.c) := bC hblk 9
 have b10 : W.cell? ⟨w.heap.size, 10, none⟩ = some (.slice ba bn bc) := bC hblk 10
 have b11 : W.cell? ⟨w.heap.size, 11, none⟩ = some (.slice pa pn pc) := bC hblk 11
 have HI : Hid (∀ D, YsO w D B T Y -> Calls Try.prog 14 #[.pointer (some ⟨yb, 0, none⟩)] D fun e w2 => e = .returned (.bool true) /\ Hid (YsO w w2 B T Y)) := fun D hy => (show Calls _ _ _ _ _ from by rw [<- hyb]; exact int_all hy)
 have HC : Hid (∀ D, Below w.heap.size w D -> Calls Try.prog 16 #[.pointer (some ⟨yb, 0, none⟩), .agg #[.int .i64 (k : Int), .int .i64 kd, .int .i64 pe, .int .i64 nn, .int .i64 mm, .int .i64 ww, .int .i64 t.e, .int .i64 t.l, .int .i64 t.i, .int .i64 t.c, .slice ba bn bc, .slice pa pn pc]] D fun e w2 => e = .returned (.bool true) /\ Hid (YsO w w2 B T Y)) := fun D hb => (show Calls _ _ _ _ _ from by
  rw [<- hyb]
  exact (asks_all (h.still hb) ht hT hk hM).mono fun e w2 hx => ⟨hx.1, YsO.pre hb h.bk.b hx.2⟩)
 have cM := (h.still hbW).cM hk
 rw [hM, hyb] at cM
 have cP : W.cell? ⟨yb, k, none⟩ = some (.pointer (some ⟨M.b, 0, none⟩)) := cM.1
 have cD : W.cell? ⟨yb, 3 + k, none⟩ = some (.pointer (some ⟨R.b, 0, none⟩)) := cM.2
 clear cM
 clear hM
 have i1 : (0 : Int) ≤ (k : Int) := Int.natCast_nonneg _
 have i2 : (k : Int) < 3 := by omega
 have i3 : ¬ (k : Int) < 0 := by omega
 have i4 : ¬ (2 : Int) < (k : Int) := by omega
 have Hk : Hid (k < 3) := hk
 clear hk
 rw [hyb]
 clear h ht hT hyb hbW hblk
 go_enter Try.func10, Try.ntmps10
 go_wp2
 refine wp_region_held_drew (S := (fun w' => w'.cell? ⟨w.heap.size, 0, none⟩ = some (.int .i64 (k : Int)) /\ w'.cell? ⟨yb, k, none⟩ = some (.pointer (some ⟨M.b, 0, none⟩)) /\ w'.cell? ⟨yb, 3 + k, none⟩ = some (.pointer (some ⟨R.b, 0, none⟩)))) (by kernel_rfl) ⟨(dW0 b0), (dW0 cP), (dW0 cD)⟩ (fun hH => ?_)
 simp only [Act.put, lA, lC, lN, zA]
 refine tG 0 25 (.pointer (some ⟨yb, 0, none⟩)) rfl hH ?_
 simp only [aP, sA, sZ, sC]
 refine tG 1 26 (.pointer (some ⟨w.heap.size, 0, none⟩)) rfl hH ?_
 simp only [aP, sA, sZ, sC]
 refine tL 2 27 (.int .i64 (k : Int)) rfl hH ?_
 simp only [aP, sA, sZ, sC]
 refine tG 3 28 (.pointer (some ⟨yb, 0, none⟩)) rfl hH ?_
 simp only [aP, sA, sZ, sC]
 refine tG 4 29 (.pointer (some ⟨yb, 0, none⟩)) rfl hH ?_
 simp only [aP, sA, sZ, sC]
 refine tG 5 30 (.pointer (some ⟨yb, k, none⟩)) rfl hH ?_
 simp only [aP, sA, sZ, sC]
 refine tL 6 31 (.pointer (some ⟨M.b, 0, none⟩)) rfl hH ?_
 simp only [aP, sA, sZ, sC]
 refine tG 7 32 (.bool false) rfl hH ?_
 simp only [aP, sA, sZ, sC]
 refine tG 8 33 (.bool false) rfl hH ?_
 simp only [aP, sA, sZ, sC]
 refine tK 9 34 (.pointer (some ⟨yb, 0, none⟩)) rfl hH ?_
 simp only [aP, sA, sZ, sC]
 refine tK 10 35 (.pointer (some ⟨w.heap.size, 0, none⟩)) rfl hH ?_
 simp only [aP, sA, sZ, sC]
 refine tM 11 36 (.int .i64 (k : Int)) rfl hH ?_
 simp only [aP, sA, sZ, sC]
 refine tK 12 37 (.pointer (some ⟨yb, 0, none⟩)) rfl hH ?_
 simp only [aP, sA, sZ, sC]
 refine tK 13 38 (.pointer (some ⟨yb, 3, none⟩)) rfl hH ?_
 simp only [aP, sA, sZ, sC]
 refine tK 14 39 (.pointer (some ⟨yb, 3 + k, none⟩)) rfl hH ?_
 simp only [aP, sA, sZ, sC]
 refine tM 15 40 (.pointer (some ⟨R.b, 0, none⟩)) rfl hH ?_
 simp only [aP, sA, sZ, sC]
 refine tK 16 41 (.bool false) rfl hH ?_
 simp only [aP, sA, sZ, sC]
 refine tG 17 42 (.bool false) rfl hH ?_
 simp only [aP, sA, sZ, sC]
 refine wpAnyH_done (by kernel_rfl) ?_ _
 clear hH
 have hbq : Below W.heap.size W W.drew := dB _
 have d0 := bA hbq b0
 have d1 := bA hbq b1
 have d2 := bA hbq b2
 have d3 := bA hbq b3
 have d4 := bA hbq b4
 have d5 := bA hbq b5
 have d6 := bA hbq b6
 have d7 := bA hbq b7
 have d8 := bA hbq b8
 have d9 := bA hbq b9
 have d10 := bA hbq b10
 have d11 := bA hbq b11
 have HbD : Hid (Below w.heap.size w W.drew) := (show Below _ _ _ from bstep HbW.out hbq)
 clear hbq b0 b1 b2 b3 b4 b5 b6 b7 b8 b9 b10 b11 HbW cP cD
 generalize W.drew = D1 at HbD d0 d1 d2 d3 d4 d5 d6 d7 d8 d9 d10 d11 ⊢
 go_wp2_with (first | (go_at_call 16; refine (HC.out _ HbD.out).mono ?_; rintro e w3 ⟨rfl, H3⟩) | (go_at_call 14; refine (HI.out _ H3.out).mono ?_; rintro e w9 ⟨rfl, H9⟩) | fail)
 go_ret
 exact ⟨rfl, H9.out⟩
theorem step_put2 {k bn bc pn pc : Nat} {pe nn mm ww : Int} {t : Tg} {ba pa : Option Addr} {M : Mx} {R : Rx} {bs xs : List Int} (h : PlOk Y w B T) (ht : Y.tn ≤ (Y.os.length : Int)) (hT : T + 1 ≤ 450) (hk : k < 3) (hM : Y.M k = some (M, R)) (hA : ArgOk w B ba bn bc bs pa pn pc xs) : Calls Try.prog 10 #[.pointer (some ⟨Y.b, 0, none⟩), .agg #[.int .i64 (k : Int), .int .i64 2, .int .i64 pe, .int .i64 nn, .int .i64 mm, .int .i64 ww, .int .i64 t.e, .int .i64 t.l, .int .i64 t.i, .int .i64 t.c, .slice ba bn bc, .slice pa pn pc]] w fun e w' => e = .returned (.bool true) /\ YsO w w' B T Y := by
 have H : Hid (PlOk Y w B T) := h
 have Ht : Hid (Y.tn ≤ (Y.os.length : Int)) := ht
 have HT : Hid (T + 1 ≤ 450) := hT
 obtain ⟨yb, hyb⟩ : ∃ b, Y.b = b := ⟨_, rfl⟩
 have Hyb : Hid (Y.b = yb) := hyb
 generalize hW : w.alloc (.cells #[.int .i64 (k : Int), .int .i64 2, .int .i64 pe, .int .i64 nn, .int .i64 mm, .int .i64 ww, .int .i64 t.e, .int .i64 t.l, .int .i64 t.i, .int .i64 t.c, .slice ba bn bc, .slice pa pn pc] 43) = W
 have hbW := bW0 hW
 have HbW : Hid (Below w.heap.size w W) := hbW
 have hblk := hQ0 hW
 have b0 : W.cell? ⟨w.heap.size, 0, none⟩ = some (.int .i64 (k : Int)) := bC hblk 0
 have b1 : W.cell? ⟨w.heap.size, 1, none⟩ = some (.int .i64 2) := bC hblk 1
 have b2 : W.cell? ⟨w.heap.size, 2, none⟩ = some (.int .i64 pe) := bC hblk 2
 have b3 : W.cell? ⟨w.heap.size, 3, none⟩ = some (.int .i64 nn) := bC hblk 3
 have b4 : W.cell? ⟨w.heap.size, 4, none⟩ = some (.int .i64 mm) := bC hblk 4
 have b5 : W.cell? ⟨w.heap.size, 5, none⟩ = some (.int .i64 ww) := bC hblk 5
 have b6 : W.cell? ⟨w.heap.size, 6, none⟩ = some (.int .i64 t.e) := bC hblk 6
 have b7 : W.cell? ⟨w.heap.size, 7, none⟩ = some (.int .i64 t.l) := bC hblk 7
 have b8 : W.cell? ⟨w.heap.size, 8, none⟩ = some (.int .i64 t.i) := bC hblk 8
 have b9 : W.cell? ⟨w.heap.size, 9, none⟩ = some (.int .i64 t.c) := bC hblk 9
 have b10 : W.cell? ⟨w.heap.size, 10, none⟩ = some (.slice ba bn bc) := bC hblk 10
 have b11 : W.cell? ⟨w.heap.size, 11, none⟩ = some (.slice pa pn pc) := bC hblk 11
 have HI : Hid (∀ D, YsO w D B T Y -> Calls Try.prog 14 #[.pointer (some ⟨yb, 0, none⟩)] D fun e w2 => e = .returned (.bool true) /\ Hid (YsO w w2 B T Y)) := fun D hy => (show Calls _ _ _ _ _ from by rw [<- hyb]; exact int_all hy)
 have HC : Hid (∀ D, Below w.heap.size w D -> Calls Try.prog 15 #[.pointer (some ⟨yb, 0, none⟩), .agg #[.int .i64 (k : Int), .int .i64 2, .int .i64 pe, .int .i64 nn, .int .i64 mm, .int .i64 ww, .int .i64 t.e, .int .i64 t.l, .int .i64 t.i, .int .i64 t.c, .slice ba bn bc, .slice pa pn pc]] D fun e w2 => e = .returned (.bool true) /\ Hid (YsO w w2 B T Y)) := fun D hb => (show Calls _ _ _ _ _ from by
  rw [<- hyb]
  exact (put2 (h.still hb) ht hT hk hM (hA.on (hb.mono h.bk.b))).mono fun e w2 hx => ⟨hx.1, YsO.pre hb h.bk.b hx.2⟩)
 have cM := (h.still hbW).cM hk
 rw [hM, hyb] at cM
 have cP : W.cell? ⟨yb, k, none⟩ = some (.pointer (some ⟨M.b, 0, none⟩)) := cM.1
 have cD : W.cell? ⟨yb, 3 + k, none⟩ = some (.pointer (some ⟨R.b, 0, none⟩)) := cM.2
 clear cM
 clear hM hA
 have i1 : (0 : Int) ≤ (k : Int) := Int.natCast_nonneg _
 have i2 : (k : Int) < 3 := by omega
 have i3 : ¬ (k : Int) < 0 := by omega
 have i4 : ¬ (2 : Int) < (k : Int) := by omega
 have Hk : Hid (k < 3) := hk
 clear hk
 rw [hyb]
 clear h ht hT hyb hbW hblk
 go_enter Try.func10, Try.ntmps10
 go_wp2
 refine wp_region_held_drew (S := (fun w' => w'.cell? ⟨w.heap.size, 0, none⟩ = some (.int .i64 (k : Int)) /\ w'.cell? ⟨yb, k, none⟩ = some (.pointer (some ⟨M.b, 0, none⟩)) /\ w'.cell? ⟨yb, 3 + k, none⟩ = some (.pointer (some ⟨R.b, 0, none⟩)))) (by kernel_rfl) ⟨(dW0 b0), (dW0 cP), (dW0 cD)⟩ (fun hH => ?_)
 simp only [Act.put, lA, lC, lN, zA]
 refine tG 0 25 (.pointer (some ⟨yb, 0, none⟩)) rfl hH ?_
 simp only [aP, sA, sZ, sC]
 refine tG 1 26 (.pointer (some ⟨w.heap.size, 0, none⟩)) rfl hH ?_
 simp only [aP, sA, sZ, sC]
 refine tL 2 27 (.int .i64 (k : Int)) rfl hH ?_
 simp only [aP, sA, sZ, sC]
 refine tG 3 28 (.pointer (some ⟨yb, 0, none⟩)) rfl hH ?_
 simp only [aP, sA, sZ, sC]
 refine tG 4 29 (.pointer (some ⟨yb, 0, none⟩)) rfl hH ?_
 simp only [aP, sA, sZ, sC]
 refine tG 5 30 (.pointer (some ⟨yb, k, none⟩)) rfl hH ?_
 simp only [aP, sA, sZ, sC]
 refine tL 6 31 (.pointer (some ⟨M.b, 0, none⟩)) rfl hH ?_
 simp only [aP, sA, sZ, sC]
 refine tG 7 32 (.bool false) rfl hH ?_
 simp only [aP, sA, sZ, sC]
 refine tG 8 33 (.bool false) rfl hH ?_
 simp only [aP, sA, sZ, sC]
 refine tK 9 34 (.pointer (some ⟨yb, 0, none⟩)) rfl hH ?_
 simp only [aP, sA, sZ, sC]
 refine tK 10 35 (.pointer (some ⟨w.heap.size, 0, none⟩)) rfl hH ?_
 simp only [aP, sA, sZ, sC]
 refine tM 11 36 (.int .i64 (k : Int)) rfl hH ?_
 simp only [aP, sA, sZ, sC]
 refine tK 12 37 (.pointer (some ⟨yb, 0, none⟩)) rfl hH ?_
 simp only [aP, sA, sZ, sC]
 refine tK 13 38 (.pointer (some ⟨yb, 3, none⟩)) rfl hH ?_
 simp only [aP, sA, sZ, sC]
 refine tK 14 39 (.pointer (some ⟨yb, 3 + k, none⟩)) rfl hH ?_
 simp only [aP, sA, sZ, sC]
 refine tM 15 40 (.pointer (some ⟨R.b, 0, none⟩)) rfl hH ?_
 simp only [aP, sA, sZ, sC]
 refine tK 16 41 (.bool false) rfl hH ?_
 simp only [aP, sA, sZ, sC]
 refine tG 17 42 (.bool false) rfl hH ?_
 simp only [aP, sA, sZ, sC]
 refine wpAnyH_done (by kernel_rfl) ?_ _
 clear hH
 have hbq : Below W.heap.size W W.drew := dB _
 have d0 := bA hbq b0
 have d1 := bA hbq b1
 have d2 := bA hbq b2
 have d3 := bA hbq b3
 have d4 := bA hbq b4
 have d5 := bA hbq b5
 have d6 := bA hbq b6
 have d7 := bA hbq b7
 have d8 := bA hbq b8
 have d9 := bA hbq b9
 have d10 := bA hbq b10
 have d11 := bA hbq b11
 have HbD : Hid (Below w.heap.size w W.drew) := (show Below _ _ _ from bstep HbW.out hbq)
 clear hbq b0 b1 b2 b3 b4 b5 b6 b7 b8 b9 b10 b11 HbW cP cD
 generalize W.drew = D1 at HbD d0 d1 d2 d3 d4 d5 d6 d7 d8 d9 d10 d11 ⊢
 go_wp2_with (first | (go_at_call 15; refine (HC.out _ HbD.out).mono ?_; rintro e w3 ⟨rfl, H3⟩) | (go_at_call 14; refine (HI.out _ H3.out).mono ?_; rintro e w9 ⟨rfl, H9⟩) | fail)
 go_ret
 exact ⟨rfl, H9.out⟩
theorem step_put3 {k bn bc pn pc : Nat} {pe nn mm ww : Int} {t : Tg} {ba pa : Option Addr} {M : Mx} {R : Rx} {bs xs : List Int} (h : PlOk Y w B T) (ht : Y.tn ≤ (Y.os.length : Int)) (hT : T + 1 ≤ 450) (hk : k < 3) (hM : Y.M k = some (M, R)) (hA : ArgOk w B ba bn bc bs pa pn pc xs) : Calls Try.prog 10 #[.pointer (some ⟨Y.b, 0, none⟩), .agg #[.int .i64 (k : Int), .int .i64 3, .int .i64 pe, .int .i64 nn, .int .i64 mm, .int .i64 ww, .int .i64 t.e, .int .i64 t.l, .int .i64 t.i, .int .i64 t.c, .slice ba bn bc, .slice pa pn pc]] w fun e w' => e = .returned (.bool true) /\ YsO w w' B T Y := by
 have H : Hid (PlOk Y w B T) := h
 have Ht : Hid (Y.tn ≤ (Y.os.length : Int)) := ht
 have HT : Hid (T + 1 ≤ 450) := hT
 obtain ⟨yb, hyb⟩ : ∃ b, Y.b = b := ⟨_, rfl⟩
 have Hyb : Hid (Y.b = yb) := hyb
 generalize hW : w.alloc (.cells #[.int .i64 (k : Int), .int .i64 3, .int .i64 pe, .int .i64 nn, .int .i64 mm, .int .i64 ww, .int .i64 t.e, .int .i64 t.l, .int .i64 t.i, .int .i64 t.c, .slice ba bn bc, .slice pa pn pc] 43) = W
 have hbW := bW0 hW
 have HbW : Hid (Below w.heap.size w W) := hbW
 have hblk := hQ0 hW
 have b0 : W.cell? ⟨w.heap.size, 0, none⟩ = some (.int .i64 (k : Int)) := bC hblk 0
 have b1 : W.cell? ⟨w.heap.size, 1, none⟩ = some (.int .i64 3) := bC hblk 1
 have b2 : W.cell? ⟨w.heap.size, 2, none⟩ = some (.int .i64 pe) := bC hblk 2
 have b3 : W.cell? ⟨w.heap.size, 3, none⟩ = some (.int .i64 nn) := bC hblk 3
 have b4 : W.cell? ⟨w.heap.size, 4, none⟩ = some (.int .i64 mm) := bC hblk 4
 have b5 : W.cell? ⟨w.heap.size, 5, none⟩ = some (.int .i64 ww) := bC hblk 5
 have b6 : W.cell? ⟨w.heap.size, 6, none⟩ = some (.int .i64 t.e) := bC hblk 6
 have b7 : W.cell? ⟨w.heap.size, 7, none⟩ = some (.int .i64 t.l) := bC hblk 7
 have b8 : W.cell? ⟨w.heap.size, 8, none⟩ = some (.int .i64 t.i) := bC hblk 8
 have b9 : W.cell? ⟨w.heap.size, 9, none⟩ = some (.int .i64 t.c) := bC hblk 9
 have b10 : W.cell? ⟨w.heap.size, 10, none⟩ = some (.slice ba bn bc) := bC hblk 10
 have b11 : W.cell? ⟨w.heap.size, 11, none⟩ = some (.slice pa pn pc) := bC hblk 11
 have HI : Hid (∀ D, YsO w D B T Y -> Calls Try.prog 14 #[.pointer (some ⟨yb, 0, none⟩)] D fun e w2 => e = .returned (.bool true) /\ Hid (YsO w w2 B T Y)) := fun D hy => (show Calls _ _ _ _ _ from by rw [<- hyb]; exact int_all hy)
 have HC : Hid (∀ D, Below w.heap.size w D -> Calls Try.prog 15 #[.pointer (some ⟨yb, 0, none⟩), .agg #[.int .i64 (k : Int), .int .i64 3, .int .i64 pe, .int .i64 nn, .int .i64 mm, .int .i64 ww, .int .i64 t.e, .int .i64 t.l, .int .i64 t.i, .int .i64 t.c, .slice ba bn bc, .slice pa pn pc]] D fun e w2 => e = .returned (.bool true) /\ Hid (YsO w w2 B T Y)) := fun D hb => (show Calls _ _ _ _ _ from by
  rw [<- hyb]
  exact (put3 (h.still hb) ht hT hk hM (hA.on (hb.mono h.bk.b))).mono fun e w2 hx => ⟨hx.1, YsO.pre hb h.bk.b hx.2⟩)
 have cM := (h.still hbW).cM hk
 rw [hM, hyb] at cM
 have cP : W.cell? ⟨yb, k, none⟩ = some (.pointer (some ⟨M.b, 0, none⟩)) := cM.1
 have cD : W.cell? ⟨yb, 3 + k, none⟩ = some (.pointer (some ⟨R.b, 0, none⟩)) := cM.2
 clear cM
 clear hM hA
 have i1 : (0 : Int) ≤ (k : Int) := Int.natCast_nonneg _
 have i2 : (k : Int) < 3 := by omega
 have i3 : ¬ (k : Int) < 0 := by omega
 have i4 : ¬ (2 : Int) < (k : Int) := by omega
 have Hk : Hid (k < 3) := hk
 clear hk
 rw [hyb]
 clear h ht hT hyb hbW hblk
 go_enter Try.func10, Try.ntmps10
 go_wp2
 refine wp_region_held_drew (S := (fun w' => w'.cell? ⟨w.heap.size, 0, none⟩ = some (.int .i64 (k : Int)) /\ w'.cell? ⟨yb, k, none⟩ = some (.pointer (some ⟨M.b, 0, none⟩)) /\ w'.cell? ⟨yb, 3 + k, none⟩ = some (.pointer (some ⟨R.b, 0, none⟩)))) (by kernel_rfl) ⟨(dW0 b0), (dW0 cP), (dW0 cD)⟩ (fun hH => ?_)
 simp only [Act.put, lA, lC, lN, zA]
 refine tG 0 25 (.pointer (some ⟨yb, 0, none⟩)) rfl hH ?_
 simp only [aP, sA, sZ, sC]
 refine tG 1 26 (.pointer (some ⟨w.heap.size, 0, none⟩)) rfl hH ?_
 simp only [aP, sA, sZ, sC]
 refine tL 2 27 (.int .i64 (k : Int)) rfl hH ?_
 simp only [aP, sA, sZ, sC]
 refine tG 3 28 (.pointer (some ⟨yb, 0, none⟩)) rfl hH ?_
 simp only [aP, sA, sZ, sC]
 refine tG 4 29 (.pointer (some ⟨yb, 0, none⟩)) rfl hH ?_
 simp only [aP, sA, sZ, sC]
 refine tG 5 30 (.pointer (some ⟨yb, k, none⟩)) rfl hH ?_
 simp only [aP, sA, sZ, sC]
 refine tL 6 31 (.pointer (some ⟨M.b, 0, none⟩)) rfl hH ?_
 simp only [aP, sA, sZ, sC]
 refine tG 7 32 (.bool false) rfl hH ?_
 simp only [aP, sA, sZ, sC]
 refine tG 8 33 (.bool false) rfl hH ?_
 simp only [aP, sA, sZ, sC]
 refine tK 9 34 (.pointer (some ⟨yb, 0, none⟩)) rfl hH ?_
 simp only [aP, sA, sZ, sC]
 refine tK 10 35 (.pointer (some ⟨w.heap.size, 0, none⟩)) rfl hH ?_
 simp only [aP, sA, sZ, sC]
 refine tM 11 36 (.int .i64 (k : Int)) rfl hH ?_
 simp only [aP, sA, sZ, sC]
 refine tK 12 37 (.pointer (some ⟨yb, 0, none⟩)) rfl hH ?_
 simp only [aP, sA, sZ, sC]
 refine tK 13 38 (.pointer (some ⟨yb, 3, none⟩)) rfl hH ?_
 simp only [aP, sA, sZ, sC]
 refine tK 14 39 (.pointer (some ⟨yb, 3 + k, none⟩)) rfl hH ?_
 simp only [aP, sA, sZ, sC]
 refine tM 15 40 (.pointer (some ⟨R.b, 0, none⟩)) rfl hH ?_
 simp only [aP, sA, sZ, sC]
 refine tK 16 41 (.bool false) rfl hH ?_
 simp only [aP, sA, sZ, sC]
 refine tG 17 42 (.bool false) rfl hH ?_
 simp only [aP, sA, sZ, sC]
 refine wpAnyH_done (by kernel_rfl) ?_ _
 clear hH
 have hbq : Below W.heap.size W W.drew := dB _
 have d0 := bA hbq b0
 have d1 := bA hbq b1
 have d2 := bA hbq b2
 have d3 := bA hbq b3
 have d4 := bA hbq b4
 have d5 := bA hbq b5
 have d6 := bA hbq b6
 have d7 := bA hbq b7
 have d8 := bA hbq b8
 have d9 := bA hbq b9
 have d10 := bA hbq b10
 have d11 := bA hbq b11
 have HbD : Hid (Below w.heap.size w W.drew) := (show Below _ _ _ from bstep HbW.out hbq)
 clear hbq b0 b1 b2 b3 b4 b5 b6 b7 b8 b9 b10 b11 HbW cP cD
 generalize W.drew = D1 at HbD d0 d1 d2 d3 d4 d5 d6 d7 d8 d9 d10 d11 ⊢
 go_wp2_with (first | (go_at_call 15; refine (HC.out _ HbD.out).mono ?_; rintro e w3 ⟨rfl, H3⟩) | (go_at_call 14; refine (HI.out _ H3.out).mono ?_; rintro e w9 ⟨rfl, H9⟩) | fail)
 go_ret
 exact ⟨rfl, H9.out⟩
theorem step_put8 {k bn bc pn pc : Nat} {pe nn mm ww : Int} {t : Tg} {ba pa : Option Addr} {M : Mx} {R : Rx} {bs xs : List Int} (h : PlOk Y w B T) (ht : Y.tn ≤ (Y.os.length : Int)) (hT : T + 1 ≤ 450) (hk : k < 3) (hM : Y.M k = some (M, R)) (hA : ArgOk w B ba bn bc bs pa pn pc xs) : Calls Try.prog 10 #[.pointer (some ⟨Y.b, 0, none⟩), .agg #[.int .i64 (k : Int), .int .i64 8, .int .i64 pe, .int .i64 nn, .int .i64 mm, .int .i64 ww, .int .i64 t.e, .int .i64 t.l, .int .i64 t.i, .int .i64 t.c, .slice ba bn bc, .slice pa pn pc]] w fun e w' => e = .returned (.bool true) /\ YsO w w' B T Y := by
 have H : Hid (PlOk Y w B T) := h
 have Ht : Hid (Y.tn ≤ (Y.os.length : Int)) := ht
 have HT : Hid (T + 1 ≤ 450) := hT
 obtain ⟨yb, hyb⟩ : ∃ b, Y.b = b := ⟨_, rfl⟩
 have Hyb : Hid (Y.b = yb) := hyb
 generalize hW : w.alloc (.cells #[.int .i64 (k : Int), .int .i64 8, .int .i64 pe, .int .i64 nn, .int .i64 mm, .int .i64 ww, .int .i64 t.e, .int .i64 t.l, .int .i64 t.i, .int .i64 t.c, .slice ba bn bc, .slice pa pn pc] 43) = W
 have hbW := bW0 hW
 have HbW : Hid (Below w.heap.size w W) := hbW
 have hblk := hQ0 hW
 have b0 : W.cell? ⟨w.heap.size, 0, none⟩ = some (.int .i64 (k : Int)) := bC hblk 0
 have b1 : W.cell? ⟨w.heap.size, 1, none⟩ = some (.int .i64 8) := bC hblk 1
 have b2 : W.cell? ⟨w.heap.size, 2, none⟩ = some (.int .i64 pe) := bC hblk 2
 have b3 : W.cell? ⟨w.heap.size, 3, none⟩ = some (.int .i64 nn) := bC hblk 3
 have b4 : W.cell? ⟨w.heap.size, 4, none⟩ = some (.int .i64 mm) := bC hblk 4
 have b5 : W.cell? ⟨w.heap.size, 5, none⟩ = some (.int .i64 ww) := bC hblk 5
 have b6 : W.cell? ⟨w.heap.size, 6, none⟩ = some (.int .i64 t.e) := bC hblk 6
 have b7 : W.cell? ⟨w.heap.size, 7, none⟩ = some (.int .i64 t.l) := bC hblk 7
 have b8 : W.cell? ⟨w.heap.size, 8, none⟩ = some (.int .i64 t.i) := bC hblk 8
 have b9 : W.cell? ⟨w.heap.size, 9, none⟩ = some (.int .i64 t.c) := bC hblk 9
 have b10 : W.cell? ⟨w.heap.size, 10, none⟩ = some (.slice ba bn bc) := bC hblk 10
 have b11 : W.cell? ⟨w.heap.size, 11, none⟩ = some (.slice pa pn pc) := bC hblk 11
 have HI : Hid (∀ D, YsO w D B T Y -> Calls Try.prog 14 #[.pointer (some ⟨yb, 0, none⟩)] D fun e w2 => e = .returned (.bool true) /\ Hid (YsO w w2 B T Y)) := fun D hy => (show Calls _ _ _ _ _ from by rw [<- hyb]; exact int_all hy)
 have HC : Hid (∀ D, Below w.heap.size w D -> Calls Try.prog 15 #[.pointer (some ⟨yb, 0, none⟩), .agg #[.int .i64 (k : Int), .int .i64 8, .int .i64 pe, .int .i64 nn, .int .i64 mm, .int .i64 ww, .int .i64 t.e, .int .i64 t.l, .int .i64 t.i, .int .i64 t.c, .slice ba bn bc, .slice pa pn pc]] D fun e w2 => e = .returned (.bool true) /\ Hid (YsO w w2 B T Y)) := fun D hb => (show Calls _ _ _ _ _ from by
  rw [<- hyb]
  exact (put8 (h.still hb) ht hT hk hM (hA.on (hb.mono h.bk.b))).mono fun e w2 hx => ⟨hx.1, YsO.pre hb h.bk.b hx.2⟩)
 have cM := (h.still hbW).cM hk
 rw [hM, hyb] at cM
 have cP : W.cell? ⟨yb, k, none⟩ = some (.pointer (some ⟨M.b, 0, none⟩)) := cM.1
 have cD : W.cell? ⟨yb, 3 + k, none⟩ = some (.pointer (some ⟨R.b, 0, none⟩)) := cM.2
 clear cM
 clear hM hA
 have i1 : (0 : Int) ≤ (k : Int) := Int.natCast_nonneg _
 have i2 : (k : Int) < 3 := by omega
 have i3 : ¬ (k : Int) < 0 := by omega
 have i4 : ¬ (2 : Int) < (k : Int) := by omega
 have Hk : Hid (k < 3) := hk
 clear hk
 rw [hyb]
 clear h ht hT hyb hbW hblk
 go_enter Try.func10, Try.ntmps10
 go_wp2
 refine wp_region_held_drew (S := (fun w' => w'.cell? ⟨w.heap.size, 0, none⟩ = some (.int .i64 (k : Int)) /\ w'.cell? ⟨yb, k, none⟩ = some (.pointer (some ⟨M.b, 0, none⟩)) /\ w'.cell? ⟨yb, 3 + k, none⟩ = some (.pointer (some ⟨R.b, 0, none⟩)))) (by kernel_rfl) ⟨(dW0 b0), (dW0 cP), (dW0 cD)⟩ (fun hH => ?_)
 simp only [Act.put, lA, lC, lN, zA]
 refine tG 0 25 (.pointer (some ⟨yb, 0, none⟩)) rfl hH ?_
 simp only [aP, sA, sZ, sC]
 refine tG 1 26 (.pointer (some ⟨w.heap.size, 0, none⟩)) rfl hH ?_
 simp only [aP, sA, sZ, sC]
 refine tL 2 27 (.int .i64 (k : Int)) rfl hH ?_
 simp only [aP, sA, sZ, sC]
 refine tG 3 28 (.pointer (some ⟨yb, 0, none⟩)) rfl hH ?_
 simp only [aP, sA, sZ, sC]
 refine tG 4 29 (.pointer (some ⟨yb, 0, none⟩)) rfl hH ?_
 simp only [aP, sA, sZ, sC]
 refine tG 5 30 (.pointer (some ⟨yb, k, none⟩)) rfl hH ?_
 simp only [aP, sA, sZ, sC]
 refine tL 6 31 (.pointer (some ⟨M.b, 0, none⟩)) rfl hH ?_
 simp only [aP, sA, sZ, sC]
 refine tG 7 32 (.bool false) rfl hH ?_
 simp only [aP, sA, sZ, sC]
 refine tG 8 33 (.bool false) rfl hH ?_
 simp only [aP, sA, sZ, sC]
 refine tK 9 34 (.pointer (some ⟨yb, 0, none⟩)) rfl hH ?_
 simp only [aP, sA, sZ, sC]
 refine tK 10 35 (.pointer (some ⟨w.heap.size, 0, none⟩)) rfl hH ?_
 simp only [aP, sA, sZ, sC]
 refine tM 11 36 (.int .i64 (k : Int)) rfl hH ?_
 simp only [aP, sA, sZ, sC]
 refine tK 12 37 (.pointer (some ⟨yb, 0, none⟩)) rfl hH ?_
 simp only [aP, sA, sZ, sC]
 refine tK 13 38 (.pointer (some ⟨yb, 3, none⟩)) rfl hH ?_
 simp only [aP, sA, sZ, sC]
 refine tK 14 39 (.pointer (some ⟨yb, 3 + k, none⟩)) rfl hH ?_
 simp only [aP, sA, sZ, sC]
 refine tM 15 40 (.pointer (some ⟨R.b, 0, none⟩)) rfl hH ?_
 simp only [aP, sA, sZ, sC]
 refine tK 16 41 (.bool false) rfl hH ?_
 simp only [aP, sA, sZ, sC]
 refine tG 17 42 (.bool false) rfl hH ?_
 simp only [aP, sA, sZ, sC]
 refine wpAnyH_done (by kernel_rfl) ?_ _
 clear hH
 have hbq : Below W.heap.size W W.drew := dB _
 have d0 := bA hbq b0
 have d1 := bA hbq b1
 have d2 := bA hbq b2
 have d3 := bA hbq b3
 have d4 := bA hbq b4
 have d5 := bA hbq b5
 have d6 := bA hbq b6
 have d7 := bA hbq b7
 have d8 := bA hbq b8
 have d9 := bA hbq b9
 have d10 := bA hbq b10
 have d11 := bA hbq b11
 have HbD : Hid (Below w.heap.size w W.drew) := (show Below _ _ _ from bstep HbW.out hbq)
 clear hbq b0 b1 b2 b3 b4 b5 b6 b7 b8 b9 b10 b11 HbW cP cD
 generalize W.drew = D1 at HbD d0 d1 d2 d3 d4 d5 d6 d7 d8 d9 d10 d11 ⊢
 go_wp2_with (first | (go_at_call 15; refine (HC.out _ HbD.out).mono ?_; rintro e w3 ⟨rfl, H3⟩) | (go_at_call 14; refine (HI.out _ H3.out).mono ?_; rintro e w9 ⟨rfl, H9⟩) | fail)
 go_ret
 exact ⟨rfl, H9.out⟩
theorem step_put9 {k bn bc pn pc : Nat} {pe nn mm ww : Int} {t : Tg} {ba pa : Option Addr} {M : Mx} {R : Rx} {bs xs : List Int} (h : PlOk Y w B T) (ht : Y.tn ≤ (Y.os.length : Int)) (hT : T + 1 ≤ 450) (hk : k < 3) (hM : Y.M k = some (M, R)) (hA : ArgOk w B ba bn bc bs pa pn pc xs) : Calls Try.prog 10 #[.pointer (some ⟨Y.b, 0, none⟩), .agg #[.int .i64 (k : Int), .int .i64 9, .int .i64 pe, .int .i64 nn, .int .i64 mm, .int .i64 ww, .int .i64 t.e, .int .i64 t.l, .int .i64 t.i, .int .i64 t.c, .slice ba bn bc, .slice pa pn pc]] w fun e w' => e = .returned (.bool true) /\ YsO w w' B T Y := by
 have H : Hid (PlOk Y w B T) := h
 have Ht : Hid (Y.tn ≤ (Y.os.length : Int)) := ht
 have HT : Hid (T + 1 ≤ 450) := hT
 obtain ⟨yb, hyb⟩ : ∃ b, Y.b = b := ⟨_, rfl⟩
 have Hyb : Hid (Y.b = yb) := hyb
 generalize hW : w.alloc (.cells #[.int .i64 (k : Int), .int .i64 9, .int .i64 pe, .int .i64 nn, .int .i64 mm, .int .i64 ww, .int .i64 t.e, .int .i64 t.l, .int .i64 t.i, .int .i64 t.c, .slice ba bn bc, .slice pa pn pc] 43) = W
 have hbW := bW0 hW
 have HbW : Hid (Below w.heap.size w W) := hbW
 have hblk := hQ0 hW
 have b0 : W.cell? ⟨w.heap.size, 0, none⟩ = some (.int .i64 (k : Int)) := bC hblk 0
 have b1 : W.cell? ⟨w.heap.size, 1, none⟩ = some (.int .i64 9) := bC hblk 1
 have b2 : W.cell? ⟨w.heap.size, 2, none⟩ = some (.int .i64 pe) := bC hblk 2
 have b3 : W.cell? ⟨w.heap.size, 3, none⟩ = some (.int .i64 nn) := bC hblk 3
 have b4 : W.cell? ⟨w.heap.size, 4, none⟩ = some (.int .i64 mm) := bC hblk 4
 have b5 : W.cell? ⟨w.heap.size, 5, none⟩ = some (.int .i64 ww) := bC hblk 5
 have b6 : W.cell? ⟨w.heap.size, 6, none⟩ = some (.int .i64 t.e) := bC hblk 6
 have b7 : W.cell? ⟨w.heap.size, 7, none⟩ = some (.int .i64 t.l) := bC hblk 7
 have b8 : W.cell? ⟨w.heap.size, 8, none⟩ = some (.int .i64 t.i) := bC hblk 8
 have b9 : W.cell? ⟨w.heap.size, 9, none⟩ = some (.int .i64 t.c) := bC hblk 9
 have b10 : W.cell? ⟨w.heap.size, 10, none⟩ = some (.slice ba bn bc) := bC hblk 10
 have b11 : W.cell? ⟨w.heap.size, 11, none⟩ = some (.slice pa pn pc) := bC hblk 11
 have HI : Hid (∀ D, YsO w D B T Y -> Calls Try.prog 14 #[.pointer (some ⟨yb, 0, none⟩)] D fun e w2 => e = .returned (.bool true) /\ Hid (YsO w w2 B T Y)) := fun D hy => (show Calls _ _ _ _ _ from by rw [<- hyb]; exact int_all hy)
 have HC : Hid (∀ D, Below w.heap.size w D -> Calls Try.prog 15 #[.pointer (some ⟨yb, 0, none⟩), .agg #[.int .i64 (k : Int), .int .i64 9, .int .i64 pe, .int .i64 nn, .int .i64 mm, .int .i64 ww, .int .i64 t.e, .int .i64 t.l, .int .i64 t.i, .int .i64 t.c, .slice ba bn bc, .slice pa pn pc]] D fun e w2 => e = .returned (.bool true) /\ Hid (YsO w w2 B T Y)) := fun D hb => (show Calls _ _ _ _ _ from by
  rw [<- hyb]
  exact (put9 (h.still hb) ht hT hk hM (hA.on (hb.mono h.bk.b))).mono fun e w2 hx => ⟨hx.1, YsO.pre hb h.bk.b hx.2⟩)
 have cM := (h.still hbW).cM hk
 rw [hM, hyb] at cM
 have cP : W.cell? ⟨yb, k, none⟩ = some (.pointer (some ⟨M.b, 0, none⟩)) := cM.1
 have cD : W.cell? ⟨yb, 3 + k, none⟩ = some (.pointer (some ⟨R.b, 0, none⟩)) := cM.2
 clear cM
 clear hM hA
 have i1 : (0 : Int) ≤ (k : Int) := Int.natCast_nonneg _
 have i2 : (k : Int) < 3 := by omega
 have i3 : ¬ (k : Int) < 0 := by omega
 have i4 : ¬ (2 : Int) < (k : Int) := by omega
 have Hk : Hid (k < 3) := hk
 clear hk
 rw [hyb]
 clear h ht hT hyb hbW hblk
 go_enter Try.func10, Try.ntmps10
 go_wp2
 refine wp_region_held_drew (S := (fun w' => w'.cell? ⟨w.heap.size, 0, none⟩ = some (.int .i64 (k : Int)) /\ w'.cell? ⟨yb, k, none⟩ = some (.pointer (some ⟨M.b, 0, none⟩)) /\ w'.cell? ⟨yb, 3 + k, none⟩ = some (.pointer (some ⟨R.b, 0, none⟩)))) (by kernel_rfl) ⟨(dW0 b0), (dW0 cP), (dW0 cD)⟩ (fun hH => ?_)
 simp only [Act.put, lA, lC, lN, zA]
 refine tG 0 25 (.pointer (some ⟨yb, 0, none⟩)) rfl hH ?_
 simp only [aP, sA, sZ, sC]
 refine tG 1 26 (.pointer (some ⟨w.heap.size, 0, none⟩)) rfl hH ?_
 simp only [aP, sA, sZ, sC]
 refine tL 2 27 (.int .i64 (k : Int)) rfl hH ?_
 simp only [aP, sA, sZ, sC]
 refine tG 3 28 (.pointer (some ⟨yb, 0, none⟩)) rfl hH ?_
 simp only [aP, sA, sZ, sC]
 refine tG 4 29 (.pointer (some ⟨yb, 0, none⟩)) rfl hH ?_
 simp only [aP, sA, sZ, sC]
 refine tG 5 30 (.pointer (some ⟨yb, k, none⟩)) rfl hH ?_
 simp only [aP, sA, sZ, sC]
 refine tL 6 31 (.pointer (some ⟨M.b, 0, none⟩)) rfl hH ?_
 simp only [aP, sA, sZ, sC]
 refine tG 7 32 (.bool false) rfl hH ?_
 simp only [aP, sA, sZ, sC]
 refine tG 8 33 (.bool false) rfl hH ?_
 simp only [aP, sA, sZ, sC]
 refine tK 9 34 (.pointer (some ⟨yb, 0, none⟩)) rfl hH ?_
 simp only [aP, sA, sZ, sC]
 refine tK 10 35 (.pointer (some ⟨w.heap.size, 0, none⟩)) rfl hH ?_
 simp only [aP, sA, sZ, sC]
 refine tM 11 36 (.int .i64 (k : Int)) rfl hH ?_
 simp only [aP, sA, sZ, sC]
 refine tK 12 37 (.pointer (some ⟨yb, 0, none⟩)) rfl hH ?_
 simp only [aP, sA, sZ, sC]
 refine tK 13 38 (.pointer (some ⟨yb, 3, none⟩)) rfl hH ?_
 simp only [aP, sA, sZ, sC]
 refine tK 14 39 (.pointer (some ⟨yb, 3 + k, none⟩)) rfl hH ?_
 simp only [aP, sA, sZ, sC]
 refine tM 15 40 (.pointer (some ⟨R.b, 0, none⟩)) rfl hH ?_
 simp only [aP, sA, sZ, sC]
 refine tK 16 41 (.bool false) rfl hH ?_
 simp only [aP, sA, sZ, sC]
 refine tG 17 42 (.bool false) rfl hH ?_
 simp only [aP, sA, sZ, sC]
 refine wpAnyH_done (by kernel_rfl) ?_ _
 clear hH
 have hbq : Below W.heap.size W W.drew := dB _
 have d0 := bA hbq b0
 have d1 := bA hbq b1
 have d2 := bA hbq b2
 have d3 := bA hbq b3
 have d4 := bA hbq b4
 have d5 := bA hbq b5
 have d6 := bA hbq b6
 have d7 := bA hbq b7
 have d8 := bA hbq b8
 have d9 := bA hbq b9
 have d10 := bA hbq b10
 have d11 := bA hbq b11
 have HbD : Hid (Below w.heap.size w W.drew) := (show Below _ _ _ from bstep HbW.out hbq)
 clear hbq b0 b1 b2 b3 b4 b5 b6 b7 b8 b9 b10 b11 HbW cP cD
 generalize W.drew = D1 at HbD d0 d1 d2 d3 d4 d5 d6 d7 d8 d9 d10 d11 ⊢
 go_wp2_with (first | (go_at_call 15; refine (HC.out _ HbD.out).mono ?_; rintro e w3 ⟨rfl, H3⟩) | (go_at_call 14; refine (HI.out _ H3.out).mono ?_; rintro e w9 ⟨rfl, H9⟩) | fail)
 go_ret
 exact ⟨rfl, H9.out⟩
theorem step_any {bn bc pn pc : Nat} {mu kd pe nn mm ww : Int} {t : Tg} {ba pa : Option Addr} {bs xs : List Int} (h : PlOk Y w B T) (ht : Y.tn ≤ (Y.os.length : Int)) (hT : T + 1 ≤ 450) (hA : ArgOk w B ba bn bc bs pa pn pc xs) : Calls Try.prog 10 #[.pointer (some ⟨Y.b, 0, none⟩), .agg #[.int .i64 mu, .int .i64 kd, .int .i64 pe, .int .i64 nn, .int .i64 mm, .int .i64 ww, .int .i64 t.e, .int .i64 t.l, .int .i64 t.i, .int .i64 t.c, .slice ba bn bc, .slice pa pn pc]] w fun e w' => e = .returned (.bool true) /\ YsO w w' B T Y := by
 by_cases m0 : mu < 0
 ·exact step_lo h ht hT m0
 by_cases m2 : 2 < mu
 ·exact step_hi h ht hT m2
 obtain ⟨k, rfl⟩ : ∃ k : Nat, mu = (k : Int) := ⟨mu.toNat, by omega⟩
 have hk : k < 3 := by omega
 by_cases k1 : kd = 1
 ·subst k1; exact step_new h ht hT hk
 cases hM : Y.M k with
 | none => exact step_nil h ht hT hk hM (by simpa using k1)
 | some mr =>
  obtain ⟨M, R⟩ := mr
  by_cases k2 : kd = 2
  ·subst k2; exact step_put2 h ht hT hk hM hA
  by_cases k3 : kd = 3
  ·subst k3; exact step_put3 h ht hT hk hM hA
  by_cases k8 : kd = 8
  ·subst k8; exact step_put8 h ht hT hk hM hA
  by_cases k9 : kd = 9
  ·subst k9; exact step_put9 h ht hT hk hM hA
  exact step_ask h ht hT hk hM (by simpa using k1) (by simpa using k2) (by simpa using k3) (by simpa using k8) (by simpa using k9)
end
section
variable {w w' W X D : World} {B T b tb : Nat}
def tg1 : Tg := ⟨1, 0, 1, 1⟩
structure Fs (w X : World) (b tb n : Nat) (M : Mx) : Prop where
 ok : M.Ok X w.heap.size
 b : M.b = b
 c : M.n = 2 /\ M.self = 0 /\ M.win = 1 /\ M.room = 1
 nt : ¬ M.own tb
 bel : Below w.heap.size w X
 tg : 0 < n -> M.tag = tg1
 es : 0 < n -> ∃ E, M.es 1 = some E /\ E.pu = if n = 1 then ⟨0, 0, fun _ => none, 0, fun _ => none, false⟩ else (⟨0, 0, fun _ => none, 0, fun _ => none, false⟩ : Ep).push [5]
theorem Fs.still {n : Nat} {M : Mx} (h : Fs w X b tb n M) (hb : Below X.heap.size X D) : Fs w D b tb n M := ⟨h.ok.still hb, h.b, h.c, h.nt, bstep h.bel hb, h.tg, h.es⟩
structure FsO (w D w' : World) (b tb n : Nat) : Prop where
 out : (∃ M, Fs w w' b tb n M) /\ Kept D w' (fun j => j ≠ tb)
theorem f_new : Calls Try.prog 23 #[.int .i64 2, .int .i64 0, .int .i64 1, .int .i64 1] w fun e w' => e = .returned (.tuple #[.pointer (some ⟨w.heap.size + 1, 0, none⟩), .int .i64 0]) /\ ∃ M, Fs w w' (w.heap.size + 1) w'.heap.size 0 M := by
 have h := new_ok (w := w) (n := 2) (self := 0) (win := 1) (room := 1) (by omega) (by omega) (by omega) (by omega) (by omega) (by omega)
 refine h.mono fun e w' hx => ⟨hx.1, _, hx.2.1, rfl, ⟨rfl, rfl, rfl, rfl⟩, fun e => ?_, hx.2.2, fun h0 => by omega, fun h0 => by omega⟩
 have := hx.2.1.lt e
 omega
theorem Fs.out {n m : Nat} {M M' : Mx} (h : Fs w D b tb n M) (s : Mstep D w' M M' w.heap.size) (hb : M'.b = M.b) (hc : M'.n = M.n /\ M'.self = M.self /\ M'.win = M.win /\ M'.room = M.room) (ht : tb < D.heap.size) (htg : M'.tag = tg1) (hes : ∃ E, M'.es 1 = some E /\ E.pu = if m = 1 then ⟨0, 0, fun _ => none, 0, fun _ => none, false⟩ else (⟨0, 0, fun _ => none, 0, fun _ => none, false⟩ : Ep).push [5]) : FsO w D w' b tb m := by
 refine ⟨⟨M', s.ok, hb.trans h.b, ⟨hc.1.trans h.c.1, hc.2.1.trans h.c.2.1, hc.2.2.1.trans h.c.2.2.1, hc.2.2.2.trans h.c.2.2.2⟩, fun e => ?_, h.bel.trans (s.kept.below h.bel.size fun j hj e => ?_), fun _ => htg, fun _ => hes⟩, s.kept.mono fun j _ e e2 => ?_⟩
 ·rcases s.own tb e with e | e
  ·exact h.nt e
  ·omega
 ·have := h.ok.loj e; omega
 ·rw [e2] at e; exact h.nt e
theorem f_reset {g : Nat} {M : Mx} (h : Fs w D b tb 0 M) (hr : RdI D (some ⟨g, 0, none⟩) 1 1 [1]) (hg : ¬ M.own g) (ht : tb < D.heap.size) : Calls Try.prog 25 #[.pointer (some ⟨b, 0, none⟩), .agg #[.int .i64 1, .int .i64 0, .int .i64 1, .int .i64 1], .slice (some ⟨g, 0, none⟩) 1 1] D fun e w' => e = .returned (.int .i64 0) /\ FsO w D w' b tb 1 := by
 have h1 := reset_ok h.ok h.bel.size tg1 hr (fun b off e => by simp only [Option.some.injEq, Addr.mk.injEq] at e; obtain ⟨rfl, _⟩ := e; exact hg) (by omega) (by decide) (by rw [h.c.1, h.c.2.1]; decide)
 rw [h.b] at h1
 refine h1.mono fun e w' hx => ⟨hx.1, ?_⟩
 obtain ⟨bs, ms⟩ := hx.2.out
 exact h.out ms rfl ⟨rfl, rfl, rfl, rfl⟩ ht rfl ⟨E0 (bs 1), by simp, by simp [En.pu, E0, S0]⟩
theorem at1 {M : Mx} {E : En} (hn : M.n = 2) (he : M.es 1 = some E) : M.at 1 = some E := by
 unfold Mx.at
 rw [hn, if_pos (by omega)]
 exact he
theorem put_es {M : Mx} {E : En} : (M.put 1 E).es 1 = some E := by show upd M.es 1 (some E) 1 = some E; exact upd_same _ _ _
theorem pu_nat {E : En} {P : Ep} (h : E.pu = P) : E.o.p = P.op /\ E.sent = P.sent /\ E.i.p = P.ip := by rw [<- h]; exact ⟨rfl, rfl, rfl⟩
theorem f_push {g : Nat} {M : Mx} (h : Fs w D b tb 1 M) (hr : Rd D (some ⟨g, 0, none⟩) 1 1 [5]) (ht : tb < D.heap.size) : Calls Try.prog 26 #[.pointer (some ⟨b, 0, none⟩), .int .i64 1, .slice (some ⟨g, 0, none⟩) 1 1] D fun e w' => e = .returned (.int .i64 0) /\ FsO w D w' b tb 2 := by
 obtain ⟨E, he, hp⟩ := h.es (by omega)
 rw [if_pos rfl] at hp
 obtain ⟨p1, p2, p3⟩ := pu_nat hp
 have h1 := push_ok (bs := [5]) h.ok h.bel.size (at1 h.c.1 he) hr (by decide) (by rw [p1, p2, h.c.2.2.2]; decide) (by rw [p2]; decide)
 rw [h.b] at h1
 refine h1.mono fun e w' hx => ⟨hx.1, ?_⟩
 obtain ⟨E', es, hpu⟩ := hx.2.out
 exact h.out (es.to h.ok he) rfl ⟨rfl, rfl, rfl, rfl⟩ ht (h.tg (by omega)) ⟨E', put_es, by rw [hpu, hp]; rfl⟩
theorem f_full {g : Nat} {M : Mx} (h : Fs w D b tb 2 M) : Calls Try.prog 26 #[.pointer (some ⟨b, 0, none⟩), .int .i64 1, .slice (some ⟨g, 0, none⟩) 1 1] D fun e w' => e = .returned (.int .i64 42) /\ Below D.heap.size D w' := by
 obtain ⟨E, he, hp⟩ := h.es (by omega)
 rw [if_neg (by decide)] at hp
 obtain ⟨p1, p2, p3⟩ := pu_nat hp
 have h1 := push_full (ao := some ⟨g, 0, none⟩) (n := 1) (c := 1) h.ok (at1 h.c.1 he) (by decide) (by rw [p1, p2, h.c.2.2.2]; decide)
 rw [h.b] at h1
 exact h1
structure FfO (D w' : World) (e : Ending) : Prop where
 out : ∃ fb yk, e = .returned (.slice (some ⟨fb, 0, none⟩) 1 1) /\ w'.cell? ⟨fb, 0, none⟩ = some (.int .i64 1) /\ w'.cell? ⟨fb, 1, none⟩ = some (.int .i64 0) /\ w'.cell? ⟨fb, 2, none⟩ = some (.int .i64 1) /\ w'.cell? ⟨fb, 3, none⟩ = some (.int .i64 1) /\ w'.cell? ⟨fb, 4, none⟩ = some (.int .i64 1) /\ w'.cell? ⟨fb, 5, none⟩ = some (.slice (some ⟨yk, 0, none⟩) 1 1) /\ Rd w' (some ⟨yk, 0, none⟩) 1 1 [5] /\ Below D.heap.size D w'
theorem bk_rd {k : Nat} {bs : List Int} (h : Bk w k bs) (hb : By bs) : Rd w (some ⟨k, 0, none⟩) bs.length bs.length bs := ⟨rfl, Nat.le_refl _, by simp, .inr ⟨k, 0, rfl, fun i hi => by rw [Nat.zero_add, bC h]; rw [List.getElem?_toArray]; exact byts_at _ i hi⟩, hb⟩
theorem f_frames {M : Mx} (h : Fs w D b tb 2 M) : Calls Try.prog 20 #[.pointer (some ⟨b, 0, none⟩), .int .i64 1] D fun e w' => FfO D w' e := by
 obtain ⟨E, he, hp⟩ := h.es (by omega)
 rw [if_neg (by decide)] at hp
 obtain ⟨p1, p2, p3⟩ := pu_nat hp
 have h1 := frames_yes h.ok (at1 h.c.1 he)
 rw [h.b] at h1
 refine h1.mono fun e w' hx => ?_
 obtain ⟨fb, n, bl, ks, he1, hbl, hbn, hfb, hF⟩ := hx.out
 have hm : bl.map Bd.bs = [[5]] := by
  rw [hbl, takeN_P, h.c.2.2.1]
  show takeP E.pu.ob E.o.p 1 = _
  rw [hp, p1]
  rfl
 obtain ⟨y, hy⟩ : ∃ y, bl = [y] := List.length_eq_one_iff.1 (by have := congrArg List.length hm; simpa using this)
 rw [hy] at hm
 have hyb : y.bs = [5] := by simpa using hm
 have hn : n = 1 := by rw [<- hbn, hy]; rfl
 subst hn
 obtain ⟨b1, _⟩ := hF.bk 0 (by omega)
 have e1 : gB bl 0 = y := by rw [hy]; rfl
 rw [e1, hyb] at b1
 have hc : ∀ j, j < 6 -> w'.cell? ⟨fb, j, none⟩ = some ((frv M.tag (E.o.p + 0 + 1) (slv (ks 0) (gB bl 0).bs.length)).getD j undef) := fun j hj => by
  rw [hF.row.cell j (by omega)]
  unfold frf fri
  rw [if_pos (by omega), show j / 6 = 0 by omega, show j % 6 = j by omega]
 rw [h.tg (by omega), e1, hyb, p1] at hc
 exact ⟨fb, ks 0, he1, hc 0 (by omega), hc 1 (by omega), hc 2 (by omega), hc 3 (by omega), hc 4 (by omega), hc 5 (by omega), bk_rd b1 (By.of (by simp)), hF.bel⟩
structure FtO (w D w' : World) (tb : Nat) (e : Ending) : Prop where
 out : ∃ lb c yk, e = .returned (.tuple #[.slice (some ⟨lb, 0, none⟩) 1 c, .int .i64 0]) /\ w'.cell? ⟨lb, 0, none⟩ = some (.slice (some ⟨yk, 0, none⟩) 1 1) /\ Rd w' (some ⟨yk, 0, none⟩) 1 1 [7] /\ Below w.heap.size w w'
theorem f_take {g : Nat} {M : Mx} (h : Fs w D b tb 2 M) (hr : Rd D (some ⟨g, 0, none⟩) 1 1 [7]) : Calls Try.prog 28 #[.pointer (some ⟨b, 0, none⟩), .int .i64 1, .agg #[.int .i64 1, .int .i64 0, .int .i64 1, .int .i64 1, .int .i64 1, .slice (some ⟨g, 0, none⟩) 1 1]] D fun e w' => FtO w D w' tb e := by
 obtain ⟨E, he, hp⟩ := h.es (by omega)
 rw [if_neg (by decide)] at hp
 obtain ⟨p1, p2, p3⟩ := pu_nat hp
 have hf : E.i.f 1 = none := by
  have : (E.i.f 1).map Bd.bs = none := by
   show E.pu.ib 1 = none
   rw [hp]
   rfl
  simpa using this
 have h1 := take_new (bs := [7]) h.ok h.bel.size (at1 h.c.1 he) tg1 (u := 1) hr (by omega) (by omega) (by decide) (h.tg (by omega)).symm (by rw [p3, h.c.2.2.1]; decide) (by rw [p3]; decide) hf
 rw [h.b] at h1
 refine h1.mono fun e w' hx => ?_
 obtain ⟨E', bl, a, c, he1, est, hpu, hbl, hbd, hnd, hrow⟩ := hx.out
 have hm : bl.map Bd.bs = [[7]] := by
  rw [hbl, hp, h.c.2.2.1]
  rfl
 obtain ⟨y, hy⟩ : ∃ y, bl = [y] := List.length_eq_one_iff.1 (by have := congrArg List.length hm; simpa using this)
 rw [hy] at hm hrow he1 hbd
 have hyb : y.bs = [7] := by simpa using hm
 obtain ⟨lb, hlb⟩ := row_addr (n := 1) hrow (by omega)
 subst hlb
 have ms := est.to h.ok he
 have b1 := (hbd y (by simp)).1.bk
 rw [hyb] at b1
 have c0 := World.ownsRow.cellAt (n := 1) hrow 0 (by omega)
 have e3 : y.v = .slice (some ⟨y.k, 0, none⟩) 1 1 := by unfold Bd.v; rw [hyb]; rfl
 refine ⟨lb, c, y.k, he1, ?_, bk_rd b1 (By.of (by simp)), h.bel.trans (ms.kept.below h.bel.size fun j hj e => ?_)⟩
 ·rw [c0, <- e3]
  rfl
 ·have := h.ok.loj e; omega
end
end Go.Proofs.Ythanifbimndhaaa.Ln
