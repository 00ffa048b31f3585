import Derived.Test.YthanifbimndhaaaM32
import Derived.Test.YthanifbimndhaaaM35
namespace Go.Proofs.Ythanifbimndhaaa.Ln
set_option maxHeartbeats 40000000
open Go.RowKit Mb
set_option linter.unusedVariables false
set_option maxRecDepth 100000
set_option linter.unusedSimpArgs false
section
variable {w w' W : World} {B T : Nat} {Y : Pl}
structure TkY (w w2 : World) (B T : Nat) (Y : Pl) (a a2 : Option Addr) (n c c2 g : Nat) (Y5 : Pl) (ys os : List Bn) : Prop where
 ok : PlOk Y5 w2 B (T + 1)
 b : Y5.b = Y.b
 tn : Y5.tn ≤ (Y5.os.length : Int)
 inn : BIn w2 B Y5 a n c ys a2 os
 wr : ∃ Bw, w2.ownsRow Bw 40 1 (.slice a2 n c2) n (os.map Bn.v)
 bel : Below B w w2
 out : Out Y5 g
 ng : ¬ OLset (.slice a n c) ys g
theorem tk_bin {w2 : World} {k n c c2 g : Nat} {a a2 : Option Addr} {M : Mx} {R : Rx} {bl : List Bd} (h : PlOk Y w B T) (ht : Y.tn ≤ (Y.os.length : Int)) (hT : T + 1 ≤ 450) (hk : k < 3) (hM : Y.M k = some (M, R)) (htk : TkP w w2 B T M R bl (.slice a n c) (.slice a2 n c2)) (hn : bl.length = n) (hn1 : n ≤ T + 1) (hg : g < w.heap.size) (ho : Out Y g) : ∃ Y5 ys os, TkY w w2 B T Y a a2 n c c2 g Y5 ys os := by
 obtain ⟨M', R', o, s, hbd, hnd, hrow, hrn, hro, hzk, hbo, hzb⟩ := htk.out
 rw [hn] at hrow hro
 have hlen : o.length = n := by have := congrArg List.length hbo; simp at this; omega
 have hP5 := h.mux hk hM s (Nat.le_succ _) hT
 have hBs : B ≤ w.heap.size := h.bk.b
 have hmo5 : ∀ j, (Y.setM k (some (M', R'))).mo j -> (M'.own j ∨ R'.own j) ∨ ∃ i M2 R2, i < 3 /\ i ≠ k /\ Y.M i = some (M2, R2) /\ (M2.own j ∨ R2.own j) := by
  rintro j ⟨i, M2, R2, hi, hY2, hj⟩
  have hY3 : upd Y.M k (some (M', R')) i = some (M2, R2) := hY2
  by_cases c : i = k
  ·subst c
   rw [upd_same] at hY3
   cases hY3
   exact .inl hj
  ·rw [upd_ne _ _ c] at hY3
   exact .inr ⟨i, M2, R2, hi, c, hY3, hj⟩
 have hLlo : ∀ j, (Value.slice a n c).ownBlock = some j -> w.heap.size ≤ j := fun j hj => (World.ownsRow.lt hrow j hj).1
 have hng : ¬ OLset (.slice a n c) (bl.map fun b => (⟨b.k, b.bs.length, b.bs⟩ : Bn)) g := by
  rintro (hj | ⟨y, hy, e⟩)
  ·have := hLlo g hj; omega
  ·obtain ⟨b, hb, rfl⟩ := List.mem_map.1 hy
   rcases (hbd b hb).2.2.2 with h1 | h1
   ·have e2 : g = b.k := e
    rw [<- e2] at h1
    exact ho.1 ⟨k, M, R, hk, hM, .inl h1⟩
   ·have e2 : g = b.k := e
    omega
 refine ⟨Y.setM k (some (M', R')), bl.map (fun b => (⟨b.k, b.bs.length, b.bs⟩ : Bn)), o, hP5, rfl, ht, ⟨?_, fun y hy => ?_, ?_, fun j hj => ?_, ⟨_, c2, hro⟩, hzk, fun z hz y hy => ?_, ?_, by omega⟩, ⟨_, hro⟩, s.kept.below hBs fun j hj e => ?_, ⟨fun e => ?_, ho.2.1, ho.2.2.1, ho.2.2.2⟩, hng⟩
 ·rw [List.map_map]
  exact own_lower hrow hBs
 ·obtain ⟨b, hb, rfl⟩ := List.mem_map.1 hy
  exact ⟨(hbd b hb).1, rfl⟩
 ·rw [List.map_map]
  exact hnd
 ·rcases hj with hj | ⟨y, hy, e⟩
  ·have h1 := hLlo j hj
   refine ⟨fun e => ?_, fun e => by have := (h.kf_lt e).2; omega, fun e => by have := (h.of_lt e).2; omega, fun e => by have := (h.pf_lt e).2; omega⟩
   rcases hmo5 j e with e | ⟨i, M2, R2, hi, _, hY2, e⟩
   ·exact e.elim (hrn j hj).1 (hrn j hj).2
   ·have := (h.mo_lt ⟨i, M2, R2, hi, hY2, e⟩).2; omega
  ·obtain ⟨b, hb, rfl⟩ := List.mem_map.1 hy
   have e2 : j = b.k := e
   subst e2
   obtain ⟨_, h1, h2, h3⟩ := hbd b hb
   refine ⟨fun e => ?_, fun e => ?_, fun e => ?_, fun e => ?_⟩
   ·rcases hmo5 _ e with e | ⟨i, M2, R2, hi, hik, hY2, e⟩
    ·exact e.elim h1 h2
    ·rcases h3 with h3 | h3
     ·exact h.mm k i M R M2 R2 hk hi (fun e => hik e.symm) hM hY2 _ (.inl h3) e
     ·have := (h.mo_lt ⟨i, M2, R2, hi, hY2, e⟩).2; omega
   ·rcases h3 with h3 | h3
    ·exact (h.mq _ ⟨k, M, R, hk, hM, .inl h3⟩).1 e
    ·have := (h.kf_lt e).2; omega
   ·rcases h3 with h3 | h3
    ·exact (h.mq _ ⟨k, M, R, hk, hM, .inl h3⟩).2.1 e
    ·have := (h.of_lt e).2; omega
   ·rcases h3 with h3 | h3
    ·exact (h.mq _ ⟨k, M, R, hk, hM, .inl h3⟩).2.2 e
    ·have := (h.pf_lt e).2; omega
 ·obtain ⟨b, hb, rfl⟩ := List.mem_map.1 hy
  exact hzb z hz b hb
 ·rw [List.map_map, hbo]
  rfl
 ·have := ((h.duo k M R hk hM).lt e).1; omega
 ·rcases hmo5 g e with e | ⟨i, M2, R2, hi, _, hY2, e⟩
  ·rcases s.own g e with e | e
   ·exact ho.1 ⟨k, M, R, hk, hM, e⟩
   ·omega
  ·exact ho.1 ⟨i, M2, R2, hi, hY2, e⟩
structure TkZ (w w5 w6 : World) (B T : Nat) (Y : Pl) (g : Nat) : Prop where
 ys : YsG w w6 B T Y g
 ls : ∀ {S n cap : Nat} {bs : List Int}, Lo.Own w5 S (lsv g n cap) bs -> Lo.Own w6 S (lsv g n cap) bs
 ce : ∀ {j i t : Nat} {v : Value} {C : Array Value}, w5.heap[j]? = some (.cells C t (0, 0)) -> t = 43 -> w5.cell? ⟨j, i, none⟩ = some v -> w6.cell? ⟨j, i, none⟩ = some v
theorem bd_ysg {w5 w6 : World} {n c c2 g : Nat} {a a2 : Option Addr} {Y5 : Pl} {ys os : List Bn} (h : TkY w w5 B T Y a a2 n c c2 g Y5 ys os) (hg : g < w5.heap.size) (hd : BdE w5 w6 B (T + 1) Y5 (.slice a n c) ys) : TkZ w w5 w6 B T Y g := by
 obtain ⟨Y6, h1, h2, h3, h4, h5, h6, hK⟩ := hd.out
 have hne : ∀ {j t : Nat} {C : Array Value}, w5.heap[j]? = some (.cells C t (0, 0)) -> t ≠ 37 -> t ≠ 89 -> t ≠ 51 -> ¬ OLset (.slice a n c) ys j -> ¬ (j = Y5.b ∨ tyP B w5 j ∨ tyO B w5 j ∨ OLset (.slice a n c) ys j) := fun hj t1 t2 t3 hO e => by
  rcases e with e | ⟨C', hC'⟩ | ⟨C', hC'⟩ | e
  ·have := h.ok.bk.k; rw [<- e] at this; exact blk_ne hj this t1 rfl
  ·exact blk_ne hj hC' t2 rfl
  ·exact blk_ne hj hC' t3 rfl
  ·exact hO e
 refine ⟨⟨Y6, h1, h2.trans h.b, h4, h.bel.trans (hK.below h.ok.bk.b fun j hj e => ?_), fun e => ?_, fun e => ?_, fun e => ?_, fun e => ?_⟩, fun {S n' cap bs} ho => ?_, fun {j i t v C} hj ht hc => ?_⟩
 ·rcases e with e | ⟨C', hC'⟩ | ⟨C', hC'⟩ | e
  ·have := h.ok.lo; omega
  ·have := C'.2; omega
  ·have := C'.2; omega
  ·have := (h.inn.lt e).1; omega
 ·obtain ⟨i, M, R, hi, hY, hj⟩ := e
  exact h.out.1 ⟨i, M, R, hi, by rw [<- h3]; exact hY, hj⟩
 ·obtain ⟨p, hp, hj⟩ := e
  exact h.out.2.1 ⟨p, by rw [<- h5]; exact hp, hj⟩
 ·rcases h6 g (.inl e) with e | e | e | e
  ·exact h.out.2.2.1 e
  ·exact h.out.2.2.2 e
  ·exact h.ng e
  ·omega
 ·rcases h6 g (.inr e) with e | e | e | e
  ·exact h.out.2.2.1 e
  ·exact h.out.2.2.2 e
  ·exact h.ng e
  ·omega
 ·obtain ⟨C, hC, _⟩ := ls_blk ho
  exact ls_keep ho hK (hne hC (by decide) (by decide) (by decide) h.ng)
 ·subst ht
  refine kC hK (hne hj (by decide) (by decide) (by decide) fun e => ?_) hc
  rcases e with e | ⟨y, hy, e⟩
  ·obtain ⟨C', hC'⟩ := own_ty h.inn.row e; exact blk_ne hj hC' (by decide) rfl
  ·have := (h.inn.bod y hy).1.bk
   rw [e] at hj
   exact blk_ne hj this (by decide) rfl
end
section
variable {w w' W : World} {B T : Nat} {Y : Pl}
theorem put9 {k bn bc pn pc : Nat} {pe nn mm ww : Int} {t : Tg} {ba pa : Option Addr} {M : Mx} {R : Rx} (h : PlOk Y w B T) (ht : Y.tn ≤ (Y.os.length : Int)) (hT : T + 1 ≤ 450) (hk : k < 3) (hM : Y.M k = some (M, R)) {bs xs : List Int} (hA : ArgOk w B ba bn bc bs pa pn pc xs) : Calls Try.prog 15 #[.pointer (some ⟨Y.b, 0, none⟩), .agg #[.int .i64 (k : Int), .int .i64 9, .int .i64 pe, .int .i64 nn, .int .i64 mm, .int .i64 ww, .int .i64 t.e, .int .i64 t.l, .int .i64 t.i, .int .i64 t.c, .slice ba bn bc, .slice pa pn pc]] w fun e w' => e = .returned (.bool true) /\ YsO w w' B T Y := by
 have H : Hid (PlOk Y w B T) := h
 have Ht : Hid (Y.tn ≤ (Y.os.length : Int)) := ht
 have HT : Hid (T + 1 ≤ 450) := hT
 have Hk : Hid (k < 3) := hk
 have HM : Hid (Y.M k = some (M, R)) := hM
 obtain ⟨yb, hyb⟩ : ∃ b, Y.b = b := ⟨_, rfl⟩
 have Hyb : Hid (Y.b = yb) := hyb
 have i1 : (0 : Int) ≤ (k : Int) := Int.natCast_nonneg _
 have i2 : (k : Int) < 3 := by omega
 have HA : Hid (ArgOk w B ba bn bc bs pa pn pc xs) := hA
 clear hA
 generalize hW : w.alloc (.cells #[.int .i64 (k : Int), .int .i64 9, .int .i64 pe, .int .i64 nn, .int .i64 mm, .int .i64 ww, .int .i64 t.e, .int .i64 t.l, .int .i64 t.i, .int .i64 t.c, .slice ba bn bc, .slice pa pn pc] 43) = W
 have hbW := bW0 hW
 have HbW : Hid (Below w.heap.size w W) := hbW
 have hblk := hQ0 hW
 have b0 : W.cell? ⟨w.heap.size, 0, none⟩ = some (.int .i64 (k : Int)) := bC hblk 0
 have b1 : W.cell? ⟨w.heap.size, 1, none⟩ = some (.int .i64 9) := bC hblk 1
 have b2 : W.cell? ⟨w.heap.size, 2, none⟩ = some (.int .i64 pe) := bC hblk 2
 have b3 : W.cell? ⟨w.heap.size, 3, none⟩ = some (.int .i64 nn) := bC hblk 3
 have b4 : W.cell? ⟨w.heap.size, 4, none⟩ = some (.int .i64 mm) := bC hblk 4
 have b5 : W.cell? ⟨w.heap.size, 5, none⟩ = some (.int .i64 ww) := bC hblk 5
 have b6 : W.cell? ⟨w.heap.size, 6, none⟩ = some (.int .i64 t.e) := bC hblk 6
 have b7 : W.cell? ⟨w.heap.size, 7, none⟩ = some (.int .i64 t.l) := bC hblk 7
 have b8 : W.cell? ⟨w.heap.size, 8, none⟩ = some (.int .i64 t.i) := bC hblk 8
 have b9 : W.cell? ⟨w.heap.size, 9, none⟩ = some (.int .i64 t.c) := bC hblk 9
 have b10 : W.cell? ⟨w.heap.size, 10, none⟩ = some (.slice ba bn bc) := bC hblk 10
 have b11 : W.cell? ⟨w.heap.size, 11, none⟩ = some (.slice pa pn pc) := bC hblk 11
 have HBkW : Hid (W.heap[w.heap.size]? = some (.cells #[.int .i64 (k : Int), .int .i64 9, .int .i64 pe, .int .i64 nn, .int .i64 mm, .int .i64 ww, .int .i64 t.e, .int .i64 t.l, .int .i64 t.i, .int .i64 t.c, .slice ba bn bc, .slice pa pn pc] 43 (0, 0))) := hblk
 have cM := (h.still hbW).cM hk
 rw [hM, hyb] at cM
 have cP : W.cell? ⟨yb, k, none⟩ = some (.pointer (some ⟨M.b, 0, none⟩)) := cM.1
 have cD : W.cell? ⟨yb, 3 + k, none⟩ = some (.pointer (some ⟨R.b, 0, none⟩)) := cM.2
 rw [hyb]
 clear h ht hT hk hM hyb hbW hblk cM
 go_enter Try.func15, Try.ntmps15
 go_wp2
 refine wp_region_held_drew (S := (fun w' => w'.cell? ⟨w.heap.size, 0, none⟩ = some (.int .i64 (k : Int)) /\ w'.cell? ⟨yb, k, none⟩ = some (.pointer (some ⟨M.b, 0, none⟩)))) (by kernel_rfl) ⟨(dW0 b0), (dW0 cP)⟩ (fun hH => ?_)
 simp only [Act.put, lA, lC, lN, zA]
 refine tG 0 23 (.pointer (some ⟨yb, 0, none⟩)) rfl hH ?_
 simp only [aP, sA, sZ, sC]
 refine tG 1 24 (.pointer (some ⟨w.heap.size, 0, none⟩)) rfl hH ?_
 simp only [aP, sA, sZ, sC]
 refine tL 2 25 (.int .i64 (k : Int)) rfl hH ?_
 simp only [aP, sA, sZ, sC]
 refine tG 3 26 (.pointer (some ⟨yb, 0, none⟩)) rfl hH ?_
 simp only [aP, sA, sZ, sC]
 refine tG 4 27 (.pointer (some ⟨yb, 0, none⟩)) rfl hH ?_
 simp only [aP, sA, sZ, sC]
 refine tG 5 28 (.pointer (some ⟨yb, k, none⟩)) rfl hH ?_
 simp only [aP, sA, sZ, sC]
 refine tL 6 29 (.pointer (some ⟨M.b, 0, none⟩)) rfl hH ?_
 simp only [aP, sA, sZ, sC]
 refine tG 7 5 (.pointer (some ⟨M.b, 0, none⟩)) rfl hH ?_
 simp only [aP, sA, sZ, sC]
 refine wpAnyH_done (by kernel_rfl) ?_ _
 clear hH
 have hbq1 : Below W.heap.size W W.drew := dB _
 have d0 := bA hbq1 b0
 have d1 := bA hbq1 b1
 have d2 := bA hbq1 b2
 have d3 := bA hbq1 b3
 have d4 := bA hbq1 b4
 have d5 := bA hbq1 b5
 have d6 := bA hbq1 b6
 have d7 := bA hbq1 b7
 have d8 := bA hbq1 b8
 have d9 := bA hbq1 b9
 have d10 := bA hbq1 b10
 have d11 := bA hbq1 b11
 have eP := bA hbq1 cP
 have eD := bA hbq1 cD
 have HBkD1 : Hid (W.drew.heap[w.heap.size]? = some (.cells #[.int .i64 (k : Int), .int .i64 9, .int .i64 pe, .int .i64 nn, .int .i64 mm, .int .i64 ww, .int .i64 t.e, .int .i64 t.l, .int .i64 t.i, .int .i64 t.c, .slice ba bn bc, .slice pa pn pc] 43 (0, 0))) := (show _ = _ from blk_up hbq1 HBkW.out)
 have HD1 : Hid (Below w.heap.size w W.drew) := (show Below _ _ _ from bstep HbW.out hbq1)
 clear HBkW hbq1 b0 b1 b2 b3 b4 b5 b6 b7 b8 b9 b10 b11 cP cD HbW
 generalize W.drew = D1 at HBkD1 HD1 d0 d1 d2 d3 d4 d5 d6 d7 d8 d9 d10 d11 eP eD ⊢
 have HbD1 := HD1
 clear HD1
 go_wp2
 refine wp_region_held_drew (S := (fun w' => w'.cell? ⟨w.heap.size, 0, none⟩ = some (.int .i64 (k : Int)) /\ w'.cell? ⟨yb, 3 + k, none⟩ = some (.pointer (some ⟨R.b, 0, none⟩)))) (by kernel_rfl) ⟨(dW0 d0), (dW0 eD)⟩ (fun hH => ?_)
 simp only [Act.put, lA, lC, lN, zA]
 refine tG 0 30 (.pointer (some ⟨yb, 0, none⟩)) rfl hH ?_
 simp only [aP, sA, sZ, sC]
 refine tG 1 31 (.pointer (some ⟨w.heap.size, 0, none⟩)) rfl hH ?_
 simp only [aP, sA, sZ, sC]
 refine tL 2 32 (.int .i64 (k : Int)) rfl hH ?_
 simp only [aP, sA, sZ, sC]
 refine tG 3 33 (.pointer (some ⟨yb, 0, none⟩)) rfl hH ?_
 simp only [aP, sA, sZ, sC]
 refine tG 4 34 (.pointer (some ⟨yb, 3, none⟩)) rfl hH ?_
 simp only [aP, sA, sZ, sC]
 refine tG 5 35 (.pointer (some ⟨yb, 3 + k, none⟩)) rfl hH ?_
 simp only [aP, sA, sZ, sC]
 refine tL 6 36 (.pointer (some ⟨R.b, 0, none⟩)) rfl hH ?_
 simp only [aP, sA, sZ, sC]
 refine tG 7 6 (.pointer (some ⟨R.b, 0, none⟩)) rfl hH ?_
 simp only [aP, sA, sZ, sC]
 refine wpAnyH_done (by kernel_rfl) ?_ _
 clear hH
 have hbq2 : Below D1.heap.size D1 D1.drew := dB _
 have o0 := bA hbq2 d0
 have o1 := bA hbq2 d1
 have o2 := bA hbq2 d2
 have o3 := bA hbq2 d3
 have o4 := bA hbq2 d4
 have o5 := bA hbq2 d5
 have o6 := bA hbq2 d6
 have o7 := bA hbq2 d7
 have o8 := bA hbq2 d8
 have o9 := bA hbq2 d9
 have o10 := bA hbq2 d10
 have o11 := bA hbq2 d11
 have fP := bA hbq2 eP
 have fD := bA hbq2 eD
 have HBkD2 : Hid (D1.drew.heap[w.heap.size]? = some (.cells #[.int .i64 (k : Int), .int .i64 9, .int .i64 pe, .int .i64 nn, .int .i64 mm, .int .i64 ww, .int .i64 t.e, .int .i64 t.l, .int .i64 t.i, .int .i64 t.c, .slice ba bn bc, .slice pa pn pc] 43 (0, 0))) := (show _ = _ from blk_up hbq2 HBkD1.out)
 have HD2 : Hid (Below w.heap.size w D1.drew) := (show Below _ _ _ from bstep HbD1.out hbq2)
 clear HBkD1 hbq2 d0 d1 d2 d3 d4 d5 d6 d7 d8 d9 d10 d11 eP eD HbD1
 generalize D1.drew = D2 at HBkD2 HD2 o0 o1 o2 o3 o4 o5 o6 o7 o8 o9 o10 o11 fP fD ⊢
 have HbD2 := HD2
 clear HD2
 clear fP fD
 have HLo : Hid (Calls Try.prog 33 #[.slice ba bn bc] D2 fun e w' => LsO D2 w' bn bs e) := (show Calls _ _ _ _ _ from loose_at (HA.out.on (HbD2.out.mono H.out.bk.b)).rb HA.out.nb)
 go_wp2_with fail
 refine HLo.out.mono ?_
 rintro e w3 ⟨g, cap, rfl, hls, hb3⟩
 have HLs : Hid (Lo.Own w3 D2.heap.size (lsv g bn cap) (bs ++ Lo.marks 64)) := hls
 have HRd : Hid (Rd w3 (some ⟨g, 0, none⟩) bn cap bs) := (show Rd _ _ _ _ _ from ls_rd hls HA.out.rb.len HA.out.rb.by_)
 have Hb3 : Hid (Below w.heap.size w w3) := (show Below _ _ _ from bstep HbD2.out hb3)
 have Hg : Hid (w.heap.size ≤ g /\ g < w3.heap.size) := (show _ /\ _ from ⟨Nat.le_trans HbD2.out.size (ls_lo hls).1, (ls_lo hls).2⟩)
 obtain ⟨m, hm⟩ : ∃ m, bn + 64 = m := ⟨_, rfl⟩
 have Hm : Hid (bn + 64 = m) := hm
 rw [hm]
 have HJ : Hid ((m : Int) ≤ 140737488351296) := (show _ ≤ _ from by have := HA.out.nb; omega)
 have hSl : ∀ X : World, (Instr.slice 40 (.slice (some ⟨g, 0, none⟩) m cap) none (some (.int .i64 (bn : Int))) none).run Try.prog X = .ok (.slice (some ⟨g, 0, none⟩) bn cap) X := slice_hi HRd.out.cap
 have HoM : Hid (¬ M.own w.heap.size /\ ¬ R.own w.heap.size) := (show _ /\ _ from ⟨fun e => by have := ((H.out.duo k M R Hk.out HM.out).lt (.inl e)).2; omega, fun e => by have := ((H.out.duo k M R Hk.out HM.out).lt (.inr e)).2; omega⟩)
 have HgM : Hid (¬ (M.own g ∨ R.own g)) := (show ¬ _ from fun e => by have := ((H.out.duo k M R Hk.out HM.out).lt e).2; have := Hg.out.1; omega)
 have p0 := bA hb3 o0
 have p1 := bA hb3 o1
 have p2 := bA hb3 o2
 have p3 := bA hb3 o3
 have p4 := bA hb3 o4
 have p5 := bA hb3 o5
 have p6 := bA hb3 o6
 have p7 := bA hb3 o7
 have p8 := bA hb3 o8
 have p9 := bA hb3 o9
 have p10 := bA hb3 o10
 have p11 := bA hb3 o11
 have HBk3 : Hid (w3.heap[w.heap.size]? = some (.cells #[.int .i64 (k : Int), .int .i64 9, .int .i64 pe, .int .i64 nn, .int .i64 mm, .int .i64 ww, .int .i64 t.e, .int .i64 t.l, .int .i64 t.i, .int .i64 t.c, .slice ba bn bc, .slice pa pn pc] 43 (0, 0))) := (show _ = _ from blk_up hb3 HBkD2.out)
 clear HBkD2 hls hb3 hm o0 o1 o2 o3 o4 o5 o6 o7 o8 o9 o10 o11 HLo
 as_aux_lemma =>
 have hd3 := (H.out.still Hb3.out).duo k M R Hk.out HM.out
 have hTk := both_take2 rnew_all hd3 (Nat.le_trans H.out.bk.b Hb3.out.size) (by have := HT.out; omega) pe t nn HRd.out (a2 := ba) (c2 := bc)
 have HP : Hid (Calls Try.prog 28 #[.pointer (some ⟨M.b, 0, none⟩), .int .i64 pe, .agg #[.int .i64 t.e, .int .i64 t.l, .int .i64 t.i, .int .i64 t.c, .int .i64 nn, .slice (some ⟨g, 0, none⟩) bn cap]] w3 fun e w1 => ∃ (bl : List Bd) (a : Option Addr) (c : Nat) (v : Int), e = .returned (.tuple #[.slice a bl.length c, .int .i64 v]) /\ Kept w3 w1 M.own /\ ∀ D, Below w1.heap.size w1 D -> (Rd D ba bn bc bs /\ (0 < bn -> In ba fun b => b ≠ R.g)) -> Calls Try.prog 40 #[.pointer (some ⟨R.b, 0, none⟩), .int .i64 pe, .agg #[.int .i64 t.e, .int .i64 t.l, .int .i64 t.i, .int .i64 t.c, .int .i64 nn, .slice ba bn bc]] D fun e w2 => ∃ (a2 : Option Addr) (c2 : Nat), e = .returned (.tuple #[.slice a2 bl.length c2, .int .i64 v]) /\ TkP w3 w2 B T M R bl (.slice a bl.length c) (.slice a2 bl.length c2) /\ bl.length ≤ T + 1) := hTk.out
 clear hTk hd3
 have HBu : Hid (∀ (ao : Option Addr) (n c : Nat), Try.prog.built 55 [(0, .agg #[.int .i64 t.e, .int .i64 t.l, .int .i64 t.i, .int .i64 t.c]), (1, .int .i64 nn), (2, .slice ao n c)] = some #[.int .i64 t.e, .int .i64 t.l, .int .i64 t.i, .int .i64 t.c, .int .i64 nn, .slice ao n c]) := fun ao n c => (show _ = _ from by kernel_rfl)
 go_wp2_with (first | (refine bstp3 55 0 1 2 (.tmp 134) (.tmp 136) (.tmp 137) _ _ _ _ (HBu.out _ _ _) rfl rfl rfl rfl rfl ?_) | fail)
 refine HP.out.mono ?_
 rintro e w4 ⟨bl, a, c, v, rfl, hk4, hq⟩
 obtain ⟨n, hn⟩ : ∃ n, bl.length = n := ⟨_, rfl⟩
 have Hn : Hid (bl.length = n) := hn
 rw [hn] at hq ⊢
 have HQ : Hid (Calls Try.prog 40 #[.pointer (some ⟨R.b, 0, none⟩), .int .i64 pe, .agg #[.int .i64 t.e, .int .i64 t.l, .int .i64 t.i, .int .i64 t.c, .int .i64 nn, .slice ba bn bc]] w4 fun e w2 => ∃ (a2 : Option Addr) (c2 : Nat), e = .returned (.tuple #[.slice a2 n c2, .int .i64 v]) /\ TkP w3 w2 B T M R bl (.slice a n c) (.slice a2 n c2) /\ n ≤ T + 1) := (show Calls _ _ _ _ _ from hq w4 (Below.refl _ _) ⟨(HA.out.on ((Hb3.out.mono H.out.bk.b).trans (hk4.below (Nat.le_trans H.out.bk.b Hb3.out.size) fun j hj e => by have := ((H.out.duo k M R Hk.out HM.out).lt (.inl e)).1; omega))).rb, fun h0 b off e e2 => by
  have h1 := HA.out.lb h0 b off e
  have h2 := (H.out.duo k M R Hk.out HM.out).r.lo.2
  omega⟩)
 have q0 := kC hk4 HoM.out.1 p0
 have q1 := kC hk4 HoM.out.1 p1
 have q2 := kC hk4 HoM.out.1 p2
 have q3 := kC hk4 HoM.out.1 p3
 have q4 := kC hk4 HoM.out.1 p4
 have q5 := kC hk4 HoM.out.1 p5
 have q6 := kC hk4 HoM.out.1 p6
 have q7 := kC hk4 HoM.out.1 p7
 have q8 := kC hk4 HoM.out.1 p8
 have q9 := kC hk4 HoM.out.1 p9
 have q10 := kC hk4 HoM.out.1 p10
 have q11 := kC hk4 HoM.out.1 p11
 clear hk4 hq hn HP
 as_aux_lemma =>
 go_wp2_with (first | (refine bstp3 55 0 1 2 (.tmp 147) (.tmp 149) (.tmp 151) _ _ _ _ (HBu.out _ _ _) rfl rfl rfl rfl rfl ?_) | fail)
 refine HQ.out.mono ?_
 rintro e w5 ⟨a2, c2, rfl, htk, hn1⟩
 obtain ⟨Y5, ys, os, hY5⟩ := tk_bin (H.out.still Hb3.out) Ht.out HT.out Hk.out HM.out htk Hn.out hn1 Hg.out.2 (out_above H.out Hg.out.1)
 obtain ⟨M', R', o, hs5, _⟩ := htk.out
 have HY5 : Hid (TkY w3 w5 B T Y a a2 n c c2 g Y5 ys os) := hY5
 have HL5 : Hid (Lo.Own w5 D2.heap.size (lsv g bn cap) (bs ++ Lo.marks 64)) := ls_keep HLs.out hs5.kept HgM.out
 have HBk5 : Hid (w5.heap[w.heap.size]? = some (.cells #[.int .i64 (k : Int), .int .i64 9, .int .i64 pe, .int .i64 nn, .int .i64 mm, .int .i64 ww, .int .i64 t.e, .int .i64 t.l, .int .i64 t.i, .int .i64 t.c, .slice ba bn bc, .slice pa pn pc] 43 (0, 0))) := (show _ = _ from hs5.kept.obj HBk3.out fun e => e.elim HoM.out.1 HoM.out.2)
 have Hg5 : Hid (g < w5.heap.size) := (show _ < _ from Nat.lt_of_lt_of_le Hg.out.2 hs5.kept.size)
 have r10 : w5.cell? ⟨w.heap.size, 10, none⟩ = some (.slice ba bn bc) := bC HBk5.out 10
 have HC : Hid (Calls Try.prog 41 #[.pointer (some ⟨yb, 0, none⟩), .slice a n c, .slice a2 n c2] w5 fun e w6 => e = .returned (.bool true) /\ Hid (YsG w w6 B T Y g) /\ Hid (Lo.Own w6 D2.heap.size (lsv g bn cap) (bs ++ Lo.marks 64)) /\ w6.cell? ⟨w.heap.size, 10, none⟩ = some (.slice ba bn bc)) := (show Calls _ _ _ _ _ from by
  rw [<- Hyb.out, <- hY5.b]
  refine (bodies_any hY5.ok hY5.tn hY5.inn hY5.wr).mono ?_
  rintro e w6 ⟨rfl, hbd⟩
  have hz := bd_ysg hY5 Hg5.out hbd
  exact ⟨rfl, YsG.pre Hb3.out H.out.bk.b hz.ys, hz.ls HL5.out, hz.ce HBk5.out rfl r10⟩)
 clear htk hn1 hY5 hs5 HQ q0 q1 q2 q3 q4 q5 q6 q7 q8 q9 q10 q11 p0 p1 p2 p3 p4 p5 p6 p7 p8 p9 p10 p11 HBk3 HBk5 HL5 HY5
 as_aux_lemma =>
 go_wp2_with (first
  | (go_at_call 24; refine (num_any _).mono ?_; rintro e w9 ⟨rfl, rfl⟩)
  | (go_at_call 41; refine HC.out.mono ?_; rintro e w6 ⟨rfl, HG, HLx, x10⟩; clear HC r10)
  | fail)
 as_aux_lemma =>
 have HBB : Hid (Below B w w6) := (show Below _ _ _ from by obtain ⟨_, _, _, _, h4, _⟩ := HG.out.out; exact h4)
 have HU : Hid (∀ D, Below w6.heap.size w6 D -> Calls Try.prog 42 #[.slice (some ⟨g, 0, none⟩) m cap, .slice ba bn bc] D fun e w' => e = .returned (.bool true) /\ Below D.heap.size D w') := fun D hb => (show Calls _ _ _ _ _ from by
  rw [<- Hm.out]
  exact unsp_at ((HA.out.on HBB.out).rb.still hb) HA.out.nb (own_still HLx.out hb))
 go_wp2_with (first
  | (go_at_call 24; refine (num_any _).mono ?_; rintro e w9 ⟨rfl, rfl⟩)
  | (go_at_call 42; refine (HU.out _ (Below.refl _ _)).mono ?_; rintro e w8 ⟨rfl, hb6⟩; have HG6 : Hid (YsG w w8 B T Y g) := (show YsG _ _ _ _ _ _ from HG.out.on hb6); have HL6 : Hid (Lo.Own w8 D2.heap.size (lsv g bn cap) (bs ++ Lo.marks 64)) := own_still HLx.out hb6; clear hb6)
  | fail)
 have HF0 : Hid (FlS w8 w8 g 5 m) := (show FlS _ _ _ _ _ from ⟨by rw [<- Hm.out]; exact ls_blk HL6.out, Kept.ofBelow (Below.refl _ _) _⟩)
 clear HU HLx HBB HG
 as_aux_lemma =>
 go_loopw [22] (fun v22 wr => ∃ i : Nat, i ≤ m /\ v22 = .int .i64 (i : Int) /\ Hid (FlS w8 wr g 5 m)) (fun v22 _ => m - (intOf v22).toNat)
 case atStart => exact ⟨0, by omega, rfl, HF0⟩
 case round =>
  clear HF0
  obtain ⟨i, hi, rfl, hs⟩ := hrel
  by_cases hlt : i < m
  ·have l1 : (0 : Int) ≤ (i : Int) := Int.natCast_nonneg _
   have l2 : (i : Int) < (m : Int) := by omega
   have j3 := HJ.out
   obtain ⟨⟨zv, hzv⟩, hzf⟩ := hs.out.cell hlt
   have HN : Hid (FlS w8 (wr.setCell ⟨g, i, none⟩ (.int .u8 238)) g 5 m) := (show FlS _ _ _ _ _ from hs.out.set)
   clear hs hlt
   as_aux_lemma =>
   go_wp2
   exact ⟨⟨i + 1, by omega, by go_num, HN⟩, by simp [intOf]; omega⟩
  ·have l2 : ¬ (i : Int) < (m : Int) := by omega
   have HO : Hid (YsO w wr B T Y) := (show YsO _ _ _ _ _ from by
    obtain ⟨C, hC, _⟩ := ls_blk HL6.out
    exact ys_fill HG6.out (Nat.le_trans H.out.bk.b Hg.out.1) (.inl rfl) ⟨C, hC⟩ hs.out)
   clear hs hlt
   as_aux_lemma =>
   go_wp2
   go_ret
   exact ⟨rfl, HO.out⟩
end
end Go.Proofs.Ythanifbimndhaaa.Ln
