import Derived.Test.YtjnbkkmagceggaaVs
namespace Go.Proofs.Ytjnbkkmagceggaa.Dt
open Go.RowKit
set_option linter.unusedVariables false
set_option maxRecDepth 100000
set_option linter.unusedSimpArgs false
section
variable {D D' : De} {w w' W V : World} {B m : Nat}
def sc (n s inc base step lim : Int) (oa : Option Addr) (on oc : Nat) (q0 mo : Int) (ta : Option Addr) (tn tc : Nat) : Array Value := #[.int .i64 n, .int .i64 s, .int .i64 inc, .int .i64 base, .int .i64 step, .int .i64 lim, .slice oa on oc, .int .i64 q0, .int .i64 mo, .slice ta tn tc]
structure SC (V : World) (ws rs : Nat) (n s inc lim q0 mo : Int) (ta : Option Addr) (tn tc : Nat) : Prop where
  n0 : V.cell? ⟨rs, 0, none⟩ = some (.int .i64 n)
  n1 : V.cell? ⟨rs, 1, none⟩ = some (.int .i64 s)
  n2 : V.cell? ⟨rs, 2, none⟩ = some (.int .i64 inc)
  n5 : V.cell? ⟨rs, 5, none⟩ = some (.int .i64 lim)
  k7 : V.cell? ⟨ws, 7, none⟩ = some (.int .i64 q0)
  k8 : V.cell? ⟨ws, 8, none⟩ = some (.int .i64 mo)
  k9 : V.cell? ⟨ws, 9, none⟩ = some (.slice ta tn tc)
theorem SC.to {ws rs : Nat} {n s inc lim q0 mo : Int} {ta : Option Addr} {tn tc : Nat} (h : SC W ws rs n s inc lim q0 mo ta tn tc) {B : Nat} (hb : Below B W V) (h1 : ws < B) (h2 : rs < B) : SC V ws rs n s inc lim q0 mo ta tn tc :=
  ⟨below_to hb h2 h.n0, below_to hb h2 h.n1, below_to hb h2 h.n2, below_to hb h2 h.n5, below_to hb h1 h.k7, below_to hb h1 h.k8, below_to hb h1 h.k9⟩
theorem RdOps.still {oa : Option Addr} {n : Nat} {os : Nat → Opx} (h : RdOps w oa n os) (hb : Below w.heap.size w V) : RdOps V oa n os := by
  refine ⟨h.1.elim (fun hh => .inl hh) (fun ⟨b, off, ha, hc⟩ => .inr ⟨b, off, ha, fun i hi j hj => ?_⟩), fun i hi => ⟨(h.2 i hi).1.still hb, (h.2 i hi).2⟩⟩
  have h5 := hc i hi j hj
  have : ∃ u, (os i).cs[j]? = some u := ⟨_, Array.getElem?_eq_getElem (by show j < (os i).cs.size; exact hj)⟩
  obtain ⟨u, hu⟩ := this
  rw [hu] at h5 ⊢
  exact below_at hb h5
set_option maxHeartbeats 1000000 in
theorem silent_no (n s : Int) (inc base step lim : Int) (oa : Option Addr) (on oc : Nat) (q0 mo : Int) (ta : Option Addr) (tn tc : Nat) (hno : newOk n s inc base step lim = false) (hn : n ≤ 9223372036854775807) : Calls Try.prog 5 #[.agg (sc n s inc base step lim oa on oc q0 mo ta tn tc)] w fun e w' => e = .returned (.bool true) ∧ Below w.heap.size w w' := by
  generalize hW : w.alloc (.cells (sc n s inc base step lim oa on oc q0 mo ta tn tc) 56) = W
  have hbW : Below w.heap.size w W := by rw [← hW]; exact balloc (Below.refl _ w)
  have hblk : W.heap[w.heap.size]? = some (.cells (sc n s inc base step lim oa on oc q0 mo ta tn tc) 56 (0, 0)) := by rw [← hW]; exact heap_alloc_new w _
  have hlt := lt_heap hblk
  generalize hW0 : W.alloc (.cells (rc n s inc base step lim oa on oc) 31) = W0
  have hb0 : Below W.heap.size W W0 := by rw [← hW0]; exact balloc (Below.refl _ W)
  have hblk0 : W0.heap[W.heap.size]? = some (.cells (rc n s inc base step lim oa on oc) 31 (0, 0)) := by rw [← hW0]; exact heap_alloc_new W _
  have hlt0 := lt_heap hblk0
  have hblkW := (hb0.block _ hlt).trans hblk
  have hSC : SC W0 w.heap.size W.heap.size n s inc lim q0 mo ta tn tc := ⟨blk_cell hblk0 0, blk_cell hblk0 1, blk_cell hblk0 2, blk_cell hblk0 5, blk_cell hblkW 7, blk_cell hblkW 8, blk_cell hblkW 9⟩
  have j0 : W.cell? ⟨w.heap.size, 0, none⟩ = some (.int .i64 n) := blk_cell hblk 0
  have j1 : W.cell? ⟨w.heap.size, 1, none⟩ = some (.int .i64 s) := blk_cell hblk 1
  have j2 : W.cell? ⟨w.heap.size, 2, none⟩ = some (.int .i64 inc) := blk_cell hblk 2
  have j3 : W.cell? ⟨w.heap.size, 3, none⟩ = some (.int .i64 base) := blk_cell hblk 3
  have j4 : W.cell? ⟨w.heap.size, 4, none⟩ = some (.int .i64 step) := blk_cell hblk 4
  have j5 : W.cell? ⟨w.heap.size, 5, none⟩ = some (.int .i64 lim) := blk_cell hblk 5
  have j6 : W.cell? ⟨w.heap.size, 6, none⟩ = some (.slice oa on oc) := blk_cell hblk 6
  have l0 : W0.cell? ⟨W.heap.size, 0, none⟩ = some (.int .i64 n) := blk_cell hblk0 0
  have l1 : W0.cell? ⟨W.heap.size, 1, none⟩ = some (.int .i64 s) := blk_cell hblk0 1
  have l2 : W0.cell? ⟨W.heap.size, 2, none⟩ = some (.int .i64 inc) := blk_cell hblk0 2
  have l3 : W0.cell? ⟨W.heap.size, 3, none⟩ = some (.int .i64 base) := blk_cell hblk0 3
  have l4 : W0.cell? ⟨W.heap.size, 4, none⟩ = some (.int .i64 step) := blk_cell hblk0 4
  have l5 : W0.cell? ⟨W.heap.size, 5, none⟩ = some (.int .i64 lim) := blk_cell hblk0 5
  have l6 : W0.cell? ⟨W.heap.size, 6, none⟩ = some (.slice oa on oc) := blk_cell hblk0 6
  have Hb : Hid (Below w.heap.size w W0) := bstep hbW hb0
  have HSC : Hid (SC W0 w.heap.size W.heap.size n s inc lim q0 mo ta tn tc) := hSC
  have HB : Hid (∀ w1, Calls Try.prog 9 #[.agg (rc n s inc base step lim oa on oc)] w1 fun e w' => e = .returned (.tuple #[.pointer none, .bool true]) ∧ Below w1.heap.size w1 w') := fun w1 => began_no n s inc base step lim oa on oc hno
  have HA : Hid (∀ w1, Calls Try.prog 19 #[.int .i64 q0, .int .i64 n, .int .i64 s] w1 fun e w' => e = .returned (.int .i64 (anoI q0 n s)) ∧ w1 = w') := fun w1 => ano_any q0 n s hn
  unfold sc at hW ⊢
  unfold rc at hW0 HB
  clear hblk hbW hblk0 hblkW hb0 hSC
  go_enter Try.func5, Try.ntmps5
  go_wp2_with (fail)
  refine (HB.out _).mono ?_
  rintro e w1 ⟨rfl, hb1⟩
  have B1 : Hid (Below W0.heap.size W0 w1) := hb1
  obtain ⟨d0, d1, d2, d5, d7, d8, d9⟩ := HSC.out.to B1.out (by omega) hlt0
  clear hb1
  go_wp2_with (first | (go_at_call 19; refine (HA.out _).mono ?_; rintro e w2 ⟨rfl, rfl⟩) | fail)
  go_ret
  exact ⟨rfl, bstep Hb.out B1.out⟩
set_option maxHeartbeats 1000000 in
theorem silent_lone (s : Nat) (inc base step lim : Int) (oa : Option Addr) (on oc : Nat) (q0 mo : Int) (ta : Option Addr) (tn tc : Nat) (os : Nat → Opx) (hro : RdOps w oa on os) (hon : on ≤ 2513169434916) (hok : newOk 1 s inc base step lim = true) : Calls Try.prog 5 #[.agg (sc 1 s inc base step lim oa on oc q0 mo ta tn tc)] w fun e w' => e = .returned (.bool true) ∧ Below w.heap.size w w' := by
  generalize hW : w.alloc (.cells (sc 1 s inc base step lim oa on oc q0 mo ta tn tc) 56) = W
  have hbW : Below w.heap.size w W := by rw [← hW]; exact balloc (Below.refl _ w)
  have hblk : W.heap[w.heap.size]? = some (.cells (sc 1 s inc base step lim oa on oc q0 mo ta tn tc) 56 (0, 0)) := by rw [← hW]; exact heap_alloc_new w _
  have hlt := lt_heap hblk
  generalize hW0 : W.alloc (.cells (rc 1 s inc base step lim oa on oc) 31) = W0
  have hb0 : Below W.heap.size W W0 := by rw [← hW0]; exact balloc (Below.refl _ W)
  have hblk0 : W0.heap[W.heap.size]? = some (.cells (rc 1 s inc base step lim oa on oc) 31 (0, 0)) := by rw [← hW0]; exact heap_alloc_new W _
  have hlt0 := lt_heap hblk0
  have hblkW := (hb0.block _ hlt).trans hblk
  have hSC : SC W0 w.heap.size W.heap.size 1 s inc lim q0 mo ta tn tc := ⟨blk_cell hblk0 0, blk_cell hblk0 1, blk_cell hblk0 2, blk_cell hblk0 5, blk_cell hblkW 7, blk_cell hblkW 8, blk_cell hblkW 9⟩
  have j0 : W.cell? ⟨w.heap.size, 0, none⟩ = some (.int .i64 1) := blk_cell hblk 0
  have j1 : W.cell? ⟨w.heap.size, 1, none⟩ = some (.int .i64 s) := blk_cell hblk 1
  have j2 : W.cell? ⟨w.heap.size, 2, none⟩ = some (.int .i64 inc) := blk_cell hblk 2
  have j3 : W.cell? ⟨w.heap.size, 3, none⟩ = some (.int .i64 base) := blk_cell hblk 3
  have j4 : W.cell? ⟨w.heap.size, 4, none⟩ = some (.int .i64 step) := blk_cell hblk 4
  have j5 : W.cell? ⟨w.heap.size, 5, none⟩ = some (.int .i64 lim) := blk_cell hblk 5
  have j6 : W.cell? ⟨w.heap.size, 6, none⟩ = some (.slice oa on oc) := blk_cell hblk 6
  have l0 : W0.cell? ⟨W.heap.size, 0, none⟩ = some (.int .i64 1) := blk_cell hblk0 0
  have l1 : W0.cell? ⟨W.heap.size, 1, none⟩ = some (.int .i64 s) := blk_cell hblk0 1
  have l2 : W0.cell? ⟨W.heap.size, 2, none⟩ = some (.int .i64 inc) := blk_cell hblk0 2
  have l3 : W0.cell? ⟨W.heap.size, 3, none⟩ = some (.int .i64 base) := blk_cell hblk0 3
  have l4 : W0.cell? ⟨W.heap.size, 4, none⟩ = some (.int .i64 step) := blk_cell hblk0 4
  have l5 : W0.cell? ⟨W.heap.size, 5, none⟩ = some (.int .i64 lim) := blk_cell hblk0 5
  have l6 : W0.cell? ⟨W.heap.size, 6, none⟩ = some (.slice oa on oc) := blk_cell hblk0 6
  have Hb : Hid (Below w.heap.size w W0) := bstep hbW hb0
  have HSC : Hid (SC W0 w.heap.size W.heap.size 1 s inc lim q0 mo ta tn tc) := hSC
  have hro0 : RdOps W0 oa on os := RdOps.still hro Hb.out
  have HB : Hid (Calls Try.prog 9 #[.agg (rc ((1 : Nat) : Int) s inc base step lim oa on oc)] W0 fun e w' => ∃ D : De, e = .returned (.tuple #[.pointer (some ⟨D.b, 0, none⟩), .bool true]) ∧ Below W0.heap.size W0 w' ∧ D.Ok w' W0.heap.size on ∧ Lk D 1 s inc step lim D.b) := began_any 1 s inc base step lim oa on oc os hro0 hon hok
  have HA : Hid (∀ w1, Calls Try.prog 19 #[.int .i64 q0, .int .i64 1, .int .i64 (s : Int)] w1 fun e w' => e = .returned (.int .i64 (-1)) ∧ w1 = w') := fun w1 => ano_any q0 1 s (by omega)
  unfold sc at hW ⊢
  unfold rc at hW0 HB
  clear hblk hbW hblk0 hblkW hb0 hSC
  go_enter Try.func5, Try.ntmps5
  go_wp2_with (fail)
  refine HB.out.mono ?_
  rintro e w1 ⟨D, rfl, hb1, -⟩
  have B1 : Hid (Below W0.heap.size W0 w1) := hb1
  obtain ⟨d0, d1, d2, d5, d7, d8, d9⟩ := HSC.out.to B1.out (by omega) hlt0
  clear hb1
  go_wp2_with (first | (go_at_call 19; refine (HA.out _).mono ?_; rintro e w2 ⟨rfl, rfl⟩) | fail)
  go_ret
  exact ⟨rfl, bstep Hb.out B1.out⟩

set_option maxHeartbeats 2000000 in
theorem silent_ok (n s : Nat) (inc base step lim : Int) (oa : Option Addr) (on oc : Nat) (q0 mo : Int) (ta : Option Addr) (tn tc : Nat) (os : Nat → Opx) (ts : List Int) (hro : RdOps w oa on os) (hon : on ≤ 2513169434916) (hrt : RdI w ta tn ts) (hok : newOk n s inc base step lim = true) (h2 : 2 ≤ n) : Calls Try.prog 5 #[.agg (sc n s inc base step lim oa on oc q0 mo ta tn tc)] w fun e w' => e = .returned (.bool true) ∧ Below w.heap.size w w' := by
  generalize hW : w.alloc (.cells (sc n s inc base step lim oa on oc q0 mo ta tn tc) 56) = W
  have hbW : Below w.heap.size w W := by rw [← hW]; exact balloc (Below.refl _ w)
  have hblk : W.heap[w.heap.size]? = some (.cells (sc n s inc base step lim oa on oc q0 mo ta tn tc) 56 (0, 0)) := by rw [← hW]; exact heap_alloc_new w _
  have hlt := lt_heap hblk
  generalize hW0 : W.alloc (.cells (rc n s inc base step lim oa on oc) 31) = W0
  have hb0 : Below W.heap.size W W0 := by rw [← hW0]; exact balloc (Below.refl _ W)
  have hblk0 : W0.heap[W.heap.size]? = some (.cells (rc n s inc base step lim oa on oc) 31 (0, 0)) := by rw [← hW0]; exact heap_alloc_new W _
  have hlt0 := lt_heap hblk0
  have hblkW := (hb0.block _ hlt).trans hblk
  have hSC : SC W0 w.heap.size W.heap.size n s inc lim q0 mo ta tn tc := ⟨blk_cell hblk0 0, blk_cell hblk0 1, blk_cell hblk0 2, blk_cell hblk0 5, blk_cell hblkW 7, blk_cell hblkW 8, blk_cell hblkW 9⟩
  have j0 : W.cell? ⟨w.heap.size, 0, none⟩ = some (.int .i64 n) := blk_cell hblk 0
  have j1 : W.cell? ⟨w.heap.size, 1, none⟩ = some (.int .i64 s) := blk_cell hblk 1
  have j2 : W.cell? ⟨w.heap.size, 2, none⟩ = some (.int .i64 inc) := blk_cell hblk 2
  have j3 : W.cell? ⟨w.heap.size, 3, none⟩ = some (.int .i64 base) := blk_cell hblk 3
  have j4 : W.cell? ⟨w.heap.size, 4, none⟩ = some (.int .i64 step) := blk_cell hblk 4
  have j5 : W.cell? ⟨w.heap.size, 5, none⟩ = some (.int .i64 lim) := blk_cell hblk 5
  have j6 : W.cell? ⟨w.heap.size, 6, none⟩ = some (.slice oa on oc) := blk_cell hblk 6
  have l0 : W0.cell? ⟨W.heap.size, 0, none⟩ = some (.int .i64 n) := blk_cell hblk0 0
  have l1 : W0.cell? ⟨W.heap.size, 1, none⟩ = some (.int .i64 s) := blk_cell hblk0 1
  have l2 : W0.cell? ⟨W.heap.size, 2, none⟩ = some (.int .i64 inc) := blk_cell hblk0 2
  have l3 : W0.cell? ⟨W.heap.size, 3, none⟩ = some (.int .i64 base) := blk_cell hblk0 3
  have l4 : W0.cell? ⟨W.heap.size, 4, none⟩ = some (.int .i64 step) := blk_cell hblk0 4
  have l5 : W0.cell? ⟨W.heap.size, 5, none⟩ = some (.int .i64 lim) := blk_cell hblk0 5
  have l6 : W0.cell? ⟨W.heap.size, 6, none⟩ = some (.slice oa on oc) := blk_cell hblk0 6
  have Hb : Hid (Below w.heap.size w W0) := bstep hbW hb0
  have HSC : Hid (SC W0 w.heap.size W.heap.size n s inc lim q0 mo ta tn tc) := hSC
  have hk := hok
  unfold newOk at hk
  simp only [Bool.and_eq_true] at hk
  obtain ⟨b1, b2, b3, b4, b5, b6⟩ := hk
  have a1 := of_decide_eq_true b1
  have a2 := of_decide_eq_true b2
  have a3 := of_decide_eq_true b3
  have a4 := of_decide_eq_true b4
  have hsn : s < n := by omega
  have hano := anoI_is q0 h2 hsn
  obtain ⟨q, hq⟩ : ∃ q : Nat, anoI q0 n s = q := ⟨(anoI q0 n s).toNat, by omega⟩
  rw [hq] at hano
  have hqn : q < n := by omega
  have hqs : q ≠ s := by omega
  have hro0 : RdOps W0 oa on os := RdOps.still hro Hb.out
  have HB : Hid (Calls Try.prog 9 #[.agg (rc n s inc base step lim oa on oc)] W0 fun e w' => ∃ D : De, e = .returned (.tuple #[.pointer (some ⟨D.b, 0, none⟩), .bool true]) ∧ Below W0.heap.size W0 w' ∧ D.Ok w' W0.heap.size on ∧ Lk D n s inc step lim D.b) := began_any n s inc base step lim oa on oc os hro0 hon hok
  have HA : Hid (∀ w1, Calls Try.prog 19 #[.int .i64 q0, .int .i64 n, .int .i64 (s : Int)] w1 fun e w' => e = .returned (.int .i64 (q : Int)) ∧ w1 = w') := fun w1 => by have := ano_any (w := w1) q0 n s (by omega); rw [hq] at this; exact this
  have hpm := posI_lt mo (show (1 : Int) ≤ 100 by omega)
  have HPm : Hid (∀ w1, Calls Try.prog 14 #[.int .i64 mo, .int .i64 100] w1 fun e w' => e = .returned (.int .i64 (posI mo 100)) ∧ w1 = w') := fun w1 => pos_any mo 100 (by omega)
  generalize posI mo 100 = pm at *
  have HH : Hid (∀ w1, Calls Try.prog 20 #[.int .i64 n, .int .i64 (s : Int), .int .i64 inc] w1 fun e w' => ∃ u, e = .returned u ∧ IsI w1 w' n (heaI n s inc) u) := fun w1 => hearsL_any n s inc (by omega) hsn
  have HH0 : Hid (∀ w1, Calls Try.prog 20 #[.int .i64 n, .int .i64 (s : Int), .int .i64 0] w1 fun e w' => ∃ u, e = .returned u ∧ IsI w1 w' n (heaI n s 0) u) := fun w1 => hearsL_any n s 0 (by omega) hsn
  have HRt : Hid (RdI w ta tn ts) := hrt
  clear hok hq hano b1 b2 b3 b4 b5 b6 hro hro0 hrt
  unfold sc at hW ⊢
  unfold rc at hW0 HB
  clear hblk hbW hblk0 hblkW hb0 hSC
  go_enter Try.func5, Try.ntmps5
  go_wp2_with (fail)
  refine HB.out.mono ?_
  rintro e w1 ⟨D, rfl, hb1, hD, hL⟩
  have HD : Hid (D.Ok w1 W0.heap.size on) := hD
  have hS := hL.se q
  have hrg := hD.rng q (hS.is hqn hqs)
  have HS : Hid (Se D n s inc step lim D.b q (D.pe q)) := hS
  have hsz : W0.heap.size ≤ w1.heap.size := hb1.size
  have HSC1 : Hid (SC w1 w.heap.size W.heap.size n s inc lim q0 mo ta tn tc) := HSC.out.to hb1 (by omega) hlt0
  have Hb1 : Hid (Below w.heap.size w w1) := bstep Hb.out hb1
  obtain ⟨d0, d1, d2, d5, d7, d8, d9⟩ := HSC1.out
  have HKn : Hid (Calls Try.prog 18 #[.pointer (some ⟨D.b, 0, none⟩), .int .i64 (q : Int)] w1 fun e w' => e = .returned (.int .i64 (D.pe q).known) ∧ w1 = w') := by
    have := known_any hD (q : Int)
    rw [hS.known hqn hqs] at this
    exact this
  have hlim : D.limit = lim := hL.lim
  obtain ⟨r1, r2, r3, r4, r5, r6⟩ := hrg
  rw [hlim] at r5
  generalize hp : D.pe q = p at *
  generalize W0.heap.size = B at *
  generalize hbD : D.b = b at *
  clear hb1 hD hS hL HSC hW0 hW j0 j1 j2 j3 j4 j5 j6 l0 l1 l2 l3 l4 l5 l6 HB Hb hlim r6 r3 r2 hbD hp
  have hwi : IntKind.i64.wrap (p.known + 1) = p.known + 1 := wrap_id (by omega) (by omega)
  go_wp2_with (fail)
  refine (HA.out _).mono ?_
  rintro e w2 ⟨rfl, rfl⟩
  go_wp2_with (fail)
  refine (HKn.out).mono ?_
  rintro e w2 ⟨rfl, rfl⟩
  by_cases htop : p.known = 4611686018427387904
  · rw [htop] at hwi ⊢
    go_wp2
    go_ret
    exact ⟨rfl, Hb1.out⟩
  · obtain ⟨ic, hic⟩ : ∃ ic, p.known + 1 = ic := ⟨_, rfl⟩
    have hic2 : 1 ≤ ic ∧ ic ≤ 4611686018427387904 := by omega
    rw [hic] at hwi
    have hkc : p.known = ic - 1 := by omega
    have hwi2 : IntKind.i64.wrap (ic - 1 + 1) = ic := by rw [show ic - 1 + 1 = ic by omega]; exact hwi
    have hgt : decide (ic > 4611686018427387904) = false := decide_eq_false (by omega)
    have hgt2 : decide (4611686018427387904 < ic) = false := decide_eq_false (by omega)
    simp only [hic]
    go_wp2_with (fail)
    refine (HH.out _).mono ?_
    rintro e w2 ⟨u, rfl, g, rfl, hg, hBk, hbl⟩
    have HH1 : Hid (Calls Try.prog 15 #[.pointer (some ⟨b, 0, none⟩), .int .i64 q, .int .i64 ic, .agg #[.int .i64 5, .slice (some ⟨g, 0, none⟩) n n]] w2 fun e w2 => e = .returned (.int .i64 0) ∧ ∃ D', Dtep w1 w2 D D' B (on + 1) ∧ Se D' n s inc step lim b q (stP ic 5 p.wrong p.ticks 0)) := by
      refine (hear_se HD.out (by omega) HS.out hqn hqs hsn ic 5 inc ⟨by omega, by omega⟩ ⟨by omega, by omega⟩ ⟨by omega, a3.2⟩ hbl hg hBk (by omega) (by omega)).mono ?_
      rintro e w3 ⟨e1, D', e2, e3⟩
      refine ⟨e1, D', e2, ?_⟩
      rw [if_neg (show ¬ (ic = p.known ∧ p.heard = false) by omega)] at e3
      have e4 : ({ p with known := ic, last := 5, age := 0, heard := true, both := decide (inc = inc) } : Pe) = stP ic 5 p.wrong p.ticks 0 := by
        unfold stP
        rw [if_pos (by omega), decide_eq_true (show (0 : Int) ≤ p.ticks by omega)]
        simp
      rw [e4] at e3
      exact e3
    clear hg hBk hbl
    go_wp2_with (fail)
    refine (HH1.out).mono ?_
    rintro e w3 ⟨rfl, D1, T1, S1⟩
    have HT : Hid (D1.Ok w3 B (on + 1)) := T1.ok
    have HS1 : Hid (Se D1 n s inc step lim b q (stP ic 5 p.wrong p.ticks 0)) := S1
    have Hl : Hid (Below B w1 w3) := T1.low (HD.out.mono (Nat.le_succ _) (by omega)) hsz
    clear T1 S1 HH1
    have hT0 : decide ((0 : Int) ≤ p.ticks) = true := decide_eq_true (by omega)
    have hne0 : ¬ (ic = 0) := by omega
    go_wp2_with (first | (go_at_call 21; refine (num_any _).mono ?_; rintro e w5 ⟨rfl, rfl⟩) | fail)
    have Q1v := hears_se HT.out HS1.out hqn hqs
    go_wp2_with (fail)
    refine (Q1v).mono ?_
    rintro e v1 ⟨gv1, rfl, hbv1, hav1⟩
    have A1v := hav1 v1 (Below.refl _ _)
    have Okv1 : Hid (D1.Ok v1 B (on + 1)) := HT.out.still hbv1
    have Lwv1 : Hid (Below B w1 v1) := Hl.out.trans (hbv1.mono (Nat.le_trans hsz Hl.out.size))
    simp only [stP, hT0, if_true, Bool.true_and, Bool.and_true, Bool.not_true, Bool.false_and] at A1v
    clear hav1 hbv1 Q1v
    go_wp2_with (fail)
    refine (A1v).mono ?_
    rintro e yv1 ⟨rfl, rfl⟩
    have Q2v := est_se Okv1.out HS1.out hqn hqs
    go_wp2_with (fail)
    refine (Q2v).mono ?_
    rintro e v2 ⟨gv2, rfl, hbv2, hav2⟩
    have A2v := hav2 v2 (Below.refl _ _)
    have Okv2 : Hid (D1.Ok v2 B (on + 1)) := Okv1.out.still hbv2
    have Lwv2 : Hid (Below B w1 v2) := Lwv1.out.trans (hbv2.mono (Nat.le_trans hsz Lwv1.out.size))
    simp only [stP, hT0, if_true, Bool.true_and, Bool.and_true, Bool.not_true, Bool.false_and] at A2v
    clear hav2 hbv2 Q2v A1v
    go_wp2_with (fail)
    refine (A2v).mono ?_
    rintro e yv2 ⟨rfl, rfl⟩
    have Q3v := sus_se Okv2.out HS1.out hqn hqs
    go_wp2_with (fail)
    refine (Q3v).mono ?_
    rintro e v3 ⟨av3, lv3, cv3, rfl, hbv3, hav3⟩
    have A3v := hav3 v3 (Below.refl _ _)
    have Okv3 : Hid (D1.Ok v3 B (on + 1)) := Okv2.out.still hbv3
    have Lwv3 : Hid (Below B w1 v3) := Lwv2.out.trans (hbv3.mono (Nat.le_trans hsz Lwv2.out.size))
    simp only [stP, hT0, if_true, Bool.true_and, Bool.and_true, Bool.not_true, Bool.false_and] at A3v
    clear hav3 hbv3 Q3v A2v
    go_wp2_with (fail)
    refine (A3v).mono ?_
    rintro e yv3 ⟨rfl, rfl⟩
    have HWr : Hid (Calls Try.prog 24 #[.pointer (some ⟨b, 0, none⟩), .int .i64 (q : Int)] v3 fun e w2 => e = .returned (.int .i64 p.wrong) ∧ v3 = w2) := by
      have := wrong_any Okv3.out (q : Int)
      rw [HS1.out.b, HS1.out.wrong hqn hqs] at this
      exact this
    clear Okv1 Okv2 Lwv1 Lwv2 HT Hl A3v HD HS HA HKn
    go_wp2_with (fail)
    refine HWr.out.mono ?_
    rintro e w5 ⟨rfl, rfl⟩
    clear HWr
    obtain ⟨m0, m1, m2, m5, m7, m8, m9⟩ := HSC1.out.to Lwv3.out (by omega) hlt0
    go_wp2
    go_loopw [10] (fun v10 wr => ∃ (i : Nat) (D2 : De), (i : Int) ≤ lim + pm + 1 ∧ v10 = .int .i64 (i : Int) ∧ D2.Ok wr B (on + 1) ∧ Se D2 n s inc step lim b q (stP ic 5 p.wrong p.ticks i) ∧ Below B w1 wr) (fun v10 _ => (lim + pm + 1).toNat + 1 - (intOf v10).toNat)
    case atStart => exact ⟨0, D1, by omega, rfl, Okv3.out, by simpa using HS1.out, Lwv3.out⟩
    case round =>
      obtain ⟨i, D2, hi, rfl, hD2, hS2, hl2⟩ := hrel
      have HD2 : Hid (D2.Ok wr B (on + 1)) := hD2
      have HS2 : Hid (Se D2 n s inc step lim b q (stP ic 5 p.wrong p.ticks i)) := hS2
      have Hl2 : Hid (Below B w1 wr) := hl2
      have hBr : B ≤ wr.heap.size := Nat.le_trans hsz hl2.size
      clear m0 m1 m2 m5 m7 m8 m9
      obtain ⟨d0, d1, d2, d5, d7, d8, d9⟩ := HSC1.out.to hl2 (by omega) hlt0
      have hwl : IntKind.i64.wrap (lim + pm) = lim + pm := wrap_id (by omega) (by omega)
      clear hD2 hS2 hl2
      by_cases hil : (i : Int) ≤ lim + pm
      · go_wp2
        refine wp_region_held_drew (S := (fun w' => w'.cell? ⟨W.heap.size, 5, none⟩ = some (.int .i64 lim) ∧ w'.cell? ⟨w.heap.size, 8, none⟩ = some (.int .i64 mo))) (by kernel_rfl) ⟨cell_drew d5, cell_drew d8⟩ (fun hHeld => ?_)
        simp only [Act.put, List.size_toArray, List.length_cons, List.length_nil, Nat.zero_add]
        refine wpAnyH_take (i := 0) (v := .int .i64 (i : Int)) rfl (by kernel_rfl) (by kernel_rfl) (by kernel_rfl) (fun _ _ _ h => h) (Or.inl ⟨by rfl, fun w' hS => by go_simp⟩) hHeld ?_
        simp only [Act.put, List.getElem_toArray, List.getElem_cons_zero, List.getElem_cons_succ, List.setIfInBounds_toArray, List.set_cons_zero, List.set_cons_succ]
        refine wpAnyH_take (i := 1) (v := .pointer (some ⟨W.heap.size, 5, none⟩)) rfl (by kernel_rfl) (by kernel_rfl) (by kernel_rfl) (fun _ _ _ h => h) (Or.inl ⟨by rfl, fun w' hS => by go_simp⟩) hHeld ?_
        simp only [Act.put, List.getElem_toArray, List.getElem_cons_zero, List.getElem_cons_succ, List.setIfInBounds_toArray, List.set_cons_zero, List.set_cons_succ]
        refine wpAnyH_take (i := 2) (v := .int .i64 lim) rfl (by kernel_rfl) (by kernel_rfl) (by kernel_rfl) (fun _ _ _ h => h) (Or.inl ⟨by rfl, fun w' hS => by (obtain ⟨s0, s1⟩ := hS; go_simp)⟩) hHeld ?_
        simp only [Act.put, List.getElem_toArray, List.getElem_cons_zero, List.getElem_cons_succ, List.setIfInBounds_toArray, List.set_cons_zero, List.set_cons_succ]
        refine wpAnyH_take (i := 3) (v := .pointer (some ⟨w.heap.size, 8, none⟩)) rfl (by kernel_rfl) (by kernel_rfl) (by kernel_rfl) (fun _ _ _ h => h) (Or.inl ⟨by rfl, fun w' hS => by go_simp⟩) hHeld ?_
        simp only [Act.put, List.getElem_toArray, List.getElem_cons_zero, List.getElem_cons_succ, List.setIfInBounds_toArray, List.set_cons_zero, List.set_cons_succ]
        refine wpAnyH_take (i := 4) (v := .int .i64 mo) rfl (by kernel_rfl) (by kernel_rfl) (by kernel_rfl) (fun _ _ _ h => h) (Or.inl ⟨by rfl, fun w' hS => by (obtain ⟨s0, s1⟩ := hS; go_simp)⟩) hHeld ?_
        simp only [Act.put, List.getElem_toArray, List.getElem_cons_zero, List.getElem_cons_succ, List.setIfInBounds_toArray, List.set_cons_zero, List.set_cons_succ]
        refine wpAnyH_ready (rs := [5]) (by kernel_rfl) (by simp) ?_
        refine AllReadyH.cons rfl (fun K hK => ?_) AllReadyH.nil
        go_simp
        refine (HPm.out _).mono ?_
        rintro e w2 ⟨rfl, rfl⟩
        refine hK.out _ _ ⟨cell_drew d5, cell_drew d8⟩ (fun hHeld => ?_)
        clear hK K
        refine wpAnyH_take (i := 6) (v := .int .i64 (lim + pm)) rfl (by kernel_rfl) (by kernel_rfl) (by kernel_rfl) (fun _ _ _ h => h) (Or.inl ⟨by rfl, fun w' hS => by go_simp⟩) hHeld ?_
        simp only [Act.put, List.getElem_toArray, List.getElem_cons_zero, List.getElem_cons_succ, List.setIfInBounds_toArray, List.set_cons_zero, List.set_cons_succ]
        refine wpAnyH_take (i := 7) (v := .bool true) rfl (by kernel_rfl) (by kernel_rfl) (by kernel_rfl) (fun _ _ _ h => h) (Or.inl ⟨by rfl, fun w' hS => by (go_simp <;> omega)⟩) hHeld ?_
        simp only [Act.put, List.getElem_toArray, List.getElem_cons_zero, List.getElem_cons_succ, List.setIfInBounds_toArray, List.set_cons_zero, List.set_cons_succ]
        refine wpAnyH_done (by kernel_rfl) ?_ _
        clear hHeld
        have HD3 : Hid (D2.Ok wr.drew B (on + 1)) := HD2.out.still (Below.refl _ _).drew
        have Hl3 : Hid (Below B w1 wr.drew) := Hl2.out.drew
        have hBr3 : B ≤ wr.drew.heap.size := by simpa using hBr
        have q5 : wr.drew.cell? ⟨W.heap.size, 5, none⟩ = some (.int .i64 lim) := cell_drew d5
        generalize wr.drew = V at *
        clear hHeld d0 d1 d2 d5 d7 d8 d9 HD2 Hl2 hBr
        by_cases hgl : lim < (i : Int)
        · have hgd : decide (lim < (i : Int)) = true := decide_eq_true hgl
          have HGo := gone_se HD3.out HS2.out hqn hqs (by show decide ((i : Int) ≤ p.ticks) = false; exact decide_eq_false (by omega)) (by show 0 < ic; omega)
          go_wp2_with (fail)
          refine HGo.mono ?_
          rintro e w6 ⟨rfl, hb6⟩
          have HD3x : Hid (D2.Ok w6 B (on + 1)) := HD3.out.still hb6
          have Hl3x : Hid (Below B w1 w6) := Hl3.out.trans (hb6.mono hBr3)
          have hBr3x : B ≤ w6.heap.size := Nat.le_trans hBr3 hb6.size
          clear HD3 Hl3 hBr3 hb6 HGo q5
          have HD3 := HD3x
          have Hl3 := Hl3x
          have hBr3 := hBr3x
          clear HD3x Hl3x hBr3x
          have HTk : Hid (Calls Try.prog 10 #[.pointer (some ⟨b, 0, none⟩)] w6 fun e w' => e = .returned (.tuple #[]) ∧ Dtep w6 w' D2 D2.ticked B (on + 1)) := by
            have := tick_any HD3.out
            rw [HS2.out.b] at this
            exact this
          have hS4 := HS2.out.tick hqn hqs
          rw [stP_tick] at hS4
          have HS4 : Hid (Se D2.ticked n s inc step lim b q (stP ic 5 p.wrong p.ticks ((i : Int) + 1))) := hS4
          clear hS4
          go_wp2_with (fail)
          refine HTk.out.mono ?_
          rintro e w4 ⟨rfl, T4⟩
          have HD4 : Hid (D2.ticked.Ok w4 B (on + 1)) := T4.ok
          have Hl4 : Hid (Below B w1 w4) := Hl3.out.trans (T4.low HD3.out hBr3)
          clear T4 HTk HD3 Hl3
          generalize D2.ticked = D4 at *
          go_wp2
          go_loopw [11] (fun v11 wr => ∃ (j : Nat), j ≤ tn ∧ j ≤ 4 ∧ v11 = .int .i64 (j : Int) ∧ D4.Ok wr B (on + 1) ∧ Below B w1 wr) (fun v11 _ => 5 - (intOf v11).toNat)
          case atStart => exact ⟨0, Nat.zero_le _, Nat.zero_le _, rfl, HD4.out, Hl4.out⟩
          case round =>
            obtain ⟨j, hj1, hj2, rfl, hD5, hl5⟩ := hrel
            have HD5 : Hid (D4.Ok wr B (on + 1)) := hD5
            have Hl5 : Hid (Below B w1 wr) := hl5
            obtain ⟨f0, f1, f2, f5, f7, f8, f9⟩ := HSC1.out.to hl5 (by omega) hlt0
            have hlw : Below w.heap.size w wr := Hb1.out.trans (hl5.mono (by omega))
            have hBr5 : B ≤ wr.heap.size := Nat.le_trans hsz hl5.size
            have Hend : Hid (∃ (i_1 : Nat) (D2 : De), (i_1 : Int) ≤ lim + pm + 1 ∧ Value.int .i64 ((i : Int) + 1) = .int .i64 (i_1 : Int) ∧ D2.Ok wr B (on + 1) ∧ Se D2 n s inc step lim b q (stP ic 5 p.wrong p.ticks i_1) ∧ Below B w1 wr) := ⟨i + 1, D4, by omega, by simp, hD5, HS4.out, hl5⟩
            clear hD5 hl5
            by_cases hjt : j < tn
            · by_cases hj4 : j < 4
              · obtain ⟨tb, to, hta, ft⟩ := (HRt.out.still hlw).at hjt
                have hp := posI_lt (ts.getD j 0) (show (1 : Int) ≤ 6 by omega)
                have HPt : Hid (∀ w1, Calls Try.prog 14 #[.int .i64 (ts.getD j 0), .int .i64 6] w1 fun e w' => e = .returned (.int .i64 (posI (ts.getD j 0) 6)) ∧ w1 = w') := fun w1 => pos_any _ _ (by omega)
                generalize posI (ts.getD j 0) 6 = pt at hp HPt
                generalize ts.getD j 0 = tx at *
                have HSt : Hid (∀ w', Below wr.heap.size wr w' → ∀ g, BlkI w' g (heaI n s inc) → Calls Try.prog 15 #[.pointer (some ⟨b, 0, none⟩), .int .i64 q, .int .i64 ic, .agg #[.int .i64 pt, .slice (some ⟨g, 0, none⟩) n n]] w' fun e w2 => e = .returned (.int .i64 51) ∧ Below w'.heap.size w' w2) := fun w' hb g hg => stale_se (HD5.out.still hb) HS4.out hqn hqs ic pt inc ⟨by omega, by omega⟩ ⟨by omega, by omega⟩ ⟨by omega, a3.2⟩ hg rfl (by show pt ≤ 5; omega)
                have i1 : (0 : Int) ≤ (j : Int) := Int.natCast_nonneg _
                have i2 : (j : Int) < (tn : Int) := by omega
                have i3 : (j : Int) < 4 := by omega
                rw [hta] at f9
                clear hta hlw Hend
                go_wp2
                refine wp_region_held_drew (S := (fun w' => w'.cell? ⟨w.heap.size, 9, none⟩ = some (.slice (some ⟨tb, to, none⟩) tn tc) ∧ w'.cell? ⟨tb, to + j, none⟩ = some (.int .i64 tx) ∧ w'.cell? ⟨W.heap.size, 0, none⟩ = some (.int .i64 (n : Int)) ∧ w'.cell? ⟨W.heap.size, 1, none⟩ = some (.int .i64 (s : Int)) ∧ w'.cell? ⟨W.heap.size, 2, none⟩ = some (.int .i64 inc))) (by kernel_rfl) ⟨cell_drew f9, cell_drew ft, cell_drew f0, cell_drew f1, cell_drew f2⟩ (fun hHeld => ?_)
                simp only [Act.put, List.size_toArray, List.length_cons, List.length_nil, Nat.zero_add]
                refine wpAnyH_take (i := 0) (v := .pointer (some ⟨b, 0, none⟩)) rfl (by kernel_rfl) (by kernel_rfl) (by kernel_rfl) (fun _ _ _ h => h) (Or.inl ⟨by rfl, fun w' hS => by go_simp⟩) hHeld ?_
                simp only [Act.put, List.getElem_toArray, List.getElem_cons_zero, List.getElem_cons_succ, List.setIfInBounds_toArray, List.set_cons_zero, List.set_cons_succ]
                refine wpAnyH_take (i := 1) (v := .int .i64 (q : Int)) rfl (by kernel_rfl) (by kernel_rfl) (by kernel_rfl) (fun _ _ _ h => h) (Or.inl ⟨by rfl, fun w' hS => by go_simp⟩) hHeld ?_
                simp only [Act.put, List.getElem_toArray, List.getElem_cons_zero, List.getElem_cons_succ, List.setIfInBounds_toArray, List.set_cons_zero, List.set_cons_succ]
                refine wpAnyH_take (i := 2) (v := .int .i64 ic) rfl (by kernel_rfl) (by kernel_rfl) (by kernel_rfl) (fun _ _ _ h => h) (Or.inl ⟨by rfl, fun w' hS => by go_simp⟩) hHeld ?_
                simp only [Act.put, List.getElem_toArray, List.getElem_cons_zero, List.getElem_cons_succ, List.setIfInBounds_toArray, List.set_cons_zero, List.set_cons_succ]
                refine wpAnyH_take (i := 3) (v := .pointer (some ⟨w.heap.size, 9, none⟩)) rfl (by kernel_rfl) (by kernel_rfl) (by kernel_rfl) (fun _ _ _ h => h) (Or.inl ⟨by rfl, fun w' hS => by go_simp⟩) hHeld ?_
                simp only [Act.put, List.getElem_toArray, List.getElem_cons_zero, List.getElem_cons_succ, List.setIfInBounds_toArray, List.set_cons_zero, List.set_cons_succ]
                refine wpAnyH_take (i := 4) (v := .slice (some ⟨tb, to, none⟩) tn tc) rfl (by kernel_rfl) (by kernel_rfl) (by kernel_rfl) (fun _ _ _ h => h) (Or.inl ⟨by rfl, fun w' hS => by (obtain ⟨s0, s1, s2, s3, s4⟩ := hS; go_simp)⟩) hHeld ?_
                simp only [Act.put, List.getElem_toArray, List.getElem_cons_zero, List.getElem_cons_succ, List.setIfInBounds_toArray, List.set_cons_zero, List.set_cons_succ]
                refine wpAnyH_take (i := 5) (v := .int .i64 (j : Int)) rfl (by kernel_rfl) (by kernel_rfl) (by kernel_rfl) (fun _ _ _ h => h) (Or.inl ⟨by rfl, fun w' hS => by go_simp⟩) hHeld ?_
                simp only [Act.put, List.getElem_toArray, List.getElem_cons_zero, List.getElem_cons_succ, List.setIfInBounds_toArray, List.set_cons_zero, List.set_cons_succ]
                refine wpAnyH_take (i := 6) (v := .pointer (some ⟨tb, to + j, none⟩)) rfl (by kernel_rfl) (by kernel_rfl) (by kernel_rfl) (fun _ _ _ h => h) (Or.inl ⟨by rfl, fun w' hS => by go_simp⟩) hHeld ?_
                simp only [Act.put, List.getElem_toArray, List.getElem_cons_zero, List.getElem_cons_succ, List.setIfInBounds_toArray, List.set_cons_zero, List.set_cons_succ]
                refine wpAnyH_take (i := 7) (v := .int .i64 tx) rfl (by kernel_rfl) (by kernel_rfl) (by kernel_rfl) (fun _ _ _ h => h) (Or.inl ⟨by rfl, fun w' hS => by (obtain ⟨s0, s1, s2, s3, s4⟩ := hS; go_simp)⟩) hHeld ?_
                simp only [Act.put, List.getElem_toArray, List.getElem_cons_zero, List.getElem_cons_succ, List.setIfInBounds_toArray, List.set_cons_zero, List.set_cons_succ]
                refine wpAnyH_take (i := 9) (v := .pointer (some ⟨W.heap.size, 0, none⟩)) rfl (by kernel_rfl) (by kernel_rfl) (by kernel_rfl) (fun _ _ _ h => h) (Or.inl ⟨by rfl, fun w' hS => by go_simp⟩) hHeld ?_
                simp only [Act.put, List.getElem_toArray, List.getElem_cons_zero, List.getElem_cons_succ, List.setIfInBounds_toArray, List.set_cons_zero, List.set_cons_succ]
                refine wpAnyH_take (i := 10) (v := .int .i64 (n : Int)) rfl (by kernel_rfl) (by kernel_rfl) (by kernel_rfl) (fun _ _ _ h => h) (Or.inl ⟨by rfl, fun w' hS => by (obtain ⟨s0, s1, s2, s3, s4⟩ := hS; go_simp)⟩) hHeld ?_
                simp only [Act.put, List.getElem_toArray, List.getElem_cons_zero, List.getElem_cons_succ, List.setIfInBounds_toArray, List.set_cons_zero, List.set_cons_succ]
                refine wpAnyH_take (i := 11) (v := .pointer (some ⟨W.heap.size, 1, none⟩)) rfl (by kernel_rfl) (by kernel_rfl) (by kernel_rfl) (fun _ _ _ h => h) (Or.inl ⟨by rfl, fun w' hS => by go_simp⟩) hHeld ?_
                simp only [Act.put, List.getElem_toArray, List.getElem_cons_zero, List.getElem_cons_succ, List.setIfInBounds_toArray, List.set_cons_zero, List.set_cons_succ]
                refine wpAnyH_take (i := 12) (v := .int .i64 (s : Int)) rfl (by kernel_rfl) (by kernel_rfl) (by kernel_rfl) (fun _ _ _ h => h) (Or.inl ⟨by rfl, fun w' hS => by (obtain ⟨s0, s1, s2, s3, s4⟩ := hS; go_simp)⟩) hHeld ?_
                simp only [Act.put, List.getElem_toArray, List.getElem_cons_zero, List.getElem_cons_succ, List.setIfInBounds_toArray, List.set_cons_zero, List.set_cons_succ]
                refine wpAnyH_take (i := 13) (v := .pointer (some ⟨W.heap.size, 2, none⟩)) rfl (by kernel_rfl) (by kernel_rfl) (by kernel_rfl) (fun _ _ _ h => h) (Or.inl ⟨by rfl, fun w' hS => by go_simp⟩) hHeld ?_
                simp only [Act.put, List.getElem_toArray, List.getElem_cons_zero, List.getElem_cons_succ, List.setIfInBounds_toArray, List.set_cons_zero, List.set_cons_succ]
                refine wpAnyH_take (i := 14) (v := .int .i64 inc) rfl (by kernel_rfl) (by kernel_rfl) (by kernel_rfl) (fun _ _ _ h => h) (Or.inl ⟨by rfl, fun w' hS => by (obtain ⟨s0, s1, s2, s3, s4⟩ := hS; go_simp)⟩) hHeld ?_
                simp only [Act.put, List.getElem_toArray, List.getElem_cons_zero, List.getElem_cons_succ, List.setIfInBounds_toArray, List.set_cons_zero, List.set_cons_succ]
                refine wpAnyH_ready (rs := [8]) (by kernel_rfl) (by simp) ?_
                refine AllReadyH.cons rfl (fun K hK => ?_) AllReadyH.nil
                go_simp
                refine (HPt.out _).mono ?_
                rintro e w7 ⟨rfl, rfl⟩
                refine hK.out _ _ ⟨cell_drew f9, cell_drew ft, cell_drew f0, cell_drew f1, cell_drew f2⟩ (fun hHeld => ?_)
                clear hK K
                refine wpAnyH_ready (rs := [15]) (by kernel_rfl) (by simp) ?_
                refine AllReadyH.cons rfl (fun K hK => ?_) AllReadyH.nil
                go_simp
                refine (HH.out _).mono ?_
                rintro e w7 ⟨u, rfl, g7, rfl, hg7, hB7, hb7⟩
                have B7 : Below wr.heap.size wr w7 := bstep (Below.refl _ _).drew hb7
                refine hK.out _ _ ⟨below_at B7 f9, below_at B7 ft, below_at B7 f0, below_at B7 f1, below_at B7 f2⟩ (fun hHeld => ?_)
                clear hK K
                refine wpAnyH_take (i := 16) (v := .agg #[.int .i64 pt, .slice (some ⟨g7, 0, none⟩) n n]) rfl (by kernel_rfl) (by kernel_rfl) (by kernel_rfl) (fun _ _ _ h => h) (Or.inl ⟨by rfl, fun w' hS => by go_simp⟩) hHeld ?_
                simp only [Act.put, List.getElem_toArray, List.getElem_cons_zero, List.getElem_cons_succ, List.setIfInBounds_toArray, List.set_cons_zero, List.set_cons_succ]
                refine wpAnyH_ready (rs := [17]) (by kernel_rfl) (by simp) ?_
                refine AllReadyH.cons rfl (fun K hK => ?_) AllReadyH.nil
                go_simp
                refine (HSt.out w7 B7 g7 hB7).mono ?_
                rintro e w8 ⟨rfl, hb8⟩
                have B8 : Below wr.heap.size wr w8 := bstep B7 hb8
                refine hK.out _ _ ⟨below_at B8 f9, below_at B8 ft, below_at B8 f0, below_at B8 f1, below_at B8 f2⟩ (fun hHeld => ?_)
                clear hK K
                refine wpAnyH_take (i := 18) (v := .int .i64 51) rfl (by kernel_rfl) (by kernel_rfl) (by kernel_rfl) (fun _ _ _ h => h) (Or.inl ⟨by rfl, fun w' hS => by go_simp⟩) hHeld ?_
                simp only [Act.put, List.getElem_toArray, List.getElem_cons_zero, List.getElem_cons_succ, List.setIfInBounds_toArray, List.set_cons_zero, List.set_cons_succ]
                refine wpAnyH_done (by kernel_rfl) ?_ _
                clear hHeld
                have HD6 : Hid (D4.Ok w8 B (on + 1)) := HD5.out.still B8
                have Hl6 : Hid (Below B w1 w8) := Hl5.out.trans (B8.mono hBr5)
                clear hHeld B7 B8 hb7 hb8 hB7 hg7 HSt HPt
                go_wp2_with (first | (go_at_call 21; refine (num_any _).mono ?_; rintro e w5 ⟨rfl, rfl⟩) | fail)
                exact ⟨⟨j + 1, by omega, by omega, by go_num, HD6.out, Hl6.out⟩, by simp [intOf]; omega⟩
              · have i2 : decide ((j : Int) < (tn : Int)) = true := decide_eq_true (by omega)
                have i3 : decide ((j : Int) < 4) = false := decide_eq_false (by omega)
                clear hlw
                go_wp2
                go_roundw
                case rel => exact Hend.out
                case measure => simp [intOf]; omega
            · have i2 : decide ((j : Int) < (tn : Int)) = false := decide_eq_false (by omega)
              clear hlw
              go_wp2
              go_roundw
              case rel => exact Hend.out
              case measure => simp [intOf]; omega
        · have hgd : decide (lim < (i : Int)) = false := decide_eq_false hgl
          have HTk : Hid (Calls Try.prog 10 #[.pointer (some ⟨b, 0, none⟩)] V fun e w' => e = .returned (.tuple #[]) ∧ Dtep V w' D2 D2.ticked B (on + 1)) := by
            have := tick_any HD3.out
            rw [HS2.out.b] at this
            exact this
          have hS4 := HS2.out.tick hqn hqs
          rw [stP_tick] at hS4
          have HS4 : Hid (Se D2.ticked n s inc step lim b q (stP ic 5 p.wrong p.ticks ((i : Int) + 1))) := hS4
          clear hS4
          go_wp2_with (fail)
          refine HTk.out.mono ?_
          rintro e w4 ⟨rfl, T4⟩
          have HD4 : Hid (D2.ticked.Ok w4 B (on + 1)) := T4.ok
          have Hl4 : Hid (Below B w1 w4) := Hl3.out.trans (T4.low HD3.out hBr3)
          clear T4 HTk HD3 Hl3
          generalize D2.ticked = D4 at *
          go_wp2
          go_loopw [11] (fun v11 wr => ∃ (j : Nat), j ≤ tn ∧ j ≤ 4 ∧ v11 = .int .i64 (j : Int) ∧ D4.Ok wr B (on + 1) ∧ Below B w1 wr) (fun v11 _ => 5 - (intOf v11).toNat)
          case atStart => exact ⟨0, Nat.zero_le _, Nat.zero_le _, rfl, HD4.out, Hl4.out⟩
          case round =>
            obtain ⟨j, hj1, hj2, rfl, hD5, hl5⟩ := hrel
            have HD5 : Hid (D4.Ok wr B (on + 1)) := hD5
            have Hl5 : Hid (Below B w1 wr) := hl5
            obtain ⟨f0, f1, f2, f5, f7, f8, f9⟩ := HSC1.out.to hl5 (by omega) hlt0
            have hlw : Below w.heap.size w wr := Hb1.out.trans (hl5.mono (by omega))
            have hBr5 : B ≤ wr.heap.size := Nat.le_trans hsz hl5.size
            have Hend : Hid (∃ (i_1 : Nat) (D2 : De), (i_1 : Int) ≤ lim + pm + 1 ∧ Value.int .i64 ((i : Int) + 1) = .int .i64 (i_1 : Int) ∧ D2.Ok wr B (on + 1) ∧ Se D2 n s inc step lim b q (stP ic 5 p.wrong p.ticks i_1) ∧ Below B w1 wr) := ⟨i + 1, D4, by omega, by simp, hD5, HS4.out, hl5⟩
            clear hD5 hl5
            by_cases hjt : j < tn
            · by_cases hj4 : j < 4
              · obtain ⟨tb, to, hta, ft⟩ := (HRt.out.still hlw).at hjt
                have hp := posI_lt (ts.getD j 0) (show (1 : Int) ≤ 6 by omega)
                have HPt : Hid (∀ w1, Calls Try.prog 14 #[.int .i64 (ts.getD j 0), .int .i64 6] w1 fun e w' => e = .returned (.int .i64 (posI (ts.getD j 0) 6)) ∧ w1 = w') := fun w1 => pos_any _ _ (by omega)
                generalize posI (ts.getD j 0) 6 = pt at hp HPt
                generalize ts.getD j 0 = tx at *
                have HSt : Hid (∀ w', Below wr.heap.size wr w' → ∀ g, BlkI w' g (heaI n s inc) → Calls Try.prog 15 #[.pointer (some ⟨b, 0, none⟩), .int .i64 q, .int .i64 ic, .agg #[.int .i64 pt, .slice (some ⟨g, 0, none⟩) n n]] w' fun e w2 => e = .returned (.int .i64 51) ∧ Below w'.heap.size w' w2) := fun w' hb g hg => stale_se (HD5.out.still hb) HS4.out hqn hqs ic pt inc ⟨by omega, by omega⟩ ⟨by omega, by omega⟩ ⟨by omega, a3.2⟩ hg rfl (by show pt ≤ 5; omega)
                have i1 : (0 : Int) ≤ (j : Int) := Int.natCast_nonneg _
                have i2 : (j : Int) < (tn : Int) := by omega
                have i3 : (j : Int) < 4 := by omega
                rw [hta] at f9
                clear hta hlw Hend
                go_wp2
                refine wp_region_held_drew (S := (fun w' => w'.cell? ⟨w.heap.size, 9, none⟩ = some (.slice (some ⟨tb, to, none⟩) tn tc) ∧ w'.cell? ⟨tb, to + j, none⟩ = some (.int .i64 tx) ∧ w'.cell? ⟨W.heap.size, 0, none⟩ = some (.int .i64 (n : Int)) ∧ w'.cell? ⟨W.heap.size, 1, none⟩ = some (.int .i64 (s : Int)) ∧ w'.cell? ⟨W.heap.size, 2, none⟩ = some (.int .i64 inc))) (by kernel_rfl) ⟨cell_drew f9, cell_drew ft, cell_drew f0, cell_drew f1, cell_drew f2⟩ (fun hHeld => ?_)
                simp only [Act.put, List.size_toArray, List.length_cons, List.length_nil, Nat.zero_add]
                refine wpAnyH_take (i := 0) (v := .pointer (some ⟨b, 0, none⟩)) rfl (by kernel_rfl) (by kernel_rfl) (by kernel_rfl) (fun _ _ _ h => h) (Or.inl ⟨by rfl, fun w' hS => by go_simp⟩) hHeld ?_
                simp only [Act.put, List.getElem_toArray, List.getElem_cons_zero, List.getElem_cons_succ, List.setIfInBounds_toArray, List.set_cons_zero, List.set_cons_succ]
                refine wpAnyH_take (i := 1) (v := .int .i64 (q : Int)) rfl (by kernel_rfl) (by kernel_rfl) (by kernel_rfl) (fun _ _ _ h => h) (Or.inl ⟨by rfl, fun w' hS => by go_simp⟩) hHeld ?_
                simp only [Act.put, List.getElem_toArray, List.getElem_cons_zero, List.getElem_cons_succ, List.setIfInBounds_toArray, List.set_cons_zero, List.set_cons_succ]
                refine wpAnyH_take (i := 2) (v := .int .i64 ic) rfl (by kernel_rfl) (by kernel_rfl) (by kernel_rfl) (fun _ _ _ h => h) (Or.inl ⟨by rfl, fun w' hS => by go_simp⟩) hHeld ?_
                simp only [Act.put, List.getElem_toArray, List.getElem_cons_zero, List.getElem_cons_succ, List.setIfInBounds_toArray, List.set_cons_zero, List.set_cons_succ]
                refine wpAnyH_take (i := 3) (v := .pointer (some ⟨w.heap.size, 9, none⟩)) rfl (by kernel_rfl) (by kernel_rfl) (by kernel_rfl) (fun _ _ _ h => h) (Or.inl ⟨by rfl, fun w' hS => by go_simp⟩) hHeld ?_
                simp only [Act.put, List.getElem_toArray, List.getElem_cons_zero, List.getElem_cons_succ, List.setIfInBounds_toArray, List.set_cons_zero, List.set_cons_succ]
                refine wpAnyH_take (i := 4) (v := .slice (some ⟨tb, to, none⟩) tn tc) rfl (by kernel_rfl) (by kernel_rfl) (by kernel_rfl) (fun _ _ _ h => h) (Or.inl ⟨by rfl, fun w' hS => by (obtain ⟨s0, s1, s2, s3, s4⟩ := hS; go_simp)⟩) hHeld ?_
                simp only [Act.put, List.getElem_toArray, List.getElem_cons_zero, List.getElem_cons_succ, List.setIfInBounds_toArray, List.set_cons_zero, List.set_cons_succ]
                refine wpAnyH_take (i := 5) (v := .int .i64 (j : Int)) rfl (by kernel_rfl) (by kernel_rfl) (by kernel_rfl) (fun _ _ _ h => h) (Or.inl ⟨by rfl, fun w' hS => by go_simp⟩) hHeld ?_
                simp only [Act.put, List.getElem_toArray, List.getElem_cons_zero, List.getElem_cons_succ, List.setIfInBounds_toArray, List.set_cons_zero, List.set_cons_succ]
                refine wpAnyH_take (i := 6) (v := .pointer (some ⟨tb, to + j, none⟩)) rfl (by kernel_rfl) (by kernel_rfl) (by kernel_rfl) (fun _ _ _ h => h) (Or.inl ⟨by rfl, fun w' hS => by go_simp⟩) hHeld ?_
                simp only [Act.put, List.getElem_toArray, List.getElem_cons_zero, List.getElem_cons_succ, List.setIfInBounds_toArray, List.set_cons_zero, List.set_cons_succ]
                refine wpAnyH_take (i := 7) (v := .int .i64 tx) rfl (by kernel_rfl) (by kernel_rfl) (by kernel_rfl) (fun _ _ _ h => h) (Or.inl ⟨by rfl, fun w' hS => by (obtain ⟨s0, s1, s2, s3, s4⟩ := hS; go_simp)⟩) hHeld ?_
                simp only [Act.put, List.getElem_toArray, List.getElem_cons_zero, List.getElem_cons_succ, List.setIfInBounds_toArray, List.set_cons_zero, List.set_cons_succ]
                refine wpAnyH_take (i := 9) (v := .pointer (some ⟨W.heap.size, 0, none⟩)) rfl (by kernel_rfl) (by kernel_rfl) (by kernel_rfl) (fun _ _ _ h => h) (Or.inl ⟨by rfl, fun w' hS => by go_simp⟩) hHeld ?_
                simp only [Act.put, List.getElem_toArray, List.getElem_cons_zero, List.getElem_cons_succ, List.setIfInBounds_toArray, List.set_cons_zero, List.set_cons_succ]
                refine wpAnyH_take (i := 10) (v := .int .i64 (n : Int)) rfl (by kernel_rfl) (by kernel_rfl) (by kernel_rfl) (fun _ _ _ h => h) (Or.inl ⟨by rfl, fun w' hS => by (obtain ⟨s0, s1, s2, s3, s4⟩ := hS; go_simp)⟩) hHeld ?_
                simp only [Act.put, List.getElem_toArray, List.getElem_cons_zero, List.getElem_cons_succ, List.setIfInBounds_toArray, List.set_cons_zero, List.set_cons_succ]
                refine wpAnyH_take (i := 11) (v := .pointer (some ⟨W.heap.size, 1, none⟩)) rfl (by kernel_rfl) (by kernel_rfl) (by kernel_rfl) (fun _ _ _ h => h) (Or.inl ⟨by rfl, fun w' hS => by go_simp⟩) hHeld ?_
                simp only [Act.put, List.getElem_toArray, List.getElem_cons_zero, List.getElem_cons_succ, List.setIfInBounds_toArray, List.set_cons_zero, List.set_cons_succ]
                refine wpAnyH_take (i := 12) (v := .int .i64 (s : Int)) rfl (by kernel_rfl) (by kernel_rfl) (by kernel_rfl) (fun _ _ _ h => h) (Or.inl ⟨by rfl, fun w' hS => by (obtain ⟨s0, s1, s2, s3, s4⟩ := hS; go_simp)⟩) hHeld ?_
                simp only [Act.put, List.getElem_toArray, List.getElem_cons_zero, List.getElem_cons_succ, List.setIfInBounds_toArray, List.set_cons_zero, List.set_cons_succ]
                refine wpAnyH_take (i := 13) (v := .pointer (some ⟨W.heap.size, 2, none⟩)) rfl (by kernel_rfl) (by kernel_rfl) (by kernel_rfl) (fun _ _ _ h => h) (Or.inl ⟨by rfl, fun w' hS => by go_simp⟩) hHeld ?_
                simp only [Act.put, List.getElem_toArray, List.getElem_cons_zero, List.getElem_cons_succ, List.setIfInBounds_toArray, List.set_cons_zero, List.set_cons_succ]
                refine wpAnyH_take (i := 14) (v := .int .i64 inc) rfl (by kernel_rfl) (by kernel_rfl) (by kernel_rfl) (fun _ _ _ h => h) (Or.inl ⟨by rfl, fun w' hS => by (obtain ⟨s0, s1, s2, s3, s4⟩ := hS; go_simp)⟩) hHeld ?_
                simp only [Act.put, List.getElem_toArray, List.getElem_cons_zero, List.getElem_cons_succ, List.setIfInBounds_toArray, List.set_cons_zero, List.set_cons_succ]
                refine wpAnyH_ready (rs := [8]) (by kernel_rfl) (by simp) ?_
                refine AllReadyH.cons rfl (fun K hK => ?_) AllReadyH.nil
                go_simp
                refine (HPt.out _).mono ?_
                rintro e w7 ⟨rfl, rfl⟩
                refine hK.out _ _ ⟨cell_drew f9, cell_drew ft, cell_drew f0, cell_drew f1, cell_drew f2⟩ (fun hHeld => ?_)
                clear hK K
                refine wpAnyH_ready (rs := [15]) (by kernel_rfl) (by simp) ?_
                refine AllReadyH.cons rfl (fun K hK => ?_) AllReadyH.nil
                go_simp
                refine (HH.out _).mono ?_
                rintro e w7 ⟨u, rfl, g7, rfl, hg7, hB7, hb7⟩
                have B7 : Below wr.heap.size wr w7 := bstep (Below.refl _ _).drew hb7
                refine hK.out _ _ ⟨below_at B7 f9, below_at B7 ft, below_at B7 f0, below_at B7 f1, below_at B7 f2⟩ (fun hHeld => ?_)
                clear hK K
                refine wpAnyH_take (i := 16) (v := .agg #[.int .i64 pt, .slice (some ⟨g7, 0, none⟩) n n]) rfl (by kernel_rfl) (by kernel_rfl) (by kernel_rfl) (fun _ _ _ h => h) (Or.inl ⟨by rfl, fun w' hS => by go_simp⟩) hHeld ?_
                simp only [Act.put, List.getElem_toArray, List.getElem_cons_zero, List.getElem_cons_succ, List.setIfInBounds_toArray, List.set_cons_zero, List.set_cons_succ]
                refine wpAnyH_ready (rs := [17]) (by kernel_rfl) (by simp) ?_
                refine AllReadyH.cons rfl (fun K hK => ?_) AllReadyH.nil
                go_simp
                refine (HSt.out w7 B7 g7 hB7).mono ?_
                rintro e w8 ⟨rfl, hb8⟩
                have B8 : Below wr.heap.size wr w8 := bstep B7 hb8
                refine hK.out _ _ ⟨below_at B8 f9, below_at B8 ft, below_at B8 f0, below_at B8 f1, below_at B8 f2⟩ (fun hHeld => ?_)
                clear hK K
                refine wpAnyH_take (i := 18) (v := .int .i64 51) rfl (by kernel_rfl) (by kernel_rfl) (by kernel_rfl) (fun _ _ _ h => h) (Or.inl ⟨by rfl, fun w' hS => by go_simp⟩) hHeld ?_
                simp only [Act.put, List.getElem_toArray, List.getElem_cons_zero, List.getElem_cons_succ, List.setIfInBounds_toArray, List.set_cons_zero, List.set_cons_succ]
                refine wpAnyH_done (by kernel_rfl) ?_ _
                clear hHeld
                have HD6 : Hid (D4.Ok w8 B (on + 1)) := HD5.out.still B8
                have Hl6 : Hid (Below B w1 w8) := Hl5.out.trans (B8.mono hBr5)
                clear hHeld B7 B8 hb7 hb8 hB7 hg7 HSt HPt
                go_wp2_with (first | (go_at_call 21; refine (num_any _).mono ?_; rintro e w5 ⟨rfl, rfl⟩) | fail)
                exact ⟨⟨j + 1, by omega, by omega, by go_num, HD6.out, Hl6.out⟩, by simp [intOf]; omega⟩
              · have i2 : decide ((j : Int) < (tn : Int)) = true := decide_eq_true (by omega)
                have i3 : decide ((j : Int) < 4) = false := decide_eq_false (by omega)
                clear hlw
                go_wp2
                go_roundw
                case rel => exact Hend.out
                case measure => simp [intOf]; omega
            · have i2 : decide ((j : Int) < (tn : Int)) = false := decide_eq_false (by omega)
              clear hlw
              go_wp2
              go_roundw
              case rel => exact Hend.out
              case measure => simp [intOf]; omega
      · go_wp2
        refine wp_region_held_drew (S := (fun w' => w'.cell? ⟨W.heap.size, 5, none⟩ = some (.int .i64 lim) ∧ w'.cell? ⟨w.heap.size, 8, none⟩ = some (.int .i64 mo))) (by kernel_rfl) ⟨cell_drew d5, cell_drew d8⟩ (fun hHeld => ?_)
        simp only [Act.put, List.size_toArray, List.length_cons, List.length_nil, Nat.zero_add]
        refine wpAnyH_take (i := 0) (v := .int .i64 (i : Int)) rfl (by kernel_rfl) (by kernel_rfl) (by kernel_rfl) (fun _ _ _ h => h) (Or.inl ⟨by rfl, fun w' hS => by go_simp⟩) hHeld ?_
        simp only [Act.put, List.getElem_toArray, List.getElem_cons_zero, List.getElem_cons_succ, List.setIfInBounds_toArray, List.set_cons_zero, List.set_cons_succ]
        refine wpAnyH_take (i := 1) (v := .pointer (some ⟨W.heap.size, 5, none⟩)) rfl (by kernel_rfl) (by kernel_rfl) (by kernel_rfl) (fun _ _ _ h => h) (Or.inl ⟨by rfl, fun w' hS => by go_simp⟩) hHeld ?_
        simp only [Act.put, List.getElem_toArray, List.getElem_cons_zero, List.getElem_cons_succ, List.setIfInBounds_toArray, List.set_cons_zero, List.set_cons_succ]
        refine wpAnyH_take (i := 2) (v := .int .i64 lim) rfl (by kernel_rfl) (by kernel_rfl) (by kernel_rfl) (fun _ _ _ h => h) (Or.inl ⟨by rfl, fun w' hS => by (obtain ⟨s0, s1⟩ := hS; go_simp)⟩) hHeld ?_
        simp only [Act.put, List.getElem_toArray, List.getElem_cons_zero, List.getElem_cons_succ, List.setIfInBounds_toArray, List.set_cons_zero, List.set_cons_succ]
        refine wpAnyH_take (i := 3) (v := .pointer (some ⟨w.heap.size, 8, none⟩)) rfl (by kernel_rfl) (by kernel_rfl) (by kernel_rfl) (fun _ _ _ h => h) (Or.inl ⟨by rfl, fun w' hS => by go_simp⟩) hHeld ?_
        simp only [Act.put, List.getElem_toArray, List.getElem_cons_zero, List.getElem_cons_succ, List.setIfInBounds_toArray, List.set_cons_zero, List.set_cons_succ]
        refine wpAnyH_take (i := 4) (v := .int .i64 mo) rfl (by kernel_rfl) (by kernel_rfl) (by kernel_rfl) (fun _ _ _ h => h) (Or.inl ⟨by rfl, fun w' hS => by (obtain ⟨s0, s1⟩ := hS; go_simp)⟩) hHeld ?_
        simp only [Act.put, List.getElem_toArray, List.getElem_cons_zero, List.getElem_cons_succ, List.setIfInBounds_toArray, List.set_cons_zero, List.set_cons_succ]
        refine wpAnyH_ready (rs := [5]) (by kernel_rfl) (by simp) ?_
        refine AllReadyH.cons rfl (fun K hK => ?_) AllReadyH.nil
        go_simp
        refine (HPm.out _).mono ?_
        rintro e w2 ⟨rfl, rfl⟩
        refine hK.out _ _ ⟨cell_drew d5, cell_drew d8⟩ (fun hHeld => ?_)
        clear hK K
        refine wpAnyH_take (i := 6) (v := .int .i64 (lim + pm)) rfl (by kernel_rfl) (by kernel_rfl) (by kernel_rfl) (fun _ _ _ h => h) (Or.inl ⟨by rfl, fun w' hS => by go_simp⟩) hHeld ?_
        simp only [Act.put, List.getElem_toArray, List.getElem_cons_zero, List.getElem_cons_succ, List.setIfInBounds_toArray, List.set_cons_zero, List.set_cons_succ]
        refine wpAnyH_take (i := 7) (v := .bool false) rfl (by kernel_rfl) (by kernel_rfl) (by kernel_rfl) (fun _ _ _ h => h) (Or.inl ⟨by rfl, fun w' hS => by (go_simp <;> omega)⟩) hHeld ?_
        simp only [Act.put, List.getElem_toArray, List.getElem_cons_zero, List.getElem_cons_succ, List.setIfInBounds_toArray, List.set_cons_zero, List.set_cons_succ]
        refine wpAnyH_done (by kernel_rfl) ?_ _
        clear hHeld
        have HD3 : Hid (D2.Ok wr.drew B (on + 1)) := HD2.out.still (Below.refl _ _).drew
        have Hl3 : Hid (Below B w1 wr.drew) := Hl2.out.drew
        have hBr3 : B ≤ wr.drew.heap.size := by simpa using hBr
        generalize wr.drew = V at *
        clear hHeld d0 d1 d2 d5 d7 d8 d9 HD2 Hl2 hBr
        have hhf : (stP ic 5 p.wrong p.ticks i).heard = false := by show decide ((i : Int) ≤ p.ticks) = false; exact decide_eq_false (by omega)
        have HGo := gone_se HD3.out HS2.out hqn hqs hhf (by show 0 < ic; omega)
        go_wp2_with (fail)
        refine HGo.mono ?_
        rintro e w6 ⟨rfl, hb6⟩
        have HD6 : Hid (D2.Ok w6 B (on + 1)) := HD3.out.still hb6
        have Hl6 : Hid (Below B w1 w6) := Hl3.out.trans (hb6.mono hBr3)
        have hBr6 : B ≤ w6.heap.size := Nat.le_trans hBr3 hb6.size
        obtain ⟨f0, f1, f2, f5, f7, f8, f9⟩ := HSC1.out.to Hl6.out (by omega) hlt0
        have HWr : Hid (Calls Try.prog 24 #[.pointer (some ⟨b, 0, none⟩), .int .i64 (q : Int)] w6 fun e w2 => e = .returned (.int .i64 p.wrong) ∧ w6 = w2) := by
          have := wrong_any HD6.out (q : Int)
          rw [HS2.out.b, HS2.out.wrong hqn hqs] at this
          exact this
        clear HD3 Hl3 hBr3 hb6 HGo
        go_wp2_with (fail)
        refine HWr.out.mono ?_
        rintro e w7 ⟨rfl, rfl⟩
        go_wp2_with (fail)
        refine (HH0.out _).mono ?_
        rintro e w7 ⟨u, rfl, g, rfl, hg, hBk, hbl⟩
        have HH1 : Hid (Calls Try.prog 15 #[.pointer (some ⟨b, 0, none⟩), .int .i64 q, .int .i64 ic, .agg #[.int .i64 6, .slice (some ⟨g, 0, none⟩) n n]] w7 fun e w2 => e = .returned (.int .i64 0) ∧ ∃ D', Dtep w6 w2 D2 D' B (on + 1 + 1) ∧ Se D' n s inc step lim b q ⟨ic, 6, 0, p.wrong + 1, min lim (p.ticks + step), true, false⟩) := by
          refine (hear_se HD6.out (by omega) HS2.out hqn hqs hsn ic 6 0 ⟨by omega, by omega⟩ ⟨by omega, by omega⟩ ⟨by omega, by omega⟩ hbl hg hBk (by show ¬ ic < ic; omega) (by show ¬ (ic = ic ∧ (6 : Int) ≤ 5); omega)).mono ?_
          rintro e w3 ⟨e1, D', e2, e3⟩
          refine ⟨e1, D', e2, ?_⟩
          rw [if_pos (show ic = (stP ic 5 p.wrong p.ticks i).known ∧ (stP ic 5 p.wrong p.ticks i).heard = false from ⟨rfl, hhf⟩), decide_eq_false (show ¬ ((0 : Int) = inc) by omega)] at e3
          exact e3
        clear hg hBk hbl hhf
        go_wp2_with (fail)
        refine (HH1.out).mono ?_
        rintro e w8 ⟨rfl, D7, T7, S7⟩
        have HD7 : Hid (D7.Ok w8 B (on + 1 + 1)) := T7.ok
        have HS7 : Hid (Se D7 n s inc step lim b q ⟨ic, 6, 0, p.wrong + 1, min lim (p.ticks + step), true, false⟩) := S7
        have Hl7 : Hid (Below B w1 w8) := Hl6.out.trans (T7.low (HD6.out.mono (Nat.le_succ _) (by omega)) hBr6)
        clear T7 S7 HH1 HD6 Hl6 HWr
        have hww : IntKind.i64.wrap (p.wrong + 1) = p.wrong + 1 := wrap_id (by omega) (by omega)
        go_wp2_with (first | (go_at_call 21; refine (num_any _).mono ?_; rintro e w9 ⟨rfl, rfl⟩) | fail)
        have Q1x := hears_se HD7.out HS7.out hqn hqs
        go_wp2_with (fail)
        refine (Q1x).mono ?_
        rintro e x1 ⟨gx1, rfl, hbx1, hax1⟩
        have A1x := hax1 x1 (Below.refl _ _)
        have Okx1 : Hid (D7.Ok x1 B (on + 1 + 1)) := HD7.out.still hbx1
        have Lwx1 : Hid (Below B w1 x1) := Hl7.out.trans (hbx1.mono (Nat.le_trans hsz Hl7.out.size))
        simp only [if_true, if_false, Bool.and_false, Bool.false_eq_true, Bool.true_and, Bool.and_true, Bool.not_true, Bool.false_and] at A1x
        clear hax1 hbx1 Q1x
        go_wp2_with (fail)
        refine (A1x).mono ?_
        rintro e yx1 ⟨rfl, rfl⟩
        have Q2x := est_se Okx1.out HS7.out hqn hqs
        go_wp2_with (fail)
        refine (Q2x).mono ?_
        rintro e x2 ⟨gx2, rfl, hbx2, hax2⟩
        have A2x := hax2 x2 (Below.refl _ _)
        have Okx2 : Hid (D7.Ok x2 B (on + 1 + 1)) := Okx1.out.still hbx2
        have Lwx2 : Hid (Below B w1 x2) := Lwx1.out.trans (hbx2.mono (Nat.le_trans hsz Lwx1.out.size))
        simp only [if_true, if_false, Bool.and_false, Bool.false_eq_true, Bool.true_and, Bool.and_true, Bool.not_true, Bool.false_and] at A2x
        clear hax2 hbx2 Q2x A1x
        go_wp2_with (fail)
        refine (A2x).mono ?_
        rintro e yx2 ⟨rfl, rfl⟩
        have Q3x := sus_se Okx2.out HS7.out hqn hqs
        go_wp2_with (fail)
        refine (Q3x).mono ?_
        rintro e x3 ⟨ax3, lx3, cx3, rfl, hbx3, hax3⟩
        have A3x := hax3 x3 (Below.refl _ _)
        have Okx3 : Hid (D7.Ok x3 B (on + 1 + 1)) := Okx2.out.still hbx3
        have Lwx3 : Hid (Below B w1 x3) := Lwx2.out.trans (hbx3.mono (Nat.le_trans hsz Lwx2.out.size))
        simp only [if_true, if_false, Bool.and_false, Bool.false_eq_true, Bool.true_and, Bool.and_true, Bool.not_true, Bool.false_and] at A3x
        clear hax3 hbx3 Q3x A2x
        go_wp2_with (fail)
        refine (A3x).mono ?_
        rintro e yx3 ⟨rfl, rfl⟩
        have HWr : Hid (Calls Try.prog 24 #[.pointer (some ⟨b, 0, none⟩), .int .i64 (q : Int)] x3 fun e w2 => e = .returned (.int .i64 (p.wrong + 1)) ∧ x3 = w2) := by
          have := wrong_any Okx3.out (q : Int)
          rw [HS7.out.b, HS7.out.wrong hqn hqs] at this
          exact this
        have Hfin : Hid (Below w.heap.size w x3) := Hb1.out.trans (Lwx3.out.mono (by omega))
        clear Okx1 Okx2 Okx3 Lwx1 Lwx2 Lwx3 A3x
        go_wp2_with (fail)
        refine HWr.out.mono ?_
        rintro e w9 ⟨rfl, rfl⟩
        go_wp2
        go_ret
        exact ⟨rfl, Hfin.out⟩
theorem silent_any (n s : Int) (inc base step lim : Int) (oa : Option Addr) (on oc : Nat) (q0 mo : Int) (ta : Option Addr) (tn tc : Nat) (os : Nat → Opx) (ts : List Int) (hro : RdOps w oa on os) (hon : on ≤ 2513169434916) (hrt : RdI w ta tn ts) (hn : n ≤ 9223372036854775807) : Calls Try.prog 5 #[.agg (sc n s inc base step lim oa on oc q0 mo ta tn tc)] w fun e w' => e = .returned (.bool true) ∧ Below w.heap.size w w' := by
  cases hok : newOk n s inc base step lim with
  | false => exact silent_no n s inc base step lim oa on oc q0 mo ta tn tc hok hn
  | true =>
    have hk := hok
    unfold newOk at hk
    simp only [Bool.and_eq_true] at hk
    obtain ⟨b1, b2, b3, b4, b5, b6⟩ := hk
    have a1 := of_decide_eq_true b1
    have a2 := of_decide_eq_true b2
    obtain ⟨k, rfl⟩ : ∃ k : Nat, n = k := ⟨n.toNat, by omega⟩
    obtain ⟨t, rfl⟩ : ∃ t : Nat, s = t := ⟨s.toNat, by omega⟩
    by_cases h1 : 2 ≤ k
    · exact silent_ok k t inc base step lim oa on oc q0 mo ta tn tc os ts hro hon hrt hok h1
    · obtain rfl : k = 1 := by omega
      exact silent_lone t inc base step lim oa on oc q0 mo ta tn tc os hro hon hok
end
end Go.Proofs.Ytjnbkkmagceggaa.Dt
