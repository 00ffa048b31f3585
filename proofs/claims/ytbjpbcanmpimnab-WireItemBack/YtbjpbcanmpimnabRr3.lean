import Derived.Test.YtbjpbcanmpimnabRr2
namespace Go.Proofs.Ytbjpbcanmpimnab.Lo
open Go.RowKit Bk
set_option linter.unusedVariables false

set_option maxRecDepth 100000 in
set_option maxHeartbeats 2000000 in
theorem rdata_err0 (w0 : World) (rb n c : Nat) (ao : Option Addr) (bs : List Int) (a : Nat) (w : World) (hb : RRb w rb ao n c a 0) (hr0 : Rd w0 ao n c bs) (hw : Below w0.heap.size w0 w) (hrb : w0.heap.size ≤ rb) (hlen : n ≤ 300) (hnc : n ≤ c) (x : Int)   (h1 : Hid (cnt bs a 0 15 = .error x)) :
    Calls Try.prog 59 #[.pointer (some ⟨rb, 0, none⟩)] w fun e w' => ∃ s q st, e = .returned (.agg #[.int .i64 s, .int .i64 q, .int .i64 st, .slice none 0 0]) ∧ (∃ a', RRb w' rb ao n c a' x) ∧ Kept w w' (fun j => j = rb) := by
  have H : Hid (RRb w rb ao n c a 0 ∧ Rd w0 ao n c bs ∧ Below w0.heap.size w0 w) := ⟨hb, hr0, hw⟩
  clear hb hr0 hw
  have hx : x ≠ 0 := cnt_nz h1.out
  go_enter Try.func59, Try.ntmps59
  go_wp2_with fail
  have S0 : Hid (St w ((w.alloc (.cells #[.int .i64 0, .int .i64 0, .int .i64 0, .slice none 0 0] 24)).alloc (.cells #[.int .i64 0, .int .i64 0, .int .i64 0, .slice none 0 0] 24)) rb #[.slice ao n c, .int .i64 a, .int .i64 0] 105 w.heap.size #[.int .i64 0, .int .i64 0, .int .i64 0, .slice none 0 0] (w.heap.size + 1) #[.int .i64 0, .int .i64 0, .int .i64 0, .slice none 0 0] 24) := St.two H.out.1
  generalize (w.alloc (.cells #[.int .i64 0, .int .i64 0, .int .i64 0, .slice none 0 0] 24)).alloc (.cells #[.int .i64 0, .int .i64 0, .int .i64 0, .slice none 0 0] 24) = W0 at *
  generalize w.heap.size + 1 = sb at *
  refine (rnum_err rb n c ao bs a 0 15 x W0 S0.out.r (H.out.2.1.below (S0.out.below H.out.2.2 hrb)) (by omega) h1.out).mono ?_
  rintro e w1 ⟨rfl, ⟨ax, hb1⟩, hk1⟩
  have T0 : Hid (St w w1 rb #[.slice ao n c, .int .i64 ax, .int .i64 x] 105 w.heap.size #[.int .i64 0, .int .i64 0, .int .i64 0, .slice none 0 0] sb #[.int .i64 0, .int .i64 0, .int .i64 0, .slice none 0 0] 24) := S0.out.call hb1 hk1
  clear hb1 hk1 S0
  have f0 := T0.out.fz 0
  have q0 := fun i => T0.out.cell i
  have S1 : Hid (St w (w1.setCell ⟨sb, 0, none⟩ (.int .i64 0)) rb #[.slice ao n c, .int .i64 ax, .int .i64 x] 105 w.heap.size #[.int .i64 0, .int .i64 0, .int .i64 0, .slice none 0 0] sb #[.int .i64 0, .int .i64 0, .int .i64 0, .slice none 0 0] 24) := T0.out.store 0 (.int .i64 0)
  have p0 := fun i => S1.out.cell i
  go_wp2_with fail
  clear f0 q0 p0 T0
  generalize w1.setCell ⟨sb, 0, none⟩ (.int .i64 0) = W1 at *
  refine (rnum_stuck rb n c ao ax 1 4611686018427387904 x W1 S1.out.r hx).mono ?_
  rintro e w2 ⟨rfl, rfl⟩
  have T1 := S1
  clear S1
  have f1 := T1.out.fz 1
  have q1 := fun i => T1.out.cell i
  have S2 : Hid (St w (W1.setCell ⟨sb, 1, none⟩ (.int .i64 0)) rb #[.slice ao n c, .int .i64 ax, .int .i64 x] 105 w.heap.size #[.int .i64 0, .int .i64 0, .int .i64 0, .slice none 0 0] sb #[.int .i64 0, .int .i64 0, .int .i64 0, .slice none 0 0] 24) := T1.out.store 1 (.int .i64 0)
  have p1 := fun i => S2.out.cell i
  go_wp2_with fail
  clear f1 q1 p1 T1
  generalize W1.setCell ⟨sb, 1, none⟩ (.int .i64 0) = W2 at *
  refine (rnum_stuck rb n c ao ax 0 4611686018427387904 x W2 S2.out.r hx).mono ?_
  rintro e w3 ⟨rfl, rfl⟩
  have T2 := S2
  clear S2
  have f2 := T2.out.fz 2
  have q2 := fun i => T2.out.cell i
  have S3 : Hid (St w (W2.setCell ⟨sb, 2, none⟩ (.int .i64 0)) rb #[.slice ao n c, .int .i64 ax, .int .i64 x] 105 w.heap.size #[.int .i64 0, .int .i64 0, .int .i64 0, .slice none 0 0] sb #[.int .i64 0, .int .i64 0, .int .i64 0, .slice none 0 0] 24) := T2.out.store 2 (.int .i64 0)
  have p2 := fun i => S3.out.cell i
  go_wp2_with fail
  clear f2 q2 p2 T2
  generalize W2.setCell ⟨sb, 2, none⟩ (.int .i64 0) = W3 at *
  refine (rbytes_stuck rb n c ao ax 0 256 x W3 S3.out.r hx).mono ?_
  rintro e w4 ⟨rfl, rfl⟩
  have T3 := S3
  clear S3
  have f3 := T3.out.fz 3
  have q3 := fun i => T3.out.cell i
  have S4 : Hid (St w (W3.setCell ⟨sb, 3, none⟩ (.slice none 0 0)) rb #[.slice ao n c, .int .i64 ax, .int .i64 x] 105 w.heap.size #[.int .i64 0, .int .i64 0, .int .i64 0, .slice none 0 0] sb #[.int .i64 0, .int .i64 0, .int .i64 0, .slice none 0 0] 24) := T3.out.store 3 (.slice none 0 0)
  have p3 := fun i => S4.out.cell i
  have o0 := fun i => S4.out.cellO i
  have g0 := S4.out.fzO 0
  have U0 : Hid (St w ((W3.setCell ⟨sb, 3, none⟩ (.slice none 0 0)).setCell ⟨w.heap.size, 0, none⟩ (.int .i64 0)) rb #[.slice ao n c, .int .i64 ax, .int .i64 x] 105 w.heap.size #[.int .i64 0, .int .i64 0, .int .i64 0, .slice none 0 0] sb #[.int .i64 0, .int .i64 0, .int .i64 0, .slice none 0 0] 24) := S4.out.storeO 0 (.int .i64 0)
  have o1 := fun i => U0.out.cellO i
  have g1 := U0.out.fzO 1
  have U1 : Hid (St w (((W3.setCell ⟨sb, 3, none⟩ (.slice none 0 0)).setCell ⟨w.heap.size, 0, none⟩ (.int .i64 0)).setCell ⟨w.heap.size, 1, none⟩ (.int .i64 0)) rb #[.slice ao n c, .int .i64 ax, .int .i64 x] 105 w.heap.size #[.int .i64 0, .int .i64 0, .int .i64 0, .slice none 0 0] sb #[.int .i64 0, .int .i64 0, .int .i64 0, .slice none 0 0] 24) := U0.out.storeO 1 (.int .i64 0)
  have o2 := fun i => U1.out.cellO i
  have g2 := U1.out.fzO 2
  have U2 : Hid (St w ((((W3.setCell ⟨sb, 3, none⟩ (.slice none 0 0)).setCell ⟨w.heap.size, 0, none⟩ (.int .i64 0)).setCell ⟨w.heap.size, 1, none⟩ (.int .i64 0)).setCell ⟨w.heap.size, 2, none⟩ (.int .i64 0)) rb #[.slice ao n c, .int .i64 ax, .int .i64 x] 105 w.heap.size #[.int .i64 0, .int .i64 0, .int .i64 0, .slice none 0 0] sb #[.int .i64 0, .int .i64 0, .int .i64 0, .slice none 0 0] 24) := U1.out.storeO 2 (.int .i64 0)
  have o3 := fun i => U2.out.cellO i
  have g3 := U2.out.fzO 3
  have U3 : Hid (St w (((((W3.setCell ⟨sb, 3, none⟩ (.slice none 0 0)).setCell ⟨w.heap.size, 0, none⟩ (.int .i64 0)).setCell ⟨w.heap.size, 1, none⟩ (.int .i64 0)).setCell ⟨w.heap.size, 2, none⟩ (.int .i64 0)).setCell ⟨w.heap.size, 3, none⟩ (.slice none 0 0)) rb #[.slice ao n c, .int .i64 ax, .int .i64 x] 105 w.heap.size #[.int .i64 0, .int .i64 0, .int .i64 0, .slice none 0 0] sb #[.int .i64 0, .int .i64 0, .int .i64 0, .slice none 0 0] 24) := U2.out.storeO 3 (.slice none 0 0)
  have oz := fun i => U3.out.cellO i
  go_wp2_with fail
  exact bodyPost_ret (v := .agg #[.int .i64 0, .int .i64 0, .int .i64 0, .slice none 0 0]) (by simp [results, Try.results59, go_sem, oz]) rfl ⟨_, _, _, rfl, ⟨_, U3.out.r⟩, U3.out.k⟩

set_option maxRecDepth 100000 in
set_option maxHeartbeats 2000000 in
theorem rdata_err1 (w0 : World) (rb n c : Nat) (ao : Option Addr) (bs : List Int) (a : Nat) (w : World) (hb : RRb w rb ao n c a 0) (hr0 : Rd w0 ao n c bs) (hw : Below w0.heap.size w0 w) (hrb : w0.heap.size ≤ rb) (hlen : n ≤ 300) (hnc : n ≤ c) (x : Int) (s : Int) (a1 : Nat) (h1 : Hid (cnt bs a 0 15 = .ok (s, a1))) (h2 : Hid (cnt bs a1 1 4611686018427387904 = .error x)) :
    Calls Try.prog 59 #[.pointer (some ⟨rb, 0, none⟩)] w fun e w' => ∃ s q st, e = .returned (.agg #[.int .i64 s, .int .i64 q, .int .i64 st, .slice none 0 0]) ∧ (∃ a', RRb w' rb ao n c a' x) ∧ Kept w w' (fun j => j = rb) := by
  have H : Hid (RRb w rb ao n c a 0 ∧ Rd w0 ao n c bs ∧ Below w0.heap.size w0 w) := ⟨hb, hr0, hw⟩
  clear hb hr0 hw
  have hx : x ≠ 0 := cnt_nz h2.out
  go_enter Try.func59, Try.ntmps59
  go_wp2_with fail
  have S0 : Hid (St w ((w.alloc (.cells #[.int .i64 0, .int .i64 0, .int .i64 0, .slice none 0 0] 24)).alloc (.cells #[.int .i64 0, .int .i64 0, .int .i64 0, .slice none 0 0] 24)) rb #[.slice ao n c, .int .i64 a, .int .i64 0] 105 w.heap.size #[.int .i64 0, .int .i64 0, .int .i64 0, .slice none 0 0] (w.heap.size + 1) #[.int .i64 0, .int .i64 0, .int .i64 0, .slice none 0 0] 24) := St.two H.out.1
  generalize (w.alloc (.cells #[.int .i64 0, .int .i64 0, .int .i64 0, .slice none 0 0] 24)).alloc (.cells #[.int .i64 0, .int .i64 0, .int .i64 0, .slice none 0 0] 24) = W0 at *
  generalize w.heap.size + 1 = sb at *
  refine (rnum_ok rb n c ao bs a a1 0 15 s W0 S0.out.r (H.out.2.1.below (S0.out.below H.out.2.2 hrb)) (by omega) h1.out).mono ?_
  rintro e w1 ⟨rfl, hb1, hk1⟩
  have T0 : Hid (St w w1 rb #[.slice ao n c, .int .i64 a1, .int .i64 0] 105 w.heap.size #[.int .i64 0, .int .i64 0, .int .i64 0, .slice none 0 0] sb #[.int .i64 0, .int .i64 0, .int .i64 0, .slice none 0 0] 24) := S0.out.call hb1 hk1
  clear hb1 hk1 S0
  have f0 := T0.out.fz 0
  have q0 := fun i => T0.out.cell i
  have S1 : Hid (St w (w1.setCell ⟨sb, 0, none⟩ (.int .i64 s)) rb #[.slice ao n c, .int .i64 a1, .int .i64 0] 105 w.heap.size #[.int .i64 0, .int .i64 0, .int .i64 0, .slice none 0 0] sb #[.int .i64 s, .int .i64 0, .int .i64 0, .slice none 0 0] 24) := T0.out.store 0 (.int .i64 s)
  have p0 := fun i => S1.out.cell i
  go_wp2_with fail
  clear f0 q0 p0 T0
  generalize w1.setCell ⟨sb, 0, none⟩ (.int .i64 s) = W1 at *
  refine (rnum_err rb n c ao bs a1 1 4611686018427387904 x W1 S1.out.r (H.out.2.1.below (S1.out.below H.out.2.2 hrb)) (by omega) h2.out).mono ?_
  rintro e w2 ⟨rfl, ⟨ax, hb1⟩, hk1⟩
  have T1 : Hid (St w w2 rb #[.slice ao n c, .int .i64 ax, .int .i64 x] 105 w.heap.size #[.int .i64 0, .int .i64 0, .int .i64 0, .slice none 0 0] sb #[.int .i64 s, .int .i64 0, .int .i64 0, .slice none 0 0] 24) := S1.out.call hb1 hk1
  clear hb1 hk1 S1
  have f1 := T1.out.fz 1
  have q1 := fun i => T1.out.cell i
  have S2 : Hid (St w (w2.setCell ⟨sb, 1, none⟩ (.int .i64 0)) rb #[.slice ao n c, .int .i64 ax, .int .i64 x] 105 w.heap.size #[.int .i64 0, .int .i64 0, .int .i64 0, .slice none 0 0] sb #[.int .i64 s, .int .i64 0, .int .i64 0, .slice none 0 0] 24) := T1.out.store 1 (.int .i64 0)
  have p1 := fun i => S2.out.cell i
  go_wp2_with fail
  clear f1 q1 p1 T1
  generalize w2.setCell ⟨sb, 1, none⟩ (.int .i64 0) = W2 at *
  refine (rnum_stuck rb n c ao ax 0 4611686018427387904 x W2 S2.out.r hx).mono ?_
  rintro e w3 ⟨rfl, rfl⟩
  have T2 := S2
  clear S2
  have f2 := T2.out.fz 2
  have q2 := fun i => T2.out.cell i
  have S3 : Hid (St w (W2.setCell ⟨sb, 2, none⟩ (.int .i64 0)) rb #[.slice ao n c, .int .i64 ax, .int .i64 x] 105 w.heap.size #[.int .i64 0, .int .i64 0, .int .i64 0, .slice none 0 0] sb #[.int .i64 s, .int .i64 0, .int .i64 0, .slice none 0 0] 24) := T2.out.store 2 (.int .i64 0)
  have p2 := fun i => S3.out.cell i
  go_wp2_with fail
  clear f2 q2 p2 T2
  generalize W2.setCell ⟨sb, 2, none⟩ (.int .i64 0) = W3 at *
  refine (rbytes_stuck rb n c ao ax 0 256 x W3 S3.out.r hx).mono ?_
  rintro e w4 ⟨rfl, rfl⟩
  have T3 := S3
  clear S3
  have f3 := T3.out.fz 3
  have q3 := fun i => T3.out.cell i
  have S4 : Hid (St w (W3.setCell ⟨sb, 3, none⟩ (.slice none 0 0)) rb #[.slice ao n c, .int .i64 ax, .int .i64 x] 105 w.heap.size #[.int .i64 0, .int .i64 0, .int .i64 0, .slice none 0 0] sb #[.int .i64 s, .int .i64 0, .int .i64 0, .slice none 0 0] 24) := T3.out.store 3 (.slice none 0 0)
  have p3 := fun i => S4.out.cell i
  have o0 := fun i => S4.out.cellO i
  have g0 := S4.out.fzO 0
  have U0 : Hid (St w ((W3.setCell ⟨sb, 3, none⟩ (.slice none 0 0)).setCell ⟨w.heap.size, 0, none⟩ (.int .i64 s)) rb #[.slice ao n c, .int .i64 ax, .int .i64 x] 105 w.heap.size #[.int .i64 s, .int .i64 0, .int .i64 0, .slice none 0 0] sb #[.int .i64 s, .int .i64 0, .int .i64 0, .slice none 0 0] 24) := S4.out.storeO 0 (.int .i64 s)
  have o1 := fun i => U0.out.cellO i
  have g1 := U0.out.fzO 1
  have U1 : Hid (St w (((W3.setCell ⟨sb, 3, none⟩ (.slice none 0 0)).setCell ⟨w.heap.size, 0, none⟩ (.int .i64 s)).setCell ⟨w.heap.size, 1, none⟩ (.int .i64 0)) rb #[.slice ao n c, .int .i64 ax, .int .i64 x] 105 w.heap.size #[.int .i64 s, .int .i64 0, .int .i64 0, .slice none 0 0] sb #[.int .i64 s, .int .i64 0, .int .i64 0, .slice none 0 0] 24) := U0.out.storeO 1 (.int .i64 0)
  have o2 := fun i => U1.out.cellO i
  have g2 := U1.out.fzO 2
  have U2 : Hid (St w ((((W3.setCell ⟨sb, 3, none⟩ (.slice none 0 0)).setCell ⟨w.heap.size, 0, none⟩ (.int .i64 s)).setCell ⟨w.heap.size, 1, none⟩ (.int .i64 0)).setCell ⟨w.heap.size, 2, none⟩ (.int .i64 0)) rb #[.slice ao n c, .int .i64 ax, .int .i64 x] 105 w.heap.size #[.int .i64 s, .int .i64 0, .int .i64 0, .slice none 0 0] sb #[.int .i64 s, .int .i64 0, .int .i64 0, .slice none 0 0] 24) := U1.out.storeO 2 (.int .i64 0)
  have o3 := fun i => U2.out.cellO i
  have g3 := U2.out.fzO 3
  have U3 : Hid (St w (((((W3.setCell ⟨sb, 3, none⟩ (.slice none 0 0)).setCell ⟨w.heap.size, 0, none⟩ (.int .i64 s)).setCell ⟨w.heap.size, 1, none⟩ (.int .i64 0)).setCell ⟨w.heap.size, 2, none⟩ (.int .i64 0)).setCell ⟨w.heap.size, 3, none⟩ (.slice none 0 0)) rb #[.slice ao n c, .int .i64 ax, .int .i64 x] 105 w.heap.size #[.int .i64 s, .int .i64 0, .int .i64 0, .slice none 0 0] sb #[.int .i64 s, .int .i64 0, .int .i64 0, .slice none 0 0] 24) := U2.out.storeO 3 (.slice none 0 0)
  have oz := fun i => U3.out.cellO i
  go_wp2_with fail
  exact bodyPost_ret (v := .agg #[.int .i64 s, .int .i64 0, .int .i64 0, .slice none 0 0]) (by simp [results, Try.results59, go_sem, oz]) rfl ⟨_, _, _, rfl, ⟨_, U3.out.r⟩, U3.out.k⟩

set_option maxRecDepth 100000 in
set_option maxHeartbeats 2000000 in
theorem rdata_err2 (w0 : World) (rb n c : Nat) (ao : Option Addr) (bs : List Int) (a : Nat) (w : World) (hb : RRb w rb ao n c a 0) (hr0 : Rd w0 ao n c bs) (hw : Below w0.heap.size w0 w) (hrb : w0.heap.size ≤ rb) (hlen : n ≤ 300) (hnc : n ≤ c) (x : Int) (s : Int) (a1 : Nat) (q : Int) (a2 : Nat) (h1 : Hid (cnt bs a 0 15 = .ok (s, a1))) (h2 : Hid (cnt bs a1 1 4611686018427387904 = .ok (q, a2))) (h3 : Hid (cnt bs a2 0 4611686018427387904 = .error x)) :
    Calls Try.prog 59 #[.pointer (some ⟨rb, 0, none⟩)] w fun e w' => ∃ s q st, e = .returned (.agg #[.int .i64 s, .int .i64 q, .int .i64 st, .slice none 0 0]) ∧ (∃ a', RRb w' rb ao n c a' x) ∧ Kept w w' (fun j => j = rb) := by
  have H : Hid (RRb w rb ao n c a 0 ∧ Rd w0 ao n c bs ∧ Below w0.heap.size w0 w) := ⟨hb, hr0, hw⟩
  clear hb hr0 hw
  have hx : x ≠ 0 := cnt_nz h3.out
  go_enter Try.func59, Try.ntmps59
  go_wp2_with fail
  have S0 : Hid (St w ((w.alloc (.cells #[.int .i64 0, .int .i64 0, .int .i64 0, .slice none 0 0] 24)).alloc (.cells #[.int .i64 0, .int .i64 0, .int .i64 0, .slice none 0 0] 24)) rb #[.slice ao n c, .int .i64 a, .int .i64 0] 105 w.heap.size #[.int .i64 0, .int .i64 0, .int .i64 0, .slice none 0 0] (w.heap.size + 1) #[.int .i64 0, .int .i64 0, .int .i64 0, .slice none 0 0] 24) := St.two H.out.1
  generalize (w.alloc (.cells #[.int .i64 0, .int .i64 0, .int .i64 0, .slice none 0 0] 24)).alloc (.cells #[.int .i64 0, .int .i64 0, .int .i64 0, .slice none 0 0] 24) = W0 at *
  generalize w.heap.size + 1 = sb at *
  refine (rnum_ok rb n c ao bs a a1 0 15 s W0 S0.out.r (H.out.2.1.below (S0.out.below H.out.2.2 hrb)) (by omega) h1.out).mono ?_
  rintro e w1 ⟨rfl, hb1, hk1⟩
  have T0 : Hid (St w w1 rb #[.slice ao n c, .int .i64 a1, .int .i64 0] 105 w.heap.size #[.int .i64 0, .int .i64 0, .int .i64 0, .slice none 0 0] sb #[.int .i64 0, .int .i64 0, .int .i64 0, .slice none 0 0] 24) := S0.out.call hb1 hk1
  clear hb1 hk1 S0
  have f0 := T0.out.fz 0
  have q0 := fun i => T0.out.cell i
  have S1 : Hid (St w (w1.setCell ⟨sb, 0, none⟩ (.int .i64 s)) rb #[.slice ao n c, .int .i64 a1, .int .i64 0] 105 w.heap.size #[.int .i64 0, .int .i64 0, .int .i64 0, .slice none 0 0] sb #[.int .i64 s, .int .i64 0, .int .i64 0, .slice none 0 0] 24) := T0.out.store 0 (.int .i64 s)
  have p0 := fun i => S1.out.cell i
  go_wp2_with fail
  clear f0 q0 p0 T0
  generalize w1.setCell ⟨sb, 0, none⟩ (.int .i64 s) = W1 at *
  refine (rnum_ok rb n c ao bs a1 a2 1 4611686018427387904 q W1 S1.out.r (H.out.2.1.below (S1.out.below H.out.2.2 hrb)) (by omega) h2.out).mono ?_
  rintro e w2 ⟨rfl, hb1, hk1⟩
  have T1 : Hid (St w w2 rb #[.slice ao n c, .int .i64 a2, .int .i64 0] 105 w.heap.size #[.int .i64 0, .int .i64 0, .int .i64 0, .slice none 0 0] sb #[.int .i64 s, .int .i64 0, .int .i64 0, .slice none 0 0] 24) := S1.out.call hb1 hk1
  clear hb1 hk1 S1
  have f1 := T1.out.fz 1
  have q1 := fun i => T1.out.cell i
  have S2 : Hid (St w (w2.setCell ⟨sb, 1, none⟩ (.int .i64 q)) rb #[.slice ao n c, .int .i64 a2, .int .i64 0] 105 w.heap.size #[.int .i64 0, .int .i64 0, .int .i64 0, .slice none 0 0] sb #[.int .i64 s, .int .i64 q, .int .i64 0, .slice none 0 0] 24) := T1.out.store 1 (.int .i64 q)
  have p1 := fun i => S2.out.cell i
  go_wp2_with fail
  clear f1 q1 p1 T1
  generalize w2.setCell ⟨sb, 1, none⟩ (.int .i64 q) = W2 at *
  refine (rnum_err rb n c ao bs a2 0 4611686018427387904 x W2 S2.out.r (H.out.2.1.below (S2.out.below H.out.2.2 hrb)) (by omega) h3.out).mono ?_
  rintro e w3 ⟨rfl, ⟨ax, hb1⟩, hk1⟩
  have T2 : Hid (St w w3 rb #[.slice ao n c, .int .i64 ax, .int .i64 x] 105 w.heap.size #[.int .i64 0, .int .i64 0, .int .i64 0, .slice none 0 0] sb #[.int .i64 s, .int .i64 q, .int .i64 0, .slice none 0 0] 24) := S2.out.call hb1 hk1
  clear hb1 hk1 S2
  have f2 := T2.out.fz 2
  have q2 := fun i => T2.out.cell i
  have S3 : Hid (St w (w3.setCell ⟨sb, 2, none⟩ (.int .i64 0)) rb #[.slice ao n c, .int .i64 ax, .int .i64 x] 105 w.heap.size #[.int .i64 0, .int .i64 0, .int .i64 0, .slice none 0 0] sb #[.int .i64 s, .int .i64 q, .int .i64 0, .slice none 0 0] 24) := T2.out.store 2 (.int .i64 0)
  have p2 := fun i => S3.out.cell i
  go_wp2_with fail
  clear f2 q2 p2 T2
  generalize w3.setCell ⟨sb, 2, none⟩ (.int .i64 0) = W3 at *
  refine (rbytes_stuck rb n c ao ax 0 256 x W3 S3.out.r hx).mono ?_
  rintro e w4 ⟨rfl, rfl⟩
  have T3 := S3
  clear S3
  have f3 := T3.out.fz 3
  have q3 := fun i => T3.out.cell i
  have S4 : Hid (St w (W3.setCell ⟨sb, 3, none⟩ (.slice none 0 0)) rb #[.slice ao n c, .int .i64 ax, .int .i64 x] 105 w.heap.size #[.int .i64 0, .int .i64 0, .int .i64 0, .slice none 0 0] sb #[.int .i64 s, .int .i64 q, .int .i64 0, .slice none 0 0] 24) := T3.out.store 3 (.slice none 0 0)
  have p3 := fun i => S4.out.cell i
  have o0 := fun i => S4.out.cellO i
  have g0 := S4.out.fzO 0
  have U0 : Hid (St w ((W3.setCell ⟨sb, 3, none⟩ (.slice none 0 0)).setCell ⟨w.heap.size, 0, none⟩ (.int .i64 s)) rb #[.slice ao n c, .int .i64 ax, .int .i64 x] 105 w.heap.size #[.int .i64 s, .int .i64 0, .int .i64 0, .slice none 0 0] sb #[.int .i64 s, .int .i64 q, .int .i64 0, .slice none 0 0] 24) := S4.out.storeO 0 (.int .i64 s)
  have o1 := fun i => U0.out.cellO i
  have g1 := U0.out.fzO 1
  have U1 : Hid (St w (((W3.setCell ⟨sb, 3, none⟩ (.slice none 0 0)).setCell ⟨w.heap.size, 0, none⟩ (.int .i64 s)).setCell ⟨w.heap.size, 1, none⟩ (.int .i64 q)) rb #[.slice ao n c, .int .i64 ax, .int .i64 x] 105 w.heap.size #[.int .i64 s, .int .i64 q, .int .i64 0, .slice none 0 0] sb #[.int .i64 s, .int .i64 q, .int .i64 0, .slice none 0 0] 24) := U0.out.storeO 1 (.int .i64 q)
  have o2 := fun i => U1.out.cellO i
  have g2 := U1.out.fzO 2
  have U2 : Hid (St w ((((W3.setCell ⟨sb, 3, none⟩ (.slice none 0 0)).setCell ⟨w.heap.size, 0, none⟩ (.int .i64 s)).setCell ⟨w.heap.size, 1, none⟩ (.int .i64 q)).setCell ⟨w.heap.size, 2, none⟩ (.int .i64 0)) rb #[.slice ao n c, .int .i64 ax, .int .i64 x] 105 w.heap.size #[.int .i64 s, .int .i64 q, .int .i64 0, .slice none 0 0] sb #[.int .i64 s, .int .i64 q, .int .i64 0, .slice none 0 0] 24) := U1.out.storeO 2 (.int .i64 0)
  have o3 := fun i => U2.out.cellO i
  have g3 := U2.out.fzO 3
  have U3 : Hid (St w (((((W3.setCell ⟨sb, 3, none⟩ (.slice none 0 0)).setCell ⟨w.heap.size, 0, none⟩ (.int .i64 s)).setCell ⟨w.heap.size, 1, none⟩ (.int .i64 q)).setCell ⟨w.heap.size, 2, none⟩ (.int .i64 0)).setCell ⟨w.heap.size, 3, none⟩ (.slice none 0 0)) rb #[.slice ao n c, .int .i64 ax, .int .i64 x] 105 w.heap.size #[.int .i64 s, .int .i64 q, .int .i64 0, .slice none 0 0] sb #[.int .i64 s, .int .i64 q, .int .i64 0, .slice none 0 0] 24) := U2.out.storeO 3 (.slice none 0 0)
  have oz := fun i => U3.out.cellO i
  go_wp2_with fail
  exact bodyPost_ret (v := .agg #[.int .i64 s, .int .i64 q, .int .i64 0, .slice none 0 0]) (by simp [results, Try.results59, go_sem, oz]) rfl ⟨_, _, _, rfl, ⟨_, U3.out.r⟩, U3.out.k⟩

set_option maxRecDepth 100000 in
set_option maxHeartbeats 2000000 in
theorem rdata_err3 (w0 : World) (rb n c : Nat) (ao : Option Addr) (bs : List Int) (a : Nat) (w : World) (hb : RRb w rb ao n c a 0) (hr0 : Rd w0 ao n c bs) (hw : Below w0.heap.size w0 w) (hrb : w0.heap.size ≤ rb) (hlen : n ≤ 300) (hnc : n ≤ c) (x : Int) (s : Int) (a1 : Nat) (q : Int) (a2 : Nat) (st : Int) (a3 : Nat) (h1 : Hid (cnt bs a 0 15 = .ok (s, a1))) (h2 : Hid (cnt bs a1 1 4611686018427387904 = .ok (q, a2))) (h3 : Hid (cnt bs a2 0 4611686018427387904 = .ok (st, a3))) (h4 : Hid (cnt bs a3 0 256 = .error x)) :
    Calls Try.prog 59 #[.pointer (some ⟨rb, 0, none⟩)] w fun e w' => ∃ s q st, e = .returned (.agg #[.int .i64 s, .int .i64 q, .int .i64 st, .slice none 0 0]) ∧ (∃ a', RRb w' rb ao n c a' x) ∧ Kept w w' (fun j => j = rb) := by
  have H : Hid (RRb w rb ao n c a 0 ∧ Rd w0 ao n c bs ∧ Below w0.heap.size w0 w) := ⟨hb, hr0, hw⟩
  clear hb hr0 hw
  go_enter Try.func59, Try.ntmps59
  go_wp2_with fail
  have S0 : Hid (St w ((w.alloc (.cells #[.int .i64 0, .int .i64 0, .int .i64 0, .slice none 0 0] 24)).alloc (.cells #[.int .i64 0, .int .i64 0, .int .i64 0, .slice none 0 0] 24)) rb #[.slice ao n c, .int .i64 a, .int .i64 0] 105 w.heap.size #[.int .i64 0, .int .i64 0, .int .i64 0, .slice none 0 0] (w.heap.size + 1) #[.int .i64 0, .int .i64 0, .int .i64 0, .slice none 0 0] 24) := St.two H.out.1
  generalize (w.alloc (.cells #[.int .i64 0, .int .i64 0, .int .i64 0, .slice none 0 0] 24)).alloc (.cells #[.int .i64 0, .int .i64 0, .int .i64 0, .slice none 0 0] 24) = W0 at *
  generalize w.heap.size + 1 = sb at *
  refine (rnum_ok rb n c ao bs a a1 0 15 s W0 S0.out.r (H.out.2.1.below (S0.out.below H.out.2.2 hrb)) (by omega) h1.out).mono ?_
  rintro e w1 ⟨rfl, hb1, hk1⟩
  have T0 : Hid (St w w1 rb #[.slice ao n c, .int .i64 a1, .int .i64 0] 105 w.heap.size #[.int .i64 0, .int .i64 0, .int .i64 0, .slice none 0 0] sb #[.int .i64 0, .int .i64 0, .int .i64 0, .slice none 0 0] 24) := S0.out.call hb1 hk1
  clear hb1 hk1 S0
  have f0 := T0.out.fz 0
  have q0 := fun i => T0.out.cell i
  have S1 : Hid (St w (w1.setCell ⟨sb, 0, none⟩ (.int .i64 s)) rb #[.slice ao n c, .int .i64 a1, .int .i64 0] 105 w.heap.size #[.int .i64 0, .int .i64 0, .int .i64 0, .slice none 0 0] sb #[.int .i64 s, .int .i64 0, .int .i64 0, .slice none 0 0] 24) := T0.out.store 0 (.int .i64 s)
  have p0 := fun i => S1.out.cell i
  go_wp2_with fail
  clear f0 q0 p0 T0
  generalize w1.setCell ⟨sb, 0, none⟩ (.int .i64 s) = W1 at *
  refine (rnum_ok rb n c ao bs a1 a2 1 4611686018427387904 q W1 S1.out.r (H.out.2.1.below (S1.out.below H.out.2.2 hrb)) (by omega) h2.out).mono ?_
  rintro e w2 ⟨rfl, hb1, hk1⟩
  have T1 : Hid (St w w2 rb #[.slice ao n c, .int .i64 a2, .int .i64 0] 105 w.heap.size #[.int .i64 0, .int .i64 0, .int .i64 0, .slice none 0 0] sb #[.int .i64 s, .int .i64 0, .int .i64 0, .slice none 0 0] 24) := S1.out.call hb1 hk1
  clear hb1 hk1 S1
  have f1 := T1.out.fz 1
  have q1 := fun i => T1.out.cell i
  have S2 : Hid (St w (w2.setCell ⟨sb, 1, none⟩ (.int .i64 q)) rb #[.slice ao n c, .int .i64 a2, .int .i64 0] 105 w.heap.size #[.int .i64 0, .int .i64 0, .int .i64 0, .slice none 0 0] sb #[.int .i64 s, .int .i64 q, .int .i64 0, .slice none 0 0] 24) := T1.out.store 1 (.int .i64 q)
  have p1 := fun i => S2.out.cell i
  go_wp2_with fail
  clear f1 q1 p1 T1
  generalize w2.setCell ⟨sb, 1, none⟩ (.int .i64 q) = W2 at *
  refine (rnum_ok rb n c ao bs a2 a3 0 4611686018427387904 st W2 S2.out.r (H.out.2.1.below (S2.out.below H.out.2.2 hrb)) (by omega) h3.out).mono ?_
  rintro e w3 ⟨rfl, hb1, hk1⟩
  have T2 : Hid (St w w3 rb #[.slice ao n c, .int .i64 a3, .int .i64 0] 105 w.heap.size #[.int .i64 0, .int .i64 0, .int .i64 0, .slice none 0 0] sb #[.int .i64 s, .int .i64 q, .int .i64 0, .slice none 0 0] 24) := S2.out.call hb1 hk1
  clear hb1 hk1 S2
  have f2 := T2.out.fz 2
  have q2 := fun i => T2.out.cell i
  have S3 : Hid (St w (w3.setCell ⟨sb, 2, none⟩ (.int .i64 st)) rb #[.slice ao n c, .int .i64 a3, .int .i64 0] 105 w.heap.size #[.int .i64 0, .int .i64 0, .int .i64 0, .slice none 0 0] sb #[.int .i64 s, .int .i64 q, .int .i64 st, .slice none 0 0] 24) := T2.out.store 2 (.int .i64 st)
  have p2 := fun i => S3.out.cell i
  go_wp2_with fail
  clear f2 q2 p2 T2
  generalize w3.setCell ⟨sb, 2, none⟩ (.int .i64 st) = W3 at *
  refine (rbytes_err rb n c ao bs a3 0 256 x W3 S3.out.r (H.out.2.1.below (S3.out.below H.out.2.2 hrb)) hlen h4.out).mono ?_
  rintro e w4 ⟨rfl, ⟨ax, hb1⟩, hk1⟩
  have T3 : Hid (St w w4 rb #[.slice ao n c, .int .i64 ax, .int .i64 x] 105 w.heap.size #[.int .i64 0, .int .i64 0, .int .i64 0, .slice none 0 0] sb #[.int .i64 s, .int .i64 q, .int .i64 st, .slice none 0 0] 24) := S3.out.call hb1 hk1
  clear hb1 hk1 S3
  have f3 := T3.out.fz 3
  have q3 := fun i => T3.out.cell i
  have S4 : Hid (St w (w4.setCell ⟨sb, 3, none⟩ (.slice none 0 0)) rb #[.slice ao n c, .int .i64 ax, .int .i64 x] 105 w.heap.size #[.int .i64 0, .int .i64 0, .int .i64 0, .slice none 0 0] sb #[.int .i64 s, .int .i64 q, .int .i64 st, .slice none 0 0] 24) := T3.out.store 3 (.slice none 0 0)
  have p3 := fun i => S4.out.cell i
  have o0 := fun i => S4.out.cellO i
  have g0 := S4.out.fzO 0
  have U0 : Hid (St w ((w4.setCell ⟨sb, 3, none⟩ (.slice none 0 0)).setCell ⟨w.heap.size, 0, none⟩ (.int .i64 s)) rb #[.slice ao n c, .int .i64 ax, .int .i64 x] 105 w.heap.size #[.int .i64 s, .int .i64 0, .int .i64 0, .slice none 0 0] sb #[.int .i64 s, .int .i64 q, .int .i64 st, .slice none 0 0] 24) := S4.out.storeO 0 (.int .i64 s)
  have o1 := fun i => U0.out.cellO i
  have g1 := U0.out.fzO 1
  have U1 : Hid (St w (((w4.setCell ⟨sb, 3, none⟩ (.slice none 0 0)).setCell ⟨w.heap.size, 0, none⟩ (.int .i64 s)).setCell ⟨w.heap.size, 1, none⟩ (.int .i64 q)) rb #[.slice ao n c, .int .i64 ax, .int .i64 x] 105 w.heap.size #[.int .i64 s, .int .i64 q, .int .i64 0, .slice none 0 0] sb #[.int .i64 s, .int .i64 q, .int .i64 st, .slice none 0 0] 24) := U0.out.storeO 1 (.int .i64 q)
  have o2 := fun i => U1.out.cellO i
  have g2 := U1.out.fzO 2
  have U2 : Hid (St w ((((w4.setCell ⟨sb, 3, none⟩ (.slice none 0 0)).setCell ⟨w.heap.size, 0, none⟩ (.int .i64 s)).setCell ⟨w.heap.size, 1, none⟩ (.int .i64 q)).setCell ⟨w.heap.size, 2, none⟩ (.int .i64 st)) rb #[.slice ao n c, .int .i64 ax, .int .i64 x] 105 w.heap.size #[.int .i64 s, .int .i64 q, .int .i64 st, .slice none 0 0] sb #[.int .i64 s, .int .i64 q, .int .i64 st, .slice none 0 0] 24) := U1.out.storeO 2 (.int .i64 st)
  have o3 := fun i => U2.out.cellO i
  have g3 := U2.out.fzO 3
  have U3 : Hid (St w (((((w4.setCell ⟨sb, 3, none⟩ (.slice none 0 0)).setCell ⟨w.heap.size, 0, none⟩ (.int .i64 s)).setCell ⟨w.heap.size, 1, none⟩ (.int .i64 q)).setCell ⟨w.heap.size, 2, none⟩ (.int .i64 st)).setCell ⟨w.heap.size, 3, none⟩ (.slice none 0 0)) rb #[.slice ao n c, .int .i64 ax, .int .i64 x] 105 w.heap.size #[.int .i64 s, .int .i64 q, .int .i64 st, .slice none 0 0] sb #[.int .i64 s, .int .i64 q, .int .i64 st, .slice none 0 0] 24) := U2.out.storeO 3 (.slice none 0 0)
  have oz := fun i => U3.out.cellO i
  go_wp2_with fail
  exact bodyPost_ret (v := .agg #[.int .i64 s, .int .i64 q, .int .i64 st, .slice none 0 0]) (by simp [results, Try.results59, go_sem, oz]) rfl ⟨_, _, _, rfl, ⟨_, U3.out.r⟩, U3.out.k⟩

set_option maxRecDepth 100000 in
set_option maxHeartbeats 2000000 in
theorem rdata_err4 (w0 : World) (rb n c : Nat) (ao : Option Addr) (bs : List Int) (a : Nat) (w : World) (hb : RRb w rb ao n c a 0) (hr0 : Rd w0 ao n c bs) (hw : Below w0.heap.size w0 w) (hrb : w0.heap.size ≤ rb) (hlen : n ≤ 300) (hnc : n ≤ c) (s : Int) (a1 : Nat) (q : Int) (a2 : Nat) (st : Int) (a3 : Nat) (h1 : Hid (cnt bs a 0 15 = .ok (s, a1))) (h2 : Hid (cnt bs a1 1 4611686018427387904 = .ok (q, a2))) (h3 : Hid (cnt bs a2 0 4611686018427387904 = .ok (st, a3))) (k : Int) (a4 : Nat) (h4 : Hid (cnt bs a3 0 256 = .ok (k, a4))) (h5 : ¬ a4 + k.toNat ≤ bs.length) :
    Calls Try.prog 59 #[.pointer (some ⟨rb, 0, none⟩)] w fun e w' => ∃ s q st, e = .returned (.agg #[.int .i64 s, .int .i64 q, .int .i64 st, .slice none 0 0]) ∧ (∃ a', RRb w' rb ao n c a' 10) ∧ Kept w w' (fun j => j = rb) := by
  have H : Hid (RRb w rb ao n c a 0 ∧ Rd w0 ao n c bs ∧ Below w0.heap.size w0 w) := ⟨hb, hr0, hw⟩
  clear hb hr0 hw
  go_enter Try.func59, Try.ntmps59
  go_wp2_with fail
  have S0 : Hid (St w ((w.alloc (.cells #[.int .i64 0, .int .i64 0, .int .i64 0, .slice none 0 0] 24)).alloc (.cells #[.int .i64 0, .int .i64 0, .int .i64 0, .slice none 0 0] 24)) rb #[.slice ao n c, .int .i64 a, .int .i64 0] 105 w.heap.size #[.int .i64 0, .int .i64 0, .int .i64 0, .slice none 0 0] (w.heap.size + 1) #[.int .i64 0, .int .i64 0, .int .i64 0, .slice none 0 0] 24) := St.two H.out.1
  generalize (w.alloc (.cells #[.int .i64 0, .int .i64 0, .int .i64 0, .slice none 0 0] 24)).alloc (.cells #[.int .i64 0, .int .i64 0, .int .i64 0, .slice none 0 0] 24) = W0 at *
  generalize w.heap.size + 1 = sb at *
  refine (rnum_ok rb n c ao bs a a1 0 15 s W0 S0.out.r (H.out.2.1.below (S0.out.below H.out.2.2 hrb)) (by omega) h1.out).mono ?_
  rintro e w1 ⟨rfl, hb1, hk1⟩
  have T0 : Hid (St w w1 rb #[.slice ao n c, .int .i64 a1, .int .i64 0] 105 w.heap.size #[.int .i64 0, .int .i64 0, .int .i64 0, .slice none 0 0] sb #[.int .i64 0, .int .i64 0, .int .i64 0, .slice none 0 0] 24) := S0.out.call hb1 hk1
  clear hb1 hk1 S0
  have f0 := T0.out.fz 0
  have q0 := fun i => T0.out.cell i
  have S1 : Hid (St w (w1.setCell ⟨sb, 0, none⟩ (.int .i64 s)) rb #[.slice ao n c, .int .i64 a1, .int .i64 0] 105 w.heap.size #[.int .i64 0, .int .i64 0, .int .i64 0, .slice none 0 0] sb #[.int .i64 s, .int .i64 0, .int .i64 0, .slice none 0 0] 24) := T0.out.store 0 (.int .i64 s)
  have p0 := fun i => S1.out.cell i
  go_wp2_with fail
  clear f0 q0 p0 T0
  generalize w1.setCell ⟨sb, 0, none⟩ (.int .i64 s) = W1 at *
  refine (rnum_ok rb n c ao bs a1 a2 1 4611686018427387904 q W1 S1.out.r (H.out.2.1.below (S1.out.below H.out.2.2 hrb)) (by omega) h2.out).mono ?_
  rintro e w2 ⟨rfl, hb1, hk1⟩
  have T1 : Hid (St w w2 rb #[.slice ao n c, .int .i64 a2, .int .i64 0] 105 w.heap.size #[.int .i64 0, .int .i64 0, .int .i64 0, .slice none 0 0] sb #[.int .i64 s, .int .i64 0, .int .i64 0, .slice none 0 0] 24) := S1.out.call hb1 hk1
  clear hb1 hk1 S1
  have f1 := T1.out.fz 1
  have q1 := fun i => T1.out.cell i
  have S2 : Hid (St w (w2.setCell ⟨sb, 1, none⟩ (.int .i64 q)) rb #[.slice ao n c, .int .i64 a2, .int .i64 0] 105 w.heap.size #[.int .i64 0, .int .i64 0, .int .i64 0, .slice none 0 0] sb #[.int .i64 s, .int .i64 q, .int .i64 0, .slice none 0 0] 24) := T1.out.store 1 (.int .i64 q)
  have p1 := fun i => S2.out.cell i
  go_wp2_with fail
  clear f1 q1 p1 T1
  generalize w2.setCell ⟨sb, 1, none⟩ (.int .i64 q) = W2 at *
  refine (rnum_ok rb n c ao bs a2 a3 0 4611686018427387904 st W2 S2.out.r (H.out.2.1.below (S2.out.below H.out.2.2 hrb)) (by omega) h3.out).mono ?_
  rintro e w3 ⟨rfl, hb1, hk1⟩
  have T2 : Hid (St w w3 rb #[.slice ao n c, .int .i64 a3, .int .i64 0] 105 w.heap.size #[.int .i64 0, .int .i64 0, .int .i64 0, .slice none 0 0] sb #[.int .i64 s, .int .i64 q, .int .i64 0, .slice none 0 0] 24) := S2.out.call hb1 hk1
  clear hb1 hk1 S2
  have f2 := T2.out.fz 2
  have q2 := fun i => T2.out.cell i
  have S3 : Hid (St w (w3.setCell ⟨sb, 2, none⟩ (.int .i64 st)) rb #[.slice ao n c, .int .i64 a3, .int .i64 0] 105 w.heap.size #[.int .i64 0, .int .i64 0, .int .i64 0, .slice none 0 0] sb #[.int .i64 s, .int .i64 q, .int .i64 st, .slice none 0 0] 24) := T2.out.store 2 (.int .i64 st)
  have p2 := fun i => S3.out.cell i
  go_wp2_with fail
  clear f2 q2 p2 T2
  generalize w3.setCell ⟨sb, 2, none⟩ (.int .i64 st) = W3 at *
  refine (rbytes_short rb n c ao bs a3 a4 k 0 256 W3 S3.out.r (H.out.2.1.below (S3.out.below H.out.2.2 hrb)) hlen h4.out h5).mono ?_
  rintro e w4 ⟨rfl, ⟨ax, hb1⟩, hk1⟩
  have T3 : Hid (St w w4 rb #[.slice ao n c, .int .i64 ax, .int .i64 10] 105 w.heap.size #[.int .i64 0, .int .i64 0, .int .i64 0, .slice none 0 0] sb #[.int .i64 s, .int .i64 q, .int .i64 st, .slice none 0 0] 24) := S3.out.call hb1 hk1
  clear hb1 hk1 S3
  have f3 := T3.out.fz 3
  have q3 := fun i => T3.out.cell i
  have S4 : Hid (St w (w4.setCell ⟨sb, 3, none⟩ (.slice none 0 0)) rb #[.slice ao n c, .int .i64 ax, .int .i64 10] 105 w.heap.size #[.int .i64 0, .int .i64 0, .int .i64 0, .slice none 0 0] sb #[.int .i64 s, .int .i64 q, .int .i64 st, .slice none 0 0] 24) := T3.out.store 3 (.slice none 0 0)
  have p3 := fun i => S4.out.cell i
  have o0 := fun i => S4.out.cellO i
  have g0 := S4.out.fzO 0
  have U0 : Hid (St w ((w4.setCell ⟨sb, 3, none⟩ (.slice none 0 0)).setCell ⟨w.heap.size, 0, none⟩ (.int .i64 s)) rb #[.slice ao n c, .int .i64 ax, .int .i64 10] 105 w.heap.size #[.int .i64 s, .int .i64 0, .int .i64 0, .slice none 0 0] sb #[.int .i64 s, .int .i64 q, .int .i64 st, .slice none 0 0] 24) := S4.out.storeO 0 (.int .i64 s)
  have o1 := fun i => U0.out.cellO i
  have g1 := U0.out.fzO 1
  have U1 : Hid (St w (((w4.setCell ⟨sb, 3, none⟩ (.slice none 0 0)).setCell ⟨w.heap.size, 0, none⟩ (.int .i64 s)).setCell ⟨w.heap.size, 1, none⟩ (.int .i64 q)) rb #[.slice ao n c, .int .i64 ax, .int .i64 10] 105 w.heap.size #[.int .i64 s, .int .i64 q, .int .i64 0, .slice none 0 0] sb #[.int .i64 s, .int .i64 q, .int .i64 st, .slice none 0 0] 24) := U0.out.storeO 1 (.int .i64 q)
  have o2 := fun i => U1.out.cellO i
  have g2 := U1.out.fzO 2
  have U2 : Hid (St w ((((w4.setCell ⟨sb, 3, none⟩ (.slice none 0 0)).setCell ⟨w.heap.size, 0, none⟩ (.int .i64 s)).setCell ⟨w.heap.size, 1, none⟩ (.int .i64 q)).setCell ⟨w.heap.size, 2, none⟩ (.int .i64 st)) rb #[.slice ao n c, .int .i64 ax, .int .i64 10] 105 w.heap.size #[.int .i64 s, .int .i64 q, .int .i64 st, .slice none 0 0] sb #[.int .i64 s, .int .i64 q, .int .i64 st, .slice none 0 0] 24) := U1.out.storeO 2 (.int .i64 st)
  have o3 := fun i => U2.out.cellO i
  have g3 := U2.out.fzO 3
  have U3 : Hid (St w (((((w4.setCell ⟨sb, 3, none⟩ (.slice none 0 0)).setCell ⟨w.heap.size, 0, none⟩ (.int .i64 s)).setCell ⟨w.heap.size, 1, none⟩ (.int .i64 q)).setCell ⟨w.heap.size, 2, none⟩ (.int .i64 st)).setCell ⟨w.heap.size, 3, none⟩ (.slice none 0 0)) rb #[.slice ao n c, .int .i64 ax, .int .i64 10] 105 w.heap.size #[.int .i64 s, .int .i64 q, .int .i64 st, .slice none 0 0] sb #[.int .i64 s, .int .i64 q, .int .i64 st, .slice none 0 0] 24) := U2.out.storeO 3 (.slice none 0 0)
  have oz := fun i => U3.out.cellO i
  go_wp2_with fail
  exact bodyPost_ret (v := .agg #[.int .i64 s, .int .i64 q, .int .i64 st, .slice none 0 0]) (by simp [results, Try.results59, go_sem, oz]) rfl ⟨_, _, _, rfl, ⟨_, U3.out.r⟩, U3.out.k⟩

theorem rdata_err (w0 : World) (rb n c : Nat) (ao : Option Addr) (bs : List Int) (a : Nat) (w : World) (hb : RRb w rb ao n c a 0) (hr0 : Rd w0 ao n c bs) (hw : Below w0.heap.size w0 w) (hrb : w0.heap.size ≤ rb) (hlen : n ≤ 300) (hnc : n ≤ c) (x : Int) (h : decD bs a = .error x) :
    Calls Try.prog 59 #[.pointer (some ⟨rb, 0, none⟩)] w fun e w' => ∃ s q st, e = .returned (.agg #[.int .i64 s, .int .i64 q, .int .i64 st, .slice none 0 0]) ∧ (∃ a', RRb w' rb ao n c a' x) ∧ Kept w w' (fun j => j = rb) := by
  rcases decD_err h with h | ⟨s, a1, h1, h | ⟨q, a2, h2, h | ⟨st, a3, h3, h | ⟨k, a4, h4, h5, rfl⟩⟩⟩⟩
  · exact rdata_err0 w0 rb n c ao bs a w hb hr0 hw hrb hlen hnc x h
  · exact rdata_err1 w0 rb n c ao bs a w hb hr0 hw hrb hlen hnc x s a1 h1 h
  · exact rdata_err2 w0 rb n c ao bs a w hb hr0 hw hrb hlen hnc x s a1 q a2 h1 h2 h
  · exact rdata_err3 w0 rb n c ao bs a w hb hr0 hw hrb hlen hnc x s a1 q a2 st a3 h1 h2 h3 h
  · exact rdata_err4 w0 rb n c ao bs a w hb hr0 hw hrb hlen hnc s a1 q a2 st a3 h1 h2 h3 k a4 h4 h5

set_option maxRecDepth 100000 in
set_option maxHeartbeats 2000000 in
theorem rdata_ok (w0 : World) (rb n c : Nat) (ao : Option Addr) (bs : List Int) (a : Nat) (w : World) (hb : RRb w rb ao n c a 0) (hr0 : Rd w0 ao n c bs) (hw : Below w0.heap.size w0 w) (hrb : w0.heap.size ≤ rb) (hlen : n ≤ 300) (hnc : n ≤ c) (a' : Nat) (s q st : Int) (body : List Int) (h : decD bs a = .ok ((s, q, st, body), a')) :
    Calls Try.prog 59 #[.pointer (some ⟨rb, 0, none⟩)] w fun e w' => ∃ ab cb, e = .returned (.agg #[.int .i64 s, .int .i64 q, .int .i64 st, .slice ab body.length cb]) ∧ Own w' w.heap.size (.slice ab body.length cb) body ∧ RRb w' rb ao n c a' 0 ∧ Kept w w' (fun j => j = rb) := by
  have H : Hid (RRb w rb ao n c a 0 ∧ Rd w0 ao n c bs ∧ Below w0.heap.size w0 w) := ⟨hb, hr0, hw⟩
  clear hb hr0 hw
  obtain ⟨a1, a2, a3, a4, k, g1, g2, g3, g4, hf, hbody, ha'⟩ := decD_ok h
  have h1 : Hid (cnt bs a 0 15 = .ok (s, a1)) := g1
  have h2 : Hid (cnt bs a1 1 4611686018427387904 = .ok (q, a2)) := g2
  have h3 : Hid (cnt bs a2 0 4611686018427387904 = .ok (st, a3)) := g3
  have h4 : Hid (cnt bs a3 0 256 = .ok (k, a4)) := g4
  have HB : Hid (body = (bs.drop a4).take k.toNat ∧ a' = a4 + k.toNat ∧ a4 + k.toNat ≤ bs.length) := ⟨hbody, ha', hf⟩
  clear g1 g2 g3 g4 hf hbody ha' h
  go_enter Try.func59, Try.ntmps59
  go_wp2_with fail
  have S0 : Hid (St w ((w.alloc (.cells #[.int .i64 0, .int .i64 0, .int .i64 0, .slice none 0 0] 24)).alloc (.cells #[.int .i64 0, .int .i64 0, .int .i64 0, .slice none 0 0] 24)) rb #[.slice ao n c, .int .i64 a, .int .i64 0] 105 w.heap.size #[.int .i64 0, .int .i64 0, .int .i64 0, .slice none 0 0] (w.heap.size + 1) #[.int .i64 0, .int .i64 0, .int .i64 0, .slice none 0 0] 24) := St.two H.out.1
  generalize (w.alloc (.cells #[.int .i64 0, .int .i64 0, .int .i64 0, .slice none 0 0] 24)).alloc (.cells #[.int .i64 0, .int .i64 0, .int .i64 0, .slice none 0 0] 24) = W0 at *
  generalize w.heap.size + 1 = sb at *
  refine (rnum_ok rb n c ao bs a a1 0 15 s W0 S0.out.r (H.out.2.1.below (S0.out.below H.out.2.2 hrb)) (by omega) h1.out).mono ?_
  rintro e w1 ⟨rfl, hb1, hk1⟩
  have T0 : Hid (St w w1 rb #[.slice ao n c, .int .i64 a1, .int .i64 0] 105 w.heap.size #[.int .i64 0, .int .i64 0, .int .i64 0, .slice none 0 0] sb #[.int .i64 0, .int .i64 0, .int .i64 0, .slice none 0 0] 24) := S0.out.call hb1 hk1
  clear hb1 hk1 S0
  have f0 := T0.out.fz 0
  have q0 := fun i => T0.out.cell i
  have S1 : Hid (St w (w1.setCell ⟨sb, 0, none⟩ (.int .i64 s)) rb #[.slice ao n c, .int .i64 a1, .int .i64 0] 105 w.heap.size #[.int .i64 0, .int .i64 0, .int .i64 0, .slice none 0 0] sb #[.int .i64 s, .int .i64 0, .int .i64 0, .slice none 0 0] 24) := T0.out.store 0 (.int .i64 s)
  have p0 := fun i => S1.out.cell i
  go_wp2_with fail
  clear f0 q0 p0 T0
  generalize w1.setCell ⟨sb, 0, none⟩ (.int .i64 s) = W1 at *
  refine (rnum_ok rb n c ao bs a1 a2 1 4611686018427387904 q W1 S1.out.r (H.out.2.1.below (S1.out.below H.out.2.2 hrb)) (by omega) h2.out).mono ?_
  rintro e w2 ⟨rfl, hb1, hk1⟩
  have T1 : Hid (St w w2 rb #[.slice ao n c, .int .i64 a2, .int .i64 0] 105 w.heap.size #[.int .i64 0, .int .i64 0, .int .i64 0, .slice none 0 0] sb #[.int .i64 s, .int .i64 0, .int .i64 0, .slice none 0 0] 24) := S1.out.call hb1 hk1
  clear hb1 hk1 S1
  have f1 := T1.out.fz 1
  have q1 := fun i => T1.out.cell i
  have S2 : Hid (St w (w2.setCell ⟨sb, 1, none⟩ (.int .i64 q)) rb #[.slice ao n c, .int .i64 a2, .int .i64 0] 105 w.heap.size #[.int .i64 0, .int .i64 0, .int .i64 0, .slice none 0 0] sb #[.int .i64 s, .int .i64 q, .int .i64 0, .slice none 0 0] 24) := T1.out.store 1 (.int .i64 q)
  have p1 := fun i => S2.out.cell i
  go_wp2_with fail
  clear f1 q1 p1 T1
  generalize w2.setCell ⟨sb, 1, none⟩ (.int .i64 q) = W2 at *
  refine (rnum_ok rb n c ao bs a2 a3 0 4611686018427387904 st W2 S2.out.r (H.out.2.1.below (S2.out.below H.out.2.2 hrb)) (by omega) h3.out).mono ?_
  rintro e w3 ⟨rfl, hb1, hk1⟩
  have T2 : Hid (St w w3 rb #[.slice ao n c, .int .i64 a3, .int .i64 0] 105 w.heap.size #[.int .i64 0, .int .i64 0, .int .i64 0, .slice none 0 0] sb #[.int .i64 s, .int .i64 q, .int .i64 0, .slice none 0 0] 24) := S2.out.call hb1 hk1
  clear hb1 hk1 S2
  have f2 := T2.out.fz 2
  have q2 := fun i => T2.out.cell i
  have S3 : Hid (St w (w3.setCell ⟨sb, 2, none⟩ (.int .i64 st)) rb #[.slice ao n c, .int .i64 a3, .int .i64 0] 105 w.heap.size #[.int .i64 0, .int .i64 0, .int .i64 0, .slice none 0 0] sb #[.int .i64 s, .int .i64 q, .int .i64 st, .slice none 0 0] 24) := T2.out.store 2 (.int .i64 st)
  have p2 := fun i => S3.out.cell i
  go_wp2_with fail
  clear f2 q2 p2 T2
  generalize w3.setCell ⟨sb, 2, none⟩ (.int .i64 st) = W3 at *
  refine (rbytes_ok w0 rb n c ao bs a3 a4 k 0 256 W3 S3.out.r H.out.2.1 (S3.out.below H.out.2.2 hrb) hrb hlen hnc h4.out HB.out.2.2).mono ?_
  rintro e w4 ⟨v, rfl, ho, hb1, hk1⟩
  rw [← HB.out.1] at ho
  rw [← HB.out.2.1] at hb1
  obtain ⟨ab, cb, rfl⟩ : ∃ ab cb, v = .slice ab body.length cb := own_slice ho
  have T3 : Hid (St w w4 rb #[.slice ao n c, .int .i64 a', .int .i64 0] 105 w.heap.size #[.int .i64 0, .int .i64 0, .int .i64 0, .slice none 0 0] sb #[.int .i64 s, .int .i64 q, .int .i64 st, .slice none 0 0] 24) := S3.out.call hb1 hk1
  have HO : Hid (Own w4 W3.heap.size (.slice ab body.length cb) body) := ho
  have hz := S3.out.k.size
  have hso := lt_heap S3.out.o
  have hss := lt_heap S3.out.s
  clear hb1 hk1 ho S3
  have f3 := T3.out.fz 3
  have q3 := fun i => T3.out.cell i
  have S4 : Hid (St w (w4.setCell ⟨sb, 3, none⟩ (.slice ab body.length cb)) rb #[.slice ao n c, .int .i64 a', .int .i64 0] 105 w.heap.size #[.int .i64 0, .int .i64 0, .int .i64 0, .slice none 0 0] sb #[.int .i64 s, .int .i64 q, .int .i64 st, .slice ab body.length cb] 24) := T3.out.store 3 (.slice ab body.length cb)
  have p3 := fun i => S4.out.cell i
  have o0 := fun i => S4.out.cellO i
  have g0 := S4.out.fzO 0
  have U0 : Hid (St w ((w4.setCell ⟨sb, 3, none⟩ (.slice ab body.length cb)).setCell ⟨w.heap.size, 0, none⟩ (.int .i64 s)) rb #[.slice ao n c, .int .i64 a', .int .i64 0] 105 w.heap.size #[.int .i64 s, .int .i64 0, .int .i64 0, .slice none 0 0] sb #[.int .i64 s, .int .i64 q, .int .i64 st, .slice ab body.length cb] 24) := S4.out.storeO 0 (.int .i64 s)
  have o1 := fun i => U0.out.cellO i
  have g1 := U0.out.fzO 1
  have U1 : Hid (St w (((w4.setCell ⟨sb, 3, none⟩ (.slice ab body.length cb)).setCell ⟨w.heap.size, 0, none⟩ (.int .i64 s)).setCell ⟨w.heap.size, 1, none⟩ (.int .i64 q)) rb #[.slice ao n c, .int .i64 a', .int .i64 0] 105 w.heap.size #[.int .i64 s, .int .i64 q, .int .i64 0, .slice none 0 0] sb #[.int .i64 s, .int .i64 q, .int .i64 st, .slice ab body.length cb] 24) := U0.out.storeO 1 (.int .i64 q)
  have o2 := fun i => U1.out.cellO i
  have g2 := U1.out.fzO 2
  have U2 : Hid (St w ((((w4.setCell ⟨sb, 3, none⟩ (.slice ab body.length cb)).setCell ⟨w.heap.size, 0, none⟩ (.int .i64 s)).setCell ⟨w.heap.size, 1, none⟩ (.int .i64 q)).setCell ⟨w.heap.size, 2, none⟩ (.int .i64 st)) rb #[.slice ao n c, .int .i64 a', .int .i64 0] 105 w.heap.size #[.int .i64 s, .int .i64 q, .int .i64 st, .slice none 0 0] sb #[.int .i64 s, .int .i64 q, .int .i64 st, .slice ab body.length cb] 24) := U1.out.storeO 2 (.int .i64 st)
  have o3 := fun i => U2.out.cellO i
  have g3 := U2.out.fzO 3
  have U3 : Hid (St w (((((w4.setCell ⟨sb, 3, none⟩ (.slice ab body.length cb)).setCell ⟨w.heap.size, 0, none⟩ (.int .i64 s)).setCell ⟨w.heap.size, 1, none⟩ (.int .i64 q)).setCell ⟨w.heap.size, 2, none⟩ (.int .i64 st)).setCell ⟨w.heap.size, 3, none⟩ (.slice ab body.length cb)) rb #[.slice ao n c, .int .i64 a', .int .i64 0] 105 w.heap.size #[.int .i64 s, .int .i64 q, .int .i64 st, .slice ab body.length cb] sb #[.int .i64 s, .int .i64 q, .int .i64 st, .slice ab body.length cb] 24) := U2.out.storeO 3 (.slice ab body.length cb)
  have oz := fun i => U3.out.cellO i
  have HOF : Hid (Own (((((w4.setCell ⟨sb, 3, none⟩ (.slice ab body.length cb)).setCell ⟨w.heap.size, 0, none⟩ (.int .i64 s)).setCell ⟨w.heap.size, 1, none⟩ (.int .i64 q)).setCell ⟨w.heap.size, 2, none⟩ (.int .i64 st)).setCell ⟨w.heap.size, 3, none⟩ (.slice ab body.length cb)) w.heap.size (.slice ab body.length cb) body) := Own.mono (own_set (own_set (own_set (own_set (own_set HO.out hss 3 _) hso 0 _) hso 1 _) hso 2 _) hso 3 _) hz
  go_wp2_with fail
  exact bodyPost_ret (v := .agg #[.int .i64 s, .int .i64 q, .int .i64 st, .slice ab body.length cb]) (by simp [results, Try.results59, go_sem, oz]) rfl ⟨ab, cb, rfl, HOF.out, U3.out.r, U3.out.k⟩

end Go.Proofs.Ytbjpbcanmpimnab.Lo
