import Derived.Test.YtbjpbcanmpimnabRdr3
namespace Go.Proofs.Ytbjpbcanmpimnab.Lo
open Go.RowKit Bk
set_option linter.unusedVariables false

set_option maxRecDepth 100000 in
set_option maxHeartbeats 2000000 in
theorem wdata_err0 (w0 : World) (rb n c : Nat) (ao : Option Addr) (bs : List Int) (a : Nat) (w : World) (hb : Rb w rb ao n c a) (hr0 : Rd w0 ao n c bs) (hw : Below w0.heap.size w0 w) (hrb : w0.heap.size ≤ rb) (hlen : n ≤ 300) (hnc : n ≤ c) (x : Int)   (h1 : Hid (cnt bs a 0 15 = .error x)) :
    Calls Try.prog 68 #[.pointer (some ⟨rb, 0, none⟩), .agg #[.int .i64 0, .int .i64 0, .int .i64 0, .slice none 0 0]] w fun e w' => e = boom x ∧ Kept w w' (fun j => j = rb) := by
  have H : Hid (Rb w rb ao n c a ∧ Rd w0 ao n c bs ∧ Below w0.heap.size w0 w) := ⟨hb, hr0, hw⟩
  clear hb hr0 hw
  go_enter Try.func68, Try.ntmps68
  go_wp2_with fail
  have S0 : Hid (St w (((w.alloc (.cells #[.int .i64 0, .int .i64 0, .int .i64 0, .slice none 0 0] 24)).alloc (.cells #[.int .i64 0, .int .i64 0, .int .i64 0, .slice none 0 0] 24)).alloc (.cells #[.int .i64 0, .int .i64 0, .int .i64 0, .slice none 0 0] 24)) rb #[.slice ao n c, .int .i64 a] 114 (w.heap.size + 1) #[.int .i64 0, .int .i64 0, .int .i64 0, .slice none 0 0] (w.heap.size + 1 + 1) #[.int .i64 0, .int .i64 0, .int .i64 0, .slice none 0 0] 24) := St.three H.out.1
  have A0 : Hid ((((w.alloc (.cells #[.int .i64 0, .int .i64 0, .int .i64 0, .slice none 0 0] 24)).alloc (.cells #[.int .i64 0, .int .i64 0, .int .i64 0, .slice none 0 0] 24)).alloc (.cells #[.int .i64 0, .int .i64 0, .int .i64 0, .slice none 0 0] 24)).heap[w.heap.size]? = some (.cells #[.int .i64 0, .int .i64 0, .int .i64 0, .slice none 0 0] 24 (0, 0))) := blk_alloc (blk_alloc (heap_alloc_new w _))
  generalize ((w.alloc (.cells #[.int .i64 0, .int .i64 0, .int .i64 0, .slice none 0 0] 24)).alloc (.cells #[.int .i64 0, .int .i64 0, .int .i64 0, .slice none 0 0] 24)).alloc (.cells #[.int .i64 0, .int .i64 0, .int .i64 0, .slice none 0 0] 24) = W0 at *
  have gl : w.heap.size ≠ w.heap.size + 1 + 1 := by omega
  generalize w.heap.size + 1 + 1 = sb at *
  generalize w.heap.size + 1 = ob at *
  refine (count_err rb n c ao bs a 0 15 x W0 S0.out.r (H.out.2.1.below (S0.out.below H.out.2.2 hrb)) (by omega) h1.out).mono ?_
  rintro e w1 ⟨rfl, hk1⟩
  have HF : Hid (Kept w w1 (fun j => j = rb)) := S0.out.k.trans hk1
  clear hk1 S0
  unfold boom
  go_wp2_with fail
  exact ⟨rfl, rfl, HF.out⟩

set_option maxRecDepth 100000 in
set_option maxHeartbeats 2000000 in
theorem wdata_err1 (w0 : World) (rb n c : Nat) (ao : Option Addr) (bs : List Int) (a : Nat) (w : World) (hb : Rb w rb ao n c a) (hr0 : Rd w0 ao n c bs) (hw : Below w0.heap.size w0 w) (hrb : w0.heap.size ≤ rb) (hlen : n ≤ 300) (hnc : n ≤ c) (x : Int) (s : Int) (a1 : Nat) (h1 : Hid (cnt bs a 0 15 = .ok (s, a1))) (h2 : Hid (cnt bs a1 1 4611686018427387904 = .error x)) :
    Calls Try.prog 68 #[.pointer (some ⟨rb, 0, none⟩), .agg #[.int .i64 0, .int .i64 0, .int .i64 0, .slice none 0 0]] w fun e w' => e = boom x ∧ Kept w w' (fun j => j = rb) := by
  have H : Hid (Rb w rb ao n c a ∧ Rd w0 ao n c bs ∧ Below w0.heap.size w0 w) := ⟨hb, hr0, hw⟩
  clear hb hr0 hw
  rcases Decidable.em (s = 0) with hs | hs
  · subst hs
    go_enter Try.func68, Try.ntmps68
    go_wp2_with fail
    have S0 : Hid (St w (((w.alloc (.cells #[.int .i64 0, .int .i64 0, .int .i64 0, .slice none 0 0] 24)).alloc (.cells #[.int .i64 0, .int .i64 0, .int .i64 0, .slice none 0 0] 24)).alloc (.cells #[.int .i64 0, .int .i64 0, .int .i64 0, .slice none 0 0] 24)) rb #[.slice ao n c, .int .i64 a] 114 (w.heap.size + 1) #[.int .i64 0, .int .i64 0, .int .i64 0, .slice none 0 0] (w.heap.size + 1 + 1) #[.int .i64 0, .int .i64 0, .int .i64 0, .slice none 0 0] 24) := St.three H.out.1
    have A0 : Hid ((((w.alloc (.cells #[.int .i64 0, .int .i64 0, .int .i64 0, .slice none 0 0] 24)).alloc (.cells #[.int .i64 0, .int .i64 0, .int .i64 0, .slice none 0 0] 24)).alloc (.cells #[.int .i64 0, .int .i64 0, .int .i64 0, .slice none 0 0] 24)).heap[w.heap.size]? = some (.cells #[.int .i64 0, .int .i64 0, .int .i64 0, .slice none 0 0] 24 (0, 0))) := blk_alloc (blk_alloc (heap_alloc_new w _))
    generalize ((w.alloc (.cells #[.int .i64 0, .int .i64 0, .int .i64 0, .slice none 0 0] 24)).alloc (.cells #[.int .i64 0, .int .i64 0, .int .i64 0, .slice none 0 0] 24)).alloc (.cells #[.int .i64 0, .int .i64 0, .int .i64 0, .slice none 0 0] 24) = W0 at *
    have gl : w.heap.size ≠ w.heap.size + 1 + 1 := by omega
    generalize w.heap.size + 1 + 1 = sb at *
    generalize w.heap.size + 1 = ob at *
    refine (count_ok rb n c ao bs a a1 0 15 0 W0 S0.out.r (H.out.2.1.below (S0.out.below H.out.2.2 hrb)) (by omega) h1.out).mono ?_
    rintro e w1 ⟨rfl, hb1, hk1⟩
    have T0 : Hid (St w w1 rb #[.slice ao n c, .int .i64 a1] 114 ob #[.int .i64 0, .int .i64 0, .int .i64 0, .slice none 0 0] sb #[.int .i64 0, .int .i64 0, .int .i64 0, .slice none 0 0] 24) := S0.out.call hb1 hk1
    have A1 : Hid (w1.heap[w.heap.size]? = some (.cells #[.int .i64 0, .int .i64 0, .int .i64 0, .slice none 0 0] 24 (0, 0))) := (hk1.block _ (lt_heap A0.out) (by have := lt_heap H.out.1; show ¬ w.heap.size = rb; omega)).trans A0.out
    have A2 : Hid ((w1.setCell ⟨sb, 0, none⟩ (.int .i64 0)).heap[w.heap.size]? = some (.cells #[.int .i64 0, .int .i64 0, .int .i64 0, .slice none 0 0] 24 (0, 0))) := (Below.heap_setCell w1 ⟨sb, 0, none⟩ _ w.heap.size (by show ¬ w.heap.size = sb; exact gl)).trans A1.out
    have qa := fun i => blk_cell A2.out i
    have f0 := T0.out.fz 0
    have q0 := fun i => T0.out.cell i
    have S1 : Hid (St w (w1.setCell ⟨sb, 0, none⟩ (.int .i64 0)) rb #[.slice ao n c, .int .i64 a1] 114 ob #[.int .i64 0, .int .i64 0, .int .i64 0, .slice none 0 0] sb #[.int .i64 0, .int .i64 0, .int .i64 0, .slice none 0 0] 24) := T0.out.store 0 (.int .i64 0)
    have p0 := fun i => S1.out.cell i
    clear hb1 hk1 S0 A0 A1 A2
    go_wp2_with fail
    clear f0 q0 p0 T0 qa
    generalize w1.setCell ⟨sb, 0, none⟩ (.int .i64 0) = W1 at *
    refine (count_err rb n c ao bs a1 1 4611686018427387904 x W1 S1.out.r (H.out.2.1.below (S1.out.below H.out.2.2 hrb)) (by omega) h2.out).mono ?_
    rintro e w2 ⟨rfl, hk1⟩
    have HF : Hid (Kept w w2 (fun j => j = rb)) := S1.out.k.trans hk1
    clear hk1 S1
    unfold boom
    go_wp2_with fail
    exact ⟨rfl, rfl, HF.out⟩
  · go_enter Try.func68, Try.ntmps68
    go_wp2_with fail
    have S0 : Hid (St w (((w.alloc (.cells #[.int .i64 0, .int .i64 0, .int .i64 0, .slice none 0 0] 24)).alloc (.cells #[.int .i64 0, .int .i64 0, .int .i64 0, .slice none 0 0] 24)).alloc (.cells #[.int .i64 0, .int .i64 0, .int .i64 0, .slice none 0 0] 24)) rb #[.slice ao n c, .int .i64 a] 114 (w.heap.size + 1) #[.int .i64 0, .int .i64 0, .int .i64 0, .slice none 0 0] (w.heap.size + 1 + 1) #[.int .i64 0, .int .i64 0, .int .i64 0, .slice none 0 0] 24) := St.three H.out.1
    have A0 : Hid ((((w.alloc (.cells #[.int .i64 0, .int .i64 0, .int .i64 0, .slice none 0 0] 24)).alloc (.cells #[.int .i64 0, .int .i64 0, .int .i64 0, .slice none 0 0] 24)).alloc (.cells #[.int .i64 0, .int .i64 0, .int .i64 0, .slice none 0 0] 24)).heap[w.heap.size]? = some (.cells #[.int .i64 0, .int .i64 0, .int .i64 0, .slice none 0 0] 24 (0, 0))) := blk_alloc (blk_alloc (heap_alloc_new w _))
    generalize ((w.alloc (.cells #[.int .i64 0, .int .i64 0, .int .i64 0, .slice none 0 0] 24)).alloc (.cells #[.int .i64 0, .int .i64 0, .int .i64 0, .slice none 0 0] 24)).alloc (.cells #[.int .i64 0, .int .i64 0, .int .i64 0, .slice none 0 0] 24) = W0 at *
    have gl : w.heap.size ≠ w.heap.size + 1 + 1 := by omega
    generalize w.heap.size + 1 + 1 = sb at *
    generalize w.heap.size + 1 = ob at *
    refine (count_ok rb n c ao bs a a1 0 15 s W0 S0.out.r (H.out.2.1.below (S0.out.below H.out.2.2 hrb)) (by omega) h1.out).mono ?_
    rintro e w1 ⟨rfl, hb1, hk1⟩
    have T0 : Hid (St w w1 rb #[.slice ao n c, .int .i64 a1] 114 ob #[.int .i64 0, .int .i64 0, .int .i64 0, .slice none 0 0] sb #[.int .i64 0, .int .i64 0, .int .i64 0, .slice none 0 0] 24) := S0.out.call hb1 hk1
    have A1 : Hid (w1.heap[w.heap.size]? = some (.cells #[.int .i64 0, .int .i64 0, .int .i64 0, .slice none 0 0] 24 (0, 0))) := (hk1.block _ (lt_heap A0.out) (by have := lt_heap H.out.1; show ¬ w.heap.size = rb; omega)).trans A0.out
    have A2 : Hid ((w1.setCell ⟨sb, 0, none⟩ (.int .i64 s)).heap[w.heap.size]? = some (.cells #[.int .i64 0, .int .i64 0, .int .i64 0, .slice none 0 0] 24 (0, 0))) := (Below.heap_setCell w1 ⟨sb, 0, none⟩ _ w.heap.size (by show ¬ w.heap.size = sb; exact gl)).trans A1.out
    have qa := fun i => blk_cell A2.out i
    have f0 := T0.out.fz 0
    have q0 := fun i => T0.out.cell i
    have S1 : Hid (St w (w1.setCell ⟨sb, 0, none⟩ (.int .i64 s)) rb #[.slice ao n c, .int .i64 a1] 114 ob #[.int .i64 0, .int .i64 0, .int .i64 0, .slice none 0 0] sb #[.int .i64 s, .int .i64 0, .int .i64 0, .slice none 0 0] 24) := T0.out.store 0 (.int .i64 s)
    have p0 := fun i => S1.out.cell i
    clear hb1 hk1 S0 A0 A1 A2
    go_wp2_with fail
    clear f0 q0 p0 T0 qa
    generalize w1.setCell ⟨sb, 0, none⟩ (.int .i64 s) = W1 at *
    refine (count_err rb n c ao bs a1 1 4611686018427387904 x W1 S1.out.r (H.out.2.1.below (S1.out.below H.out.2.2 hrb)) (by omega) h2.out).mono ?_
    rintro e w2 ⟨rfl, hk1⟩
    have HF : Hid (Kept w w2 (fun j => j = rb)) := S1.out.k.trans hk1
    clear hk1 S1
    unfold boom
    go_wp2_with fail
    exact ⟨rfl, rfl, HF.out⟩

set_option maxRecDepth 100000 in
set_option maxHeartbeats 2000000 in
theorem wdata_err2 (w0 : World) (rb n c : Nat) (ao : Option Addr) (bs : List Int) (a : Nat) (w : World) (hb : Rb w rb ao n c a) (hr0 : Rd w0 ao n c bs) (hw : Below w0.heap.size w0 w) (hrb : w0.heap.size ≤ rb) (hlen : n ≤ 300) (hnc : n ≤ c) (x : Int) (s : Int) (a1 : Nat) (q : Int) (a2 : Nat) (h1 : Hid (cnt bs a 0 15 = .ok (s, a1))) (h2 : Hid (cnt bs a1 1 4611686018427387904 = .ok (q, a2))) (h3 : Hid (cnt bs a2 0 4611686018427387904 = .error x)) :
    Calls Try.prog 68 #[.pointer (some ⟨rb, 0, none⟩), .agg #[.int .i64 0, .int .i64 0, .int .i64 0, .slice none 0 0]] w fun e w' => e = boom x ∧ Kept w w' (fun j => j = rb) := by
  have H : Hid (Rb w rb ao n c a ∧ Rd w0 ao n c bs ∧ Below w0.heap.size w0 w) := ⟨hb, hr0, hw⟩
  clear hb hr0 hw
  rcases Decidable.em (s = 0) with hs | hs
  · subst hs
    go_enter Try.func68, Try.ntmps68
    go_wp2_with fail
    have S0 : Hid (St w (((w.alloc (.cells #[.int .i64 0, .int .i64 0, .int .i64 0, .slice none 0 0] 24)).alloc (.cells #[.int .i64 0, .int .i64 0, .int .i64 0, .slice none 0 0] 24)).alloc (.cells #[.int .i64 0, .int .i64 0, .int .i64 0, .slice none 0 0] 24)) rb #[.slice ao n c, .int .i64 a] 114 (w.heap.size + 1) #[.int .i64 0, .int .i64 0, .int .i64 0, .slice none 0 0] (w.heap.size + 1 + 1) #[.int .i64 0, .int .i64 0, .int .i64 0, .slice none 0 0] 24) := St.three H.out.1
    have A0 : Hid ((((w.alloc (.cells #[.int .i64 0, .int .i64 0, .int .i64 0, .slice none 0 0] 24)).alloc (.cells #[.int .i64 0, .int .i64 0, .int .i64 0, .slice none 0 0] 24)).alloc (.cells #[.int .i64 0, .int .i64 0, .int .i64 0, .slice none 0 0] 24)).heap[w.heap.size]? = some (.cells #[.int .i64 0, .int .i64 0, .int .i64 0, .slice none 0 0] 24 (0, 0))) := blk_alloc (blk_alloc (heap_alloc_new w _))
    generalize ((w.alloc (.cells #[.int .i64 0, .int .i64 0, .int .i64 0, .slice none 0 0] 24)).alloc (.cells #[.int .i64 0, .int .i64 0, .int .i64 0, .slice none 0 0] 24)).alloc (.cells #[.int .i64 0, .int .i64 0, .int .i64 0, .slice none 0 0] 24) = W0 at *
    have gl : w.heap.size ≠ w.heap.size + 1 + 1 := by omega
    generalize w.heap.size + 1 + 1 = sb at *
    generalize w.heap.size + 1 = ob at *
    refine (count_ok rb n c ao bs a a1 0 15 0 W0 S0.out.r (H.out.2.1.below (S0.out.below H.out.2.2 hrb)) (by omega) h1.out).mono ?_
    rintro e w1 ⟨rfl, hb1, hk1⟩
    have T0 : Hid (St w w1 rb #[.slice ao n c, .int .i64 a1] 114 ob #[.int .i64 0, .int .i64 0, .int .i64 0, .slice none 0 0] sb #[.int .i64 0, .int .i64 0, .int .i64 0, .slice none 0 0] 24) := S0.out.call hb1 hk1
    have A1 : Hid (w1.heap[w.heap.size]? = some (.cells #[.int .i64 0, .int .i64 0, .int .i64 0, .slice none 0 0] 24 (0, 0))) := (hk1.block _ (lt_heap A0.out) (by have := lt_heap H.out.1; show ¬ w.heap.size = rb; omega)).trans A0.out
    have A2 : Hid ((w1.setCell ⟨sb, 0, none⟩ (.int .i64 0)).heap[w.heap.size]? = some (.cells #[.int .i64 0, .int .i64 0, .int .i64 0, .slice none 0 0] 24 (0, 0))) := (Below.heap_setCell w1 ⟨sb, 0, none⟩ _ w.heap.size (by show ¬ w.heap.size = sb; exact gl)).trans A1.out
    have qa := fun i => blk_cell A2.out i
    have f0 := T0.out.fz 0
    have q0 := fun i => T0.out.cell i
    have S1 : Hid (St w (w1.setCell ⟨sb, 0, none⟩ (.int .i64 0)) rb #[.slice ao n c, .int .i64 a1] 114 ob #[.int .i64 0, .int .i64 0, .int .i64 0, .slice none 0 0] sb #[.int .i64 0, .int .i64 0, .int .i64 0, .slice none 0 0] 24) := T0.out.store 0 (.int .i64 0)
    have p0 := fun i => S1.out.cell i
    clear hb1 hk1 S0 A0 A1 A2
    go_wp2_with fail
    clear f0 q0 p0 T0 qa
    generalize w1.setCell ⟨sb, 0, none⟩ (.int .i64 0) = W1 at *
    refine (count_ok rb n c ao bs a1 a2 1 4611686018427387904 q W1 S1.out.r (H.out.2.1.below (S1.out.below H.out.2.2 hrb)) (by omega) h2.out).mono ?_
    rintro e w2 ⟨rfl, hb1, hk1⟩
    have T1 : Hid (St w w2 rb #[.slice ao n c, .int .i64 a2] 114 ob #[.int .i64 0, .int .i64 0, .int .i64 0, .slice none 0 0] sb #[.int .i64 0, .int .i64 0, .int .i64 0, .slice none 0 0] 24) := S1.out.call hb1 hk1
    have f1 := T1.out.fz 1
    have q1 := fun i => T1.out.cell i
    have S2 : Hid (St w (w2.setCell ⟨sb, 1, none⟩ (.int .i64 q)) rb #[.slice ao n c, .int .i64 a2] 114 ob #[.int .i64 0, .int .i64 0, .int .i64 0, .slice none 0 0] sb #[.int .i64 0, .int .i64 q, .int .i64 0, .slice none 0 0] 24) := T1.out.store 1 (.int .i64 q)
    have p1 := fun i => S2.out.cell i
    clear hb1 hk1 S1
    go_wp2_with fail
    clear f1 q1 p1 T1
    generalize w2.setCell ⟨sb, 1, none⟩ (.int .i64 q) = W2 at *
    refine (count_err rb n c ao bs a2 0 4611686018427387904 x W2 S2.out.r (H.out.2.1.below (S2.out.below H.out.2.2 hrb)) (by omega) h3.out).mono ?_
    rintro e w3 ⟨rfl, hk1⟩
    have HF : Hid (Kept w w3 (fun j => j = rb)) := S2.out.k.trans hk1
    clear hk1 S2
    unfold boom
    go_wp2_with fail
    exact ⟨rfl, rfl, HF.out⟩
  · go_enter Try.func68, Try.ntmps68
    go_wp2_with fail
    have S0 : Hid (St w (((w.alloc (.cells #[.int .i64 0, .int .i64 0, .int .i64 0, .slice none 0 0] 24)).alloc (.cells #[.int .i64 0, .int .i64 0, .int .i64 0, .slice none 0 0] 24)).alloc (.cells #[.int .i64 0, .int .i64 0, .int .i64 0, .slice none 0 0] 24)) rb #[.slice ao n c, .int .i64 a] 114 (w.heap.size + 1) #[.int .i64 0, .int .i64 0, .int .i64 0, .slice none 0 0] (w.heap.size + 1 + 1) #[.int .i64 0, .int .i64 0, .int .i64 0, .slice none 0 0] 24) := St.three H.out.1
    have A0 : Hid ((((w.alloc (.cells #[.int .i64 0, .int .i64 0, .int .i64 0, .slice none 0 0] 24)).alloc (.cells #[.int .i64 0, .int .i64 0, .int .i64 0, .slice none 0 0] 24)).alloc (.cells #[.int .i64 0, .int .i64 0, .int .i64 0, .slice none 0 0] 24)).heap[w.heap.size]? = some (.cells #[.int .i64 0, .int .i64 0, .int .i64 0, .slice none 0 0] 24 (0, 0))) := blk_alloc (blk_alloc (heap_alloc_new w _))
    generalize ((w.alloc (.cells #[.int .i64 0, .int .i64 0, .int .i64 0, .slice none 0 0] 24)).alloc (.cells #[.int .i64 0, .int .i64 0, .int .i64 0, .slice none 0 0] 24)).alloc (.cells #[.int .i64 0, .int .i64 0, .int .i64 0, .slice none 0 0] 24) = W0 at *
    have gl : w.heap.size ≠ w.heap.size + 1 + 1 := by omega
    generalize w.heap.size + 1 + 1 = sb at *
    generalize w.heap.size + 1 = ob at *
    refine (count_ok rb n c ao bs a a1 0 15 s W0 S0.out.r (H.out.2.1.below (S0.out.below H.out.2.2 hrb)) (by omega) h1.out).mono ?_
    rintro e w1 ⟨rfl, hb1, hk1⟩
    have T0 : Hid (St w w1 rb #[.slice ao n c, .int .i64 a1] 114 ob #[.int .i64 0, .int .i64 0, .int .i64 0, .slice none 0 0] sb #[.int .i64 0, .int .i64 0, .int .i64 0, .slice none 0 0] 24) := S0.out.call hb1 hk1
    have A1 : Hid (w1.heap[w.heap.size]? = some (.cells #[.int .i64 0, .int .i64 0, .int .i64 0, .slice none 0 0] 24 (0, 0))) := (hk1.block _ (lt_heap A0.out) (by have := lt_heap H.out.1; show ¬ w.heap.size = rb; omega)).trans A0.out
    have A2 : Hid ((w1.setCell ⟨sb, 0, none⟩ (.int .i64 s)).heap[w.heap.size]? = some (.cells #[.int .i64 0, .int .i64 0, .int .i64 0, .slice none 0 0] 24 (0, 0))) := (Below.heap_setCell w1 ⟨sb, 0, none⟩ _ w.heap.size (by show ¬ w.heap.size = sb; exact gl)).trans A1.out
    have qa := fun i => blk_cell A2.out i
    have f0 := T0.out.fz 0
    have q0 := fun i => T0.out.cell i
    have S1 : Hid (St w (w1.setCell ⟨sb, 0, none⟩ (.int .i64 s)) rb #[.slice ao n c, .int .i64 a1] 114 ob #[.int .i64 0, .int .i64 0, .int .i64 0, .slice none 0 0] sb #[.int .i64 s, .int .i64 0, .int .i64 0, .slice none 0 0] 24) := T0.out.store 0 (.int .i64 s)
    have p0 := fun i => S1.out.cell i
    clear hb1 hk1 S0 A0 A1 A2
    go_wp2_with fail
    clear f0 q0 p0 T0 qa
    generalize w1.setCell ⟨sb, 0, none⟩ (.int .i64 s) = W1 at *
    refine (count_ok rb n c ao bs a1 a2 1 4611686018427387904 q W1 S1.out.r (H.out.2.1.below (S1.out.below H.out.2.2 hrb)) (by omega) h2.out).mono ?_
    rintro e w2 ⟨rfl, hb1, hk1⟩
    have T1 : Hid (St w w2 rb #[.slice ao n c, .int .i64 a2] 114 ob #[.int .i64 0, .int .i64 0, .int .i64 0, .slice none 0 0] sb #[.int .i64 s, .int .i64 0, .int .i64 0, .slice none 0 0] 24) := S1.out.call hb1 hk1
    have f1 := T1.out.fz 1
    have q1 := fun i => T1.out.cell i
    have S2 : Hid (St w (w2.setCell ⟨sb, 1, none⟩ (.int .i64 q)) rb #[.slice ao n c, .int .i64 a2] 114 ob #[.int .i64 0, .int .i64 0, .int .i64 0, .slice none 0 0] sb #[.int .i64 s, .int .i64 q, .int .i64 0, .slice none 0 0] 24) := T1.out.store 1 (.int .i64 q)
    have p1 := fun i => S2.out.cell i
    clear hb1 hk1 S1
    go_wp2_with fail
    clear f1 q1 p1 T1
    generalize w2.setCell ⟨sb, 1, none⟩ (.int .i64 q) = W2 at *
    refine (count_err rb n c ao bs a2 0 4611686018427387904 x W2 S2.out.r (H.out.2.1.below (S2.out.below H.out.2.2 hrb)) (by omega) h3.out).mono ?_
    rintro e w3 ⟨rfl, hk1⟩
    have HF : Hid (Kept w w3 (fun j => j = rb)) := S2.out.k.trans hk1
    clear hk1 S2
    unfold boom
    go_wp2_with fail
    exact ⟨rfl, rfl, HF.out⟩

set_option maxRecDepth 100000 in
set_option maxHeartbeats 2000000 in
theorem wdata_err3err (w0 : World) (rb n c : Nat) (ao : Option Addr) (bs : List Int) (a : Nat) (w : World) (hb : Rb w rb ao n c a) (hr0 : Rd w0 ao n c bs) (hw : Below w0.heap.size w0 w) (hrb : w0.heap.size ≤ rb) (hlen : n ≤ 300) (hnc : n ≤ c) (x : Int) (s : Int) (a1 : Nat) (q : Int) (a2 : Nat) (st : Int) (a3 : Nat) (h1 : Hid (cnt bs a 0 15 = .ok (s, a1))) (h2 : Hid (cnt bs a1 1 4611686018427387904 = .ok (q, a2))) (h3 : Hid (cnt bs a2 0 4611686018427387904 = .ok (st, a3))) (h4 : Hid (cnt bs a3 0 256 = .error x)) :
    Calls Try.prog 68 #[.pointer (some ⟨rb, 0, none⟩), .agg #[.int .i64 0, .int .i64 0, .int .i64 0, .slice none 0 0]] w fun e w' => e = boom x ∧ Kept w w' (fun j => j = rb) := by
  have H : Hid (Rb w rb ao n c a ∧ Rd w0 ao n c bs ∧ Below w0.heap.size w0 w) := ⟨hb, hr0, hw⟩
  clear hb hr0 hw
  rcases Decidable.em (s = 0) with hs | hs
  · subst hs
    go_enter Try.func68, Try.ntmps68
    go_wp2_with fail
    have S0 : Hid (St w (((w.alloc (.cells #[.int .i64 0, .int .i64 0, .int .i64 0, .slice none 0 0] 24)).alloc (.cells #[.int .i64 0, .int .i64 0, .int .i64 0, .slice none 0 0] 24)).alloc (.cells #[.int .i64 0, .int .i64 0, .int .i64 0, .slice none 0 0] 24)) rb #[.slice ao n c, .int .i64 a] 114 (w.heap.size + 1) #[.int .i64 0, .int .i64 0, .int .i64 0, .slice none 0 0] (w.heap.size + 1 + 1) #[.int .i64 0, .int .i64 0, .int .i64 0, .slice none 0 0] 24) := St.three H.out.1
    have A0 : Hid ((((w.alloc (.cells #[.int .i64 0, .int .i64 0, .int .i64 0, .slice none 0 0] 24)).alloc (.cells #[.int .i64 0, .int .i64 0, .int .i64 0, .slice none 0 0] 24)).alloc (.cells #[.int .i64 0, .int .i64 0, .int .i64 0, .slice none 0 0] 24)).heap[w.heap.size]? = some (.cells #[.int .i64 0, .int .i64 0, .int .i64 0, .slice none 0 0] 24 (0, 0))) := blk_alloc (blk_alloc (heap_alloc_new w _))
    generalize ((w.alloc (.cells #[.int .i64 0, .int .i64 0, .int .i64 0, .slice none 0 0] 24)).alloc (.cells #[.int .i64 0, .int .i64 0, .int .i64 0, .slice none 0 0] 24)).alloc (.cells #[.int .i64 0, .int .i64 0, .int .i64 0, .slice none 0 0] 24) = W0 at *
    have gl : w.heap.size ≠ w.heap.size + 1 + 1 := by omega
    generalize w.heap.size + 1 + 1 = sb at *
    generalize w.heap.size + 1 = ob at *
    refine (count_ok rb n c ao bs a a1 0 15 0 W0 S0.out.r (H.out.2.1.below (S0.out.below H.out.2.2 hrb)) (by omega) h1.out).mono ?_
    rintro e w1 ⟨rfl, hb1, hk1⟩
    have T0 : Hid (St w w1 rb #[.slice ao n c, .int .i64 a1] 114 ob #[.int .i64 0, .int .i64 0, .int .i64 0, .slice none 0 0] sb #[.int .i64 0, .int .i64 0, .int .i64 0, .slice none 0 0] 24) := S0.out.call hb1 hk1
    have A1 : Hid (w1.heap[w.heap.size]? = some (.cells #[.int .i64 0, .int .i64 0, .int .i64 0, .slice none 0 0] 24 (0, 0))) := (hk1.block _ (lt_heap A0.out) (by have := lt_heap H.out.1; show ¬ w.heap.size = rb; omega)).trans A0.out
    have A2 : Hid ((w1.setCell ⟨sb, 0, none⟩ (.int .i64 0)).heap[w.heap.size]? = some (.cells #[.int .i64 0, .int .i64 0, .int .i64 0, .slice none 0 0] 24 (0, 0))) := (Below.heap_setCell w1 ⟨sb, 0, none⟩ _ w.heap.size (by show ¬ w.heap.size = sb; exact gl)).trans A1.out
    have qa := fun i => blk_cell A2.out i
    have f0 := T0.out.fz 0
    have q0 := fun i => T0.out.cell i
    have S1 : Hid (St w (w1.setCell ⟨sb, 0, none⟩ (.int .i64 0)) rb #[.slice ao n c, .int .i64 a1] 114 ob #[.int .i64 0, .int .i64 0, .int .i64 0, .slice none 0 0] sb #[.int .i64 0, .int .i64 0, .int .i64 0, .slice none 0 0] 24) := T0.out.store 0 (.int .i64 0)
    have p0 := fun i => S1.out.cell i
    clear hb1 hk1 S0 A0 A1 A2
    go_wp2_with fail
    clear f0 q0 p0 T0 qa
    generalize w1.setCell ⟨sb, 0, none⟩ (.int .i64 0) = W1 at *
    refine (count_ok rb n c ao bs a1 a2 1 4611686018427387904 q W1 S1.out.r (H.out.2.1.below (S1.out.below H.out.2.2 hrb)) (by omega) h2.out).mono ?_
    rintro e w2 ⟨rfl, hb1, hk1⟩
    have T1 : Hid (St w w2 rb #[.slice ao n c, .int .i64 a2] 114 ob #[.int .i64 0, .int .i64 0, .int .i64 0, .slice none 0 0] sb #[.int .i64 0, .int .i64 0, .int .i64 0, .slice none 0 0] 24) := S1.out.call hb1 hk1
    have f1 := T1.out.fz 1
    have q1 := fun i => T1.out.cell i
    have S2 : Hid (St w (w2.setCell ⟨sb, 1, none⟩ (.int .i64 q)) rb #[.slice ao n c, .int .i64 a2] 114 ob #[.int .i64 0, .int .i64 0, .int .i64 0, .slice none 0 0] sb #[.int .i64 0, .int .i64 q, .int .i64 0, .slice none 0 0] 24) := T1.out.store 1 (.int .i64 q)
    have p1 := fun i => S2.out.cell i
    clear hb1 hk1 S1
    go_wp2_with fail
    clear f1 q1 p1 T1
    generalize w2.setCell ⟨sb, 1, none⟩ (.int .i64 q) = W2 at *
    refine (count_ok rb n c ao bs a2 a3 0 4611686018427387904 st W2 S2.out.r (H.out.2.1.below (S2.out.below H.out.2.2 hrb)) (by omega) h3.out).mono ?_
    rintro e w3 ⟨rfl, hb1, hk1⟩
    have T2 : Hid (St w w3 rb #[.slice ao n c, .int .i64 a3] 114 ob #[.int .i64 0, .int .i64 0, .int .i64 0, .slice none 0 0] sb #[.int .i64 0, .int .i64 q, .int .i64 0, .slice none 0 0] 24) := S2.out.call hb1 hk1
    have f2 := T2.out.fz 2
    have q2 := fun i => T2.out.cell i
    have S3 : Hid (St w (w3.setCell ⟨sb, 2, none⟩ (.int .i64 st)) rb #[.slice ao n c, .int .i64 a3] 114 ob #[.int .i64 0, .int .i64 0, .int .i64 0, .slice none 0 0] sb #[.int .i64 0, .int .i64 q, .int .i64 st, .slice none 0 0] 24) := T2.out.store 2 (.int .i64 st)
    have p2 := fun i => S3.out.cell i
    clear hb1 hk1 S2
    go_wp2_with fail
    clear f2 q2 p2 T2
    generalize w3.setCell ⟨sb, 2, none⟩ (.int .i64 st) = W3 at *
    refine (bytes_err rb n c ao bs a3 0 256 x W3 S3.out.r (H.out.2.1.below (S3.out.below H.out.2.2 hrb)) hlen h4.out).mono ?_
    rintro e w4 ⟨rfl, hk1⟩
    have HF : Hid (Kept w w4 (fun j => j = rb)) := S3.out.k.trans hk1
    clear hk1 S3
    unfold boom
    go_wp2_with fail
    exact ⟨rfl, rfl, HF.out⟩
  · go_enter Try.func68, Try.ntmps68
    go_wp2_with fail
    have S0 : Hid (St w (((w.alloc (.cells #[.int .i64 0, .int .i64 0, .int .i64 0, .slice none 0 0] 24)).alloc (.cells #[.int .i64 0, .int .i64 0, .int .i64 0, .slice none 0 0] 24)).alloc (.cells #[.int .i64 0, .int .i64 0, .int .i64 0, .slice none 0 0] 24)) rb #[.slice ao n c, .int .i64 a] 114 (w.heap.size + 1) #[.int .i64 0, .int .i64 0, .int .i64 0, .slice none 0 0] (w.heap.size + 1 + 1) #[.int .i64 0, .int .i64 0, .int .i64 0, .slice none 0 0] 24) := St.three H.out.1
    have A0 : Hid ((((w.alloc (.cells #[.int .i64 0, .int .i64 0, .int .i64 0, .slice none 0 0] 24)).alloc (.cells #[.int .i64 0, .int .i64 0, .int .i64 0, .slice none 0 0] 24)).alloc (.cells #[.int .i64 0, .int .i64 0, .int .i64 0, .slice none 0 0] 24)).heap[w.heap.size]? = some (.cells #[.int .i64 0, .int .i64 0, .int .i64 0, .slice none 0 0] 24 (0, 0))) := blk_alloc (blk_alloc (heap_alloc_new w _))
    generalize ((w.alloc (.cells #[.int .i64 0, .int .i64 0, .int .i64 0, .slice none 0 0] 24)).alloc (.cells #[.int .i64 0, .int .i64 0, .int .i64 0, .slice none 0 0] 24)).alloc (.cells #[.int .i64 0, .int .i64 0, .int .i64 0, .slice none 0 0] 24) = W0 at *
    have gl : w.heap.size ≠ w.heap.size + 1 + 1 := by omega
    generalize w.heap.size + 1 + 1 = sb at *
    generalize w.heap.size + 1 = ob at *
    refine (count_ok rb n c ao bs a a1 0 15 s W0 S0.out.r (H.out.2.1.below (S0.out.below H.out.2.2 hrb)) (by omega) h1.out).mono ?_
    rintro e w1 ⟨rfl, hb1, hk1⟩
    have T0 : Hid (St w w1 rb #[.slice ao n c, .int .i64 a1] 114 ob #[.int .i64 0, .int .i64 0, .int .i64 0, .slice none 0 0] sb #[.int .i64 0, .int .i64 0, .int .i64 0, .slice none 0 0] 24) := S0.out.call hb1 hk1
    have A1 : Hid (w1.heap[w.heap.size]? = some (.cells #[.int .i64 0, .int .i64 0, .int .i64 0, .slice none 0 0] 24 (0, 0))) := (hk1.block _ (lt_heap A0.out) (by have := lt_heap H.out.1; show ¬ w.heap.size = rb; omega)).trans A0.out
    have A2 : Hid ((w1.setCell ⟨sb, 0, none⟩ (.int .i64 s)).heap[w.heap.size]? = some (.cells #[.int .i64 0, .int .i64 0, .int .i64 0, .slice none 0 0] 24 (0, 0))) := (Below.heap_setCell w1 ⟨sb, 0, none⟩ _ w.heap.size (by show ¬ w.heap.size = sb; exact gl)).trans A1.out
    have qa := fun i => blk_cell A2.out i
    have f0 := T0.out.fz 0
    have q0 := fun i => T0.out.cell i
    have S1 : Hid (St w (w1.setCell ⟨sb, 0, none⟩ (.int .i64 s)) rb #[.slice ao n c, .int .i64 a1] 114 ob #[.int .i64 0, .int .i64 0, .int .i64 0, .slice none 0 0] sb #[.int .i64 s, .int .i64 0, .int .i64 0, .slice none 0 0] 24) := T0.out.store 0 (.int .i64 s)
    have p0 := fun i => S1.out.cell i
    clear hb1 hk1 S0 A0 A1 A2
    go_wp2_with fail
    clear f0 q0 p0 T0 qa
    generalize w1.setCell ⟨sb, 0, none⟩ (.int .i64 s) = W1 at *
    refine (count_ok rb n c ao bs a1 a2 1 4611686018427387904 q W1 S1.out.r (H.out.2.1.below (S1.out.below H.out.2.2 hrb)) (by omega) h2.out).mono ?_
    rintro e w2 ⟨rfl, hb1, hk1⟩
    have T1 : Hid (St w w2 rb #[.slice ao n c, .int .i64 a2] 114 ob #[.int .i64 0, .int .i64 0, .int .i64 0, .slice none 0 0] sb #[.int .i64 s, .int .i64 0, .int .i64 0, .slice none 0 0] 24) := S1.out.call hb1 hk1
    have f1 := T1.out.fz 1
    have q1 := fun i => T1.out.cell i
    have S2 : Hid (St w (w2.setCell ⟨sb, 1, none⟩ (.int .i64 q)) rb #[.slice ao n c, .int .i64 a2] 114 ob #[.int .i64 0, .int .i64 0, .int .i64 0, .slice none 0 0] sb #[.int .i64 s, .int .i64 q, .int .i64 0, .slice none 0 0] 24) := T1.out.store 1 (.int .i64 q)
    have p1 := fun i => S2.out.cell i
    clear hb1 hk1 S1
    go_wp2_with fail
    clear f1 q1 p1 T1
    generalize w2.setCell ⟨sb, 1, none⟩ (.int .i64 q) = W2 at *
    refine (count_ok rb n c ao bs a2 a3 0 4611686018427387904 st W2 S2.out.r (H.out.2.1.below (S2.out.below H.out.2.2 hrb)) (by omega) h3.out).mono ?_
    rintro e w3 ⟨rfl, hb1, hk1⟩
    have T2 : Hid (St w w3 rb #[.slice ao n c, .int .i64 a3] 114 ob #[.int .i64 0, .int .i64 0, .int .i64 0, .slice none 0 0] sb #[.int .i64 s, .int .i64 q, .int .i64 0, .slice none 0 0] 24) := S2.out.call hb1 hk1
    have f2 := T2.out.fz 2
    have q2 := fun i => T2.out.cell i
    have S3 : Hid (St w (w3.setCell ⟨sb, 2, none⟩ (.int .i64 st)) rb #[.slice ao n c, .int .i64 a3] 114 ob #[.int .i64 0, .int .i64 0, .int .i64 0, .slice none 0 0] sb #[.int .i64 s, .int .i64 q, .int .i64 st, .slice none 0 0] 24) := T2.out.store 2 (.int .i64 st)
    have p2 := fun i => S3.out.cell i
    clear hb1 hk1 S2
    go_wp2_with fail
    clear f2 q2 p2 T2
    generalize w3.setCell ⟨sb, 2, none⟩ (.int .i64 st) = W3 at *
    refine (bytes_err rb n c ao bs a3 0 256 x W3 S3.out.r (H.out.2.1.below (S3.out.below H.out.2.2 hrb)) hlen h4.out).mono ?_
    rintro e w4 ⟨rfl, hk1⟩
    have HF : Hid (Kept w w4 (fun j => j = rb)) := S3.out.k.trans hk1
    clear hk1 S3
    unfold boom
    go_wp2_with fail
    exact ⟨rfl, rfl, HF.out⟩

set_option maxRecDepth 100000 in
set_option maxHeartbeats 2000000 in
theorem wdata_err3short (w0 : World) (rb n c : Nat) (ao : Option Addr) (bs : List Int) (a : Nat) (w : World) (hb : Rb w rb ao n c a) (hr0 : Rd w0 ao n c bs) (hw : Below w0.heap.size w0 w) (hrb : w0.heap.size ≤ rb) (hlen : n ≤ 300) (hnc : n ≤ c)  (s : Int) (a1 : Nat) (q : Int) (a2 : Nat) (st : Int) (a3 : Nat) (h1 : Hid (cnt bs a 0 15 = .ok (s, a1))) (h2 : Hid (cnt bs a1 1 4611686018427387904 = .ok (q, a2))) (h3 : Hid (cnt bs a2 0 4611686018427387904 = .ok (st, a3))) (k : Int) (a4 : Nat) (h4 : Hid (cnt bs a3 0 256 = .ok (k, a4))) (h5 : ¬ a4 + k.toNat ≤ bs.length) :
    Calls Try.prog 68 #[.pointer (some ⟨rb, 0, none⟩), .agg #[.int .i64 0, .int .i64 0, .int .i64 0, .slice none 0 0]] w fun e w' => e = boom 10 ∧ Kept w w' (fun j => j = rb) := by
  have H : Hid (Rb w rb ao n c a ∧ Rd w0 ao n c bs ∧ Below w0.heap.size w0 w) := ⟨hb, hr0, hw⟩
  clear hb hr0 hw
  rcases Decidable.em (s = 0) with hs | hs
  · subst hs
    go_enter Try.func68, Try.ntmps68
    go_wp2_with fail
    have S0 : Hid (St w (((w.alloc (.cells #[.int .i64 0, .int .i64 0, .int .i64 0, .slice none 0 0] 24)).alloc (.cells #[.int .i64 0, .int .i64 0, .int .i64 0, .slice none 0 0] 24)).alloc (.cells #[.int .i64 0, .int .i64 0, .int .i64 0, .slice none 0 0] 24)) rb #[.slice ao n c, .int .i64 a] 114 (w.heap.size + 1) #[.int .i64 0, .int .i64 0, .int .i64 0, .slice none 0 0] (w.heap.size + 1 + 1) #[.int .i64 0, .int .i64 0, .int .i64 0, .slice none 0 0] 24) := St.three H.out.1
    have A0 : Hid ((((w.alloc (.cells #[.int .i64 0, .int .i64 0, .int .i64 0, .slice none 0 0] 24)).alloc (.cells #[.int .i64 0, .int .i64 0, .int .i64 0, .slice none 0 0] 24)).alloc (.cells #[.int .i64 0, .int .i64 0, .int .i64 0, .slice none 0 0] 24)).heap[w.heap.size]? = some (.cells #[.int .i64 0, .int .i64 0, .int .i64 0, .slice none 0 0] 24 (0, 0))) := blk_alloc (blk_alloc (heap_alloc_new w _))
    generalize ((w.alloc (.cells #[.int .i64 0, .int .i64 0, .int .i64 0, .slice none 0 0] 24)).alloc (.cells #[.int .i64 0, .int .i64 0, .int .i64 0, .slice none 0 0] 24)).alloc (.cells #[.int .i64 0, .int .i64 0, .int .i64 0, .slice none 0 0] 24) = W0 at *
    have gl : w.heap.size ≠ w.heap.size + 1 + 1 := by omega
    generalize w.heap.size + 1 + 1 = sb at *
    generalize w.heap.size + 1 = ob at *
    refine (count_ok rb n c ao bs a a1 0 15 0 W0 S0.out.r (H.out.2.1.below (S0.out.below H.out.2.2 hrb)) (by omega) h1.out).mono ?_
    rintro e w1 ⟨rfl, hb1, hk1⟩
    have T0 : Hid (St w w1 rb #[.slice ao n c, .int .i64 a1] 114 ob #[.int .i64 0, .int .i64 0, .int .i64 0, .slice none 0 0] sb #[.int .i64 0, .int .i64 0, .int .i64 0, .slice none 0 0] 24) := S0.out.call hb1 hk1
    have A1 : Hid (w1.heap[w.heap.size]? = some (.cells #[.int .i64 0, .int .i64 0, .int .i64 0, .slice none 0 0] 24 (0, 0))) := (hk1.block _ (lt_heap A0.out) (by have := lt_heap H.out.1; show ¬ w.heap.size = rb; omega)).trans A0.out
    have A2 : Hid ((w1.setCell ⟨sb, 0, none⟩ (.int .i64 0)).heap[w.heap.size]? = some (.cells #[.int .i64 0, .int .i64 0, .int .i64 0, .slice none 0 0] 24 (0, 0))) := (Below.heap_setCell w1 ⟨sb, 0, none⟩ _ w.heap.size (by show ¬ w.heap.size = sb; exact gl)).trans A1.out
    have qa := fun i => blk_cell A2.out i
    have f0 := T0.out.fz 0
    have q0 := fun i => T0.out.cell i
    have S1 : Hid (St w (w1.setCell ⟨sb, 0, none⟩ (.int .i64 0)) rb #[.slice ao n c, .int .i64 a1] 114 ob #[.int .i64 0, .int .i64 0, .int .i64 0, .slice none 0 0] sb #[.int .i64 0, .int .i64 0, .int .i64 0, .slice none 0 0] 24) := T0.out.store 0 (.int .i64 0)
    have p0 := fun i => S1.out.cell i
    clear hb1 hk1 S0 A0 A1 A2
    go_wp2_with fail
    clear f0 q0 p0 T0 qa
    generalize w1.setCell ⟨sb, 0, none⟩ (.int .i64 0) = W1 at *
    refine (count_ok rb n c ao bs a1 a2 1 4611686018427387904 q W1 S1.out.r (H.out.2.1.below (S1.out.below H.out.2.2 hrb)) (by omega) h2.out).mono ?_
    rintro e w2 ⟨rfl, hb1, hk1⟩
    have T1 : Hid (St w w2 rb #[.slice ao n c, .int .i64 a2] 114 ob #[.int .i64 0, .int .i64 0, .int .i64 0, .slice none 0 0] sb #[.int .i64 0, .int .i64 0, .int .i64 0, .slice none 0 0] 24) := S1.out.call hb1 hk1
    have f1 := T1.out.fz 1
    have q1 := fun i => T1.out.cell i
    have S2 : Hid (St w (w2.setCell ⟨sb, 1, none⟩ (.int .i64 q)) rb #[.slice ao n c, .int .i64 a2] 114 ob #[.int .i64 0, .int .i64 0, .int .i64 0, .slice none 0 0] sb #[.int .i64 0, .int .i64 q, .int .i64 0, .slice none 0 0] 24) := T1.out.store 1 (.int .i64 q)
    have p1 := fun i => S2.out.cell i
    clear hb1 hk1 S1
    go_wp2_with fail
    clear f1 q1 p1 T1
    generalize w2.setCell ⟨sb, 1, none⟩ (.int .i64 q) = W2 at *
    refine (count_ok rb n c ao bs a2 a3 0 4611686018427387904 st W2 S2.out.r (H.out.2.1.below (S2.out.below H.out.2.2 hrb)) (by omega) h3.out).mono ?_
    rintro e w3 ⟨rfl, hb1, hk1⟩
    have T2 : Hid (St w w3 rb #[.slice ao n c, .int .i64 a3] 114 ob #[.int .i64 0, .int .i64 0, .int .i64 0, .slice none 0 0] sb #[.int .i64 0, .int .i64 q, .int .i64 0, .slice none 0 0] 24) := S2.out.call hb1 hk1
    have f2 := T2.out.fz 2
    have q2 := fun i => T2.out.cell i
    have S3 : Hid (St w (w3.setCell ⟨sb, 2, none⟩ (.int .i64 st)) rb #[.slice ao n c, .int .i64 a3] 114 ob #[.int .i64 0, .int .i64 0, .int .i64 0, .slice none 0 0] sb #[.int .i64 0, .int .i64 q, .int .i64 st, .slice none 0 0] 24) := T2.out.store 2 (.int .i64 st)
    have p2 := fun i => S3.out.cell i
    clear hb1 hk1 S2
    go_wp2_with fail
    clear f2 q2 p2 T2
    generalize w3.setCell ⟨sb, 2, none⟩ (.int .i64 st) = W3 at *
    refine (bytes_short w0 rb n c ao bs a3 a4 k 0 256 W3 S3.out.r H.out.2.1 (S3.out.below H.out.2.2 hrb) hrb hlen h4.out h5).mono ?_
    rintro e w4 ⟨rfl, hk1⟩
    have HF : Hid (Kept w w4 (fun j => j = rb)) := S3.out.k.trans hk1
    clear hk1 S3
    unfold boom
    go_wp2_with fail
    exact ⟨rfl, rfl, HF.out⟩
  · go_enter Try.func68, Try.ntmps68
    go_wp2_with fail
    have S0 : Hid (St w (((w.alloc (.cells #[.int .i64 0, .int .i64 0, .int .i64 0, .slice none 0 0] 24)).alloc (.cells #[.int .i64 0, .int .i64 0, .int .i64 0, .slice none 0 0] 24)).alloc (.cells #[.int .i64 0, .int .i64 0, .int .i64 0, .slice none 0 0] 24)) rb #[.slice ao n c, .int .i64 a] 114 (w.heap.size + 1) #[.int .i64 0, .int .i64 0, .int .i64 0, .slice none 0 0] (w.heap.size + 1 + 1) #[.int .i64 0, .int .i64 0, .int .i64 0, .slice none 0 0] 24) := St.three H.out.1
    have A0 : Hid ((((w.alloc (.cells #[.int .i64 0, .int .i64 0, .int .i64 0, .slice none 0 0] 24)).alloc (.cells #[.int .i64 0, .int .i64 0, .int .i64 0, .slice none 0 0] 24)).alloc (.cells #[.int .i64 0, .int .i64 0, .int .i64 0, .slice none 0 0] 24)).heap[w.heap.size]? = some (.cells #[.int .i64 0, .int .i64 0, .int .i64 0, .slice none 0 0] 24 (0, 0))) := blk_alloc (blk_alloc (heap_alloc_new w _))
    generalize ((w.alloc (.cells #[.int .i64 0, .int .i64 0, .int .i64 0, .slice none 0 0] 24)).alloc (.cells #[.int .i64 0, .int .i64 0, .int .i64 0, .slice none 0 0] 24)).alloc (.cells #[.int .i64 0, .int .i64 0, .int .i64 0, .slice none 0 0] 24) = W0 at *
    have gl : w.heap.size ≠ w.heap.size + 1 + 1 := by omega
    generalize w.heap.size + 1 + 1 = sb at *
    generalize w.heap.size + 1 = ob at *
    refine (count_ok rb n c ao bs a a1 0 15 s W0 S0.out.r (H.out.2.1.below (S0.out.below H.out.2.2 hrb)) (by omega) h1.out).mono ?_
    rintro e w1 ⟨rfl, hb1, hk1⟩
    have T0 : Hid (St w w1 rb #[.slice ao n c, .int .i64 a1] 114 ob #[.int .i64 0, .int .i64 0, .int .i64 0, .slice none 0 0] sb #[.int .i64 0, .int .i64 0, .int .i64 0, .slice none 0 0] 24) := S0.out.call hb1 hk1
    have A1 : Hid (w1.heap[w.heap.size]? = some (.cells #[.int .i64 0, .int .i64 0, .int .i64 0, .slice none 0 0] 24 (0, 0))) := (hk1.block _ (lt_heap A0.out) (by have := lt_heap H.out.1; show ¬ w.heap.size = rb; omega)).trans A0.out
    have A2 : Hid ((w1.setCell ⟨sb, 0, none⟩ (.int .i64 s)).heap[w.heap.size]? = some (.cells #[.int .i64 0, .int .i64 0, .int .i64 0, .slice none 0 0] 24 (0, 0))) := (Below.heap_setCell w1 ⟨sb, 0, none⟩ _ w.heap.size (by show ¬ w.heap.size = sb; exact gl)).trans A1.out
    have qa := fun i => blk_cell A2.out i
    have f0 := T0.out.fz 0
    have q0 := fun i => T0.out.cell i
    have S1 : Hid (St w (w1.setCell ⟨sb, 0, none⟩ (.int .i64 s)) rb #[.slice ao n c, .int .i64 a1] 114 ob #[.int .i64 0, .int .i64 0, .int .i64 0, .slice none 0 0] sb #[.int .i64 s, .int .i64 0, .int .i64 0, .slice none 0 0] 24) := T0.out.store 0 (.int .i64 s)
    have p0 := fun i => S1.out.cell i
    clear hb1 hk1 S0 A0 A1 A2
    go_wp2_with fail
    clear f0 q0 p0 T0 qa
    generalize w1.setCell ⟨sb, 0, none⟩ (.int .i64 s) = W1 at *
    refine (count_ok rb n c ao bs a1 a2 1 4611686018427387904 q W1 S1.out.r (H.out.2.1.below (S1.out.below H.out.2.2 hrb)) (by omega) h2.out).mono ?_
    rintro e w2 ⟨rfl, hb1, hk1⟩
    have T1 : Hid (St w w2 rb #[.slice ao n c, .int .i64 a2] 114 ob #[.int .i64 0, .int .i64 0, .int .i64 0, .slice none 0 0] sb #[.int .i64 s, .int .i64 0, .int .i64 0, .slice none 0 0] 24) := S1.out.call hb1 hk1
    have f1 := T1.out.fz 1
    have q1 := fun i => T1.out.cell i
    have S2 : Hid (St w (w2.setCell ⟨sb, 1, none⟩ (.int .i64 q)) rb #[.slice ao n c, .int .i64 a2] 114 ob #[.int .i64 0, .int .i64 0, .int .i64 0, .slice none 0 0] sb #[.int .i64 s, .int .i64 q, .int .i64 0, .slice none 0 0] 24) := T1.out.store 1 (.int .i64 q)
    have p1 := fun i => S2.out.cell i
    clear hb1 hk1 S1
    go_wp2_with fail
    clear f1 q1 p1 T1
    generalize w2.setCell ⟨sb, 1, none⟩ (.int .i64 q) = W2 at *
    refine (count_ok rb n c ao bs a2 a3 0 4611686018427387904 st W2 S2.out.r (H.out.2.1.below (S2.out.below H.out.2.2 hrb)) (by omega) h3.out).mono ?_
    rintro e w3 ⟨rfl, hb1, hk1⟩
    have T2 : Hid (St w w3 rb #[.slice ao n c, .int .i64 a3] 114 ob #[.int .i64 0, .int .i64 0, .int .i64 0, .slice none 0 0] sb #[.int .i64 s, .int .i64 q, .int .i64 0, .slice none 0 0] 24) := S2.out.call hb1 hk1
    have f2 := T2.out.fz 2
    have q2 := fun i => T2.out.cell i
    have S3 : Hid (St w (w3.setCell ⟨sb, 2, none⟩ (.int .i64 st)) rb #[.slice ao n c, .int .i64 a3] 114 ob #[.int .i64 0, .int .i64 0, .int .i64 0, .slice none 0 0] sb #[.int .i64 s, .int .i64 q, .int .i64 st, .slice none 0 0] 24) := T2.out.store 2 (.int .i64 st)
    have p2 := fun i => S3.out.cell i
    clear hb1 hk1 S2
    go_wp2_with fail
    clear f2 q2 p2 T2
    generalize w3.setCell ⟨sb, 2, none⟩ (.int .i64 st) = W3 at *
    refine (bytes_short w0 rb n c ao bs a3 a4 k 0 256 W3 S3.out.r H.out.2.1 (S3.out.below H.out.2.2 hrb) hrb hlen h4.out h5).mono ?_
    rintro e w4 ⟨rfl, hk1⟩
    have HF : Hid (Kept w w4 (fun j => j = rb)) := S3.out.k.trans hk1
    clear hk1 S3
    unfold boom
    go_wp2_with fail
    exact ⟨rfl, rfl, HF.out⟩

theorem wdata_err (w0 : World) (rb n c : Nat) (ao : Option Addr) (bs : List Int) (a : Nat) (w : World) (hb : Rb w rb ao n c a) (hr0 : Rd w0 ao n c bs) (hw : Below w0.heap.size w0 w) (hrb : w0.heap.size ≤ rb) (hlen : n ≤ 300) (hnc : n ≤ c) (x : Int) (h : decD bs a = .error x) :
    Calls Try.prog 68 #[.pointer (some ⟨rb, 0, none⟩), .agg #[.int .i64 0, .int .i64 0, .int .i64 0, .slice none 0 0]] w fun e w' => e = boom x ∧ Kept w w' (fun j => j = rb) := by
  rcases decD_err h with h | ⟨s, a1, h1, h | ⟨q, a2, h2, h | ⟨st, a3, h3, h | ⟨k, a4, h4, h5, rfl⟩⟩⟩⟩
  · exact wdata_err0 w0 rb n c ao bs a w hb hr0 hw hrb hlen hnc x h
  · exact wdata_err1 w0 rb n c ao bs a w hb hr0 hw hrb hlen hnc x s a1 h1 h
  · exact wdata_err2 w0 rb n c ao bs a w hb hr0 hw hrb hlen hnc x s a1 q a2 h1 h2 h
  · exact wdata_err3err w0 rb n c ao bs a w hb hr0 hw hrb hlen hnc x s a1 q a2 st a3 h1 h2 h3 h
  · exact wdata_err3short w0 rb n c ao bs a w hb hr0 hw hrb hlen hnc s a1 q a2 st a3 h1 h2 h3 k a4 h4 h5

theorem own_slice {w : World} {base : Nat} {v : Value} {bs : List Int} (h : Own w base v bs) : ∃ ao cap, v = .slice ao bs.length cap := by
  rcases h.2 with ⟨rfl, h0⟩ | ⟨g, cap, cur, rfl, _⟩
  · exact ⟨none, 0, by rw [h0]⟩
  · exact ⟨_, _, rfl⟩

theorem own_set {w : World} {base g : Nat} {v : Value} {bs : List Int} (h : Own w base v bs) (hg : g < base) (i : Nat) (x : Value) : Own (w.setCell ⟨g, i, none⟩ x) base v bs := by
  have hk : Kept w (w.setCell ⟨g, i, none⟩ x) (fun j => j = g) := ⟨rfl, rfl, rfl, by simp, fun j hj hq => Below.heap_setCell w ⟨g, i, none⟩ _ j hq⟩
  exact hk.owns h (fun j hj e => by have := (h.lt j hj).1; omega)

set_option maxRecDepth 100000 in
set_option maxHeartbeats 2000000 in
theorem wdata_ok (w0 : World) (rb n c : Nat) (ao : Option Addr) (bs : List Int) (a : Nat) (w : World) (hb : Rb w rb ao n c a) (hr0 : Rd w0 ao n c bs) (hw : Below w0.heap.size w0 w) (hrb : w0.heap.size ≤ rb) (hlen : n ≤ 300) (hnc : n ≤ c) (a' : Nat) (s q st : Int) (body : List Int) (h : decD bs a = .ok ((s, q, st, body), a')) :
    Calls Try.prog 68 #[.pointer (some ⟨rb, 0, none⟩), .agg #[.int .i64 0, .int .i64 0, .int .i64 0, .slice none 0 0]] w fun e w' => ∃ ab cb, e = .returned (.agg #[.int .i64 s, .int .i64 q, .int .i64 st, .slice ab body.length cb]) ∧ Own w' w.heap.size (.slice ab body.length cb) body ∧ Rb w' rb ao n c a' ∧ Kept w w' (fun j => j = rb) := by
  have H : Hid (Rb w rb ao n c a ∧ Rd w0 ao n c bs ∧ Below w0.heap.size w0 w) := ⟨hb, hr0, hw⟩
  clear hb hr0 hw
  obtain ⟨a1, a2, a3, a4, k, g1, g2, g3, g4, hf, hbody, ha'⟩ := decD_ok h
  have h1 : Hid (cnt bs a 0 15 = .ok (s, a1)) := g1
  have h2 : Hid (cnt bs a1 1 4611686018427387904 = .ok (q, a2)) := g2
  have h3 : Hid (cnt bs a2 0 4611686018427387904 = .ok (st, a3)) := g3
  have h4 : Hid (cnt bs a3 0 256 = .ok (k, a4)) := g4
  have HB : Hid (body = (bs.drop a4).take k.toNat ∧ a' = a4 + k.toNat ∧ a4 + k.toNat ≤ bs.length) := ⟨hbody, ha', hf⟩
  clear g1 g2 g3 g4 hf hbody ha' h
  rcases Decidable.em (s = 0) with hs | hs
  · subst hs
    go_enter Try.func68, Try.ntmps68
    go_wp2_with fail
    have S0 : Hid (St w (((w.alloc (.cells #[.int .i64 0, .int .i64 0, .int .i64 0, .slice none 0 0] 24)).alloc (.cells #[.int .i64 0, .int .i64 0, .int .i64 0, .slice none 0 0] 24)).alloc (.cells #[.int .i64 0, .int .i64 0, .int .i64 0, .slice none 0 0] 24)) rb #[.slice ao n c, .int .i64 a] 114 (w.heap.size + 1) #[.int .i64 0, .int .i64 0, .int .i64 0, .slice none 0 0] (w.heap.size + 1 + 1) #[.int .i64 0, .int .i64 0, .int .i64 0, .slice none 0 0] 24) := St.three H.out.1
    have A0 : Hid ((((w.alloc (.cells #[.int .i64 0, .int .i64 0, .int .i64 0, .slice none 0 0] 24)).alloc (.cells #[.int .i64 0, .int .i64 0, .int .i64 0, .slice none 0 0] 24)).alloc (.cells #[.int .i64 0, .int .i64 0, .int .i64 0, .slice none 0 0] 24)).heap[w.heap.size]? = some (.cells #[.int .i64 0, .int .i64 0, .int .i64 0, .slice none 0 0] 24 (0, 0))) := blk_alloc (blk_alloc (heap_alloc_new w _))
    generalize ((w.alloc (.cells #[.int .i64 0, .int .i64 0, .int .i64 0, .slice none 0 0] 24)).alloc (.cells #[.int .i64 0, .int .i64 0, .int .i64 0, .slice none 0 0] 24)).alloc (.cells #[.int .i64 0, .int .i64 0, .int .i64 0, .slice none 0 0] 24) = W0 at *
    have gl : w.heap.size ≠ w.heap.size + 1 + 1 := by omega
    generalize w.heap.size + 1 + 1 = sb at *
    generalize w.heap.size + 1 = ob at *
    refine (count_ok rb n c ao bs a a1 0 15 0 W0 S0.out.r (H.out.2.1.below (S0.out.below H.out.2.2 hrb)) (by omega) h1.out).mono ?_
    rintro e w1 ⟨rfl, hb1, hk1⟩
    have T0 : Hid (St w w1 rb #[.slice ao n c, .int .i64 a1] 114 ob #[.int .i64 0, .int .i64 0, .int .i64 0, .slice none 0 0] sb #[.int .i64 0, .int .i64 0, .int .i64 0, .slice none 0 0] 24) := S0.out.call hb1 hk1
    have A1 : Hid (w1.heap[w.heap.size]? = some (.cells #[.int .i64 0, .int .i64 0, .int .i64 0, .slice none 0 0] 24 (0, 0))) := (hk1.block _ (lt_heap A0.out) (by have := lt_heap H.out.1; show ¬ w.heap.size = rb; omega)).trans A0.out
    have A2 : Hid ((w1.setCell ⟨sb, 0, none⟩ (.int .i64 0)).heap[w.heap.size]? = some (.cells #[.int .i64 0, .int .i64 0, .int .i64 0, .slice none 0 0] 24 (0, 0))) := (Below.heap_setCell w1 ⟨sb, 0, none⟩ _ w.heap.size (by show ¬ w.heap.size = sb; exact gl)).trans A1.out
    have qa := fun i => blk_cell A2.out i
    have f0 := T0.out.fz 0
    have q0 := fun i => T0.out.cell i
    have S1 : Hid (St w (w1.setCell ⟨sb, 0, none⟩ (.int .i64 0)) rb #[.slice ao n c, .int .i64 a1] 114 ob #[.int .i64 0, .int .i64 0, .int .i64 0, .slice none 0 0] sb #[.int .i64 0, .int .i64 0, .int .i64 0, .slice none 0 0] 24) := T0.out.store 0 (.int .i64 0)
    have p0 := fun i => S1.out.cell i
    clear hb1 hk1 S0 A0 A1 A2
    go_wp2_with fail
    clear f0 q0 p0 T0 qa
    generalize w1.setCell ⟨sb, 0, none⟩ (.int .i64 0) = W1 at *
    refine (count_ok rb n c ao bs a1 a2 1 4611686018427387904 q W1 S1.out.r (H.out.2.1.below (S1.out.below H.out.2.2 hrb)) (by omega) h2.out).mono ?_
    rintro e w2 ⟨rfl, hb1, hk1⟩
    have T1 : Hid (St w w2 rb #[.slice ao n c, .int .i64 a2] 114 ob #[.int .i64 0, .int .i64 0, .int .i64 0, .slice none 0 0] sb #[.int .i64 0, .int .i64 0, .int .i64 0, .slice none 0 0] 24) := S1.out.call hb1 hk1
    have f1 := T1.out.fz 1
    have q1 := fun i => T1.out.cell i
    have S2 : Hid (St w (w2.setCell ⟨sb, 1, none⟩ (.int .i64 q)) rb #[.slice ao n c, .int .i64 a2] 114 ob #[.int .i64 0, .int .i64 0, .int .i64 0, .slice none 0 0] sb #[.int .i64 0, .int .i64 q, .int .i64 0, .slice none 0 0] 24) := T1.out.store 1 (.int .i64 q)
    have p1 := fun i => S2.out.cell i
    clear hb1 hk1 S1
    go_wp2_with fail
    clear f1 q1 p1 T1
    generalize w2.setCell ⟨sb, 1, none⟩ (.int .i64 q) = W2 at *
    refine (count_ok rb n c ao bs a2 a3 0 4611686018427387904 st W2 S2.out.r (H.out.2.1.below (S2.out.below H.out.2.2 hrb)) (by omega) h3.out).mono ?_
    rintro e w3 ⟨rfl, hb1, hk1⟩
    have T2 : Hid (St w w3 rb #[.slice ao n c, .int .i64 a3] 114 ob #[.int .i64 0, .int .i64 0, .int .i64 0, .slice none 0 0] sb #[.int .i64 0, .int .i64 q, .int .i64 0, .slice none 0 0] 24) := S2.out.call hb1 hk1
    have f2 := T2.out.fz 2
    have q2 := fun i => T2.out.cell i
    have S3 : Hid (St w (w3.setCell ⟨sb, 2, none⟩ (.int .i64 st)) rb #[.slice ao n c, .int .i64 a3] 114 ob #[.int .i64 0, .int .i64 0, .int .i64 0, .slice none 0 0] sb #[.int .i64 0, .int .i64 q, .int .i64 st, .slice none 0 0] 24) := T2.out.store 2 (.int .i64 st)
    have p2 := fun i => S3.out.cell i
    clear hb1 hk1 S2
    go_wp2_with fail
    clear f2 q2 p2 T2
    generalize w3.setCell ⟨sb, 2, none⟩ (.int .i64 st) = W3 at *
    refine (bytes_ok w0 rb n c ao bs a3 a4 k 0 256 W3 S3.out.r H.out.2.1 (S3.out.below H.out.2.2 hrb) hrb hlen hnc h4.out HB.out.2.2).mono ?_
    rintro e w4 ⟨v, rfl, ho, hb1, hk1⟩
    rw [← HB.out.1] at ho
    rw [← HB.out.2.1] at hb1
    obtain ⟨ab, cb, rfl⟩ : ∃ ab cb, v = .slice ab body.length cb := own_slice ho
    have T3 : Hid (St w w4 rb #[.slice ao n c, .int .i64 a'] 114 ob #[.int .i64 0, .int .i64 0, .int .i64 0, .slice none 0 0] sb #[.int .i64 0, .int .i64 q, .int .i64 st, .slice none 0 0] 24) := S3.out.call hb1 hk1
    have HO : Hid (Own w4 W3.heap.size (.slice ab body.length cb) body) := ho
    have f3 := T3.out.fz 3
    have q3 := fun i => T3.out.cell i
    have S4 : Hid (St w (w4.setCell ⟨sb, 3, none⟩ (.slice ab body.length cb)) rb #[.slice ao n c, .int .i64 a'] 114 ob #[.int .i64 0, .int .i64 0, .int .i64 0, .slice none 0 0] sb #[.int .i64 0, .int .i64 q, .int .i64 st, .slice ab body.length cb] 24) := T3.out.store 3 (.slice ab body.length cb)
    have p3 := fun i => S4.out.cell i
    have o0 := fun i => S4.out.cellO i
    have g0 := S4.out.fzO 0
    have U1 : Hid (St w ((w4.setCell ⟨sb, 3, none⟩ (.slice ab body.length cb)).setCell ⟨ob, 0, none⟩ (.int .i64 0)) rb #[.slice ao n c, .int .i64 a'] 114 ob #[.int .i64 0, .int .i64 0, .int .i64 0, .slice none 0 0] sb #[.int .i64 0, .int .i64 q, .int .i64 st, .slice ab body.length cb] 24) := S4.out.storeO 0 (.int .i64 0)
    have o1 := fun i => U1.out.cellO i
    have g1 := U1.out.fzO 1
    have U2 : Hid (St w (((w4.setCell ⟨sb, 3, none⟩ (.slice ab body.length cb)).setCell ⟨ob, 0, none⟩ (.int .i64 0)).setCell ⟨ob, 1, none⟩ (.int .i64 q)) rb #[.slice ao n c, .int .i64 a'] 114 ob #[.int .i64 0, .int .i64 q, .int .i64 0, .slice none 0 0] sb #[.int .i64 0, .int .i64 q, .int .i64 st, .slice ab body.length cb] 24) := U1.out.storeO 1 (.int .i64 q)
    have o2 := fun i => U2.out.cellO i
    have g2 := U2.out.fzO 2
    have U3 : Hid (St w ((((w4.setCell ⟨sb, 3, none⟩ (.slice ab body.length cb)).setCell ⟨ob, 0, none⟩ (.int .i64 0)).setCell ⟨ob, 1, none⟩ (.int .i64 q)).setCell ⟨ob, 2, none⟩ (.int .i64 st)) rb #[.slice ao n c, .int .i64 a'] 114 ob #[.int .i64 0, .int .i64 q, .int .i64 st, .slice none 0 0] sb #[.int .i64 0, .int .i64 q, .int .i64 st, .slice ab body.length cb] 24) := U2.out.storeO 2 (.int .i64 st)
    have o3 := fun i => U3.out.cellO i
    have g3 := U3.out.fzO 3
    have SF : Hid (St w (((((w4.setCell ⟨sb, 3, none⟩ (.slice ab body.length cb)).setCell ⟨ob, 0, none⟩ (.int .i64 0)).setCell ⟨ob, 1, none⟩ (.int .i64 q)).setCell ⟨ob, 2, none⟩ (.int .i64 st)).setCell ⟨ob, 3, none⟩ (.slice ab body.length cb)) rb #[.slice ao n c, .int .i64 a'] 114 ob #[.int .i64 0, .int .i64 q, .int .i64 st, .slice ab body.length cb] sb #[.int .i64 0, .int .i64 q, .int .i64 st, .slice ab body.length cb] 24) := U3.out.storeO 3 (.slice ab body.length cb)
    have o4 := fun i => SF.out.cellO i
    have HOF : Hid (Own (((((w4.setCell ⟨sb, 3, none⟩ (.slice ab body.length cb)).setCell ⟨ob, 0, none⟩ (.int .i64 0)).setCell ⟨ob, 1, none⟩ (.int .i64 q)).setCell ⟨ob, 2, none⟩ (.int .i64 st)).setCell ⟨ob, 3, none⟩ (.slice ab body.length cb)) w.heap.size (.slice ab body.length cb) body) := by
      have hg := S3.out.g
      have hz := S3.out.k.size
      have hso := lt_heap S3.out.o
      have hss := lt_heap S3.out.s
      refine (own_set (own_set (own_set (own_set (own_set HO.out ?_ _ _) ?_ _ _) ?_ _ _) ?_ _ _) ?_ _ _).mono hz <;> omega
    clear hb1 hk1 ho S3
    go_wp2_with fail
    exact bodyPost_ret (v := .agg #[.int .i64 0, .int .i64 q, .int .i64 st, .slice ab body.length cb]) (by simp [results, Try.results68, go_sem, o4]) rfl ⟨ab, cb, rfl, HOF.out, SF.out.r, SF.out.k⟩
  · go_enter Try.func68, Try.ntmps68
    go_wp2_with fail
    have S0 : Hid (St w (((w.alloc (.cells #[.int .i64 0, .int .i64 0, .int .i64 0, .slice none 0 0] 24)).alloc (.cells #[.int .i64 0, .int .i64 0, .int .i64 0, .slice none 0 0] 24)).alloc (.cells #[.int .i64 0, .int .i64 0, .int .i64 0, .slice none 0 0] 24)) rb #[.slice ao n c, .int .i64 a] 114 (w.heap.size + 1) #[.int .i64 0, .int .i64 0, .int .i64 0, .slice none 0 0] (w.heap.size + 1 + 1) #[.int .i64 0, .int .i64 0, .int .i64 0, .slice none 0 0] 24) := St.three H.out.1
    have A0 : Hid ((((w.alloc (.cells #[.int .i64 0, .int .i64 0, .int .i64 0, .slice none 0 0] 24)).alloc (.cells #[.int .i64 0, .int .i64 0, .int .i64 0, .slice none 0 0] 24)).alloc (.cells #[.int .i64 0, .int .i64 0, .int .i64 0, .slice none 0 0] 24)).heap[w.heap.size]? = some (.cells #[.int .i64 0, .int .i64 0, .int .i64 0, .slice none 0 0] 24 (0, 0))) := blk_alloc (blk_alloc (heap_alloc_new w _))
    generalize ((w.alloc (.cells #[.int .i64 0, .int .i64 0, .int .i64 0, .slice none 0 0] 24)).alloc (.cells #[.int .i64 0, .int .i64 0, .int .i64 0, .slice none 0 0] 24)).alloc (.cells #[.int .i64 0, .int .i64 0, .int .i64 0, .slice none 0 0] 24) = W0 at *
    have gl : w.heap.size ≠ w.heap.size + 1 + 1 := by omega
    generalize w.heap.size + 1 + 1 = sb at *
    generalize w.heap.size + 1 = ob at *
    refine (count_ok rb n c ao bs a a1 0 15 s W0 S0.out.r (H.out.2.1.below (S0.out.below H.out.2.2 hrb)) (by omega) h1.out).mono ?_
    rintro e w1 ⟨rfl, hb1, hk1⟩
    have T0 : Hid (St w w1 rb #[.slice ao n c, .int .i64 a1] 114 ob #[.int .i64 0, .int .i64 0, .int .i64 0, .slice none 0 0] sb #[.int .i64 0, .int .i64 0, .int .i64 0, .slice none 0 0] 24) := S0.out.call hb1 hk1
    have A1 : Hid (w1.heap[w.heap.size]? = some (.cells #[.int .i64 0, .int .i64 0, .int .i64 0, .slice none 0 0] 24 (0, 0))) := (hk1.block _ (lt_heap A0.out) (by have := lt_heap H.out.1; show ¬ w.heap.size = rb; omega)).trans A0.out
    have A2 : Hid ((w1.setCell ⟨sb, 0, none⟩ (.int .i64 s)).heap[w.heap.size]? = some (.cells #[.int .i64 0, .int .i64 0, .int .i64 0, .slice none 0 0] 24 (0, 0))) := (Below.heap_setCell w1 ⟨sb, 0, none⟩ _ w.heap.size (by show ¬ w.heap.size = sb; exact gl)).trans A1.out
    have qa := fun i => blk_cell A2.out i
    have f0 := T0.out.fz 0
    have q0 := fun i => T0.out.cell i
    have S1 : Hid (St w (w1.setCell ⟨sb, 0, none⟩ (.int .i64 s)) rb #[.slice ao n c, .int .i64 a1] 114 ob #[.int .i64 0, .int .i64 0, .int .i64 0, .slice none 0 0] sb #[.int .i64 s, .int .i64 0, .int .i64 0, .slice none 0 0] 24) := T0.out.store 0 (.int .i64 s)
    have p0 := fun i => S1.out.cell i
    clear hb1 hk1 S0 A0 A1 A2
    go_wp2_with fail
    clear f0 q0 p0 T0 qa
    generalize w1.setCell ⟨sb, 0, none⟩ (.int .i64 s) = W1 at *
    refine (count_ok rb n c ao bs a1 a2 1 4611686018427387904 q W1 S1.out.r (H.out.2.1.below (S1.out.below H.out.2.2 hrb)) (by omega) h2.out).mono ?_
    rintro e w2 ⟨rfl, hb1, hk1⟩
    have T1 : Hid (St w w2 rb #[.slice ao n c, .int .i64 a2] 114 ob #[.int .i64 0, .int .i64 0, .int .i64 0, .slice none 0 0] sb #[.int .i64 s, .int .i64 0, .int .i64 0, .slice none 0 0] 24) := S1.out.call hb1 hk1
    have f1 := T1.out.fz 1
    have q1 := fun i => T1.out.cell i
    have S2 : Hid (St w (w2.setCell ⟨sb, 1, none⟩ (.int .i64 q)) rb #[.slice ao n c, .int .i64 a2] 114 ob #[.int .i64 0, .int .i64 0, .int .i64 0, .slice none 0 0] sb #[.int .i64 s, .int .i64 q, .int .i64 0, .slice none 0 0] 24) := T1.out.store 1 (.int .i64 q)
    have p1 := fun i => S2.out.cell i
    clear hb1 hk1 S1
    go_wp2_with fail
    clear f1 q1 p1 T1
    generalize w2.setCell ⟨sb, 1, none⟩ (.int .i64 q) = W2 at *
    refine (count_ok rb n c ao bs a2 a3 0 4611686018427387904 st W2 S2.out.r (H.out.2.1.below (S2.out.below H.out.2.2 hrb)) (by omega) h3.out).mono ?_
    rintro e w3 ⟨rfl, hb1, hk1⟩
    have T2 : Hid (St w w3 rb #[.slice ao n c, .int .i64 a3] 114 ob #[.int .i64 0, .int .i64 0, .int .i64 0, .slice none 0 0] sb #[.int .i64 s, .int .i64 q, .int .i64 0, .slice none 0 0] 24) := S2.out.call hb1 hk1
    have f2 := T2.out.fz 2
    have q2 := fun i => T2.out.cell i
    have S3 : Hid (St w (w3.setCell ⟨sb, 2, none⟩ (.int .i64 st)) rb #[.slice ao n c, .int .i64 a3] 114 ob #[.int .i64 0, .int .i64 0, .int .i64 0, .slice none 0 0] sb #[.int .i64 s, .int .i64 q, .int .i64 st, .slice none 0 0] 24) := T2.out.store 2 (.int .i64 st)
    have p2 := fun i => S3.out.cell i
    clear hb1 hk1 S2
    go_wp2_with fail
    clear f2 q2 p2 T2
    generalize w3.setCell ⟨sb, 2, none⟩ (.int .i64 st) = W3 at *
    refine (bytes_ok w0 rb n c ao bs a3 a4 k 0 256 W3 S3.out.r H.out.2.1 (S3.out.below H.out.2.2 hrb) hrb hlen hnc h4.out HB.out.2.2).mono ?_
    rintro e w4 ⟨v, rfl, ho, hb1, hk1⟩
    rw [← HB.out.1] at ho
    rw [← HB.out.2.1] at hb1
    obtain ⟨ab, cb, rfl⟩ : ∃ ab cb, v = .slice ab body.length cb := own_slice ho
    have T3 : Hid (St w w4 rb #[.slice ao n c, .int .i64 a'] 114 ob #[.int .i64 0, .int .i64 0, .int .i64 0, .slice none 0 0] sb #[.int .i64 s, .int .i64 q, .int .i64 st, .slice none 0 0] 24) := S3.out.call hb1 hk1
    have HO : Hid (Own w4 W3.heap.size (.slice ab body.length cb) body) := ho
    have f3 := T3.out.fz 3
    have q3 := fun i => T3.out.cell i
    have S4 : Hid (St w (w4.setCell ⟨sb, 3, none⟩ (.slice ab body.length cb)) rb #[.slice ao n c, .int .i64 a'] 114 ob #[.int .i64 0, .int .i64 0, .int .i64 0, .slice none 0 0] sb #[.int .i64 s, .int .i64 q, .int .i64 st, .slice ab body.length cb] 24) := T3.out.store 3 (.slice ab body.length cb)
    have p3 := fun i => S4.out.cell i
    have o0 := fun i => S4.out.cellO i
    have g0 := S4.out.fzO 0
    have U1 : Hid (St w ((w4.setCell ⟨sb, 3, none⟩ (.slice ab body.length cb)).setCell ⟨ob, 0, none⟩ (.int .i64 s)) rb #[.slice ao n c, .int .i64 a'] 114 ob #[.int .i64 s, .int .i64 0, .int .i64 0, .slice none 0 0] sb #[.int .i64 s, .int .i64 q, .int .i64 st, .slice ab body.length cb] 24) := S4.out.storeO 0 (.int .i64 s)
    have o1 := fun i => U1.out.cellO i
    have g1 := U1.out.fzO 1
    have U2 : Hid (St w (((w4.setCell ⟨sb, 3, none⟩ (.slice ab body.length cb)).setCell ⟨ob, 0, none⟩ (.int .i64 s)).setCell ⟨ob, 1, none⟩ (.int .i64 q)) rb #[.slice ao n c, .int .i64 a'] 114 ob #[.int .i64 s, .int .i64 q, .int .i64 0, .slice none 0 0] sb #[.int .i64 s, .int .i64 q, .int .i64 st, .slice ab body.length cb] 24) := U1.out.storeO 1 (.int .i64 q)
    have o2 := fun i => U2.out.cellO i
    have g2 := U2.out.fzO 2
    have U3 : Hid (St w ((((w4.setCell ⟨sb, 3, none⟩ (.slice ab body.length cb)).setCell ⟨ob, 0, none⟩ (.int .i64 s)).setCell ⟨ob, 1, none⟩ (.int .i64 q)).setCell ⟨ob, 2, none⟩ (.int .i64 st)) rb #[.slice ao n c, .int .i64 a'] 114 ob #[.int .i64 s, .int .i64 q, .int .i64 st, .slice none 0 0] sb #[.int .i64 s, .int .i64 q, .int .i64 st, .slice ab body.length cb] 24) := U2.out.storeO 2 (.int .i64 st)
    have o3 := fun i => U3.out.cellO i
    have g3 := U3.out.fzO 3
    have SF : Hid (St w (((((w4.setCell ⟨sb, 3, none⟩ (.slice ab body.length cb)).setCell ⟨ob, 0, none⟩ (.int .i64 s)).setCell ⟨ob, 1, none⟩ (.int .i64 q)).setCell ⟨ob, 2, none⟩ (.int .i64 st)).setCell ⟨ob, 3, none⟩ (.slice ab body.length cb)) rb #[.slice ao n c, .int .i64 a'] 114 ob #[.int .i64 s, .int .i64 q, .int .i64 st, .slice ab body.length cb] sb #[.int .i64 s, .int .i64 q, .int .i64 st, .slice ab body.length cb] 24) := U3.out.storeO 3 (.slice ab body.length cb)
    have o4 := fun i => SF.out.cellO i
    have HOF : Hid (Own (((((w4.setCell ⟨sb, 3, none⟩ (.slice ab body.length cb)).setCell ⟨ob, 0, none⟩ (.int .i64 s)).setCell ⟨ob, 1, none⟩ (.int .i64 q)).setCell ⟨ob, 2, none⟩ (.int .i64 st)).setCell ⟨ob, 3, none⟩ (.slice ab body.length cb)) w.heap.size (.slice ab body.length cb) body) := by
      have hg := S3.out.g
      have hz := S3.out.k.size
      have hso := lt_heap S3.out.o
      have hss := lt_heap S3.out.s
      refine (own_set (own_set (own_set (own_set (own_set HO.out ?_ _ _) ?_ _ _) ?_ _ _) ?_ _ _) ?_ _ _).mono hz <;> omega
    clear hb1 hk1 ho S3
    go_wp2_with fail
    exact bodyPost_ret (v := .agg #[.int .i64 s, .int .i64 q, .int .i64 st, .slice ab body.length cb]) (by simp [results, Try.results68, go_sem, o4]) rfl ⟨ab, cb, rfl, HOF.out, SF.out.r, SF.out.k⟩

end Go.Proofs.Ytbjpbcanmpimnab.Lo
