import Derived.Test.YtbjpbcanmpimnabSm1
namespace Go.Proofs.Ytbjpbcanmpimnab.Lo
open Go.RowKit Bk
set_option linter.unusedVariables false
set_option linter.unusedSimpArgs false

structure Tw (w W : World) (A B : Array Value) (t : TypeId) : Prop where
  a : W.heap[w.heap.size]? = some (.cells A t (0, 0))
  b : W.heap[w.heap.size + 1]? = some (.cells B t (0, 0))
  l : Below w.heap.size w W
theorem Tw.new (w : World) (A B : Array Value) (t : TypeId) : Tw w ((w.alloc (.cells A t)).alloc (.cells B t)) A B t := by
  refine ⟨blk_alloc (heap_alloc_new w _), ?_, balloc (balloc (Below.refl _ _))⟩
  have h := heap_alloc_new (w.alloc (.cells A t)) (.cells B t)
  rwa [World.size_alloc] at h
theorem Tw.still {w W W' : World} {A B : Array Value} {t : TypeId} (h : Tw w W A B t) (hb : Below W.heap.size W W') : Tw w W' A B t :=
  ⟨(hb.block _ (lt_heap h.a)).trans h.a, (hb.block _ (lt_heap h.b)).trans h.b, bstep h.l hb⟩
theorem Tw.ca {w W : World} {A B : Array Value} {t : TypeId} (h : Tw w W A B t) (i : Nat) : W.cell? ⟨w.heap.size, i, none⟩ = A[i]? := blk_cell h.a i
theorem Tw.cb {w W : World} {A B : Array Value} {t : TypeId} (h : Tw w W A B t) (i : Nat) : W.cell? ⟨w.heap.size + 1, i, none⟩ = B[i]? := blk_cell h.b i

set_option maxRecDepth 100000 in
set_option maxHeartbeats 2000000 in
theorem samePropose_any (d r t e l i c : Int) (a1 a2 : Option Addr) (n c1 c2 : Nat) (ss : List Int) (b1 b2 : Option Addr) (m e1 e2 : Nat) (vs : List Int) (w : World) (h1 : Ri w a1 n ss) (h2 : Ri w a2 n ss) (h3 : Ri w b1 m vs) (h4 : Ri w b2 m vs) (l1 : n ≤ 140737488355328) (l2 : m ≤ 140737488355328) :
    Calls Try.prog 55 #[.agg #[.slice a1 n c1, .int .i64 d, .int .i64 r, .int .i64 t, .int .i64 e, .int .i64 l, .int .i64 i, .int .i64 c, .slice b1 m e1], .agg #[.slice a2 n c2, .int .i64 d, .int .i64 r, .int .i64 t, .int .i64 e, .int .i64 l, .int .i64 i, .int .i64 c, .slice b2 m e2]] w fun e w' => e = .returned (.bool true) ∧ Below w.heap.size w w' := by
  have H1 : Hid (Ri w a1 n ss) := h1
  have H2 : Hid (Ri w a2 n ss) := h2
  have H3 : Hid (Ri w b1 m vs) := h3
  have H4 : Hid (Ri w b2 m vs) := h4
  have L1 : Hid (n ≤ 140737488355328) := l1
  have L2 : Hid (m ≤ 140737488355328) := l2
  clear h1 h2 h3 h4 l1 l2
  have T0 : Hid (Tw w ((w.alloc (.cells #[.slice a1 n c1, .int .i64 d, .int .i64 r, .int .i64 t, .int .i64 e, .int .i64 l, .int .i64 i, .int .i64 c, .slice b1 m e1] 58)).alloc (.cells #[.slice a2 n c2, .int .i64 d, .int .i64 r, .int .i64 t, .int .i64 e, .int .i64 l, .int .i64 i, .int .i64 c, .slice b2 m e2] 58)) #[.slice a1 n c1, .int .i64 d, .int .i64 r, .int .i64 t, .int .i64 e, .int .i64 l, .int .i64 i, .int .i64 c, .slice b1 m e1] #[.slice a2 n c2, .int .i64 d, .int .i64 r, .int .i64 t, .int .i64 e, .int .i64 l, .int .i64 i, .int .i64 c, .slice b2 m e2] 58) := Tw.new w _ _ _
  have d0 := fun i => T0.out.ca i
  have f0 := fun i => T0.out.cb i
  go_enter Try.func55, Try.ntmps55
  go_wp2_with (first
    | (go_at_call 54; refine (sameInts_any b1 b2 m e1 e2 vs _ (H3.out.below T1.out.l) (H4.out.below T1.out.l) L2.out).mono ?_; rintro e w2 ⟨rfl, hb⟩; have T2 : Hid (Tw w w2 #[.slice a1 n c1, .int .i64 d, .int .i64 r, .int .i64 t, .int .i64 e, .int .i64 l, .int .i64 i, .int .i64 c, .slice b1 m e1] #[.slice a2 n c2, .int .i64 d, .int .i64 r, .int .i64 t, .int .i64 e, .int .i64 l, .int .i64 i, .int .i64 c, .slice b2 m e2] 58) := T1.out.still hb; clear hb; have d2 := fun i => T2.out.ca i; have f2 := fun i => T2.out.cb i)
    | (go_at_call 54; refine (sameInts_any a1 a2 n c1 c2 ss _ (H1.out.below T0.out.l) (H2.out.below T0.out.l) L1.out).mono ?_; rintro e w1 ⟨rfl, hb⟩; have T1 : Hid (Tw w w1 #[.slice a1 n c1, .int .i64 d, .int .i64 r, .int .i64 t, .int .i64 e, .int .i64 l, .int .i64 i, .int .i64 c, .slice b1 m e1] #[.slice a2 n c2, .int .i64 d, .int .i64 r, .int .i64 t, .int .i64 e, .int .i64 l, .int .i64 i, .int .i64 c, .slice b2 m e2] 58) := T0.out.still hb; clear hb; have d1 := fun i => T1.out.ca i; have f1 := fun i => T1.out.cb i)
    | fail)
  go_ret
  exact ⟨rfl, T2.out.l⟩

set_option maxRecDepth 100000 in
set_option maxHeartbeats 2000000 in
theorem sameFlush_any (e l i c b : Int) (a1 a2 : Option Addr) (n c1 c2 : Nat) (sl : List (Int × Int)) (b1 b2 : Option Addr) (m e1 e2 : Nat) (hs : List Int) (w : World) (h1 : Rs w a1 n sl) (h2 : Rs w a2 n sl) (h3 : Ri w b1 m hs) (h4 : Ri w b2 m hs) (l1 : n ≤ 140737488355328) (l2 : m ≤ 140737488355328) :
    Calls Try.prog 56 #[.agg #[.int .i64 e, .int .i64 l, .int .i64 i, .int .i64 c, .int .i64 b, .slice a1 n c1, .slice b1 m e1], .agg #[.int .i64 e, .int .i64 l, .int .i64 i, .int .i64 c, .int .i64 b, .slice a2 n c2, .slice b2 m e2]] w fun e w' => e = .returned (.bool true) ∧ Below w.heap.size w w' := by
  have H1 : Hid (Rs w a1 n sl) := h1
  have H2 : Hid (Rs w a2 n sl) := h2
  have H3 : Hid (Ri w b1 m hs) := h3
  have H4 : Hid (Ri w b2 m hs) := h4
  have L1 : Hid (n ≤ 140737488355328) := l1
  have L2 : Hid (m ≤ 140737488355328) := l2
  clear h1 h2 h3 h4 l1 l2
  have T0 : Hid (Tw w ((w.alloc (.cells #[.int .i64 e, .int .i64 l, .int .i64 i, .int .i64 c, .int .i64 b, .slice a1 n c1, .slice b1 m e1] 61)).alloc (.cells #[.int .i64 e, .int .i64 l, .int .i64 i, .int .i64 c, .int .i64 b, .slice a2 n c2, .slice b2 m e2] 61)) #[.int .i64 e, .int .i64 l, .int .i64 i, .int .i64 c, .int .i64 b, .slice a1 n c1, .slice b1 m e1] #[.int .i64 e, .int .i64 l, .int .i64 i, .int .i64 c, .int .i64 b, .slice a2 n c2, .slice b2 m e2] 61) := Tw.new w _ _ _
  have d0 := fun i => T0.out.ca i
  have f0 := fun i => T0.out.cb i
  go_enter Try.func56, Try.ntmps56
  go_wp2_with (first
    | (go_at_call 54; refine (sameInts_any b1 b2 m e1 e2 hs _ (H3.out.below T1.out.l) (H4.out.below T1.out.l) L2.out).mono ?_; rintro e w2 ⟨rfl, hb⟩; have T2 : Hid (Tw w w2 #[.int .i64 e, .int .i64 l, .int .i64 i, .int .i64 c, .int .i64 b, .slice a1 n c1, .slice b1 m e1] #[.int .i64 e, .int .i64 l, .int .i64 i, .int .i64 c, .int .i64 b, .slice a2 n c2, .slice b2 m e2] 61) := T1.out.still hb; clear hb; have d2 := fun i => T2.out.ca i; have f2 := fun i => T2.out.cb i)
    | (go_at_call 98; refine (sameSlots_any a1 a2 n c1 c2 sl _ (H1.out.below T0.out.l) (H2.out.below T0.out.l) L1.out).mono ?_; rintro e w1 ⟨rfl, hb⟩; have T1 : Hid (Tw w w1 #[.int .i64 e, .int .i64 l, .int .i64 i, .int .i64 c, .int .i64 b, .slice a1 n c1, .slice b1 m e1] #[.int .i64 e, .int .i64 l, .int .i64 i, .int .i64 c, .int .i64 b, .slice a2 n c2, .slice b2 m e2] 61) := T0.out.still hb; clear hb; have d1 := fun i => T1.out.ca i; have f1 := fun i => T1.out.cb i)
    | fail)
  go_ret
  exact ⟨rfl, T2.out.l⟩

set_option maxRecDepth 100000 in
set_option maxHeartbeats 2000000 in
theorem sameFrame_any (e l i c s : Int) (a1 a2 : Option Addr) (n c1 c2 : Nat) (bs : List Int) (w : World) (h1 : Rd w a1 n c1 bs) (h2 : Rd w a2 n c2 bs) (l1 : n ≤ 140737488355328) :
    Calls Try.prog 57 #[.agg #[.int .i64 e, .int .i64 l, .int .i64 i, .int .i64 c, .int .i64 s, .slice a1 n c1], .agg #[.int .i64 e, .int .i64 l, .int .i64 i, .int .i64 c, .int .i64 s, .slice a2 n c2]] w fun e w' => e = .returned (.bool true) ∧ Below w.heap.size w w' := by
  have H1 : Hid (Rd w a1 n c1 bs) := h1
  have H2 : Hid (Rd w a2 n c2 bs) := h2
  have L1 : Hid (n ≤ 140737488355328) := l1
  clear h1 h2 l1
  have T0 : Hid (Tw w ((w.alloc (.cells #[.int .i64 e, .int .i64 l, .int .i64 i, .int .i64 c, .int .i64 s, .slice a1 n c1] 65)).alloc (.cells #[.int .i64 e, .int .i64 l, .int .i64 i, .int .i64 c, .int .i64 s, .slice a2 n c2] 65)) #[.int .i64 e, .int .i64 l, .int .i64 i, .int .i64 c, .int .i64 s, .slice a1 n c1] #[.int .i64 e, .int .i64 l, .int .i64 i, .int .i64 c, .int .i64 s, .slice a2 n c2] 65) := Tw.new w _ _ _
  have d0 := fun i => T0.out.ca i
  have f0 := fun i => T0.out.cb i
  go_enter Try.func57, Try.ntmps57
  go_wp2_with (first
    | (go_at_call 13; refine (same_any a1 a2 n c1 c2 bs _ (H1.out.below T0.out.l) (H2.out.below T0.out.l) L1.out).mono ?_; rintro e w1 ⟨rfl, hb⟩; have T1 : Hid (Tw w w1 #[.int .i64 e, .int .i64 l, .int .i64 i, .int .i64 c, .int .i64 s, .slice a1 n c1] #[.int .i64 e, .int .i64 l, .int .i64 i, .int .i64 c, .int .i64 s, .slice a2 n c2] 65) := T0.out.still hb; clear hb; have d1 := fun i => T1.out.ca i; have f1 := fun i => T1.out.cb i)
    | fail)
  go_ret
  exact ⟨rfl, T1.out.l⟩

end Go.Proofs.Ytbjpbcanmpimnab.Lo
