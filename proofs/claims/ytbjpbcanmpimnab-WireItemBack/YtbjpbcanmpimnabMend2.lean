import Derived.Test.YtbjpbcanmpimnabMend
namespace Go.Proofs.Ytbjpbcanmpimnab.Lo
open Go.RowKit Bk
set_option linter.unusedVariables false

set_option maxRecDepth 100000 in
set_option maxHeartbeats 2000000 in
theorem mend_data (k s q st : Int) (hk : k ≠ 2) (ao : Option Addr) (c : Nat) (body T : List Int) (hT : Hid (body.take 256 = T)) (p st2 ss sq : Int) (w : World) (hr : Rd w ao body.length c body) (hnc : body.length ≤ c) (hlen : body.length ≤ 140737488355328) :
    Calls Try.prog 7 #[.agg #[.int .i64 k, .int .i64 s, .int .i64 q, .int .i64 st, .slice ao body.length c, .int .i64 p, .int .i64 st2, .int .i64 ss, .int .i64 sq]] w fun e w' => ∃ ab cb, e = .returned (.agg #[.int .i64 1, .int .i64 (into s 0 15), .int .i64 (into q 1 4611686018427387904), .int .i64 (into st 0 4611686018427387904), .slice ab T.length cb, .int .i64 0, .int .i64 0, .int .i64 0, .int .i64 0]) ∧ Own w' w.heap.size (.slice ab T.length cb) T ∧ Below w.heap.size w w' := by
  have HR : Hid (Rd w ao body.length c body) := hr
  have hk' : (k == 2) = false := by simpa using hk
  clear hr
  go_enter Try.func7, Try.ntmps7
  go_wp2_with fail
  have D0 : Hid (Two w ((w.alloc (.cells #[.int .i64 k, .int .i64 s, .int .i64 q, .int .i64 st, .slice ao body.length c, .int .i64 p, .int .i64 st2, .int .i64 ss, .int .i64 sq] 28)).alloc (.cells #[.int .i64 0, .int .i64 0, .int .i64 0, .int .i64 0, .slice none 0 0, .int .i64 0, .int .i64 0, .int .i64 0, .int .i64 0] 28)) w.heap.size #[.int .i64 k, .int .i64 s, .int .i64 q, .int .i64 st, .slice ao body.length c, .int .i64 p, .int .i64 st2, .int .i64 ss, .int .i64 sq] (w.heap.size + 1) #[.int .i64 0, .int .i64 0, .int .i64 0, .int .i64 0, .slice none 0 0, .int .i64 0, .int .i64 0, .int .i64 0, .int .i64 0] 28) := Two.new w _ _ _
  generalize (w.alloc (.cells #[.int .i64 k, .int .i64 s, .int .i64 q, .int .i64 st, .slice ao body.length c, .int .i64 p, .int .i64 st2, .int .i64 ss, .int .i64 sq] 28)).alloc (.cells #[.int .i64 0, .int .i64 0, .int .i64 0, .int .i64 0, .slice none 0 0, .int .i64 0, .int .i64 0, .int .i64 0, .int .i64 0] 28) = W0 at *
  have hz : w.heap.size ≤ W0.heap.size := D0.out.b.size
  generalize w.heap.size + 1 = ob at *
  have hob : ob < W0.heap.size := lt_heap D0.out.o
  refine (mendData_any s q st ao c body T hT W0 (HR.out.below D0.out.b) hnc hlen).mono ?_
  rintro e w2 ⟨ab, cb, rfl, ho, hb⟩
  have HO2 : Hid (Own w2 W0.heap.size (.slice ab T.length cb) T) := ho
  have B0 : Hid (Two w w2 w.heap.size #[.int .i64 k, .int .i64 s, .int .i64 q, .int .i64 st, .slice ao body.length c, .int .i64 p, .int .i64 st2, .int .i64 ss, .int .i64 sq] ob #[.int .i64 0, .int .i64 0, .int .i64 0, .int .i64 0, .slice none 0 0, .int .i64 0, .int .i64 0, .int .i64 0, .int .i64 0] 28) := D0.out.still hb
  clear ho hb D0
  have fB0 := B0.out.fz 0
  have oB0 := fun i => B0.out.co i
  have B1 : Hid (Two w (w2.setCell ⟨ob, 0, none⟩ (.int .i64 1)) w.heap.size #[.int .i64 k, .int .i64 s, .int .i64 q, .int .i64 st, .slice ao body.length c, .int .i64 p, .int .i64 st2, .int .i64 ss, .int .i64 sq] ob #[.int .i64 1, .int .i64 0, .int .i64 0, .int .i64 0, .slice none 0 0, .int .i64 0, .int .i64 0, .int .i64 0, .int .i64 0] 28) := B0.out.set 0 (.int .i64 1)
  have fB1 := B1.out.fz 1
  have oB1 := fun i => B1.out.co i
  have B2 : Hid (Two w ((w2.setCell ⟨ob, 0, none⟩ (.int .i64 1)).setCell ⟨ob, 1, none⟩ (.int .i64 (into s 0 15))) w.heap.size #[.int .i64 k, .int .i64 s, .int .i64 q, .int .i64 st, .slice ao body.length c, .int .i64 p, .int .i64 st2, .int .i64 ss, .int .i64 sq] ob #[.int .i64 1, .int .i64 (into s 0 15), .int .i64 0, .int .i64 0, .slice none 0 0, .int .i64 0, .int .i64 0, .int .i64 0, .int .i64 0] 28) := B1.out.set 1 (.int .i64 (into s 0 15))
  have fB2 := B2.out.fz 2
  have oB2 := fun i => B2.out.co i
  have B3 : Hid (Two w (((w2.setCell ⟨ob, 0, none⟩ (.int .i64 1)).setCell ⟨ob, 1, none⟩ (.int .i64 (into s 0 15))).setCell ⟨ob, 2, none⟩ (.int .i64 (into q 1 4611686018427387904))) w.heap.size #[.int .i64 k, .int .i64 s, .int .i64 q, .int .i64 st, .slice ao body.length c, .int .i64 p, .int .i64 st2, .int .i64 ss, .int .i64 sq] ob #[.int .i64 1, .int .i64 (into s 0 15), .int .i64 (into q 1 4611686018427387904), .int .i64 0, .slice none 0 0, .int .i64 0, .int .i64 0, .int .i64 0, .int .i64 0] 28) := B2.out.set 2 (.int .i64 (into q 1 4611686018427387904))
  have fB3 := B3.out.fz 3
  have oB3 := fun i => B3.out.co i
  have B4 : Hid (Two w ((((w2.setCell ⟨ob, 0, none⟩ (.int .i64 1)).setCell ⟨ob, 1, none⟩ (.int .i64 (into s 0 15))).setCell ⟨ob, 2, none⟩ (.int .i64 (into q 1 4611686018427387904))).setCell ⟨ob, 3, none⟩ (.int .i64 (into st 0 4611686018427387904))) w.heap.size #[.int .i64 k, .int .i64 s, .int .i64 q, .int .i64 st, .slice ao body.length c, .int .i64 p, .int .i64 st2, .int .i64 ss, .int .i64 sq] ob #[.int .i64 1, .int .i64 (into s 0 15), .int .i64 (into q 1 4611686018427387904), .int .i64 (into st 0 4611686018427387904), .slice none 0 0, .int .i64 0, .int .i64 0, .int .i64 0, .int .i64 0] 28) := B3.out.set 3 (.int .i64 (into st 0 4611686018427387904))
  have fB4 := B4.out.fz 4
  have oB4 := fun i => B4.out.co i
  have B5 : Hid (Two w (((((w2.setCell ⟨ob, 0, none⟩ (.int .i64 1)).setCell ⟨ob, 1, none⟩ (.int .i64 (into s 0 15))).setCell ⟨ob, 2, none⟩ (.int .i64 (into q 1 4611686018427387904))).setCell ⟨ob, 3, none⟩ (.int .i64 (into st 0 4611686018427387904))).setCell ⟨ob, 4, none⟩ (.slice ab T.length cb)) w.heap.size #[.int .i64 k, .int .i64 s, .int .i64 q, .int .i64 st, .slice ao body.length c, .int .i64 p, .int .i64 st2, .int .i64 ss, .int .i64 sq] ob #[.int .i64 1, .int .i64 (into s 0 15), .int .i64 (into q 1 4611686018427387904), .int .i64 (into st 0 4611686018427387904), .slice ab T.length cb, .int .i64 0, .int .i64 0, .int .i64 0, .int .i64 0] 28) := B4.out.set 4 (.slice ab T.length cb)
  have fB5 := B5.out.fz 5
  have oB5 := fun i => B5.out.co i
  have B6 : Hid (Two w ((((((w2.setCell ⟨ob, 0, none⟩ (.int .i64 1)).setCell ⟨ob, 1, none⟩ (.int .i64 (into s 0 15))).setCell ⟨ob, 2, none⟩ (.int .i64 (into q 1 4611686018427387904))).setCell ⟨ob, 3, none⟩ (.int .i64 (into st 0 4611686018427387904))).setCell ⟨ob, 4, none⟩ (.slice ab T.length cb)).setCell ⟨ob, 5, none⟩ (.int .i64 0)) w.heap.size #[.int .i64 k, .int .i64 s, .int .i64 q, .int .i64 st, .slice ao body.length c, .int .i64 p, .int .i64 st2, .int .i64 ss, .int .i64 sq] ob #[.int .i64 1, .int .i64 (into s 0 15), .int .i64 (into q 1 4611686018427387904), .int .i64 (into st 0 4611686018427387904), .slice ab T.length cb, .int .i64 0, .int .i64 0, .int .i64 0, .int .i64 0] 28) := B5.out.set 5 (.int .i64 0)
  have fB6 := B6.out.fz 6
  have oB6 := fun i => B6.out.co i
  have B7 : Hid (Two w (((((((w2.setCell ⟨ob, 0, none⟩ (.int .i64 1)).setCell ⟨ob, 1, none⟩ (.int .i64 (into s 0 15))).setCell ⟨ob, 2, none⟩ (.int .i64 (into q 1 4611686018427387904))).setCell ⟨ob, 3, none⟩ (.int .i64 (into st 0 4611686018427387904))).setCell ⟨ob, 4, none⟩ (.slice ab T.length cb)).setCell ⟨ob, 5, none⟩ (.int .i64 0)).setCell ⟨ob, 6, none⟩ (.int .i64 0)) w.heap.size #[.int .i64 k, .int .i64 s, .int .i64 q, .int .i64 st, .slice ao body.length c, .int .i64 p, .int .i64 st2, .int .i64 ss, .int .i64 sq] ob #[.int .i64 1, .int .i64 (into s 0 15), .int .i64 (into q 1 4611686018427387904), .int .i64 (into st 0 4611686018427387904), .slice ab T.length cb, .int .i64 0, .int .i64 0, .int .i64 0, .int .i64 0] 28) := B6.out.set 6 (.int .i64 0)
  have fB7 := B7.out.fz 7
  have oB7 := fun i => B7.out.co i
  have B8 : Hid (Two w ((((((((w2.setCell ⟨ob, 0, none⟩ (.int .i64 1)).setCell ⟨ob, 1, none⟩ (.int .i64 (into s 0 15))).setCell ⟨ob, 2, none⟩ (.int .i64 (into q 1 4611686018427387904))).setCell ⟨ob, 3, none⟩ (.int .i64 (into st 0 4611686018427387904))).setCell ⟨ob, 4, none⟩ (.slice ab T.length cb)).setCell ⟨ob, 5, none⟩ (.int .i64 0)).setCell ⟨ob, 6, none⟩ (.int .i64 0)).setCell ⟨ob, 7, none⟩ (.int .i64 0)) w.heap.size #[.int .i64 k, .int .i64 s, .int .i64 q, .int .i64 st, .slice ao body.length c, .int .i64 p, .int .i64 st2, .int .i64 ss, .int .i64 sq] ob #[.int .i64 1, .int .i64 (into s 0 15), .int .i64 (into q 1 4611686018427387904), .int .i64 (into st 0 4611686018427387904), .slice ab T.length cb, .int .i64 0, .int .i64 0, .int .i64 0, .int .i64 0] 28) := B7.out.set 7 (.int .i64 0)
  have fB8 := B8.out.fz 8
  have oB8 := fun i => B8.out.co i
  have B9 : Hid (Two w (((((((((w2.setCell ⟨ob, 0, none⟩ (.int .i64 1)).setCell ⟨ob, 1, none⟩ (.int .i64 (into s 0 15))).setCell ⟨ob, 2, none⟩ (.int .i64 (into q 1 4611686018427387904))).setCell ⟨ob, 3, none⟩ (.int .i64 (into st 0 4611686018427387904))).setCell ⟨ob, 4, none⟩ (.slice ab T.length cb)).setCell ⟨ob, 5, none⟩ (.int .i64 0)).setCell ⟨ob, 6, none⟩ (.int .i64 0)).setCell ⟨ob, 7, none⟩ (.int .i64 0)).setCell ⟨ob, 8, none⟩ (.int .i64 0)) w.heap.size #[.int .i64 k, .int .i64 s, .int .i64 q, .int .i64 st, .slice ao body.length c, .int .i64 p, .int .i64 st2, .int .i64 ss, .int .i64 sq] ob #[.int .i64 1, .int .i64 (into s 0 15), .int .i64 (into q 1 4611686018427387904), .int .i64 (into st 0 4611686018427387904), .slice ab T.length cb, .int .i64 0, .int .i64 0, .int .i64 0, .int .i64 0] 28) := B8.out.set 8 (.int .i64 0)
  have oz := fun i => B9.out.co i
  have HOF : Hid (Own (((((((((w2.setCell ⟨ob, 0, none⟩ (.int .i64 1)).setCell ⟨ob, 1, none⟩ (.int .i64 (into s 0 15))).setCell ⟨ob, 2, none⟩ (.int .i64 (into q 1 4611686018427387904))).setCell ⟨ob, 3, none⟩ (.int .i64 (into st 0 4611686018427387904))).setCell ⟨ob, 4, none⟩ (.slice ab T.length cb)).setCell ⟨ob, 5, none⟩ (.int .i64 0)).setCell ⟨ob, 6, none⟩ (.int .i64 0)).setCell ⟨ob, 7, none⟩ (.int .i64 0)).setCell ⟨ob, 8, none⟩ (.int .i64 0)) w.heap.size (.slice ab T.length cb) T) := Own.mono (own_set (own_set (own_set (own_set (own_set (own_set (own_set (own_set (own_set HO2.out hob 0 _) hob 1 _) hob 2 _) hob 3 _) hob 4 _) hob 5 _) hob 6 _) hob 7 _) hob 8 _) hz
  go_wp2_with fail
  exact bodyPost_ret (v := .agg #[.int .i64 1, .int .i64 (into s 0 15), .int .i64 (into q 1 4611686018427387904), .int .i64 (into st 0 4611686018427387904), .slice ab T.length cb, .int .i64 0, .int .i64 0, .int .i64 0, .int .i64 0]) (by simp [results, Try.results7, go_sem, oz]) rfl ⟨ab, cb, rfl, HOF.out, B9.out.b⟩

end Go.Proofs.Ytbjpbcanmpimnab.Lo
