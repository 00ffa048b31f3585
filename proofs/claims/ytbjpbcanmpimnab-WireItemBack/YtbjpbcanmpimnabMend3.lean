import Derived.Test.YtbjpbcanmpimnabMend
namespace Go.Proofs.Ytbjpbcanmpimnab.Lo
open Go.RowKit Bk
set_option linter.unusedVariables false

set_option maxRecDepth 100000 in
set_option maxHeartbeats 8000000 in
theorem mend_slot (s q st : Int) (ao : Option Addr) (n c : Nat) (p st2 ss sq P : Int) (hP : Hid (into p 1 4611686018427387904 = P)) (hP1 : 1 ≤ P) (hP2 : P ≤ 4611686018427387904) (w : World) :
    Calls Try.prog 7 #[.agg #[.int .i64 2, .int .i64 s, .int .i64 q, .int .i64 st, .slice ao n c, .int .i64 p, .int .i64 st2, .int .i64 ss, .int .i64 sq]] w fun e w' => e = .returned (.agg #[.int .i64 2, .int .i64 0, .int .i64 0, .int .i64 0, .slice none 0 0, .int .i64 P, .int .i64 (into st2 0 (P - 1)), .int .i64 (into ss 0 15), .int .i64 (into sq 1 4611686018427387904)]) ∧ Below w.heap.size w w' := by
  have hwp : IntKind.i64.wrap (P - 1) = P - 1 := by rw [IntKind.wrap_i64]; omega
  go_enter Try.func7, Try.ntmps7
  go_wp2_with (first | (go_at_call 28; refine (into_any _ _ _ _).mono ?_; rintro e w' ⟨rfl, rfl⟩) | fail)
  rw [hP.out]
  have D0 : Hid (Two w ((w.alloc (.cells #[.int .i64 2, .int .i64 s, .int .i64 q, .int .i64 st, .slice ao n c, .int .i64 p, .int .i64 st2, .int .i64 ss, .int .i64 sq] 28)).alloc (.cells #[.int .i64 0, .int .i64 0, .int .i64 0, .int .i64 0, .slice none 0 0, .int .i64 0, .int .i64 0, .int .i64 0, .int .i64 0] 28)) w.heap.size #[.int .i64 2, .int .i64 s, .int .i64 q, .int .i64 st, .slice ao n c, .int .i64 p, .int .i64 st2, .int .i64 ss, .int .i64 sq] (w.heap.size + 1) #[.int .i64 0, .int .i64 0, .int .i64 0, .int .i64 0, .slice none 0 0, .int .i64 0, .int .i64 0, .int .i64 0, .int .i64 0] 28) := Two.new w _ _ _
  generalize (w.alloc (.cells #[.int .i64 2, .int .i64 s, .int .i64 q, .int .i64 st, .slice ao n c, .int .i64 p, .int .i64 st2, .int .i64 ss, .int .i64 sq] 28)).alloc (.cells #[.int .i64 0, .int .i64 0, .int .i64 0, .int .i64 0, .slice none 0 0, .int .i64 0, .int .i64 0, .int .i64 0, .int .i64 0] 28) = W0 at *
  generalize w.heap.size + 1 = ob at *
  have hc7 : W0.cell? ⟨w.heap.size, 7, none⟩ = some (.int .i64 ss) := D0.out.cd 7
  have hc8 : W0.cell? ⟨w.heap.size, 8, none⟩ = some (.int .i64 sq) := D0.out.cd 8
  have hn7 := World.new_ne W0 _ hc7
  have HSB : Hid (W0.heap.size ≠ ob) := Nat.ne_of_gt (lt_heap D0.out.o)
  simp only at hn7
  rename_i Q K1 a1 K a
  have key : K { tmps := #[.agg #[.int .i64 2, .int .i64 s, .int .i64 q, .int .i64 st, .slice ao n c, .int .i64 p, .int .i64 st2, .int .i64 ss, .int .i64 sq], .pointer (some ⟨w.heap.size, 0, none⟩), .pointer (some ⟨ob, 0, none⟩), .int .i64 P, .pointer (some ⟨W0.heap.size, 0, none⟩), .pointer (some ⟨w.heap.size, 0, none⟩), .int .i64 2, .bool true, .pointer (some ⟨w.heap.size, 5, none⟩), .int .i64 p, .int .i64 P, .pointer (some ⟨w.heap.size, 7, none⟩), .pointer (some ⟨w.heap.size, 7, none⟩), .int .i64 ss, .int .i64 (into ss 0 15), .pointer (some ⟨w.heap.size, 7, none⟩), .pointer (some ⟨w.heap.size, 8, none⟩), .int .i64 sq, .int .i64 (into sq 1 4611686018427387904), .agg #[.int .i64 (into ss 0 15), .int .i64 (into sq 1 4611686018427387904)], undef, undef, undef, undef, undef, undef, undef, undef, undef, undef, undef, undef], defers := [] } (W0.alloc (.cells #[.int .i64 (into ss 0 15), .int .i64 (into sq 1 4611686018427387904)] 26)).drew := by
    apply a
    have D1 : Hid (Two w (W0.alloc (.cells #[.int .i64 (into ss 0 15), .int .i64 (into sq 1 4611686018427387904)] 26)).drew w.heap.size #[.int .i64 2, .int .i64 s, .int .i64 q, .int .i64 st, .slice ao n c, .int .i64 p, .int .i64 st2, .int .i64 ss, .int .i64 sq] ob #[.int .i64 0, .int .i64 0, .int .i64 0, .int .i64 0, .slice none 0 0, .int .i64 0, .int .i64 0, .int .i64 0, .int .i64 0] 28) := D0.out.still (Below.drew (balloc (Below.refl _ _)))
    have hs : Hid ((W0.alloc (.cells #[.int .i64 (into ss 0 15), .int .i64 (into sq 1 4611686018427387904)] 26)).drew.heap[W0.heap.size]? = some (.cells #[.int .i64 (into ss 0 15), .int .i64 (into sq 1 4611686018427387904)] 26 (0, 0))) := heap_alloc_new W0 _
    generalize (W0.alloc (.cells #[.int .i64 (into ss 0 15), .int .i64 (into sq 1 4611686018427387904)] 26)).drew = W1 at *
    generalize W0.heap.size = sb at *
    have B0 := D1
    have hc6 : W1.cell? ⟨w.heap.size, 6, none⟩ = some (.int .i64 st2) := D1.out.cd 6
    have hs0 : W1.cell? ⟨sb, 0, none⟩ = some (.int .i64 (into ss 0 15)) := blk_cell hs.out 0
    have hs1 : W1.cell? ⟨sb, 1, none⟩ = some (.int .i64 (into sq 1 4611686018427387904)) := blk_cell hs.out 1
    clear hc7 hc8 hn7
    have f0 := B0.out.fz 0
    have o0 : W1.cell? ⟨ob, 0, none⟩ = some (.int .i64 0) := B0.out.co 0
    obtain ⟨X0, hX0⟩ : ∃ X, W1.setCell ⟨ob, 0, none⟩ (.int .i64 2) = X := ⟨_, rfl⟩
    have B1 : Hid (Two w X0 w.heap.size #[.int .i64 2, .int .i64 s, .int .i64 q, .int .i64 st, .slice ao n c, .int .i64 p, .int .i64 st2, .int .i64 ss, .int .i64 sq] ob #[.int .i64 2, .int .i64 0, .int .i64 0, .int .i64 0, .slice none 0 0, .int .i64 0, .int .i64 0, .int .i64 0, .int .i64 0] 28) := by rw [← hX0]; exact B0.out.set 0 (.int .i64 2)
    have hs_0 : Hid (X0.heap[sb]? = some (.cells #[.int .i64 (into ss 0 15), .int .i64 (into sq 1 4611686018427387904)] 26 (0, 0))) := by rw [← hX0]; exact (Below.heap_setCell W1 ⟨ob, 0, none⟩ _ sb HSB.out).trans hs.out
    have f1 := B1.out.fz 1
    have o1 : X0.cell? ⟨ob, 1, none⟩ = some (.int .i64 0) := B1.out.co 1
    have e1 : X0.setCell ⟨ob, 1, none⟩ (.int .i64 0) = X0 := setCell_self X0 ob 1 _ 28 _ B1.out.o rfl
    have f2 := B1.out.fz 2
    have o2 : X0.cell? ⟨ob, 2, none⟩ = some (.int .i64 0) := B1.out.co 2
    have e2 : X0.setCell ⟨ob, 2, none⟩ (.int .i64 0) = X0 := setCell_self X0 ob 2 _ 28 _ B1.out.o rfl
    have f3 := B1.out.fz 3
    have o3 : X0.cell? ⟨ob, 3, none⟩ = some (.int .i64 0) := B1.out.co 3
    have e3 : X0.setCell ⟨ob, 3, none⟩ (.int .i64 0) = X0 := setCell_self X0 ob 3 _ 28 _ B1.out.o rfl
    have f4 := B1.out.fz 4
    have o4 : X0.cell? ⟨ob, 4, none⟩ = some (.slice none 0 0) := B1.out.co 4
    have e4 : X0.setCell ⟨ob, 4, none⟩ (.slice none 0 0) = X0 := setCell_self X0 ob 4 _ 28 _ B1.out.o rfl
    have f5 := B1.out.fz 5
    have o5 : X0.cell? ⟨ob, 5, none⟩ = some (.int .i64 0) := B1.out.co 5
    obtain ⟨X5, hX5⟩ : ∃ X, X0.setCell ⟨ob, 5, none⟩ (.int .i64 P) = X := ⟨_, rfl⟩
    have B6 : Hid (Two w X5 w.heap.size #[.int .i64 2, .int .i64 s, .int .i64 q, .int .i64 st, .slice ao n c, .int .i64 p, .int .i64 st2, .int .i64 ss, .int .i64 sq] ob #[.int .i64 2, .int .i64 0, .int .i64 0, .int .i64 0, .slice none 0 0, .int .i64 P, .int .i64 0, .int .i64 0, .int .i64 0] 28) := by rw [← hX5]; exact B1.out.set 5 (.int .i64 P)
    have hs_5 : Hid (X5.heap[sb]? = some (.cells #[.int .i64 (into ss 0 15), .int .i64 (into sq 1 4611686018427387904)] 26 (0, 0))) := by rw [← hX5]; exact (Below.heap_setCell X0 ⟨ob, 5, none⟩ _ sb HSB.out).trans hs_0.out
    have f6 := B6.out.fz 6
    have o6 : X5.cell? ⟨ob, 6, none⟩ = some (.int .i64 0) := B6.out.co 6
    obtain ⟨X6, hX6⟩ : ∃ X, X5.setCell ⟨ob, 6, none⟩ (.int .i64 (into st2 0 (P - 1))) = X := ⟨_, rfl⟩
    have B7 : Hid (Two w X6 w.heap.size #[.int .i64 2, .int .i64 s, .int .i64 q, .int .i64 st, .slice ao n c, .int .i64 p, .int .i64 st2, .int .i64 ss, .int .i64 sq] ob #[.int .i64 2, .int .i64 0, .int .i64 0, .int .i64 0, .slice none 0 0, .int .i64 P, .int .i64 (into st2 0 (P - 1)), .int .i64 0, .int .i64 0] 28) := by rw [← hX6]; exact B6.out.set 6 (.int .i64 (into st2 0 (P - 1)))
    have hs_6 : Hid (X6.heap[sb]? = some (.cells #[.int .i64 (into ss 0 15), .int .i64 (into sq 1 4611686018427387904)] 26 (0, 0))) := by rw [← hX6]; exact (Below.heap_setCell X5 ⟨ob, 6, none⟩ _ sb HSB.out).trans hs_5.out
    have f7 := B7.out.fz 7
    have o7 : X6.cell? ⟨ob, 7, none⟩ = some (.int .i64 0) := B7.out.co 7
    obtain ⟨X7, hX7⟩ : ∃ X, X6.setCell ⟨ob, 7, none⟩ (.int .i64 (into ss 0 15)) = X := ⟨_, rfl⟩
    have B8 : Hid (Two w X7 w.heap.size #[.int .i64 2, .int .i64 s, .int .i64 q, .int .i64 st, .slice ao n c, .int .i64 p, .int .i64 st2, .int .i64 ss, .int .i64 sq] ob #[.int .i64 2, .int .i64 0, .int .i64 0, .int .i64 0, .slice none 0 0, .int .i64 P, .int .i64 (into st2 0 (P - 1)), .int .i64 (into ss 0 15), .int .i64 0] 28) := by rw [← hX7]; exact B7.out.set 7 (.int .i64 (into ss 0 15))
    have hs_7 : Hid (X7.heap[sb]? = some (.cells #[.int .i64 (into ss 0 15), .int .i64 (into sq 1 4611686018427387904)] 26 (0, 0))) := by rw [← hX7]; exact (Below.heap_setCell X6 ⟨ob, 7, none⟩ _ sb HSB.out).trans hs_6.out
    have f8 := B8.out.fz 8
    have o8 : X7.cell? ⟨ob, 8, none⟩ = some (.int .i64 0) := B8.out.co 8
    obtain ⟨X8, hX8⟩ : ∃ X, X7.setCell ⟨ob, 8, none⟩ (.int .i64 (into sq 1 4611686018427387904)) = X := ⟨_, rfl⟩
    have B9 : Hid (Two w X8 w.heap.size #[.int .i64 2, .int .i64 s, .int .i64 q, .int .i64 st, .slice ao n c, .int .i64 p, .int .i64 st2, .int .i64 ss, .int .i64 sq] ob #[.int .i64 2, .int .i64 0, .int .i64 0, .int .i64 0, .slice none 0 0, .int .i64 P, .int .i64 (into st2 0 (P - 1)), .int .i64 (into ss 0 15), .int .i64 (into sq 1 4611686018427387904)] 28) := by rw [← hX8]; exact B8.out.set 8 (.int .i64 (into sq 1 4611686018427387904))
    have hs_8 : Hid (X8.heap[sb]? = some (.cells #[.int .i64 (into ss 0 15), .int .i64 (into sq 1 4611686018427387904)] 26 (0, 0))) := by rw [← hX8]; exact (Below.heap_setCell X7 ⟨ob, 8, none⟩ _ sb HSB.out).trans hs_7.out
    have x6 : X8.cell? ⟨w.heap.size, 6, none⟩ = some (.int .i64 st2) := B9.out.cd 6
    have y0 : X8.cell? ⟨sb, 0, none⟩ = some (.int .i64 (into ss 0 15)) := blk_cell hs_8.out 0
    have y1 : X8.cell? ⟨sb, 1, none⟩ = some (.int .i64 (into sq 1 4611686018427387904)) := blk_cell hs_8.out 1
    go_wp2_with fail
    go_region_held3 (fun w' => w'.cell? ⟨w.heap.size, 6, none⟩ = some (.int .i64 st2) ∧ w'.cell? ⟨sb, 0, none⟩ = some (.int .i64 (into ss 0 15)) ∧ w'.cell? ⟨sb, 1, none⟩ = some (.int .i64 (into sq 1 4611686018427387904))) (go_keep)
      (first | (go_at_call 28; refine (into_any _ _ _ _).mono ?_; rintro e w' ⟨rfl, rfl⟩))
    have oz := fun i => B9.out.co i
    go_wp2_with fail
    exact bodyPost_ret (v := .agg #[.int .i64 2, .int .i64 0, .int .i64 0, .int .i64 0, .slice none 0 0, .int .i64 P, .int .i64 (into st2 0 (P - 1)), .int .i64 (into ss 0 15), .int .i64 (into sq 1 4611686018427387904)]) (by simp [results, Try.results7, go_sem, oz]) rfl ⟨rfl, B9.out.b.drew⟩
  go_region_held3 (fun w' => w'.cell? ⟨w.heap.size, 7, none⟩ = some (.int .i64 ss) ∧ w'.cell? ⟨w.heap.size, 8, none⟩ = some (.int .i64 sq)) (go_keep)
    (first | (go_at_call 28; refine (into_any _ _ _ _).mono ?_; rintro e w' ⟨rfl, rfl⟩))
  all_goals exact key

end Go.Proofs.Ytbjpbcanmpimnab.Lo
