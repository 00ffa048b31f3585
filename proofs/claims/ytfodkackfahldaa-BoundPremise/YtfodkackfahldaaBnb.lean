import Derived.Test.YtfodkackfahldaaBna
namespace Go.Proofs.Ytfodkackfahldaa.Lo
open Go.RowKit
set_option linter.unusedVariables false
set_option linter.unusedSimpArgs false

theorem bsp (w : World) (cs : Array Value) (t : TypeId) : Below w.heap.size w (w.alloc (.cells cs t)) := (Below.refl _ _).alloc (Nat.le_refl _) _
theorem blk_on {a b : World} {k : Nat} {o : Obj} (hb : Below a.heap.size a b) (h : a.heap[k]? = some o) : b.heap[k]? = some o := (hb.block k (Array.getElem?_eq_some_iff.1 h).1).trans h
theorem bst {w a b : World} (h : Below w.heap.size w a) (k : Below a.heap.size a b) : Below w.heap.size w b := h.trans (k.mono h.size)


set_option maxRecDepth 100000 in
set_option maxHeartbeats 2000000 in
theorem cd_no (no wi ba st ca ro fl d : Int) (ao : Option Addr) (n c : Nat) (xs : List Int) (r : Bool) (w : World) (h : Cf w no wi ba st ca ro fl ao n c xs r 22) :
    Calls Try.prog 26 #[.agg #[.int .i64 no, .int .i64 wi, .int .i64 ba, .int .i64 st, .int .i64 ca, .int .i64 ro, .int .i64 fl, .slice ao n c], .int .i64 d] w fun e w' => e = .returned (.int .i64 22) ∧ Below w.heap.size w w' := by
  have HR : Hid (Cf w no wi ba st ca ro fl ao n c xs r 22) := h
  clear h
  go_enter Try.func26, Try.ntmps26
  go_wp2_with (first
    | (go_at_call 32; refine (check_eq _ _ _ _ _ _ _ _ _ _ xs r 22 _ (HR.out.below (by first | exact bsp _ _ _ | exact HB.out | exact bst (bsp _ _ _) HB.out | exact Below.refl _ _)).rd HR.out.le HR.out.vt HR.out.er).mono ?_; rintro e w' ⟨rfl, hb⟩; have HB : Hid (Below w.heap.size w w') := bst (by first | exact bsp _ _ _ | exact HB.out | exact bst (bsp _ _ _) HB.out | exact Below.refl _ _) hb; have HK : Hid (w'.heap[w.heap.size]? = some (.cells #[.int .i64 no, .int .i64 wi, .int .i64 ba, .int .i64 st, .int .i64 ca, .int .i64 ro, .int .i64 fl, .slice ao n c] 24 (0, 0))) := blk_on hb (by first | exact heap_new _ _ _ | exact HK.out); have hpc := fun i => blk_cell HK.out i; clear hb)
    | (go_at_call 33; refine (bwithin_any _ _ _ _).mono ?_; rintro e w' ⟨rfl, rfl⟩)
    | fail)
  all_goals first
    | go_ret
    | ((try simp only [Exit.inBlock, Exit.then]); refine bodyPost_ret (results_tmp2 rfl _ _ _) rfl ?_)
  all_goals exact ⟨rfl, (by first | exact bsp _ _ _ | exact HB.out | exact bst (bsp _ _ _) HB.out | exact Below.refl _ _)⟩


set_option maxRecDepth 100000 in
set_option maxHeartbeats 2000000 in
theorem al_no (no wi ba st ca ro fl d : Int) (ao : Option Addr) (n c : Nat) (xs : List Int) (r : Bool) (w : World) (h : Cf w no wi ba st ca ro fl ao n c xs r 22) :
    Calls Try.prog 28 #[.agg #[.int .i64 no, .int .i64 wi, .int .i64 ba, .int .i64 st, .int .i64 ca, .int .i64 ro, .int .i64 fl, .slice ao n c], .int .i64 d] w fun e w' => e = .returned (.int .i64 22) ∧ Below w.heap.size w w' := by
  have HR : Hid (Cf w no wi ba st ca ro fl ao n c xs r 22) := h
  clear h
  go_enter Try.func28, Try.ntmps28
  go_wp2_with (first
    | (go_at_call 7; refine (rcheck_eq _ _ _ _ _ _ _ _ _ _ xs r 22 _ (HR.out.below (by first | exact bsp _ _ _ | exact HB.out | exact bst (bsp _ _ _) HB.out | exact Below.refl _ _)).rd HR.out.le HR.out.vt HR.out.er).mono ?_; rintro e w' ⟨rfl, hb⟩; have HB : Hid (Below w.heap.size w w') := bst (by first | exact bsp _ _ _ | exact HB.out | exact bst (bsp _ _ _) HB.out | exact Below.refl _ _) hb; have HK : Hid (w'.heap[w.heap.size]? = some (.cells #[.int .i64 no, .int .i64 wi, .int .i64 ba, .int .i64 st, .int .i64 ca, .int .i64 ro, .int .i64 fl, .slice ao n c] 24 (0, 0))) := blk_on hb (by first | exact heap_new _ _ _ | exact HK.out); have hpc := fun i => blk_cell HK.out i; clear hb)
    | fail)
  all_goals first
    | go_ret
    | ((try simp only [Exit.inBlock, Exit.then]); refine bodyPost_ret (results_tmp2 rfl _ _ _) rfl ?_)
  all_goals exact ⟨rfl, (by first | exact bsp _ _ _ | exact HB.out | exact bst (bsp _ _ _) HB.out | exact Below.refl _ _)⟩


set_option maxRecDepth 100000 in
set_option maxHeartbeats 2000000 in
theorem set_no (no wi ba st ca ro fl d : Int) (ao : Option Addr) (n c : Nat) (xs : List Int) (r : Bool) (w : World) (h : Cf w no wi ba st ca ro fl ao n c xs r 22) :
    Calls Try.prog 11 #[.agg #[.int .i64 no, .int .i64 wi, .int .i64 ba, .int .i64 st, .int .i64 ca, .int .i64 ro, .int .i64 fl, .slice ao n c], .int .i64 d] w fun e w' => e = .returned (.tuple #[.int .i64 (0), .int .i64 22]) ∧ Below w.heap.size w w' := by
  have HR : Hid (Cf w no wi ba st ca ro fl ao n c xs r 22) := h
  clear h
  go_enter Try.func11, Try.ntmps11
  go_wp2_with (first
    | (go_at_call 26; refine (cd_no _ _ _ _ _ _ _ _ _ _ _ xs r _ (HR.out.below (by first | exact bsp _ _ _ | exact HB.out | exact bst (bsp _ _ _) HB.out | exact Below.refl _ _))).mono ?_; rintro e w' ⟨rfl, hb⟩; have HB : Hid (Below w.heap.size w w') := bst (by first | exact bsp _ _ _ | exact HB.out | exact bst (bsp _ _ _) HB.out | exact Below.refl _ _) hb; have HK : Hid (w'.heap[w.heap.size]? = some (.cells #[.int .i64 no, .int .i64 wi, .int .i64 ba, .int .i64 st, .int .i64 ca, .int .i64 ro, .int .i64 fl, .slice ao n c] 24 (0, 0))) := blk_on hb (by first | exact heap_new _ _ _ | exact HK.out); have hpc := fun i => blk_cell HK.out i; clear hb)
    | fail)
  all_goals first
    | go_ret
    | ((try simp only [Exit.inBlock, Exit.then]); refine bodyPost_ret (results_tmp2 rfl _ _ _) rfl ?_)
  all_goals exact ⟨rfl, (by first | exact bsp _ _ _ | exact HB.out | exact bst (bsp _ _ _) HB.out | exact Below.refl _ _)⟩


set_option maxRecDepth 100000 in
set_option maxHeartbeats 2000000 in
theorem del_no (no wi ba st ca ro fl d : Int) (ao : Option Addr) (n c : Nat) (xs : List Int) (r : Bool) (w : World) (h : Cf w no wi ba st ca ro fl ao n c xs r 22) :
    Calls Try.prog 13 #[.agg #[.int .i64 no, .int .i64 wi, .int .i64 ba, .int .i64 st, .int .i64 ca, .int .i64 ro, .int .i64 fl, .slice ao n c], .int .i64 d] w fun e w' => e = .returned (.tuple #[.int .i64 (0), .int .i64 22]) ∧ Below w.heap.size w w' := by
  have HR : Hid (Cf w no wi ba st ca ro fl ao n c xs r 22) := h
  clear h
  go_enter Try.func13, Try.ntmps13
  go_wp2_with (first
    | (go_at_call 26; refine (cd_no _ _ _ _ _ _ _ _ _ _ _ xs r _ (HR.out.below (by first | exact bsp _ _ _ | exact HB.out | exact bst (bsp _ _ _) HB.out | exact Below.refl _ _))).mono ?_; rintro e w' ⟨rfl, hb⟩; have HB : Hid (Below w.heap.size w w') := bst (by first | exact bsp _ _ _ | exact HB.out | exact bst (bsp _ _ _) HB.out | exact Below.refl _ _) hb; have HK : Hid (w'.heap[w.heap.size]? = some (.cells #[.int .i64 no, .int .i64 wi, .int .i64 ba, .int .i64 st, .int .i64 ca, .int .i64 ro, .int .i64 fl, .slice ao n c] 24 (0, 0))) := blk_on hb (by first | exact heap_new _ _ _ | exact HK.out); have hpc := fun i => blk_cell HK.out i; clear hb)
    | fail)
  all_goals first
    | go_ret
    | ((try simp only [Exit.inBlock, Exit.then]); refine bodyPost_ret (results_tmp2 rfl _ _ _) rfl ?_)
  all_goals exact ⟨rfl, (by first | exact bsp _ _ _ | exact HB.out | exact bst (bsp _ _ _) HB.out | exact Below.refl _ _)⟩


set_option maxRecDepth 100000 in
set_option maxHeartbeats 2000000 in
theorem ans_no (no wi ba st ca ro fl d : Int) (ao : Option Addr) (n c : Nat) (xs : List Int) (r : Bool) (w : World) (h : Cf w no wi ba st ca ro fl ao n c xs r 22) :
    Calls Try.prog 15 #[.agg #[.int .i64 no, .int .i64 wi, .int .i64 ba, .int .i64 st, .int .i64 ca, .int .i64 ro, .int .i64 fl, .slice ao n c], .int .i64 d] w fun e w' => e = .returned (.tuple #[.int .i64 (0), .int .i64 22]) ∧ Below w.heap.size w w' := by
  have HR : Hid (Cf w no wi ba st ca ro fl ao n c xs r 22) := h
  clear h
  go_enter Try.func15, Try.ntmps15
  go_wp2_with (first
    | (go_at_call 26; refine (cd_no _ _ _ _ _ _ _ _ _ _ _ xs r _ (HR.out.below (by first | exact bsp _ _ _ | exact HB.out | exact bst (bsp _ _ _) HB.out | exact Below.refl _ _))).mono ?_; rintro e w' ⟨rfl, hb⟩; have HB : Hid (Below w.heap.size w w') := bst (by first | exact bsp _ _ _ | exact HB.out | exact bst (bsp _ _ _) HB.out | exact Below.refl _ _) hb; have HK : Hid (w'.heap[w.heap.size]? = some (.cells #[.int .i64 no, .int .i64 wi, .int .i64 ba, .int .i64 st, .int .i64 ca, .int .i64 ro, .int .i64 fl, .slice ao n c] 24 (0, 0))) := blk_on hb (by first | exact heap_new _ _ _ | exact HK.out); have hpc := fun i => blk_cell HK.out i; clear hb)
    | fail)
  all_goals first
    | go_ret
    | ((try simp only [Exit.inBlock, Exit.then]); refine bodyPost_ret (results_tmp2 rfl _ _ _) rfl ?_)
  all_goals exact ⟨rfl, (by first | exact bsp _ _ _ | exact HB.out | exact bst (bsp _ _ _) HB.out | exact Below.refl _ _)⟩


set_option maxRecDepth 100000 in
set_option maxHeartbeats 2000000 in
theorem rset_no (no wi ba st ca ro fl d : Int) (ao : Option Addr) (n c : Nat) (xs : List Int) (r : Bool) (w : World) (h : Cf w no wi ba st ca ro fl ao n c xs r 22) :
    Calls Try.prog 12 #[.agg #[.int .i64 no, .int .i64 wi, .int .i64 ba, .int .i64 st, .int .i64 ca, .int .i64 ro, .int .i64 fl, .slice ao n c], .int .i64 d] w fun e w' => e = .returned (.tuple #[.int .i64 (0), .int .i64 22]) ∧ Below w.heap.size w w' := by
  have HR : Hid (Cf w no wi ba st ca ro fl ao n c xs r 22) := h
  clear h
  go_enter Try.func12, Try.ntmps12
  go_wp2_with (first
    | (go_at_call 28; refine (al_no _ _ _ _ _ _ _ _ _ _ _ xs r _ (HR.out.below (by first | exact bsp _ _ _ | exact HB.out | exact bst (bsp _ _ _) HB.out | exact Below.refl _ _))).mono ?_; rintro e w' ⟨rfl, hb⟩; have HB : Hid (Below w.heap.size w w') := bst (by first | exact bsp _ _ _ | exact HB.out | exact bst (bsp _ _ _) HB.out | exact Below.refl _ _) hb; have HK : Hid (w'.heap[w.heap.size]? = some (.cells #[.int .i64 no, .int .i64 wi, .int .i64 ba, .int .i64 st, .int .i64 ca, .int .i64 ro, .int .i64 fl, .slice ao n c] 24 (0, 0))) := blk_on hb (by first | exact heap_new _ _ _ | exact HK.out); have hpc := fun i => blk_cell HK.out i; clear hb)
    | fail)
  all_goals first
    | go_ret
    | ((try simp only [Exit.inBlock, Exit.then]); refine bodyPost_ret (results_tmp2 rfl _ _ _) rfl ?_)
  all_goals exact ⟨rfl, (by first | exact bsp _ _ _ | exact HB.out | exact bst (bsp _ _ _) HB.out | exact Below.refl _ _)⟩


set_option maxRecDepth 100000 in
set_option maxHeartbeats 2000000 in
theorem rdel_no (no wi ba st ca ro fl d : Int) (ao : Option Addr) (n c : Nat) (xs : List Int) (r : Bool) (w : World) (h : Cf w no wi ba st ca ro fl ao n c xs r 22) :
    Calls Try.prog 14 #[.agg #[.int .i64 no, .int .i64 wi, .int .i64 ba, .int .i64 st, .int .i64 ca, .int .i64 ro, .int .i64 fl, .slice ao n c], .int .i64 d] w fun e w' => e = .returned (.tuple #[.int .i64 (0), .int .i64 22]) ∧ Below w.heap.size w w' := by
  have HR : Hid (Cf w no wi ba st ca ro fl ao n c xs r 22) := h
  clear h
  go_enter Try.func14, Try.ntmps14
  go_wp2_with (first
    | (go_at_call 28; refine (al_no _ _ _ _ _ _ _ _ _ _ _ xs r _ (HR.out.below (by first | exact bsp _ _ _ | exact HB.out | exact bst (bsp _ _ _) HB.out | exact Below.refl _ _))).mono ?_; rintro e w' ⟨rfl, hb⟩; have HB : Hid (Below w.heap.size w w') := bst (by first | exact bsp _ _ _ | exact HB.out | exact bst (bsp _ _ _) HB.out | exact Below.refl _ _) hb; have HK : Hid (w'.heap[w.heap.size]? = some (.cells #[.int .i64 no, .int .i64 wi, .int .i64 ba, .int .i64 st, .int .i64 ca, .int .i64 ro, .int .i64 fl, .slice ao n c] 24 (0, 0))) := blk_on hb (by first | exact heap_new _ _ _ | exact HK.out); have hpc := fun i => blk_cell HK.out i; clear hb)
    | fail)
  all_goals first
    | go_ret
    | ((try simp only [Exit.inBlock, Exit.then]); refine bodyPost_ret (results_tmp2 rfl _ _ _) rfl ?_)
  all_goals exact ⟨rfl, (by first | exact bsp _ _ _ | exact HB.out | exact bst (bsp _ _ _) HB.out | exact Below.refl _ _)⟩


set_option maxRecDepth 100000 in
set_option maxHeartbeats 2000000 in
theorem rans_no (no wi ba st ca ro fl d : Int) (ao : Option Addr) (n c : Nat) (xs : List Int) (r : Bool) (w : World) (h : Cf w no wi ba st ca ro fl ao n c xs r 22) :
    Calls Try.prog 16 #[.agg #[.int .i64 no, .int .i64 wi, .int .i64 ba, .int .i64 st, .int .i64 ca, .int .i64 ro, .int .i64 fl, .slice ao n c], .int .i64 d] w fun e w' => e = .returned (.tuple #[.int .i64 (0), .int .i64 22]) ∧ Below w.heap.size w w' := by
  have HR : Hid (Cf w no wi ba st ca ro fl ao n c xs r 22) := h
  clear h
  go_enter Try.func16, Try.ntmps16
  go_wp2_with (first
    | (go_at_call 14; refine (rdel_no _ _ _ _ _ _ _ _ _ _ _ xs r _ (HR.out.below (by first | exact bsp _ _ _ | exact HB.out | exact bst (bsp _ _ _) HB.out | exact Below.refl _ _))).mono ?_; rintro e w' ⟨rfl, hb⟩; have HB : Hid (Below w.heap.size w w') := bst (by first | exact bsp _ _ _ | exact HB.out | exact bst (bsp _ _ _) HB.out | exact Below.refl _ _) hb; have HK : Hid (w'.heap[w.heap.size]? = some (.cells #[.int .i64 no, .int .i64 wi, .int .i64 ba, .int .i64 st, .int .i64 ca, .int .i64 ro, .int .i64 fl, .slice ao n c] 24 (0, 0))) := blk_on hb (by first | exact heap_new _ _ _ | exact HK.out); have hpc := fun i => blk_cell HK.out i; clear hb)
    | fail)
  all_goals first
    | go_ret
    | ((try simp only [Exit.inBlock, Exit.then]); refine bodyPost_ret (results_tmp2 rfl _ _ _) rfl ?_)
  all_goals exact ⟨rfl, (by first | exact bsp _ _ _ | exact HB.out | exact bst (bsp _ _ _) HB.out | exact Below.refl _ _)⟩


set_option maxRecDepth 100000 in
set_option maxHeartbeats 2000000 in
theorem dou_no (no wi ba st ca ro fl d : Int) (ao : Option Addr) (n c : Nat) (xs : List Int) (r : Bool) (w : World) (h : Cf w no wi ba st ca ro fl ao n c xs r 22) :
    Calls Try.prog 17 #[.agg #[.int .i64 no, .int .i64 wi, .int .i64 ba, .int .i64 st, .int .i64 ca, .int .i64 ro, .int .i64 fl, .slice ao n c], .int .i64 d] w fun e w' => e = .returned (.tuple #[.int .i64 (0), .int .i64 22]) ∧ Below w.heap.size w w' := by
  have HR : Hid (Cf w no wi ba st ca ro fl ao n c xs r 22) := h
  clear h
  go_enter Try.func17, Try.ntmps17
  go_wp2_with (first
    | (go_at_call 32; refine (check_eq _ _ _ _ _ _ _ _ _ _ xs r 22 _ (HR.out.below (by first | exact bsp _ _ _ | exact HB.out | exact bst (bsp _ _ _) HB.out | exact Below.refl _ _)).rd HR.out.le HR.out.vt HR.out.er).mono ?_; rintro e w' ⟨rfl, hb⟩; have HB : Hid (Below w.heap.size w w') := bst (by first | exact bsp _ _ _ | exact HB.out | exact bst (bsp _ _ _) HB.out | exact Below.refl _ _) hb; have HK : Hid (w'.heap[w.heap.size]? = some (.cells #[.int .i64 no, .int .i64 wi, .int .i64 ba, .int .i64 st, .int .i64 ca, .int .i64 ro, .int .i64 fl, .slice ao n c] 24 (0, 0))) := blk_on hb (by first | exact heap_new _ _ _ | exact HK.out); have hpc := fun i => blk_cell HK.out i; clear hb)
    | fail)
  all_goals first
    | go_ret
    | ((try simp only [Exit.inBlock, Exit.then]); refine bodyPost_ret (results_tmp2 rfl _ _ _) rfl ?_)
  all_goals exact ⟨rfl, (by first | exact bsp _ _ _ | exact HB.out | exact bst (bsp _ _ _) HB.out | exact Below.refl _ _)⟩


set_option maxRecDepth 100000 in
set_option maxHeartbeats 2000000 in
theorem rdou_no (no wi ba st ca ro fl d : Int) (ao : Option Addr) (n c : Nat) (xs : List Int) (r : Bool) (w : World) (h : Cf w no wi ba st ca ro fl ao n c xs r 22) :
    Calls Try.prog 18 #[.agg #[.int .i64 no, .int .i64 wi, .int .i64 ba, .int .i64 st, .int .i64 ca, .int .i64 ro, .int .i64 fl, .slice ao n c], .int .i64 d] w fun e w' => e = .returned (.tuple #[.int .i64 (0), .int .i64 22]) ∧ Below w.heap.size w w' := by
  have HR : Hid (Cf w no wi ba st ca ro fl ao n c xs r 22) := h
  clear h
  go_enter Try.func18, Try.ntmps18
  go_wp2_with (first
    | (go_at_call 7; refine (rcheck_eq _ _ _ _ _ _ _ _ _ _ xs r 22 _ (HR.out.below (by first | exact bsp _ _ _ | exact HB.out | exact bst (bsp _ _ _) HB.out | exact Below.refl _ _)).rd HR.out.le HR.out.vt HR.out.er).mono ?_; rintro e w' ⟨rfl, hb⟩; have HB : Hid (Below w.heap.size w w') := bst (by first | exact bsp _ _ _ | exact HB.out | exact bst (bsp _ _ _) HB.out | exact Below.refl _ _) hb; have HK : Hid (w'.heap[w.heap.size]? = some (.cells #[.int .i64 no, .int .i64 wi, .int .i64 ba, .int .i64 st, .int .i64 ca, .int .i64 ro, .int .i64 fl, .slice ao n c] 24 (0, 0))) := blk_on hb (by first | exact heap_new _ _ _ | exact HK.out); have hpc := fun i => blk_cell HK.out i; clear hb)
    | fail)
  all_goals first
    | go_ret
    | ((try simp only [Exit.inBlock, Exit.then]); refine bodyPost_ret (results_tmp2 rfl _ _ _) rfl ?_)
  all_goals exact ⟨rfl, (by first | exact bsp _ _ _ | exact HB.out | exact bst (bsp _ _ _) HB.out | exact Below.refl _ _)⟩

end Go.Proofs.Ytfodkackfahldaa.Lo
