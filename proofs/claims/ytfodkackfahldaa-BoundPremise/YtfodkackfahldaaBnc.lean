import Derived.Test.YtfodkackfahldaaBnb
namespace Go.Proofs.Ytfodkackfahldaa.Lo
open Go.RowKit
set_option linter.unusedVariables false
set_option linter.unusedSimpArgs false

def mi (ba : Int) : Int := if (16 : Int) < ba then 16 else ba

theorem bwithin_eq (v lo hi : Int) (b : Bool) (w : World) (h : inR v lo hi = b) : Calls Try.prog 33 #[.int .i64 v, .int .i64 lo, .int .i64 hi] w fun e w' => e = .returned (.bool b) ∧ w = w' := by
  subst h
  exact bwithin_any v lo hi w


set_option maxRecDepth 100000 in
set_option maxHeartbeats 2000000 in
theorem cd_bad (no wi ba st ca ro fl d : Int) (ao : Option Addr) (n c : Nat) (xs : List Int) (r : Bool) (w : World) (h : Cf w no wi ba st ca ro fl ao n c xs r 0) (hg : headC no wi ba st ca ro fl n = true) (hd : ¬ (1 ≤ d ∧ d ≤ ba ∧ d ≤ 16)) :
    Calls Try.prog 26 #[.agg #[.int .i64 no, .int .i64 wi, .int .i64 ba, .int .i64 st, .int .i64 ca, .int .i64 ro, .int .i64 fl, .slice ao n c], .int .i64 d] w fun e w' => e = .returned (.int .i64 1) ∧ Below w.heap.size w w' := by
  have HR : Hid (Cf w no wi ba st ca ro fl ao n c xs r 0) := h
  clear h
  obtain ⟨⟨h1, h2⟩, ⟨h3, h4⟩, ⟨h5, h6⟩, ⟨h7, h8⟩, ⟨h9, h10⟩, ⟨h11, h12⟩, ⟨h13, h14⟩, h15⟩ := headC_true hg
  have HN : Hid ((n : Int) = no) := h15
  clear hg h15
  have HI : Hid (¬ (1 ≤ d ∧ d ≤ ba ∧ d ≤ 16)) := hd
  clear hd
  rcases (by omega : (16 < ba) ∨ (ba ≤ 16)) with hm | hm
  all_goals go_enter Try.func26, Try.ntmps26
  all_goals go_wp2_with (first
    | (go_at_call 32; refine (check_eq _ _ _ _ _ _ _ _ _ _ xs r 0 _ (HR.out.below (by first | exact bsp _ _ _ | exact HB.out | exact bst (bsp _ _ _) HB.out | exact Below.refl _ _)).rd HR.out.le HR.out.vt HR.out.er).mono ?_; rintro e w' ⟨rfl, hb⟩; have HB : Hid (Below w.heap.size w w') := bst (by first | exact bsp _ _ _ | exact HB.out | exact bst (bsp _ _ _) HB.out | exact Below.refl _ _) hb; have HK : Hid (w'.heap[w.heap.size]? = some (.cells #[.int .i64 no, .int .i64 wi, .int .i64 ba, .int .i64 st, .int .i64 ca, .int .i64 ro, .int .i64 fl, .slice ao n c] 24 (0, 0))) := blk_on hb (by first | exact heap_new _ _ _ | exact HK.out); have hpc := fun i => blk_cell HK.out i; clear hb)
    | (go_at_call 33; refine (bwithin_eq _ _ _ false _ (by have := HI.out; simp [inR]; omega)).mono ?_; rintro e w' ⟨rfl, rfl⟩)
    | fail)
  all_goals first
    | go_ret
    | ((try simp only [Exit.inBlock, Exit.then]); refine bodyPost_ret (results_tmp2 rfl _ _ _) rfl ?_)
  all_goals exact ⟨by first | rfl | go_num | simp, (by first | exact bsp _ _ _ | exact HB.out | exact bst (bsp _ _ _) HB.out | exact Below.refl _ _)⟩


set_option maxRecDepth 100000 in
set_option maxHeartbeats 2000000 in
theorem cd_ok (no wi ba st ca ro fl d : Int) (ao : Option Addr) (n c : Nat) (xs : List Int) (r : Bool) (w : World) (h : Cf w no wi ba st ca ro fl ao n c xs r 0) (hg : headC no wi ba st ca ro fl n = true) (hd : (1 ≤ d ∧ d ≤ ba ∧ d ≤ 16)) :
    Calls Try.prog 26 #[.agg #[.int .i64 no, .int .i64 wi, .int .i64 ba, .int .i64 st, .int .i64 ca, .int .i64 ro, .int .i64 fl, .slice ao n c], .int .i64 d] w fun e w' => e = .returned (.int .i64 0) ∧ Below w.heap.size w w' := by
  have HR : Hid (Cf w no wi ba st ca ro fl ao n c xs r 0) := h
  clear h
  obtain ⟨⟨h1, h2⟩, ⟨h3, h4⟩, ⟨h5, h6⟩, ⟨h7, h8⟩, ⟨h9, h10⟩, ⟨h11, h12⟩, ⟨h13, h14⟩, h15⟩ := headC_true hg
  have HN : Hid ((n : Int) = no) := h15
  clear hg h15
  have HI : Hid ((1 ≤ d ∧ d ≤ ba ∧ d ≤ 16)) := hd
  clear hd
  rcases (by omega : (16 < ba) ∨ (ba ≤ 16)) with hm | hm
  all_goals go_enter Try.func26, Try.ntmps26
  all_goals go_wp2_with (first
    | (go_at_call 32; refine (check_eq _ _ _ _ _ _ _ _ _ _ xs r 0 _ (HR.out.below (by first | exact bsp _ _ _ | exact HB.out | exact bst (bsp _ _ _) HB.out | exact Below.refl _ _)).rd HR.out.le HR.out.vt HR.out.er).mono ?_; rintro e w' ⟨rfl, hb⟩; have HB : Hid (Below w.heap.size w w') := bst (by first | exact bsp _ _ _ | exact HB.out | exact bst (bsp _ _ _) HB.out | exact Below.refl _ _) hb; have HK : Hid (w'.heap[w.heap.size]? = some (.cells #[.int .i64 no, .int .i64 wi, .int .i64 ba, .int .i64 st, .int .i64 ca, .int .i64 ro, .int .i64 fl, .slice ao n c] 24 (0, 0))) := blk_on hb (by first | exact heap_new _ _ _ | exact HK.out); have hpc := fun i => blk_cell HK.out i; clear hb)
    | (go_at_call 33; refine (bwithin_eq _ _ _ true _ (by have := HI.out; simp [inR]; omega)).mono ?_; rintro e w' ⟨rfl, rfl⟩)
    | fail)
  all_goals first
    | go_ret
    | ((try simp only [Exit.inBlock, Exit.then]); refine bodyPost_ret (results_tmp2 rfl _ _ _) rfl ?_)
  all_goals exact ⟨by first | rfl | go_num | simp, (by first | exact bsp _ _ _ | exact HB.out | exact bst (bsp _ _ _) HB.out | exact Below.refl _ _)⟩


set_option maxRecDepth 100000 in
set_option maxHeartbeats 2000000 in
theorem al_ok (no wi ba st ca ro fl d : Int) (ao : Option Addr) (n c : Nat) (xs : List Int) (r : Bool) (w : World) (h : Cf w no wi ba st ca ro fl ao n c xs r 0) (hg : headC no wi ba st ca ro fl n = true) (hd : (1 ≤ d ∧ d ≤ ba ∧ d ≤ 16)) :
    Calls Try.prog 28 #[.agg #[.int .i64 no, .int .i64 wi, .int .i64 ba, .int .i64 st, .int .i64 ca, .int .i64 ro, .int .i64 fl, .slice ao n c], .int .i64 d] w fun e w' => e = .returned (.int .i64 0) ∧ Below w.heap.size w w' := by
  have HR : Hid (Cf w no wi ba st ca ro fl ao n c xs r 0) := h
  clear h
  obtain ⟨⟨h1, h2⟩, ⟨h3, h4⟩, ⟨h5, h6⟩, ⟨h7, h8⟩, ⟨h9, h10⟩, ⟨h11, h12⟩, ⟨h13, h14⟩, h15⟩ := headC_true hg
  have HN : Hid ((n : Int) = no) := h15
  clear hg h15
  obtain ⟨hd1, hd2, hd3⟩ := hd
  all_goals go_enter Try.func28, Try.ntmps28
  all_goals go_wp2_with (first
    | (go_at_call 7; refine (rcheck_eq _ _ _ _ _ _ _ _ _ _ xs r 0 _ (HR.out.below (by first | exact bsp _ _ _ | exact HB.out | exact bst (bsp _ _ _) HB.out | exact Below.refl _ _)).rd HR.out.le HR.out.vt HR.out.er).mono ?_; rintro e w' ⟨rfl, hb⟩; have HB : Hid (Below w.heap.size w w') := bst (by first | exact bsp _ _ _ | exact HB.out | exact bst (bsp _ _ _) HB.out | exact Below.refl _ _) hb; have HK : Hid (w'.heap[w.heap.size]? = some (.cells #[.int .i64 no, .int .i64 wi, .int .i64 ba, .int .i64 st, .int .i64 ca, .int .i64 ro, .int .i64 fl, .slice ao n c] 24 (0, 0))) := blk_on hb (by first | exact heap_new _ _ _ | exact HK.out); have hpc := fun i => blk_cell HK.out i; clear hb)
    | fail)
  all_goals first
    | go_ret
    | ((try simp only [Exit.inBlock, Exit.then]); refine bodyPost_ret (results_tmp2 rfl _ _ _) rfl ?_)
  all_goals exact ⟨by first | rfl | go_num | simp, (by first | exact bsp _ _ _ | exact HB.out | exact bst (bsp _ _ _) HB.out | exact Below.refl _ _)⟩


set_option maxRecDepth 100000 in
set_option maxHeartbeats 2000000 in
theorem al_bad (no wi ba st ca ro fl d : Int) (ao : Option Addr) (n c : Nat) (xs : List Int) (r : Bool) (w : World) (h : Cf w no wi ba st ca ro fl ao n c xs r 0) (hg : headC no wi ba st ca ro fl n = true) (hd : ¬ (1 ≤ d ∧ d ≤ ba ∧ d ≤ 16)) :
    Calls Try.prog 28 #[.agg #[.int .i64 no, .int .i64 wi, .int .i64 ba, .int .i64 st, .int .i64 ca, .int .i64 ro, .int .i64 fl, .slice ao n c], .int .i64 d] w fun e w' => e = .returned (.int .i64 1) ∧ Below w.heap.size w w' := by
  have HR : Hid (Cf w no wi ba st ca ro fl ao n c xs r 0) := h
  clear h
  obtain ⟨⟨h1, h2⟩, ⟨h3, h4⟩, ⟨h5, h6⟩, ⟨h7, h8⟩, ⟨h9, h10⟩, ⟨h11, h12⟩, ⟨h13, h14⟩, h15⟩ := headC_true hg
  have HN : Hid ((n : Int) = no) := h15
  clear hg h15
  rcases (by omega : d < 1 ∨ (1 ≤ d ∧ ba < d) ∨ (1 ≤ d ∧ d ≤ ba ∧ 16 < d)) with hm | ⟨hm, hm2⟩ | ⟨hm, hm2, hm3⟩
  all_goals clear hd
  all_goals go_enter Try.func28, Try.ntmps28
  all_goals go_wp2_with (first
    | (go_at_call 7; refine (rcheck_eq _ _ _ _ _ _ _ _ _ _ xs r 0 _ (HR.out.below (by first | exact bsp _ _ _ | exact HB.out | exact bst (bsp _ _ _) HB.out | exact Below.refl _ _)).rd HR.out.le HR.out.vt HR.out.er).mono ?_; rintro e w' ⟨rfl, hb⟩; have HB : Hid (Below w.heap.size w w') := bst (by first | exact bsp _ _ _ | exact HB.out | exact bst (bsp _ _ _) HB.out | exact Below.refl _ _) hb; have HK : Hid (w'.heap[w.heap.size]? = some (.cells #[.int .i64 no, .int .i64 wi, .int .i64 ba, .int .i64 st, .int .i64 ca, .int .i64 ro, .int .i64 fl, .slice ao n c] 24 (0, 0))) := blk_on hb (by first | exact heap_new _ _ _ | exact HK.out); have hpc := fun i => blk_cell HK.out i; clear hb)
    | fail)
  all_goals first
    | go_ret
    | ((try simp only [Exit.inBlock, Exit.then]); refine bodyPost_ret (results_tmp2 rfl _ _ _) rfl ?_)
  all_goals exact ⟨by first | rfl | go_num | simp, (by first | exact bsp _ _ _ | exact HB.out | exact bst (bsp _ _ _) HB.out | exact Below.refl _ _)⟩

end Go.Proofs.Ytfodkackfahldaa.Lo
