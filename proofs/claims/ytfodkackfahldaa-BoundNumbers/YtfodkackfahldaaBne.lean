import Derived.Test.YtfodkackfahldaaBnd
namespace Go.Proofs.Ytfodkackfahldaa.Lo
open Go.RowKit
set_option linter.unusedVariables false
set_option linter.unusedSimpArgs false


set_option maxRecDepth 100000 in
set_option maxHeartbeats 2000000 in
theorem Set_ok (no wi ba st ca ro fl d : Int) (ao : Option Addr) (n c : Nat) (xs : List Int) (r : Bool) (w : World) (h : Cf w no wi ba st ca ro fl ao n c xs r 0) (hg : headC no wi ba st ca ro fl n = true) (hd : (1 ≤ d ∧ d ≤ ba ∧ d ≤ 16)) :
    Calls Try.prog 11 #[.agg #[.int .i64 no, .int .i64 wi, .int .i64 ba, .int .i64 st, .int .i64 ca, .int .i64 ro, .int .i64 fl, .slice ao n c], .int .i64 d] w fun e w' => e = .returned (.tuple #[.int .i64 (ca + 8 * d + 16), .int .i64 0]) ∧ Below w.heap.size w w' := by
  have HR : Hid (Cf w no wi ba st ca ro fl ao n c xs r 0) := h
  clear h
  have HG : Hid (headC no wi ba st ca ro fl n = true) := hg
  have HDD : Hid (1 ≤ d ∧ d ≤ ba ∧ d ≤ 16) := hd
  obtain ⟨⟨h1, h2⟩, ⟨h3, h4⟩, ⟨h5, h6⟩, ⟨h7, h8⟩, ⟨h9, h10⟩, ⟨h11, h12⟩, ⟨h13, h14⟩, h15⟩ := headC_true hg
  have HN : Hid ((n : Int) = no) := h15
  clear hg h15
  obtain ⟨hd1, hd2, hd3⟩ := hd
  all_goals go_enter Try.func11, Try.ntmps11
  all_goals go_wp2_with (first
    | (go_at_call 26; refine (cd_ok _ _ _ _ _ _ _ _ _ _ _ xs r _ (HR.out.below (by first | exact bsp _ _ _ | exact HB.out | exact bst (bsp _ _ _) HB.out | exact Below.refl _ _)) HG.out HDD.out).mono ?_; rintro e w' ⟨rfl, hb⟩; have HB : Hid (Below w.heap.size w w') := bst (by first | exact bsp _ _ _ | exact HB.out | exact bst (bsp _ _ _) HB.out | exact Below.refl _ _) hb; have HK : Hid (w'.heap[w.heap.size]? = some (.cells #[.int .i64 no, .int .i64 wi, .int .i64 ba, .int .i64 st, .int .i64 ca, .int .i64 ro, .int .i64 fl, .slice ao n c] 24 (0, 0))) := blk_on hb (by first | exact heap_new _ _ _ | exact HK.out); have hpc := fun i => blk_cell HK.out i; clear hb)
    | (go_at_call 27; refine (st_ok _ _ _ _ _ _ _ _ _ _ _ xs r _ (HR.out.below (by first | exact bsp _ _ _ | exact HB.out | exact bst (bsp _ _ _) HB.out | exact Below.refl _ _)) HG.out HDD.out).mono ?_; rintro e w' ⟨rfl, hb⟩; have HB : Hid (Below w.heap.size w w') := bst (by first | exact bsp _ _ _ | exact HB.out | exact bst (bsp _ _ _) HB.out | exact Below.refl _ _) hb; have HK : Hid (w'.heap[w.heap.size]? = some (.cells #[.int .i64 no, .int .i64 wi, .int .i64 ba, .int .i64 st, .int .i64 ca, .int .i64 ro, .int .i64 fl, .slice ao n c] 24 (0, 0))) := blk_on hb (by first | exact heap_new _ _ _ | exact HK.out); have hpc := fun i => blk_cell HK.out i; clear hb)
    | fail)
  all_goals first
    | go_ret
    | ((try simp only [Exit.inBlock, Exit.then]); refine bodyPost_ret (results_tmp2 rfl _ _ _) rfl ?_)
  all_goals exact ⟨by first | rfl | go_num | simp, (by first | exact bsp _ _ _ | exact HB.out | exact bst (bsp _ _ _) HB.out | exact Below.refl _ _)⟩


set_option maxRecDepth 100000 in
set_option maxHeartbeats 2000000 in
theorem Del_ok (no wi ba st ca ro fl d : Int) (ao : Option Addr) (n c : Nat) (xs : List Int) (r : Bool) (w : World) (h : Cf w no wi ba st ca ro fl ao n c xs r 0) (hg : headC no wi ba st ca ro fl n = true) (hd : (1 ≤ d ∧ d ≤ ba ∧ d ≤ 16)) :
    Calls Try.prog 13 #[.agg #[.int .i64 no, .int .i64 wi, .int .i64 ba, .int .i64 st, .int .i64 ca, .int .i64 ro, .int .i64 fl, .slice ao n c], .int .i64 d] w fun e w' => e = .returned (.tuple #[.int .i64 ((dv 32 wi + 4) * (4 * d + 8)), .int .i64 0]) ∧ Below w.heap.size w w' := by
  have HR : Hid (Cf w no wi ba st ca ro fl ao n c xs r 0) := h
  clear h
  have HG : Hid (headC no wi ba st ca ro fl n = true) := hg
  have HDD : Hid (1 ≤ d ∧ d ≤ ba ∧ d ≤ 16) := hd
  obtain ⟨⟨h1, h2⟩, ⟨h3, h4⟩, ⟨h5, h6⟩, ⟨h7, h8⟩, ⟨h9, h10⟩, ⟨h11, h12⟩, ⟨h13, h14⟩, h15⟩ := headC_true hg
  have HN : Hid ((n : Int) = no) := h15
  clear hg h15
  obtain ⟨hd1, hd2, hd3⟩ := hd
  obtain ⟨q, hq⟩ : ∃ q, dv 32 wi = q := ⟨_, rfl⟩
  have HQ : Hid (dv 32 wi = q) := hq
  obtain ⟨q0, q1⟩ : 0 ≤ q ∧ q ≤ 127 := by rw [← hq]; exact dv_rng (by omega) (by omega) (by omega) (by omega)
  obtain ⟨r0, r1⟩ := pr_rng q0 q1 hd1 hd3
  rw [hq]
  clear hq
  all_goals go_enter Try.func13, Try.ntmps13
  all_goals go_wp2_with (first
    | (go_at_call 26; refine (cd_ok _ _ _ _ _ _ _ _ _ _ _ xs r _ (HR.out.below (by first | exact bsp _ _ _ | exact HB.out | exact bst (bsp _ _ _) HB.out | exact Below.refl _ _)) HG.out HDD.out).mono ?_; rintro e w' ⟨rfl, hb⟩; have HB : Hid (Below w.heap.size w w') := bst (by first | exact bsp _ _ _ | exact HB.out | exact bst (bsp _ _ _) HB.out | exact Below.refl _ _) hb; have HK : Hid (w'.heap[w.heap.size]? = some (.cells #[.int .i64 no, .int .i64 wi, .int .i64 ba, .int .i64 st, .int .i64 ca, .int .i64 ro, .int .i64 fl, .slice ao n c] 24 (0, 0))) := blk_on hb (by first | exact heap_new _ _ _ | exact HK.out); have hpc := fun i => blk_cell HK.out i; clear hb)
    | (go_at_call 29; refine (dl_q _ _ _ _ _ _ _ _ q _ _ _ xs r _ (HR.out.below (by first | exact bsp _ _ _ | exact HB.out | exact bst (bsp _ _ _) HB.out | exact Below.refl _ _)) HG.out HDD.out HQ.out).mono ?_; rintro e w' ⟨rfl, hb⟩; have HB : Hid (Below w.heap.size w w') := bst (by first | exact bsp _ _ _ | exact HB.out | exact bst (bsp _ _ _) HB.out | exact Below.refl _ _) hb; have HK : Hid (w'.heap[w.heap.size]? = some (.cells #[.int .i64 no, .int .i64 wi, .int .i64 ba, .int .i64 st, .int .i64 ca, .int .i64 ro, .int .i64 fl, .slice ao n c] 24 (0, 0))) := blk_on hb (by first | exact heap_new _ _ _ | exact HK.out); have hpc := fun i => blk_cell HK.out i; clear hb)
    | fail)
  all_goals first
    | go_ret
    | ((try simp only [Exit.inBlock, Exit.then]); refine bodyPost_ret (results_tmp2 rfl _ _ _) rfl ?_)
  all_goals exact ⟨by first | rfl | go_num | simp, (by first | exact bsp _ _ _ | exact HB.out | exact bst (bsp _ _ _) HB.out | exact Below.refl _ _)⟩


set_option maxRecDepth 100000 in
set_option maxHeartbeats 2000000 in
theorem Ans_ok (no wi ba st ca ro fl d : Int) (ao : Option Addr) (n c : Nat) (xs : List Int) (r : Bool) (w : World) (h : Cf w no wi ba st ca ro fl ao n c xs r 0) (hg : headC no wi ba st ca ro fl n = true) (hd : (1 ≤ d ∧ d ≤ ba ∧ d ≤ 16)) :
    Calls Try.prog 15 #[.agg #[.int .i64 no, .int .i64 wi, .int .i64 ba, .int .i64 st, .int .i64 ca, .int .i64 ro, .int .i64 fl, .slice ao n c], .int .i64 d] w fun e w' => e = .returned (.tuple #[.int .i64 (ca + 8 * d + 16 + 2 * ((dv 32 wi + 4) * (4 * d + 8))), .int .i64 0]) ∧ Below w.heap.size w w' := by
  have HR : Hid (Cf w no wi ba st ca ro fl ao n c xs r 0) := h
  clear h
  have HG : Hid (headC no wi ba st ca ro fl n = true) := hg
  have HDD : Hid (1 ≤ d ∧ d ≤ ba ∧ d ≤ 16) := hd
  obtain ⟨⟨h1, h2⟩, ⟨h3, h4⟩, ⟨h5, h6⟩, ⟨h7, h8⟩, ⟨h9, h10⟩, ⟨h11, h12⟩, ⟨h13, h14⟩, h15⟩ := headC_true hg
  have HN : Hid ((n : Int) = no) := h15
  clear hg h15
  obtain ⟨hd1, hd2, hd3⟩ := hd
  obtain ⟨q, hq⟩ : ∃ q, dv 32 wi = q := ⟨_, rfl⟩
  have HQ : Hid (dv 32 wi = q) := hq
  obtain ⟨q0, q1⟩ : 0 ≤ q ∧ q ≤ 127 := by rw [← hq]; exact dv_rng (by omega) (by omega) (by omega) (by omega)
  obtain ⟨r0, r1⟩ := pr_rng q0 q1 hd1 hd3
  rw [hq]
  clear hq
  all_goals go_enter Try.func15, Try.ntmps15
  all_goals go_wp2_with (first
    | (go_at_call 26; refine (cd_ok _ _ _ _ _ _ _ _ _ _ _ xs r _ (HR.out.below (by first | exact bsp _ _ _ | exact HB.out | exact bst (bsp _ _ _) HB.out | exact Below.refl _ _)) HG.out HDD.out).mono ?_; rintro e w' ⟨rfl, hb⟩; have HB : Hid (Below w.heap.size w w') := bst (by first | exact bsp _ _ _ | exact HB.out | exact bst (bsp _ _ _) HB.out | exact Below.refl _ _) hb; have HK : Hid (w'.heap[w.heap.size]? = some (.cells #[.int .i64 no, .int .i64 wi, .int .i64 ba, .int .i64 st, .int .i64 ca, .int .i64 ro, .int .i64 fl, .slice ao n c] 24 (0, 0))) := blk_on hb (by first | exact heap_new _ _ _ | exact HK.out); have hpc := fun i => blk_cell HK.out i; clear hb)
    | (go_at_call 31; refine (an_q _ _ _ _ _ _ _ _ q _ _ _ xs r _ (HR.out.below (by first | exact bsp _ _ _ | exact HB.out | exact bst (bsp _ _ _) HB.out | exact Below.refl _ _)) HG.out HDD.out HQ.out).mono ?_; rintro e w' ⟨rfl, hb⟩; have HB : Hid (Below w.heap.size w w') := bst (by first | exact bsp _ _ _ | exact HB.out | exact bst (bsp _ _ _) HB.out | exact Below.refl _ _) hb; have HK : Hid (w'.heap[w.heap.size]? = some (.cells #[.int .i64 no, .int .i64 wi, .int .i64 ba, .int .i64 st, .int .i64 ca, .int .i64 ro, .int .i64 fl, .slice ao n c] 24 (0, 0))) := blk_on hb (by first | exact heap_new _ _ _ | exact HK.out); have hpc := fun i => blk_cell HK.out i; clear hb)
    | fail)
  all_goals first
    | go_ret
    | ((try simp only [Exit.inBlock, Exit.then]); refine bodyPost_ret (results_tmp2 rfl _ _ _) rfl ?_)
  all_goals exact ⟨by first | rfl | go_num | simp, (by first | exact bsp _ _ _ | exact HB.out | exact bst (bsp _ _ _) HB.out | exact Below.refl _ _)⟩


set_option maxRecDepth 100000 in
set_option maxHeartbeats 2000000 in
theorem RSet_ok (no wi ba st ca ro fl d : Int) (ao : Option Addr) (n c : Nat) (xs : List Int) (r : Bool) (w : World) (h : Cf w no wi ba st ca ro fl ao n c xs r 0) (hg : headC no wi ba st ca ro fl n = true) (hd : (1 ≤ d ∧ d ≤ ba ∧ d ≤ 16)) :
    Calls Try.prog 12 #[.agg #[.int .i64 no, .int .i64 wi, .int .i64 ba, .int .i64 st, .int .i64 ca, .int .i64 ro, .int .i64 fl, .slice ao n c], .int .i64 d] w fun e w' => e = .returned (.tuple #[.int .i64 (ca + 8 * d + 16), .int .i64 0]) ∧ Below w.heap.size w w' := by
  have HR : Hid (Cf w no wi ba st ca ro fl ao n c xs r 0) := h
  clear h
  have HG : Hid (headC no wi ba st ca ro fl n = true) := hg
  have HDD : Hid (1 ≤ d ∧ d ≤ ba ∧ d ≤ 16) := hd
  obtain ⟨⟨h1, h2⟩, ⟨h3, h4⟩, ⟨h5, h6⟩, ⟨h7, h8⟩, ⟨h9, h10⟩, ⟨h11, h12⟩, ⟨h13, h14⟩, h15⟩ := headC_true hg
  have HN : Hid ((n : Int) = no) := h15
  clear hg h15
  obtain ⟨hd1, hd2, hd3⟩ := hd
  all_goals go_enter Try.func12, Try.ntmps12
  all_goals go_wp2_with (first
    | (go_at_call 28; refine (al_ok _ _ _ _ _ _ _ _ _ _ _ xs r _ (HR.out.below (by first | exact bsp _ _ _ | exact HB.out | exact bst (bsp _ _ _) HB.out | exact Below.refl _ _)) HG.out HDD.out).mono ?_; rintro e w' ⟨rfl, hb⟩; have HB : Hid (Below w.heap.size w w') := bst (by first | exact bsp _ _ _ | exact HB.out | exact bst (bsp _ _ _) HB.out | exact Below.refl _ _) hb; have HK : Hid (w'.heap[w.heap.size]? = some (.cells #[.int .i64 no, .int .i64 wi, .int .i64 ba, .int .i64 st, .int .i64 ca, .int .i64 ro, .int .i64 fl, .slice ao n c] 24 (0, 0))) := blk_on hb (by first | exact heap_new _ _ _ | exact HK.out); have hpc := fun i => blk_cell HK.out i; clear hb)
    | fail)
  all_goals first
    | go_ret
    | ((try simp only [Exit.inBlock, Exit.then]); refine bodyPost_ret (results_tmp2 rfl _ _ _) rfl ?_)
  all_goals exact ⟨by first | rfl | go_num | simp, (by first | exact bsp _ _ _ | exact HB.out | exact bst (bsp _ _ _) HB.out | exact Below.refl _ _)⟩


set_option maxRecDepth 100000 in
set_option maxHeartbeats 2000000 in
theorem RDel_ok (no wi ba st ca ro fl d : Int) (ao : Option Addr) (n c : Nat) (xs : List Int) (r : Bool) (w : World) (h : Cf w no wi ba st ca ro fl ao n c xs r 0) (hg : headC no wi ba st ca ro fl n = true) (hd : (1 ≤ d ∧ d ≤ ba ∧ d ≤ 16)) :
    Calls Try.prog 14 #[.agg #[.int .i64 no, .int .i64 wi, .int .i64 ba, .int .i64 st, .int .i64 ca, .int .i64 ro, .int .i64 fl, .slice ao n c], .int .i64 d] w fun e w' => e = .returned (.tuple #[.int .i64 ((dv 32 wi + 4) * (4 * d + 8)), .int .i64 0]) ∧ Below w.heap.size w w' := by
  have HR : Hid (Cf w no wi ba st ca ro fl ao n c xs r 0) := h
  clear h
  have HG : Hid (headC no wi ba st ca ro fl n = true) := hg
  have HDD : Hid (1 ≤ d ∧ d ≤ ba ∧ d ≤ 16) := hd
  obtain ⟨⟨h1, h2⟩, ⟨h3, h4⟩, ⟨h5, h6⟩, ⟨h7, h8⟩, ⟨h9, h10⟩, ⟨h11, h12⟩, ⟨h13, h14⟩, h15⟩ := headC_true hg
  have HN : Hid ((n : Int) = no) := h15
  clear hg h15
  obtain ⟨hd1, hd2, hd3⟩ := hd
  obtain ⟨q, hq⟩ : ∃ q, dv 32 wi = q := ⟨_, rfl⟩
  have HQ : Hid (dv 32 wi = q) := hq
  obtain ⟨q0, q1⟩ : 0 ≤ q ∧ q ≤ 127 := by rw [← hq]; exact dv_rng (by omega) (by omega) (by omega) (by omega)
  obtain ⟨r0, r1⟩ := pr_rng q0 q1 hd1 hd3
  rw [hq]
  clear hq
  all_goals go_enter Try.func14, Try.ntmps14
  all_goals go_wp2_with (first
    | (go_at_call 28; refine (al_ok _ _ _ _ _ _ _ _ _ _ _ xs r _ (HR.out.below (by first | exact bsp _ _ _ | exact HB.out | exact bst (bsp _ _ _) HB.out | exact Below.refl _ _)) HG.out HDD.out).mono ?_; rintro e w' ⟨rfl, hb⟩; have HB : Hid (Below w.heap.size w w') := bst (by first | exact bsp _ _ _ | exact HB.out | exact bst (bsp _ _ _) HB.out | exact Below.refl _ _) hb; have HK : Hid (w'.heap[w.heap.size]? = some (.cells #[.int .i64 no, .int .i64 wi, .int .i64 ba, .int .i64 st, .int .i64 ca, .int .i64 ro, .int .i64 fl, .slice ao n c] 24 (0, 0))) := blk_on hb (by first | exact heap_new _ _ _ | exact HK.out); have hpc := fun i => blk_cell HK.out i; clear hb)
    | (go_at_call 30; refine (ov_eq _ _ q _ (by omega) (by omega) (by omega) (by omega) HQ.out).mono ?_; rintro e w' ⟨rfl, rfl⟩)
    | fail)
  all_goals first
    | go_ret
    | ((try simp only [Exit.inBlock, Exit.then]); refine bodyPost_ret (results_tmp2 rfl _ _ _) rfl ?_)
  all_goals exact ⟨by first | rfl | go_num | simp, (by first | exact bsp _ _ _ | exact HB.out | exact bst (bsp _ _ _) HB.out | exact Below.refl _ _)⟩


theorem RDel_q (no wi ba st ca ro fl d q : Int) (ao : Option Addr) (n c : Nat) (xs : List Int) (r : Bool) (w : World) (h : Cf w no wi ba st ca ro fl ao n c xs r 0) (hg : headC no wi ba st ca ro fl n = true) (hd : (1 ≤ d ∧ d ≤ ba ∧ d ≤ 16)) (hq : dv 32 wi = q) :
    Calls Try.prog 14 #[.agg #[.int .i64 no, .int .i64 wi, .int .i64 ba, .int .i64 st, .int .i64 ca, .int .i64 ro, .int .i64 fl, .slice ao n c], .int .i64 d] w fun e w' => e = .returned (.tuple #[.int .i64 ((q + 4) * (4 * d + 8)), .int .i64 0]) ∧ Below w.heap.size w w' := by
  subst hq
  exact RDel_ok no wi ba st ca ro fl d ao n c xs r w h hg hd


set_option maxRecDepth 100000 in
set_option maxHeartbeats 2000000 in
theorem RAns_ok (no wi ba st ca ro fl d : Int) (ao : Option Addr) (n c : Nat) (xs : List Int) (r : Bool) (w : World) (h : Cf w no wi ba st ca ro fl ao n c xs r 0) (hg : headC no wi ba st ca ro fl n = true) (hd : (1 ≤ d ∧ d ≤ ba ∧ d ≤ 16)) :
    Calls Try.prog 16 #[.agg #[.int .i64 no, .int .i64 wi, .int .i64 ba, .int .i64 st, .int .i64 ca, .int .i64 ro, .int .i64 fl, .slice ao n c], .int .i64 d] w fun e w' => e = .returned (.tuple #[.int .i64 (ca + 8 * d + 16 + 2 * ((dv 32 wi + 4) * (4 * d + 8))), .int .i64 0]) ∧ Below w.heap.size w w' := by
  have HR : Hid (Cf w no wi ba st ca ro fl ao n c xs r 0) := h
  clear h
  have HG : Hid (headC no wi ba st ca ro fl n = true) := hg
  have HDD : Hid (1 ≤ d ∧ d ≤ ba ∧ d ≤ 16) := hd
  obtain ⟨⟨h1, h2⟩, ⟨h3, h4⟩, ⟨h5, h6⟩, ⟨h7, h8⟩, ⟨h9, h10⟩, ⟨h11, h12⟩, ⟨h13, h14⟩, h15⟩ := headC_true hg
  have HN : Hid ((n : Int) = no) := h15
  clear hg h15
  obtain ⟨hd1, hd2, hd3⟩ := hd
  obtain ⟨q, hq⟩ : ∃ q, dv 32 wi = q := ⟨_, rfl⟩
  have HQ : Hid (dv 32 wi = q) := hq
  obtain ⟨q0, q1⟩ : 0 ≤ q ∧ q ≤ 127 := by rw [← hq]; exact dv_rng (by omega) (by omega) (by omega) (by omega)
  obtain ⟨r0, r1⟩ := pr_rng q0 q1 hd1 hd3
  rw [hq]
  clear hq
  all_goals go_enter Try.func16, Try.ntmps16
  all_goals go_wp2_with (first
    | (go_at_call 14; refine (RDel_q _ _ _ _ _ _ _ _ q _ _ _ xs r _ (HR.out.below (by first | exact bsp _ _ _ | exact HB.out | exact bst (bsp _ _ _) HB.out | exact Below.refl _ _)) HG.out HDD.out HQ.out).mono ?_; rintro e w' ⟨rfl, hb⟩; have HB : Hid (Below w.heap.size w w') := bst (by first | exact bsp _ _ _ | exact HB.out | exact bst (bsp _ _ _) HB.out | exact Below.refl _ _) hb; have HK : Hid (w'.heap[w.heap.size]? = some (.cells #[.int .i64 no, .int .i64 wi, .int .i64 ba, .int .i64 st, .int .i64 ca, .int .i64 ro, .int .i64 fl, .slice ao n c] 24 (0, 0))) := blk_on hb (by first | exact heap_new _ _ _ | exact HK.out); have hpc := fun i => blk_cell HK.out i; clear hb)
    | (go_at_call 12; refine (RSet_ok _ _ _ _ _ _ _ _ _ _ _ xs r _ (HR.out.below (by first | exact bsp _ _ _ | exact HB.out | exact bst (bsp _ _ _) HB.out | exact Below.refl _ _)) HG.out HDD.out).mono ?_; rintro e w' ⟨rfl, hb⟩; have HB : Hid (Below w.heap.size w w') := bst (by first | exact bsp _ _ _ | exact HB.out | exact bst (bsp _ _ _) HB.out | exact Below.refl _ _) hb; have HK : Hid (w'.heap[w.heap.size]? = some (.cells #[.int .i64 no, .int .i64 wi, .int .i64 ba, .int .i64 st, .int .i64 ca, .int .i64 ro, .int .i64 fl, .slice ao n c] 24 (0, 0))) := blk_on hb (by first | exact heap_new _ _ _ | exact HK.out); have hpc := fun i => blk_cell HK.out i; clear hb)
    | fail)
  all_goals first
    | go_ret
    | ((try simp only [Exit.inBlock, Exit.then]); refine bodyPost_ret (results_tmp2 rfl _ _ _) rfl ?_)
  all_goals exact ⟨by first | rfl | go_num | simp, (by first | exact bsp _ _ _ | exact HB.out | exact bst (bsp _ _ _) HB.out | exact Below.refl _ _)⟩


set_option maxRecDepth 100000 in
set_option maxHeartbeats 2000000 in
theorem Set_bad (no wi ba st ca ro fl d : Int) (ao : Option Addr) (n c : Nat) (xs : List Int) (r : Bool) (w : World) (h : Cf w no wi ba st ca ro fl ao n c xs r 0) (hg : headC no wi ba st ca ro fl n = true) (hd : ¬ (1 ≤ d ∧ d ≤ ba ∧ d ≤ 16)) :
    Calls Try.prog 11 #[.agg #[.int .i64 no, .int .i64 wi, .int .i64 ba, .int .i64 st, .int .i64 ca, .int .i64 ro, .int .i64 fl, .slice ao n c], .int .i64 d] w fun e w' => e = .returned (.tuple #[.int .i64 (0), .int .i64 1]) ∧ Below w.heap.size w w' := by
  have HR : Hid (Cf w no wi ba st ca ro fl ao n c xs r 0) := h
  clear h
  have HG : Hid (headC no wi ba st ca ro fl n = true) := hg
  have HDD : Hid (¬ (1 ≤ d ∧ d ≤ ba ∧ d ≤ 16)) := hd
  clear hg hd
  all_goals go_enter Try.func11, Try.ntmps11
  all_goals go_wp2_with (first
    | (go_at_call 26; refine (cd_bad _ _ _ _ _ _ _ _ _ _ _ xs r _ (HR.out.below (by first | exact bsp _ _ _ | exact HB.out | exact bst (bsp _ _ _) HB.out | exact Below.refl _ _)) HG.out HDD.out).mono ?_; rintro e w' ⟨rfl, hb⟩; have HB : Hid (Below w.heap.size w w') := bst (by first | exact bsp _ _ _ | exact HB.out | exact bst (bsp _ _ _) HB.out | exact Below.refl _ _) hb; have HK : Hid (w'.heap[w.heap.size]? = some (.cells #[.int .i64 no, .int .i64 wi, .int .i64 ba, .int .i64 st, .int .i64 ca, .int .i64 ro, .int .i64 fl, .slice ao n c] 24 (0, 0))) := blk_on hb (by first | exact heap_new _ _ _ | exact HK.out); have hpc := fun i => blk_cell HK.out i; clear hb)
    | fail)
  all_goals first
    | go_ret
    | ((try simp only [Exit.inBlock, Exit.then]); refine bodyPost_ret (results_tmp2 rfl _ _ _) rfl ?_)
  all_goals exact ⟨by first | rfl | go_num | simp, (by first | exact bsp _ _ _ | exact HB.out | exact bst (bsp _ _ _) HB.out | exact Below.refl _ _)⟩


set_option maxRecDepth 100000 in
set_option maxHeartbeats 2000000 in
theorem Del_bad (no wi ba st ca ro fl d : Int) (ao : Option Addr) (n c : Nat) (xs : List Int) (r : Bool) (w : World) (h : Cf w no wi ba st ca ro fl ao n c xs r 0) (hg : headC no wi ba st ca ro fl n = true) (hd : ¬ (1 ≤ d ∧ d ≤ ba ∧ d ≤ 16)) :
    Calls Try.prog 13 #[.agg #[.int .i64 no, .int .i64 wi, .int .i64 ba, .int .i64 st, .int .i64 ca, .int .i64 ro, .int .i64 fl, .slice ao n c], .int .i64 d] w fun e w' => e = .returned (.tuple #[.int .i64 (0), .int .i64 1]) ∧ Below w.heap.size w w' := by
  have HR : Hid (Cf w no wi ba st ca ro fl ao n c xs r 0) := h
  clear h
  have HG : Hid (headC no wi ba st ca ro fl n = true) := hg
  have HDD : Hid (¬ (1 ≤ d ∧ d ≤ ba ∧ d ≤ 16)) := hd
  clear hg hd
  all_goals go_enter Try.func13, Try.ntmps13
  all_goals go_wp2_with (first
    | (go_at_call 26; refine (cd_bad _ _ _ _ _ _ _ _ _ _ _ xs r _ (HR.out.below (by first | exact bsp _ _ _ | exact HB.out | exact bst (bsp _ _ _) HB.out | exact Below.refl _ _)) HG.out HDD.out).mono ?_; rintro e w' ⟨rfl, hb⟩; have HB : Hid (Below w.heap.size w w') := bst (by first | exact bsp _ _ _ | exact HB.out | exact bst (bsp _ _ _) HB.out | exact Below.refl _ _) hb; have HK : Hid (w'.heap[w.heap.size]? = some (.cells #[.int .i64 no, .int .i64 wi, .int .i64 ba, .int .i64 st, .int .i64 ca, .int .i64 ro, .int .i64 fl, .slice ao n c] 24 (0, 0))) := blk_on hb (by first | exact heap_new _ _ _ | exact HK.out); have hpc := fun i => blk_cell HK.out i; clear hb)
    | fail)
  all_goals first
    | go_ret
    | ((try simp only [Exit.inBlock, Exit.then]); refine bodyPost_ret (results_tmp2 rfl _ _ _) rfl ?_)
  all_goals exact ⟨by first | rfl | go_num | simp, (by first | exact bsp _ _ _ | exact HB.out | exact bst (bsp _ _ _) HB.out | exact Below.refl _ _)⟩


set_option maxRecDepth 100000 in
set_option maxHeartbeats 2000000 in
theorem Ans_bad (no wi ba st ca ro fl d : Int) (ao : Option Addr) (n c : Nat) (xs : List Int) (r : Bool) (w : World) (h : Cf w no wi ba st ca ro fl ao n c xs r 0) (hg : headC no wi ba st ca ro fl n = true) (hd : ¬ (1 ≤ d ∧ d ≤ ba ∧ d ≤ 16)) :
    Calls Try.prog 15 #[.agg #[.int .i64 no, .int .i64 wi, .int .i64 ba, .int .i64 st, .int .i64 ca, .int .i64 ro, .int .i64 fl, .slice ao n c], .int .i64 d] w fun e w' => e = .returned (.tuple #[.int .i64 (0), .int .i64 1]) ∧ Below w.heap.size w w' := by
  have HR : Hid (Cf w no wi ba st ca ro fl ao n c xs r 0) := h
  clear h
  have HG : Hid (headC no wi ba st ca ro fl n = true) := hg
  have HDD : Hid (¬ (1 ≤ d ∧ d ≤ ba ∧ d ≤ 16)) := hd
  clear hg hd
  all_goals go_enter Try.func15, Try.ntmps15
  all_goals go_wp2_with (first
    | (go_at_call 26; refine (cd_bad _ _ _ _ _ _ _ _ _ _ _ xs r _ (HR.out.below (by first | exact bsp _ _ _ | exact HB.out | exact bst (bsp _ _ _) HB.out | exact Below.refl _ _)) HG.out HDD.out).mono ?_; rintro e w' ⟨rfl, hb⟩; have HB : Hid (Below w.heap.size w w') := bst (by first | exact bsp _ _ _ | exact HB.out | exact bst (bsp _ _ _) HB.out | exact Below.refl _ _) hb; have HK : Hid (w'.heap[w.heap.size]? = some (.cells #[.int .i64 no, .int .i64 wi, .int .i64 ba, .int .i64 st, .int .i64 ca, .int .i64 ro, .int .i64 fl, .slice ao n c] 24 (0, 0))) := blk_on hb (by first | exact heap_new _ _ _ | exact HK.out); have hpc := fun i => blk_cell HK.out i; clear hb)
    | fail)
  all_goals first
    | go_ret
    | ((try simp only [Exit.inBlock, Exit.then]); refine bodyPost_ret (results_tmp2 rfl _ _ _) rfl ?_)
  all_goals exact ⟨by first | rfl | go_num | simp, (by first | exact bsp _ _ _ | exact HB.out | exact bst (bsp _ _ _) HB.out | exact Below.refl _ _)⟩


set_option maxRecDepth 100000 in
set_option maxHeartbeats 2000000 in
theorem RSet_bad (no wi ba st ca ro fl d : Int) (ao : Option Addr) (n c : Nat) (xs : List Int) (r : Bool) (w : World) (h : Cf w no wi ba st ca ro fl ao n c xs r 0) (hg : headC no wi ba st ca ro fl n = true) (hd : ¬ (1 ≤ d ∧ d ≤ ba ∧ d ≤ 16)) :
    Calls Try.prog 12 #[.agg #[.int .i64 no, .int .i64 wi, .int .i64 ba, .int .i64 st, .int .i64 ca, .int .i64 ro, .int .i64 fl, .slice ao n c], .int .i64 d] w fun e w' => e = .returned (.tuple #[.int .i64 (0), .int .i64 1]) ∧ Below w.heap.size w w' := by
  have HR : Hid (Cf w no wi ba st ca ro fl ao n c xs r 0) := h
  clear h
  have HG : Hid (headC no wi ba st ca ro fl n = true) := hg
  have HDD : Hid (¬ (1 ≤ d ∧ d ≤ ba ∧ d ≤ 16)) := hd
  clear hg hd
  all_goals go_enter Try.func12, Try.ntmps12
  all_goals go_wp2_with (first
    | (go_at_call 28; refine (al_bad _ _ _ _ _ _ _ _ _ _ _ xs r _ (HR.out.below (by first | exact bsp _ _ _ | exact HB.out | exact bst (bsp _ _ _) HB.out | exact Below.refl _ _)) HG.out HDD.out).mono ?_; rintro e w' ⟨rfl, hb⟩; have HB : Hid (Below w.heap.size w w') := bst (by first | exact bsp _ _ _ | exact HB.out | exact bst (bsp _ _ _) HB.out | exact Below.refl _ _) hb; have HK : Hid (w'.heap[w.heap.size]? = some (.cells #[.int .i64 no, .int .i64 wi, .int .i64 ba, .int .i64 st, .int .i64 ca, .int .i64 ro, .int .i64 fl, .slice ao n c] 24 (0, 0))) := blk_on hb (by first | exact heap_new _ _ _ | exact HK.out); have hpc := fun i => blk_cell HK.out i; clear hb)
    | fail)
  all_goals first
    | go_ret
    | ((try simp only [Exit.inBlock, Exit.then]); refine bodyPost_ret (results_tmp2 rfl _ _ _) rfl ?_)
  all_goals exact ⟨by first | rfl | go_num | simp, (by first | exact bsp _ _ _ | exact HB.out | exact bst (bsp _ _ _) HB.out | exact Below.refl _ _)⟩


set_option maxRecDepth 100000 in
set_option maxHeartbeats 2000000 in
theorem RDel_bad (no wi ba st ca ro fl d : Int) (ao : Option Addr) (n c : Nat) (xs : List Int) (r : Bool) (w : World) (h : Cf w no wi ba st ca ro fl ao n c xs r 0) (hg : headC no wi ba st ca ro fl n = true) (hd : ¬ (1 ≤ d ∧ d ≤ ba ∧ d ≤ 16)) :
    Calls Try.prog 14 #[.agg #[.int .i64 no, .int .i64 wi, .int .i64 ba, .int .i64 st, .int .i64 ca, .int .i64 ro, .int .i64 fl, .slice ao n c], .int .i64 d] w fun e w' => e = .returned (.tuple #[.int .i64 (0), .int .i64 1]) ∧ Below w.heap.size w w' := by
  have HR : Hid (Cf w no wi ba st ca ro fl ao n c xs r 0) := h
  clear h
  have HG : Hid (headC no wi ba st ca ro fl n = true) := hg
  have HDD : Hid (¬ (1 ≤ d ∧ d ≤ ba ∧ d ≤ 16)) := hd
  clear hg hd
  all_goals go_enter Try.func14, Try.ntmps14
  all_goals go_wp2_with (first
    | (go_at_call 28; refine (al_bad _ _ _ _ _ _ _ _ _ _ _ xs r _ (HR.out.below (by first | exact bsp _ _ _ | exact HB.out | exact bst (bsp _ _ _) HB.out | exact Below.refl _ _)) HG.out HDD.out).mono ?_; rintro e w' ⟨rfl, hb⟩; have HB : Hid (Below w.heap.size w w') := bst (by first | exact bsp _ _ _ | exact HB.out | exact bst (bsp _ _ _) HB.out | exact Below.refl _ _) hb; have HK : Hid (w'.heap[w.heap.size]? = some (.cells #[.int .i64 no, .int .i64 wi, .int .i64 ba, .int .i64 st, .int .i64 ca, .int .i64 ro, .int .i64 fl, .slice ao n c] 24 (0, 0))) := blk_on hb (by first | exact heap_new _ _ _ | exact HK.out); have hpc := fun i => blk_cell HK.out i; clear hb)
    | fail)
  all_goals first
    | go_ret
    | ((try simp only [Exit.inBlock, Exit.then]); refine bodyPost_ret (results_tmp2 rfl _ _ _) rfl ?_)
  all_goals exact ⟨by first | rfl | go_num | simp, (by first | exact bsp _ _ _ | exact HB.out | exact bst (bsp _ _ _) HB.out | exact Below.refl _ _)⟩


set_option maxRecDepth 100000 in
set_option maxHeartbeats 2000000 in
theorem RAns_bad (no wi ba st ca ro fl d : Int) (ao : Option Addr) (n c : Nat) (xs : List Int) (r : Bool) (w : World) (h : Cf w no wi ba st ca ro fl ao n c xs r 0) (hg : headC no wi ba st ca ro fl n = true) (hd : ¬ (1 ≤ d ∧ d ≤ ba ∧ d ≤ 16)) :
    Calls Try.prog 16 #[.agg #[.int .i64 no, .int .i64 wi, .int .i64 ba, .int .i64 st, .int .i64 ca, .int .i64 ro, .int .i64 fl, .slice ao n c], .int .i64 d] w fun e w' => e = .returned (.tuple #[.int .i64 (0), .int .i64 1]) ∧ Below w.heap.size w w' := by
  have HR : Hid (Cf w no wi ba st ca ro fl ao n c xs r 0) := h
  clear h
  have HG : Hid (headC no wi ba st ca ro fl n = true) := hg
  have HDD : Hid (¬ (1 ≤ d ∧ d ≤ ba ∧ d ≤ 16)) := hd
  clear hg hd
  all_goals go_enter Try.func16, Try.ntmps16
  all_goals go_wp2_with (first
    | (go_at_call 14; refine (RDel_bad _ _ _ _ _ _ _ _ _ _ _ xs r _ (HR.out.below (by first | exact bsp _ _ _ | exact HB.out | exact bst (bsp _ _ _) HB.out | exact Below.refl _ _)) HG.out HDD.out).mono ?_; rintro e w' ⟨rfl, hb⟩; have HB : Hid (Below w.heap.size w w') := bst (by first | exact bsp _ _ _ | exact HB.out | exact bst (bsp _ _ _) HB.out | exact Below.refl _ _) hb; have HK : Hid (w'.heap[w.heap.size]? = some (.cells #[.int .i64 no, .int .i64 wi, .int .i64 ba, .int .i64 st, .int .i64 ca, .int .i64 ro, .int .i64 fl, .slice ao n c] 24 (0, 0))) := blk_on hb (by first | exact heap_new _ _ _ | exact HK.out); have hpc := fun i => blk_cell HK.out i; clear hb)
    | fail)
  all_goals first
    | go_ret
    | ((try simp only [Exit.inBlock, Exit.then]); refine bodyPost_ret (results_tmp2 rfl _ _ _) rfl ?_)
  all_goals exact ⟨by first | rfl | go_num | simp, (by first | exact bsp _ _ _ | exact HB.out | exact bst (bsp _ _ _) HB.out | exact Below.refl _ _)⟩


set_option maxRecDepth 100000 in
set_option maxHeartbeats 2000000 in
theorem Dou_ok (no wi ba st ca ro fl d : Int) (ao : Option Addr) (n c : Nat) (xs : List Int) (r : Bool) (w : World) (h : Cf w no wi ba st ca ro fl ao n c xs r 0) (hg : headC no wi ba st ca ro fl n = true) (hd : (1 ≤ d ∧ d ≤ no)) :
    Calls Try.prog 17 #[.agg #[.int .i64 no, .int .i64 wi, .int .i64 ba, .int .i64 st, .int .i64 ca, .int .i64 ro, .int .i64 fl, .slice ao n c], .int .i64 d] w fun e w' => e = .returned (.tuple #[.int .i64 (d * (d - 1) * dv (ca - ba) st), .int .i64 0]) ∧ Below w.heap.size w w' := by
  have HR : Hid (Cf w no wi ba st ca ro fl ao n c xs r 0) := h
  clear h
  obtain ⟨⟨h1, h2⟩, ⟨h3, h4⟩, ⟨h5, h6⟩, ⟨h7, h8⟩, ⟨h9, h10⟩, ⟨h11, h12⟩, ⟨h13, h14⟩, h15⟩ := headC_true hg
  have HN : Hid ((n : Int) = no) := h15
  clear hg h15
  obtain ⟨hd1, hd2⟩ := hd
  obtain ⟨q, hq⟩ : ∃ q, dv (ca - ba) st = q := ⟨_, rfl⟩
  have HQ : Hid (dv (ca - ba) st = q) := hq
  obtain ⟨q0, q1⟩ : 0 ≤ q ∧ q ≤ 127 := by rw [← hq]; exact dv_rng (by omega) (by omega) (by omega) (by omega)
  obtain ⟨⟨s0, s1⟩, s2, s3⟩ := sq_rng q0 q1 hd1 (by omega)
  have HW : Hid (inR d 1 no = true) := by show _ = _; simp [inR]; omega
  rw [hq]
  clear hq
  all_goals go_enter Try.func17, Try.ntmps17
  all_goals go_wp2_with (first
    | (go_at_call 32; refine (check_eq _ _ _ _ _ _ _ _ _ _ xs r 0 _ (HR.out.below (by first | exact bsp _ _ _ | exact HB.out | exact bst (bsp _ _ _) HB.out | exact Below.refl _ _)).rd HR.out.le HR.out.vt HR.out.er).mono ?_; rintro e w' ⟨rfl, hb⟩; have HB : Hid (Below w.heap.size w w') := bst (by first | exact bsp _ _ _ | exact HB.out | exact bst (bsp _ _ _) HB.out | exact Below.refl _ _) hb; have HK : Hid (w'.heap[w.heap.size]? = some (.cells #[.int .i64 no, .int .i64 wi, .int .i64 ba, .int .i64 st, .int .i64 ca, .int .i64 ro, .int .i64 fl, .slice ao n c] 24 (0, 0))) := blk_on hb (by first | exact heap_new _ _ _ | exact HK.out); have hpc := fun i => blk_cell HK.out i; clear hb)
    | (go_at_call 33; refine (bwithin_eq _ _ _ _ _ HW.out).mono ?_; rintro e w' ⟨rfl, rfl⟩)
    | (go_at_call 34; refine (dv_eq _ _ q _ (by omega) (by omega) (by omega) (by omega) HQ.out).mono ?_; rintro e w' ⟨rfl, rfl⟩)
    | fail)
  all_goals first
    | go_ret
    | ((try simp only [Exit.inBlock, Exit.then]); refine bodyPost_ret (results_tmp2 rfl _ _ _) rfl ?_)
  all_goals exact ⟨by first | rfl | go_num | simp, (by first | exact bsp _ _ _ | exact HB.out | exact bst (bsp _ _ _) HB.out | exact Below.refl _ _)⟩


set_option maxRecDepth 100000 in
set_option maxHeartbeats 2000000 in
theorem RDou_ok (no wi ba st ca ro fl d : Int) (ao : Option Addr) (n c : Nat) (xs : List Int) (r : Bool) (w : World) (h : Cf w no wi ba st ca ro fl ao n c xs r 0) (hg : headC no wi ba st ca ro fl n = true) (hd : (1 ≤ d ∧ d ≤ no)) :
    Calls Try.prog 18 #[.agg #[.int .i64 no, .int .i64 wi, .int .i64 ba, .int .i64 st, .int .i64 ca, .int .i64 ro, .int .i64 fl, .slice ao n c], .int .i64 d] w fun e w' => e = .returned (.tuple #[.int .i64 (d * (d - 1) * dv (ca - ba) st), .int .i64 0]) ∧ Below w.heap.size w w' := by
  have HR : Hid (Cf w no wi ba st ca ro fl ao n c xs r 0) := h
  clear h
  obtain ⟨⟨h1, h2⟩, ⟨h3, h4⟩, ⟨h5, h6⟩, ⟨h7, h8⟩, ⟨h9, h10⟩, ⟨h11, h12⟩, ⟨h13, h14⟩, h15⟩ := headC_true hg
  have HN : Hid ((n : Int) = no) := h15
  clear hg h15
  obtain ⟨hd1, hd2⟩ := hd
  obtain ⟨q, hq⟩ : ∃ q, dv (ca - ba) st = q := ⟨_, rfl⟩
  have HQ : Hid (dv (ca - ba) st = q) := hq
  obtain ⟨q0, q1⟩ : 0 ≤ q ∧ q ≤ 127 := by rw [← hq]; exact dv_rng (by omega) (by omega) (by omega) (by omega)
  obtain ⟨⟨s0, s1⟩, s2, s3⟩ := sq_rng q0 q1 hd1 (by omega)
  have HW : Hid (inR d 1 no = true) := by show _ = _; simp [inR]; omega
  rw [hq]
  clear hq
  all_goals go_enter Try.func18, Try.ntmps18
  all_goals go_wp2_with (first
    | (go_at_call 7; refine (rcheck_eq _ _ _ _ _ _ _ _ _ _ xs r 0 _ (HR.out.below (by first | exact bsp _ _ _ | exact HB.out | exact bst (bsp _ _ _) HB.out | exact Below.refl _ _)).rd HR.out.le HR.out.vt HR.out.er).mono ?_; rintro e w' ⟨rfl, hb⟩; have HB : Hid (Below w.heap.size w w') := bst (by first | exact bsp _ _ _ | exact HB.out | exact bst (bsp _ _ _) HB.out | exact Below.refl _ _) hb; have HK : Hid (w'.heap[w.heap.size]? = some (.cells #[.int .i64 no, .int .i64 wi, .int .i64 ba, .int .i64 st, .int .i64 ca, .int .i64 ro, .int .i64 fl, .slice ao n c] 24 (0, 0))) := blk_on hb (by first | exact heap_new _ _ _ | exact HK.out); have hpc := fun i => blk_cell HK.out i; clear hb)
    | (go_at_call 30; refine (ov_eq _ _ q _ (by omega) (by omega) (by omega) (by omega) HQ.out).mono ?_; rintro e w' ⟨rfl, rfl⟩)
    | fail)
  all_goals first
    | go_ret
    | ((try simp only [Exit.inBlock, Exit.then]); refine bodyPost_ret (results_tmp2 rfl _ _ _) rfl ?_)
  all_goals exact ⟨by first | rfl | go_num | simp, (by first | exact bsp _ _ _ | exact HB.out | exact bst (bsp _ _ _) HB.out | exact Below.refl _ _)⟩


set_option maxRecDepth 100000 in
set_option maxHeartbeats 2000000 in
theorem Dou_bad (no wi ba st ca ro fl d : Int) (ao : Option Addr) (n c : Nat) (xs : List Int) (r : Bool) (w : World) (h : Cf w no wi ba st ca ro fl ao n c xs r 0) (hg : headC no wi ba st ca ro fl n = true) (hd : ¬ (1 ≤ d ∧ d ≤ no)) :
    Calls Try.prog 17 #[.agg #[.int .i64 no, .int .i64 wi, .int .i64 ba, .int .i64 st, .int .i64 ca, .int .i64 ro, .int .i64 fl, .slice ao n c], .int .i64 d] w fun e w' => e = .returned (.tuple #[.int .i64 (0), .int .i64 1]) ∧ Below w.heap.size w w' := by
  have HR : Hid (Cf w no wi ba st ca ro fl ao n c xs r 0) := h
  clear h
  obtain ⟨⟨h1, h2⟩, ⟨h3, h4⟩, ⟨h5, h6⟩, ⟨h7, h8⟩, ⟨h9, h10⟩, ⟨h11, h12⟩, ⟨h13, h14⟩, h15⟩ := headC_true hg
  have HN : Hid ((n : Int) = no) := h15
  clear hg h15
  have HW : Hid (inR d 1 no = false) := by show _ = _; simp [inR]; omega
  clear hd
  all_goals go_enter Try.func17, Try.ntmps17
  all_goals go_wp2_with (first
    | (go_at_call 32; refine (check_eq _ _ _ _ _ _ _ _ _ _ xs r 0 _ (HR.out.below (by first | exact bsp _ _ _ | exact HB.out | exact bst (bsp _ _ _) HB.out | exact Below.refl _ _)).rd HR.out.le HR.out.vt HR.out.er).mono ?_; rintro e w' ⟨rfl, hb⟩; have HB : Hid (Below w.heap.size w w') := bst (by first | exact bsp _ _ _ | exact HB.out | exact bst (bsp _ _ _) HB.out | exact Below.refl _ _) hb; have HK : Hid (w'.heap[w.heap.size]? = some (.cells #[.int .i64 no, .int .i64 wi, .int .i64 ba, .int .i64 st, .int .i64 ca, .int .i64 ro, .int .i64 fl, .slice ao n c] 24 (0, 0))) := blk_on hb (by first | exact heap_new _ _ _ | exact HK.out); have hpc := fun i => blk_cell HK.out i; clear hb)
    | (go_at_call 33; refine (bwithin_eq _ _ _ _ _ HW.out).mono ?_; rintro e w' ⟨rfl, rfl⟩)
    | fail)
  all_goals first
    | go_ret
    | ((try simp only [Exit.inBlock, Exit.then]); refine bodyPost_ret (results_tmp2 rfl _ _ _) rfl ?_)
  all_goals exact ⟨by first | rfl | go_num | simp, (by first | exact bsp _ _ _ | exact HB.out | exact bst (bsp _ _ _) HB.out | exact Below.refl _ _)⟩


set_option maxRecDepth 100000 in
set_option maxHeartbeats 2000000 in
theorem RDou_bad (no wi ba st ca ro fl d : Int) (ao : Option Addr) (n c : Nat) (xs : List Int) (r : Bool) (w : World) (h : Cf w no wi ba st ca ro fl ao n c xs r 0) (hg : headC no wi ba st ca ro fl n = true) (hd : ¬ (1 ≤ d ∧ d ≤ no)) :
    Calls Try.prog 18 #[.agg #[.int .i64 no, .int .i64 wi, .int .i64 ba, .int .i64 st, .int .i64 ca, .int .i64 ro, .int .i64 fl, .slice ao n c], .int .i64 d] w fun e w' => e = .returned (.tuple #[.int .i64 (0), .int .i64 1]) ∧ Below w.heap.size w w' := by
  have HR : Hid (Cf w no wi ba st ca ro fl ao n c xs r 0) := h
  clear h
  obtain ⟨⟨h1, h2⟩, ⟨h3, h4⟩, ⟨h5, h6⟩, ⟨h7, h8⟩, ⟨h9, h10⟩, ⟨h11, h12⟩, ⟨h13, h14⟩, h15⟩ := headC_true hg
  have HN : Hid ((n : Int) = no) := h15
  clear hg h15
  have HW : Hid (inR d 1 no = false) := by show _ = _; simp [inR]; omega
  rcases (by omega : d < 1 ∨ (1 ≤ d ∧ no < d)) with hm | ⟨hm, hm2⟩
  all_goals clear hd
  all_goals go_enter Try.func18, Try.ntmps18
  all_goals go_wp2_with (first
    | (go_at_call 7; refine (rcheck_eq _ _ _ _ _ _ _ _ _ _ xs r 0 _ (HR.out.below (by first | exact bsp _ _ _ | exact HB.out | exact bst (bsp _ _ _) HB.out | exact Below.refl _ _)).rd HR.out.le HR.out.vt HR.out.er).mono ?_; rintro e w' ⟨rfl, hb⟩; have HB : Hid (Below w.heap.size w w') := bst (by first | exact bsp _ _ _ | exact HB.out | exact bst (bsp _ _ _) HB.out | exact Below.refl _ _) hb; have HK : Hid (w'.heap[w.heap.size]? = some (.cells #[.int .i64 no, .int .i64 wi, .int .i64 ba, .int .i64 st, .int .i64 ca, .int .i64 ro, .int .i64 fl, .slice ao n c] 24 (0, 0))) := blk_on hb (by first | exact heap_new _ _ _ | exact HK.out); have hpc := fun i => blk_cell HK.out i; clear hb)
    | fail)
  all_goals first
    | go_ret
    | ((try simp only [Exit.inBlock, Exit.then]); refine bodyPost_ret (results_tmp2 rfl _ _ _) rfl ?_)
  all_goals exact ⟨by first | rfl | go_num | simp, (by first | exact bsp _ _ _ | exact HB.out | exact bst (bsp _ _ _) HB.out | exact Below.refl _ _)⟩

end Go.Proofs.Ytfodkackfahldaa.Lo
