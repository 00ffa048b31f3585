import Derived.Test.YtjgjpepmfiklfaaGreatDoorMxt
namespace Go.Proofs.YtjgjpepmfiklfaaGreatDoor.Mx
open Go.RowKit Mb Mh Lo
set_option linter.unusedVariables false
set_option maxRecDepth 100000
set_option linter.unusedSimpArgs false
section
variable {w w' W : World} {B : Nat}
set_option maxHeartbeats 8000000 in
theorem qc_1 {cl inc req : Int} (ky v old : ByteArray) (r : 0 ≤ cl ∧ cl ≤ 15) (ri : 1 ≤ inc ∧ inc ≤ 4611686018427387904) (rr : 1 ≤ req ∧ req ≤ 4611686018427387904) :
    Calls Tryz.prog 11 #[.agg #[.int .i64 cl, .int .i64 inc, .int .i64 req, .int .i64 1, .string ky, .string v, .string old]] w fun e w' => e = .returned (.int .i64 (if fitB 1 ky v old = true then 0 else 130)) ∧ Below w.heap.size w w' := by
  have HN : Hid (∀ X : World, Calls Tryz.prog 30 #[.string v] X fun e w' => e = .returned (numV (numF v)) ∧ X = w') := fun X => qnumber_any v
  obtain ⟨nv, nb, hnv, hn1, hn2⟩ : ∃ nv nb, numV (numF v) = .tuple #[.int .i64 nv, .bool nb] ∧ (numF v).isSome = nb ∧ (numF v).getD 0 = nv := by cases numF v <;> exact ⟨_, _, rfl, rfl, rfl⟩
  rw [hnv] at HN
  clear hnv
  have hnm : nmB v = nb := hn1
  have htk : tkB v = (nb && decide (0 < nv)) := by unfold tkB; rw [hn1, hn2]
  have hct : ctB v = (nb && cliB nv) := by unfold ctB; rw [hn1, hn2]
  clear hn1 hn2
  obtain ⟨W, hW⟩ : ∃ X, w.alloc (.cells #[.int .i64 cl, .int .i64 inc, .int .i64 req, .int .i64 1, .string ky, .string v, .string old] 23) = X := ⟨_, rfl⟩
  have HbW : Hid (Below w.heap.size w W) := by rw [← hW]; exact balloc (Below.refl _ _)
  have HcW : Hid (W.heap[w.heap.size]? = some (.cells #[.int .i64 cl, .int .i64 inc, .int .i64 req, .int .i64 1, .string ky, .string v, .string old] 23 (0, 0))) := by rw [← hW]; exact heap_alloc_new w _
  have y0 := blk_cell HcW.out 0
  have y1 := blk_cell HcW.out 1
  have y2 := blk_cell HcW.out 2
  have y3 := blk_cell HcW.out 3
  have y4 := blk_cell HcW.out 4
  have y5 := blk_cell HcW.out 5
  have y6 := blk_cell HcW.out 6
  simp only [List.getElem?_toArray, List.getElem?_cons_succ, List.getElem?_cons_zero] at y0 y1 y2 y3 y4 y5 y6
  have a1 : ¬ cl < 0 := by omega
  have a2 : ¬ 16 ≤ cl := by omega
  have a3 : ¬ inc < 1 := by omega
  have a4 : ¬ 4611686018427387904 < inc := by omega
  have a5 : ¬ req < 1 := by omega
  have a6 : ¬ 4611686018427387904 < req := by omega
  clear r ri rr
  have hf : fitB 1 ky v old = (keyB ky && valB v && empB old) := by unfold fitB; rw [if_pos rfl]
  rw [hf]
  clear hf
  by_cases k1 : (1 : Int) ≤ (ky.size : Int)
  · by_cases k2 : (ky.size : Int) ≤ 8
    · have hk : keyB ky = true := by unfold keyB; exact decide_eq_true ⟨k1, k2⟩
      rw [hk]
      by_cases lv : (v.size : Int) ≤ 8
      · have hvv : valB v = true := by unfold valB; exact decide_eq_true lv
        rw [hvv]
        have heo : empB old = (old.toList == ([] : List UInt8)) := rfl
        rw [heo]
        clear heo
        go_enter Tryz.func11, Tryz.ntmps11
        go_wp2_with (first | (go_at_call 30; refine (HN.out _).mono ?_; rintro e wx ⟨rfl, rfl⟩) | fail)
        all_goals (go_ret; exact ⟨rfl, HbW.out⟩)
      · have hvv : valB v = false := by unfold valB; exact decide_eq_false lv
        rw [hvv]
        have heo : empB old = (old.toList == ([] : List UInt8)) := rfl
        rw [heo]
        clear heo
        go_enter Tryz.func11, Tryz.ntmps11
        go_wp2_with (first | (go_at_call 30; refine (HN.out _).mono ?_; rintro e wx ⟨rfl, rfl⟩) | fail)
        all_goals (go_ret; exact ⟨rfl, HbW.out⟩)
    · have hk : keyB ky = false := by unfold keyB; rw [decide_eq_false_iff_not]; omega
      rw [hk]
      by_cases lv : (v.size : Int) ≤ 8
      · have hvv : valB v = true := by unfold valB; exact decide_eq_true lv
        rw [hvv]
        have heo : empB old = (old.toList == ([] : List UInt8)) := rfl
        rw [heo]
        clear heo
        go_enter Tryz.func11, Tryz.ntmps11
        go_wp2_with (first | (go_at_call 30; refine (HN.out _).mono ?_; rintro e wx ⟨rfl, rfl⟩) | fail)
        all_goals (go_ret; exact ⟨rfl, HbW.out⟩)
      · have hvv : valB v = false := by unfold valB; exact decide_eq_false lv
        rw [hvv]
        have heo : empB old = (old.toList == ([] : List UInt8)) := rfl
        rw [heo]
        clear heo
        go_enter Tryz.func11, Tryz.ntmps11
        go_wp2_with (first | (go_at_call 30; refine (HN.out _).mono ?_; rintro e wx ⟨rfl, rfl⟩) | fail)
        all_goals (go_ret; exact ⟨rfl, HbW.out⟩)
  · have hk : keyB ky = false := by unfold keyB; rw [decide_eq_false_iff_not]; omega
    rw [hk]
    by_cases lv : (v.size : Int) ≤ 8
    · have hvv : valB v = true := by unfold valB; exact decide_eq_true lv
      rw [hvv]
      have heo : empB old = (old.toList == ([] : List UInt8)) := rfl
      rw [heo]
      clear heo
      go_enter Tryz.func11, Tryz.ntmps11
      go_wp2_with (first | (go_at_call 30; refine (HN.out _).mono ?_; rintro e wx ⟨rfl, rfl⟩) | fail)
      all_goals (go_ret; exact ⟨rfl, HbW.out⟩)
    · have hvv : valB v = false := by unfold valB; exact decide_eq_false lv
      rw [hvv]
      have heo : empB old = (old.toList == ([] : List UInt8)) := rfl
      rw [heo]
      clear heo
      go_enter Tryz.func11, Tryz.ntmps11
      go_wp2_with (first | (go_at_call 30; refine (HN.out _).mono ?_; rintro e wx ⟨rfl, rfl⟩) | fail)
      all_goals (go_ret; exact ⟨rfl, HbW.out⟩)
set_option maxHeartbeats 8000000 in
theorem qc_2 {cl inc req : Int} (ky v old : ByteArray) (r : 0 ≤ cl ∧ cl ≤ 15) (ri : 1 ≤ inc ∧ inc ≤ 4611686018427387904) (rr : 1 ≤ req ∧ req ≤ 4611686018427387904) :
    Calls Tryz.prog 11 #[.agg #[.int .i64 cl, .int .i64 inc, .int .i64 req, .int .i64 2, .string ky, .string v, .string old]] w fun e w' => e = .returned (.int .i64 (if fitB 2 ky v old = true then 0 else 130)) ∧ Below w.heap.size w w' := by
  have HN : Hid (∀ X : World, Calls Tryz.prog 30 #[.string v] X fun e w' => e = .returned (numV (numF v)) ∧ X = w') := fun X => qnumber_any v
  obtain ⟨nv, nb, hnv, hn1, hn2⟩ : ∃ nv nb, numV (numF v) = .tuple #[.int .i64 nv, .bool nb] ∧ (numF v).isSome = nb ∧ (numF v).getD 0 = nv := by cases numF v <;> exact ⟨_, _, rfl, rfl, rfl⟩
  rw [hnv] at HN
  clear hnv
  have hnm : nmB v = nb := hn1
  have htk : tkB v = (nb && decide (0 < nv)) := by unfold tkB; rw [hn1, hn2]
  have hct : ctB v = (nb && cliB nv) := by unfold ctB; rw [hn1, hn2]
  clear hn1 hn2
  obtain ⟨W, hW⟩ : ∃ X, w.alloc (.cells #[.int .i64 cl, .int .i64 inc, .int .i64 req, .int .i64 2, .string ky, .string v, .string old] 23) = X := ⟨_, rfl⟩
  have HbW : Hid (Below w.heap.size w W) := by rw [← hW]; exact balloc (Below.refl _ _)
  have HcW : Hid (W.heap[w.heap.size]? = some (.cells #[.int .i64 cl, .int .i64 inc, .int .i64 req, .int .i64 2, .string ky, .string v, .string old] 23 (0, 0))) := by rw [← hW]; exact heap_alloc_new w _
  have y0 := blk_cell HcW.out 0
  have y1 := blk_cell HcW.out 1
  have y2 := blk_cell HcW.out 2
  have y3 := blk_cell HcW.out 3
  have y4 := blk_cell HcW.out 4
  have y5 := blk_cell HcW.out 5
  have y6 := blk_cell HcW.out 6
  simp only [List.getElem?_toArray, List.getElem?_cons_succ, List.getElem?_cons_zero] at y0 y1 y2 y3 y4 y5 y6
  have a1 : ¬ cl < 0 := by omega
  have a2 : ¬ 16 ≤ cl := by omega
  have a3 : ¬ inc < 1 := by omega
  have a4 : ¬ 4611686018427387904 < inc := by omega
  have a5 : ¬ req < 1 := by omega
  have a6 : ¬ 4611686018427387904 < req := by omega
  clear r ri rr
  have hf : fitB 2 ky v old = (keyB ky && empB v && empB old) := by unfold fitB; rw [if_neg (by decide), if_pos rfl]
  rw [hf]
  clear hf
  by_cases k1 : (1 : Int) ≤ (ky.size : Int)
  · by_cases k2 : (ky.size : Int) ≤ 8
    · have hk : keyB ky = true := by unfold keyB; exact decide_eq_true ⟨k1, k2⟩
      rw [hk]
      have hev : empB v = (v.toList == ([] : List UInt8)) := rfl
      rw [hev]
      clear hev
      have heo : empB old = (old.toList == ([] : List UInt8)) := rfl
      rw [heo]
      clear heo
      go_enter Tryz.func11, Tryz.ntmps11
      go_wp2_with (first | (go_at_call 30; refine (HN.out _).mono ?_; rintro e wx ⟨rfl, rfl⟩) | fail)
      all_goals (go_ret; exact ⟨rfl, HbW.out⟩)
    · have hk : keyB ky = false := by unfold keyB; rw [decide_eq_false_iff_not]; omega
      rw [hk]
      have hev : empB v = (v.toList == ([] : List UInt8)) := rfl
      rw [hev]
      clear hev
      have heo : empB old = (old.toList == ([] : List UInt8)) := rfl
      rw [heo]
      clear heo
      go_enter Tryz.func11, Tryz.ntmps11
      go_wp2_with (first | (go_at_call 30; refine (HN.out _).mono ?_; rintro e wx ⟨rfl, rfl⟩) | fail)
      all_goals (go_ret; exact ⟨rfl, HbW.out⟩)
  · have hk : keyB ky = false := by unfold keyB; rw [decide_eq_false_iff_not]; omega
    rw [hk]
    have hev : empB v = (v.toList == ([] : List UInt8)) := rfl
    rw [hev]
    clear hev
    have heo : empB old = (old.toList == ([] : List UInt8)) := rfl
    rw [heo]
    clear heo
    go_enter Tryz.func11, Tryz.ntmps11
    go_wp2_with (first | (go_at_call 30; refine (HN.out _).mono ?_; rintro e wx ⟨rfl, rfl⟩) | fail)
    all_goals (go_ret; exact ⟨rfl, HbW.out⟩)
set_option maxHeartbeats 8000000 in
theorem qc_3 {cl inc req : Int} (ky v old : ByteArray) (r : 0 ≤ cl ∧ cl ≤ 15) (ri : 1 ≤ inc ∧ inc ≤ 4611686018427387904) (rr : 1 ≤ req ∧ req ≤ 4611686018427387904) :
    Calls Tryz.prog 11 #[.agg #[.int .i64 cl, .int .i64 inc, .int .i64 req, .int .i64 3, .string ky, .string v, .string old]] w fun e w' => e = .returned (.int .i64 (if fitB 3 ky v old = true then 0 else 130)) ∧ Below w.heap.size w w' := by
  have HN : Hid (∀ X : World, Calls Tryz.prog 30 #[.string v] X fun e w' => e = .returned (numV (numF v)) ∧ X = w') := fun X => qnumber_any v
  obtain ⟨nv, nb, hnv, hn1, hn2⟩ : ∃ nv nb, numV (numF v) = .tuple #[.int .i64 nv, .bool nb] ∧ (numF v).isSome = nb ∧ (numF v).getD 0 = nv := by cases numF v <;> exact ⟨_, _, rfl, rfl, rfl⟩
  rw [hnv] at HN
  clear hnv
  have hnm : nmB v = nb := hn1
  have htk : tkB v = (nb && decide (0 < nv)) := by unfold tkB; rw [hn1, hn2]
  have hct : ctB v = (nb && cliB nv) := by unfold ctB; rw [hn1, hn2]
  clear hn1 hn2
  obtain ⟨W, hW⟩ : ∃ X, w.alloc (.cells #[.int .i64 cl, .int .i64 inc, .int .i64 req, .int .i64 3, .string ky, .string v, .string old] 23) = X := ⟨_, rfl⟩
  have HbW : Hid (Below w.heap.size w W) := by rw [← hW]; exact balloc (Below.refl _ _)
  have HcW : Hid (W.heap[w.heap.size]? = some (.cells #[.int .i64 cl, .int .i64 inc, .int .i64 req, .int .i64 3, .string ky, .string v, .string old] 23 (0, 0))) := by rw [← hW]; exact heap_alloc_new w _
  have y0 := blk_cell HcW.out 0
  have y1 := blk_cell HcW.out 1
  have y2 := blk_cell HcW.out 2
  have y3 := blk_cell HcW.out 3
  have y4 := blk_cell HcW.out 4
  have y5 := blk_cell HcW.out 5
  have y6 := blk_cell HcW.out 6
  simp only [List.getElem?_toArray, List.getElem?_cons_succ, List.getElem?_cons_zero] at y0 y1 y2 y3 y4 y5 y6
  have a1 : ¬ cl < 0 := by omega
  have a2 : ¬ 16 ≤ cl := by omega
  have a3 : ¬ inc < 1 := by omega
  have a4 : ¬ 4611686018427387904 < inc := by omega
  have a5 : ¬ req < 1 := by omega
  have a6 : ¬ 4611686018427387904 < req := by omega
  clear r ri rr
  have hf : fitB 3 ky v old = (keyB ky && valB v && valB old) := by unfold fitB; rw [if_neg (by decide), if_neg (by decide), if_pos rfl]
  rw [hf]
  clear hf
  by_cases k1 : (1 : Int) ≤ (ky.size : Int)
  · by_cases k2 : (ky.size : Int) ≤ 8
    · have hk : keyB ky = true := by unfold keyB; exact decide_eq_true ⟨k1, k2⟩
      rw [hk]
      by_cases lv : (v.size : Int) ≤ 8
      · have hvv : valB v = true := by unfold valB; exact decide_eq_true lv
        rw [hvv]
        by_cases lold : (old.size : Int) ≤ 8
        · have hvold : valB old = true := by unfold valB; exact decide_eq_true lold
          rw [hvold]
          go_enter Tryz.func11, Tryz.ntmps11
          go_wp2_with (first | (go_at_call 30; refine (HN.out _).mono ?_; rintro e wx ⟨rfl, rfl⟩) | fail)
          all_goals (go_ret; exact ⟨rfl, HbW.out⟩)
        · have hvold : valB old = false := by unfold valB; exact decide_eq_false lold
          rw [hvold]
          go_enter Tryz.func11, Tryz.ntmps11
          go_wp2_with (first | (go_at_call 30; refine (HN.out _).mono ?_; rintro e wx ⟨rfl, rfl⟩) | fail)
          all_goals (go_ret; exact ⟨rfl, HbW.out⟩)
      · have hvv : valB v = false := by unfold valB; exact decide_eq_false lv
        rw [hvv]
        by_cases lold : (old.size : Int) ≤ 8
        · have hvold : valB old = true := by unfold valB; exact decide_eq_true lold
          rw [hvold]
          go_enter Tryz.func11, Tryz.ntmps11
          go_wp2_with (first | (go_at_call 30; refine (HN.out _).mono ?_; rintro e wx ⟨rfl, rfl⟩) | fail)
          all_goals (go_ret; exact ⟨rfl, HbW.out⟩)
        · have hvold : valB old = false := by unfold valB; exact decide_eq_false lold
          rw [hvold]
          go_enter Tryz.func11, Tryz.ntmps11
          go_wp2_with (first | (go_at_call 30; refine (HN.out _).mono ?_; rintro e wx ⟨rfl, rfl⟩) | fail)
          all_goals (go_ret; exact ⟨rfl, HbW.out⟩)
    · have hk : keyB ky = false := by unfold keyB; rw [decide_eq_false_iff_not]; omega
      rw [hk]
      by_cases lv : (v.size : Int) ≤ 8
      · have hvv : valB v = true := by unfold valB; exact decide_eq_true lv
        rw [hvv]
        by_cases lold : (old.size : Int) ≤ 8
        · have hvold : valB old = true := by unfold valB; exact decide_eq_true lold
          rw [hvold]
          go_enter Tryz.func11, Tryz.ntmps11
          go_wp2_with (first | (go_at_call 30; refine (HN.out _).mono ?_; rintro e wx ⟨rfl, rfl⟩) | fail)
          all_goals (go_ret; exact ⟨rfl, HbW.out⟩)
        · have hvold : valB old = false := by unfold valB; exact decide_eq_false lold
          rw [hvold]
          go_enter Tryz.func11, Tryz.ntmps11
          go_wp2_with (first | (go_at_call 30; refine (HN.out _).mono ?_; rintro e wx ⟨rfl, rfl⟩) | fail)
          all_goals (go_ret; exact ⟨rfl, HbW.out⟩)
      · have hvv : valB v = false := by unfold valB; exact decide_eq_false lv
        rw [hvv]
        by_cases lold : (old.size : Int) ≤ 8
        · have hvold : valB old = true := by unfold valB; exact decide_eq_true lold
          rw [hvold]
          go_enter Tryz.func11, Tryz.ntmps11
          go_wp2_with (first | (go_at_call 30; refine (HN.out _).mono ?_; rintro e wx ⟨rfl, rfl⟩) | fail)
          all_goals (go_ret; exact ⟨rfl, HbW.out⟩)
        · have hvold : valB old = false := by unfold valB; exact decide_eq_false lold
          rw [hvold]
          go_enter Tryz.func11, Tryz.ntmps11
          go_wp2_with (first | (go_at_call 30; refine (HN.out _).mono ?_; rintro e wx ⟨rfl, rfl⟩) | fail)
          all_goals (go_ret; exact ⟨rfl, HbW.out⟩)
  · have hk : keyB ky = false := by unfold keyB; rw [decide_eq_false_iff_not]; omega
    rw [hk]
    by_cases lv : (v.size : Int) ≤ 8
    · have hvv : valB v = true := by unfold valB; exact decide_eq_true lv
      rw [hvv]
      by_cases lold : (old.size : Int) ≤ 8
      · have hvold : valB old = true := by unfold valB; exact decide_eq_true lold
        rw [hvold]
        go_enter Tryz.func11, Tryz.ntmps11
        go_wp2_with (first | (go_at_call 30; refine (HN.out _).mono ?_; rintro e wx ⟨rfl, rfl⟩) | fail)
        all_goals (go_ret; exact ⟨rfl, HbW.out⟩)
      · have hvold : valB old = false := by unfold valB; exact decide_eq_false lold
        rw [hvold]
        go_enter Tryz.func11, Tryz.ntmps11
        go_wp2_with (first | (go_at_call 30; refine (HN.out _).mono ?_; rintro e wx ⟨rfl, rfl⟩) | fail)
        all_goals (go_ret; exact ⟨rfl, HbW.out⟩)
    · have hvv : valB v = false := by unfold valB; exact decide_eq_false lv
      rw [hvv]
      by_cases lold : (old.size : Int) ≤ 8
      · have hvold : valB old = true := by unfold valB; exact decide_eq_true lold
        rw [hvold]
        go_enter Tryz.func11, Tryz.ntmps11
        go_wp2_with (first | (go_at_call 30; refine (HN.out _).mono ?_; rintro e wx ⟨rfl, rfl⟩) | fail)
        all_goals (go_ret; exact ⟨rfl, HbW.out⟩)
      · have hvold : valB old = false := by unfold valB; exact decide_eq_false lold
        rw [hvold]
        go_enter Tryz.func11, Tryz.ntmps11
        go_wp2_with (first | (go_at_call 30; refine (HN.out _).mono ?_; rintro e wx ⟨rfl, rfl⟩) | fail)
        all_goals (go_ret; exact ⟨rfl, HbW.out⟩)
set_option maxHeartbeats 8000000 in
theorem qc_4 {cl inc req : Int} (ky v old : ByteArray) (r : 0 ≤ cl ∧ cl ≤ 15) (ri : 1 ≤ inc ∧ inc ≤ 4611686018427387904) (rr : 1 ≤ req ∧ req ≤ 4611686018427387904) :
    Calls Tryz.prog 11 #[.agg #[.int .i64 cl, .int .i64 inc, .int .i64 req, .int .i64 4, .string ky, .string v, .string old]] w fun e w' => e = .returned (.int .i64 (if fitB 4 ky v old = true then 0 else 130)) ∧ Below w.heap.size w w' := by
  have HN : Hid (∀ X : World, Calls Tryz.prog 30 #[.string v] X fun e w' => e = .returned (numV (numF v)) ∧ X = w') := fun X => qnumber_any v
  obtain ⟨nv, nb, hnv, hn1, hn2⟩ : ∃ nv nb, numV (numF v) = .tuple #[.int .i64 nv, .bool nb] ∧ (numF v).isSome = nb ∧ (numF v).getD 0 = nv := by cases numF v <;> exact ⟨_, _, rfl, rfl, rfl⟩
  rw [hnv] at HN
  clear hnv
  have hnm : nmB v = nb := hn1
  have htk : tkB v = (nb && decide (0 < nv)) := by unfold tkB; rw [hn1, hn2]
  have hct : ctB v = (nb && cliB nv) := by unfold ctB; rw [hn1, hn2]
  clear hn1 hn2
  obtain ⟨W, hW⟩ : ∃ X, w.alloc (.cells #[.int .i64 cl, .int .i64 inc, .int .i64 req, .int .i64 4, .string ky, .string v, .string old] 23) = X := ⟨_, rfl⟩
  have HbW : Hid (Below w.heap.size w W) := by rw [← hW]; exact balloc (Below.refl _ _)
  have HcW : Hid (W.heap[w.heap.size]? = some (.cells #[.int .i64 cl, .int .i64 inc, .int .i64 req, .int .i64 4, .string ky, .string v, .string old] 23 (0, 0))) := by rw [← hW]; exact heap_alloc_new w _
  have y0 := blk_cell HcW.out 0
  have y1 := blk_cell HcW.out 1
  have y2 := blk_cell HcW.out 2
  have y3 := blk_cell HcW.out 3
  have y4 := blk_cell HcW.out 4
  have y5 := blk_cell HcW.out 5
  have y6 := blk_cell HcW.out 6
  simp only [List.getElem?_toArray, List.getElem?_cons_succ, List.getElem?_cons_zero] at y0 y1 y2 y3 y4 y5 y6
  have a1 : ¬ cl < 0 := by omega
  have a2 : ¬ 16 ≤ cl := by omega
  have a3 : ¬ inc < 1 := by omega
  have a4 : ¬ 4611686018427387904 < inc := by omega
  have a5 : ¬ req < 1 := by omega
  have a6 : ¬ 4611686018427387904 < req := by omega
  clear r ri rr
  have hf : fitB 4 ky v old = (keyB ky && empB v && empB old) := by unfold fitB; rw [if_neg (by decide), if_neg (by decide), if_neg (by decide), if_pos rfl]
  rw [hf]
  clear hf
  by_cases k1 : (1 : Int) ≤ (ky.size : Int)
  · by_cases k2 : (ky.size : Int) ≤ 8
    · have hk : keyB ky = true := by unfold keyB; exact decide_eq_true ⟨k1, k2⟩
      rw [hk]
      have hev : empB v = (v.toList == ([] : List UInt8)) := rfl
      rw [hev]
      clear hev
      have heo : empB old = (old.toList == ([] : List UInt8)) := rfl
      rw [heo]
      clear heo
      go_enter Tryz.func11, Tryz.ntmps11
      go_wp2_with (first | (go_at_call 30; refine (HN.out _).mono ?_; rintro e wx ⟨rfl, rfl⟩) | fail)
      all_goals (go_ret; exact ⟨rfl, HbW.out⟩)
    · have hk : keyB ky = false := by unfold keyB; rw [decide_eq_false_iff_not]; omega
      rw [hk]
      have hev : empB v = (v.toList == ([] : List UInt8)) := rfl
      rw [hev]
      clear hev
      have heo : empB old = (old.toList == ([] : List UInt8)) := rfl
      rw [heo]
      clear heo
      go_enter Tryz.func11, Tryz.ntmps11
      go_wp2_with (first | (go_at_call 30; refine (HN.out _).mono ?_; rintro e wx ⟨rfl, rfl⟩) | fail)
      all_goals (go_ret; exact ⟨rfl, HbW.out⟩)
  · have hk : keyB ky = false := by unfold keyB; rw [decide_eq_false_iff_not]; omega
    rw [hk]
    have hev : empB v = (v.toList == ([] : List UInt8)) := rfl
    rw [hev]
    clear hev
    have heo : empB old = (old.toList == ([] : List UInt8)) := rfl
    rw [heo]
    clear heo
    go_enter Tryz.func11, Tryz.ntmps11
    go_wp2_with (first | (go_at_call 30; refine (HN.out _).mono ?_; rintro e wx ⟨rfl, rfl⟩) | fail)
    all_goals (go_ret; exact ⟨rfl, HbW.out⟩)
set_option maxHeartbeats 8000000 in
theorem qc_5 {cl inc req : Int} (ky v old : ByteArray) (r : 0 ≤ cl ∧ cl ≤ 15) (ri : 1 ≤ inc ∧ inc ≤ 4611686018427387904) (rr : 1 ≤ req ∧ req ≤ 4611686018427387904) :
    Calls Tryz.prog 11 #[.agg #[.int .i64 cl, .int .i64 inc, .int .i64 req, .int .i64 5, .string ky, .string v, .string old]] w fun e w' => e = .returned (.int .i64 (if fitB 5 ky v old = true then 0 else 130)) ∧ Below w.heap.size w w' := by
  have HN : Hid (∀ X : World, Calls Tryz.prog 30 #[.string v] X fun e w' => e = .returned (numV (numF v)) ∧ X = w') := fun X => qnumber_any v
  obtain ⟨nv, nb, hnv, hn1, hn2⟩ : ∃ nv nb, numV (numF v) = .tuple #[.int .i64 nv, .bool nb] ∧ (numF v).isSome = nb ∧ (numF v).getD 0 = nv := by cases numF v <;> exact ⟨_, _, rfl, rfl, rfl⟩
  rw [hnv] at HN
  clear hnv
  have hnm : nmB v = nb := hn1
  have htk : tkB v = (nb && decide (0 < nv)) := by unfold tkB; rw [hn1, hn2]
  have hct : ctB v = (nb && cliB nv) := by unfold ctB; rw [hn1, hn2]
  clear hn1 hn2
  obtain ⟨W, hW⟩ : ∃ X, w.alloc (.cells #[.int .i64 cl, .int .i64 inc, .int .i64 req, .int .i64 5, .string ky, .string v, .string old] 23) = X := ⟨_, rfl⟩
  have HbW : Hid (Below w.heap.size w W) := by rw [← hW]; exact balloc (Below.refl _ _)
  have HcW : Hid (W.heap[w.heap.size]? = some (.cells #[.int .i64 cl, .int .i64 inc, .int .i64 req, .int .i64 5, .string ky, .string v, .string old] 23 (0, 0))) := by rw [← hW]; exact heap_alloc_new w _
  have y0 := blk_cell HcW.out 0
  have y1 := blk_cell HcW.out 1
  have y2 := blk_cell HcW.out 2
  have y3 := blk_cell HcW.out 3
  have y4 := blk_cell HcW.out 4
  have y5 := blk_cell HcW.out 5
  have y6 := blk_cell HcW.out 6
  simp only [List.getElem?_toArray, List.getElem?_cons_succ, List.getElem?_cons_zero] at y0 y1 y2 y3 y4 y5 y6
  have a1 : ¬ cl < 0 := by omega
  have a2 : ¬ 16 ≤ cl := by omega
  have a3 : ¬ inc < 1 := by omega
  have a4 : ¬ 4611686018427387904 < inc := by omega
  have a5 : ¬ req < 1 := by omega
  have a6 : ¬ 4611686018427387904 < req := by omega
  clear r ri rr
  have hf : fitB 5 ky v old = (keyB ky && nmB v && empB old) := by unfold fitB; rw [if_neg (by decide), if_neg (by decide), if_neg (by decide), if_neg (by decide), if_pos rfl]
  rw [hf]
  clear hf
  by_cases k1 : (1 : Int) ≤ (ky.size : Int)
  · by_cases k2 : (ky.size : Int) ≤ 8
    · have hk : keyB ky = true := by unfold keyB; exact decide_eq_true ⟨k1, k2⟩
      rw [hk]
      rw [hnm]
      clear hnm htk hct
      cases nb
      · have heo : empB old = (old.toList == ([] : List UInt8)) := rfl
        rw [heo]
        clear heo
        go_enter Tryz.func11, Tryz.ntmps11
        go_wp2_with (first | (go_at_call 30; refine (HN.out _).mono ?_; rintro e wx ⟨rfl, rfl⟩) | fail)
        all_goals (go_ret; exact ⟨rfl, HbW.out⟩)
      · have heo : empB old = (old.toList == ([] : List UInt8)) := rfl
        rw [heo]
        clear heo
        go_enter Tryz.func11, Tryz.ntmps11
        go_wp2_with (first | (go_at_call 30; refine (HN.out _).mono ?_; rintro e wx ⟨rfl, rfl⟩) | fail)
        all_goals (go_ret; exact ⟨rfl, HbW.out⟩)
    · have hk : keyB ky = false := by unfold keyB; rw [decide_eq_false_iff_not]; omega
      rw [hk]
      rw [hnm]
      clear hnm htk hct
      cases nb
      · have heo : empB old = (old.toList == ([] : List UInt8)) := rfl
        rw [heo]
        clear heo
        go_enter Tryz.func11, Tryz.ntmps11
        go_wp2_with (first | (go_at_call 30; refine (HN.out _).mono ?_; rintro e wx ⟨rfl, rfl⟩) | fail)
        all_goals (go_ret; exact ⟨rfl, HbW.out⟩)
      · have heo : empB old = (old.toList == ([] : List UInt8)) := rfl
        rw [heo]
        clear heo
        go_enter Tryz.func11, Tryz.ntmps11
        go_wp2_with (first | (go_at_call 30; refine (HN.out _).mono ?_; rintro e wx ⟨rfl, rfl⟩) | fail)
        all_goals (go_ret; exact ⟨rfl, HbW.out⟩)
  · have hk : keyB ky = false := by unfold keyB; rw [decide_eq_false_iff_not]; omega
    rw [hk]
    rw [hnm]
    clear hnm htk hct
    cases nb
    · have heo : empB old = (old.toList == ([] : List UInt8)) := rfl
      rw [heo]
      clear heo
      go_enter Tryz.func11, Tryz.ntmps11
      go_wp2_with (first | (go_at_call 30; refine (HN.out _).mono ?_; rintro e wx ⟨rfl, rfl⟩) | fail)
      all_goals (go_ret; exact ⟨rfl, HbW.out⟩)
    · have heo : empB old = (old.toList == ([] : List UInt8)) := rfl
      rw [heo]
      clear heo
      go_enter Tryz.func11, Tryz.ntmps11
      go_wp2_with (first | (go_at_call 30; refine (HN.out _).mono ?_; rintro e wx ⟨rfl, rfl⟩) | fail)
      all_goals (go_ret; exact ⟨rfl, HbW.out⟩)
set_option maxHeartbeats 8000000 in
theorem qc_6 {cl inc req : Int} (ky v old : ByteArray) (r : 0 ≤ cl ∧ cl ≤ 15) (ri : 1 ≤ inc ∧ inc ≤ 4611686018427387904) (rr : 1 ≤ req ∧ req ≤ 4611686018427387904) :
    Calls Tryz.prog 11 #[.agg #[.int .i64 cl, .int .i64 inc, .int .i64 req, .int .i64 6, .string ky, .string v, .string old]] w fun e w' => e = .returned (.int .i64 (if fitB 6 ky v old = true then 0 else 130)) ∧ Below w.heap.size w w' := by
  have HN : Hid (∀ X : World, Calls Tryz.prog 30 #[.string v] X fun e w' => e = .returned (numV (numF v)) ∧ X = w') := fun X => qnumber_any v
  obtain ⟨nv, nb, hnv, hn1, hn2⟩ : ∃ nv nb, numV (numF v) = .tuple #[.int .i64 nv, .bool nb] ∧ (numF v).isSome = nb ∧ (numF v).getD 0 = nv := by cases numF v <;> exact ⟨_, _, rfl, rfl, rfl⟩
  rw [hnv] at HN
  clear hnv
  have hnm : nmB v = nb := hn1
  have htk : tkB v = (nb && decide (0 < nv)) := by unfold tkB; rw [hn1, hn2]
  have hct : ctB v = (nb && cliB nv) := by unfold ctB; rw [hn1, hn2]
  clear hn1 hn2
  obtain ⟨W, hW⟩ : ∃ X, w.alloc (.cells #[.int .i64 cl, .int .i64 inc, .int .i64 req, .int .i64 6, .string ky, .string v, .string old] 23) = X := ⟨_, rfl⟩
  have HbW : Hid (Below w.heap.size w W) := by rw [← hW]; exact balloc (Below.refl _ _)
  have HcW : Hid (W.heap[w.heap.size]? = some (.cells #[.int .i64 cl, .int .i64 inc, .int .i64 req, .int .i64 6, .string ky, .string v, .string old] 23 (0, 0))) := by rw [← hW]; exact heap_alloc_new w _
  have y0 := blk_cell HcW.out 0
  have y1 := blk_cell HcW.out 1
  have y2 := blk_cell HcW.out 2
  have y3 := blk_cell HcW.out 3
  have y4 := blk_cell HcW.out 4
  have y5 := blk_cell HcW.out 5
  have y6 := blk_cell HcW.out 6
  simp only [List.getElem?_toArray, List.getElem?_cons_succ, List.getElem?_cons_zero] at y0 y1 y2 y3 y4 y5 y6
  have a1 : ¬ cl < 0 := by omega
  have a2 : ¬ 16 ≤ cl := by omega
  have a3 : ¬ inc < 1 := by omega
  have a4 : ¬ 4611686018427387904 < inc := by omega
  have a5 : ¬ req < 1 := by omega
  have a6 : ¬ 4611686018427387904 < req := by omega
  clear r ri rr
  have hf : fitB 6 ky v old = (keyB ky && empB v && empB old) := by unfold fitB; rw [if_neg (by decide), if_neg (by decide), if_neg (by decide), if_neg (by decide), if_neg (by decide), if_pos rfl]
  rw [hf]
  clear hf
  by_cases k1 : (1 : Int) ≤ (ky.size : Int)
  · by_cases k2 : (ky.size : Int) ≤ 8
    · have hk : keyB ky = true := by unfold keyB; exact decide_eq_true ⟨k1, k2⟩
      rw [hk]
      have hev : empB v = (v.toList == ([] : List UInt8)) := rfl
      rw [hev]
      clear hev
      have heo : empB old = (old.toList == ([] : List UInt8)) := rfl
      rw [heo]
      clear heo
      go_enter Tryz.func11, Tryz.ntmps11
      go_wp2_with (first | (go_at_call 30; refine (HN.out _).mono ?_; rintro e wx ⟨rfl, rfl⟩) | fail)
      all_goals (go_ret; exact ⟨rfl, HbW.out⟩)
    · have hk : keyB ky = false := by unfold keyB; rw [decide_eq_false_iff_not]; omega
      rw [hk]
      have hev : empB v = (v.toList == ([] : List UInt8)) := rfl
      rw [hev]
      clear hev
      have heo : empB old = (old.toList == ([] : List UInt8)) := rfl
      rw [heo]
      clear heo
      go_enter Tryz.func11, Tryz.ntmps11
      go_wp2_with (first | (go_at_call 30; refine (HN.out _).mono ?_; rintro e wx ⟨rfl, rfl⟩) | fail)
      all_goals (go_ret; exact ⟨rfl, HbW.out⟩)
  · have hk : keyB ky = false := by unfold keyB; rw [decide_eq_false_iff_not]; omega
    rw [hk]
    have hev : empB v = (v.toList == ([] : List UInt8)) := rfl
    rw [hev]
    clear hev
    have heo : empB old = (old.toList == ([] : List UInt8)) := rfl
    rw [heo]
    clear heo
    go_enter Tryz.func11, Tryz.ntmps11
    go_wp2_with (first | (go_at_call 30; refine (HN.out _).mono ?_; rintro e wx ⟨rfl, rfl⟩) | fail)
    all_goals (go_ret; exact ⟨rfl, HbW.out⟩)
set_option maxHeartbeats 8000000 in
theorem qc_7 {cl inc req : Int} (ky v old : ByteArray) (r : 0 ≤ cl ∧ cl ≤ 15) (ri : 1 ≤ inc ∧ inc ≤ 4611686018427387904) (rr : 1 ≤ req ∧ req ≤ 4611686018427387904) :
    Calls Tryz.prog 11 #[.agg #[.int .i64 cl, .int .i64 inc, .int .i64 req, .int .i64 7, .string ky, .string v, .string old]] w fun e w' => e = .returned (.int .i64 (if fitB 7 ky v old = true then 0 else 130)) ∧ Below w.heap.size w w' := by
  have HN : Hid (∀ X : World, Calls Tryz.prog 30 #[.string v] X fun e w' => e = .returned (numV (numF v)) ∧ X = w') := fun X => qnumber_any v
  obtain ⟨nv, nb, hnv, hn1, hn2⟩ : ∃ nv nb, numV (numF v) = .tuple #[.int .i64 nv, .bool nb] ∧ (numF v).isSome = nb ∧ (numF v).getD 0 = nv := by cases numF v <;> exact ⟨_, _, rfl, rfl, rfl⟩
  rw [hnv] at HN
  clear hnv
  have hnm : nmB v = nb := hn1
  have htk : tkB v = (nb && decide (0 < nv)) := by unfold tkB; rw [hn1, hn2]
  have hct : ctB v = (nb && cliB nv) := by unfold ctB; rw [hn1, hn2]
  clear hn1 hn2
  obtain ⟨W, hW⟩ : ∃ X, w.alloc (.cells #[.int .i64 cl, .int .i64 inc, .int .i64 req, .int .i64 7, .string ky, .string v, .string old] 23) = X := ⟨_, rfl⟩
  have HbW : Hid (Below w.heap.size w W) := by rw [← hW]; exact balloc (Below.refl _ _)
  have HcW : Hid (W.heap[w.heap.size]? = some (.cells #[.int .i64 cl, .int .i64 inc, .int .i64 req, .int .i64 7, .string ky, .string v, .string old] 23 (0, 0))) := by rw [← hW]; exact heap_alloc_new w _
  have y0 := blk_cell HcW.out 0
  have y1 := blk_cell HcW.out 1
  have y2 := blk_cell HcW.out 2
  have y3 := blk_cell HcW.out 3
  have y4 := blk_cell HcW.out 4
  have y5 := blk_cell HcW.out 5
  have y6 := blk_cell HcW.out 6
  simp only [List.getElem?_toArray, List.getElem?_cons_succ, List.getElem?_cons_zero] at y0 y1 y2 y3 y4 y5 y6
  have a1 : ¬ cl < 0 := by omega
  have a2 : ¬ 16 ≤ cl := by omega
  have a3 : ¬ inc < 1 := by omega
  have a4 : ¬ 4611686018427387904 < inc := by omega
  have a5 : ¬ req < 1 := by omega
  have a6 : ¬ 4611686018427387904 < req := by omega
  clear r ri rr
  have hf : fitB 7 ky v old = (keyB ky && empB v && empB old) := by unfold fitB; rw [if_neg (by decide), if_neg (by decide), if_neg (by decide), if_neg (by decide), if_neg (by decide), if_neg (by decide), if_pos rfl]
  rw [hf]
  clear hf
  by_cases k1 : (1 : Int) ≤ (ky.size : Int)
  · by_cases k2 : (ky.size : Int) ≤ 8
    · have hk : keyB ky = true := by unfold keyB; exact decide_eq_true ⟨k1, k2⟩
      rw [hk]
      have hev : empB v = (v.toList == ([] : List UInt8)) := rfl
      rw [hev]
      clear hev
      have heo : empB old = (old.toList == ([] : List UInt8)) := rfl
      rw [heo]
      clear heo
      go_enter Tryz.func11, Tryz.ntmps11
      go_wp2_with (first | (go_at_call 30; refine (HN.out _).mono ?_; rintro e wx ⟨rfl, rfl⟩) | fail)
      all_goals (go_ret; exact ⟨rfl, HbW.out⟩)
    · have hk : keyB ky = false := by unfold keyB; rw [decide_eq_false_iff_not]; omega
      rw [hk]
      have hev : empB v = (v.toList == ([] : List UInt8)) := rfl
      rw [hev]
      clear hev
      have heo : empB old = (old.toList == ([] : List UInt8)) := rfl
      rw [heo]
      clear heo
      go_enter Tryz.func11, Tryz.ntmps11
      go_wp2_with (first | (go_at_call 30; refine (HN.out _).mono ?_; rintro e wx ⟨rfl, rfl⟩) | fail)
      all_goals (go_ret; exact ⟨rfl, HbW.out⟩)
  · have hk : keyB ky = false := by unfold keyB; rw [decide_eq_false_iff_not]; omega
    rw [hk]
    have hev : empB v = (v.toList == ([] : List UInt8)) := rfl
    rw [hev]
    clear hev
    have heo : empB old = (old.toList == ([] : List UInt8)) := rfl
    rw [heo]
    clear heo
    go_enter Tryz.func11, Tryz.ntmps11
    go_wp2_with (first | (go_at_call 30; refine (HN.out _).mono ?_; rintro e wx ⟨rfl, rfl⟩) | fail)
    all_goals (go_ret; exact ⟨rfl, HbW.out⟩)
set_option maxHeartbeats 8000000 in
theorem qc_8 {cl inc req : Int} (ky v old : ByteArray) (r : 0 ≤ cl ∧ cl ≤ 15) (ri : 1 ≤ inc ∧ inc ≤ 4611686018427387904) (rr : 1 ≤ req ∧ req ≤ 4611686018427387904) :
    Calls Tryz.prog 11 #[.agg #[.int .i64 cl, .int .i64 inc, .int .i64 req, .int .i64 8, .string ky, .string v, .string old]] w fun e w' => e = .returned (.int .i64 (if fitB 8 ky v old = true then 0 else 130)) ∧ Below w.heap.size w w' := by
  have HN : Hid (∀ X : World, Calls Tryz.prog 30 #[.string v] X fun e w' => e = .returned (numV (numF v)) ∧ X = w') := fun X => qnumber_any v
  obtain ⟨nv, nb, hnv, hn1, hn2⟩ : ∃ nv nb, numV (numF v) = .tuple #[.int .i64 nv, .bool nb] ∧ (numF v).isSome = nb ∧ (numF v).getD 0 = nv := by cases numF v <;> exact ⟨_, _, rfl, rfl, rfl⟩
  rw [hnv] at HN
  clear hnv
  have hnm : nmB v = nb := hn1
  have htk : tkB v = (nb && decide (0 < nv)) := by unfold tkB; rw [hn1, hn2]
  have hct : ctB v = (nb && cliB nv) := by unfold ctB; rw [hn1, hn2]
  clear hn1 hn2
  obtain ⟨W, hW⟩ : ∃ X, w.alloc (.cells #[.int .i64 cl, .int .i64 inc, .int .i64 req, .int .i64 8, .string ky, .string v, .string old] 23) = X := ⟨_, rfl⟩
  have HbW : Hid (Below w.heap.size w W) := by rw [← hW]; exact balloc (Below.refl _ _)
  have HcW : Hid (W.heap[w.heap.size]? = some (.cells #[.int .i64 cl, .int .i64 inc, .int .i64 req, .int .i64 8, .string ky, .string v, .string old] 23 (0, 0))) := by rw [← hW]; exact heap_alloc_new w _
  have y0 := blk_cell HcW.out 0
  have y1 := blk_cell HcW.out 1
  have y2 := blk_cell HcW.out 2
  have y3 := blk_cell HcW.out 3
  have y4 := blk_cell HcW.out 4
  have y5 := blk_cell HcW.out 5
  have y6 := blk_cell HcW.out 6
  simp only [List.getElem?_toArray, List.getElem?_cons_succ, List.getElem?_cons_zero] at y0 y1 y2 y3 y4 y5 y6
  have a1 : ¬ cl < 0 := by omega
  have a2 : ¬ 16 ≤ cl := by omega
  have a3 : ¬ inc < 1 := by omega
  have a4 : ¬ 4611686018427387904 < inc := by omega
  have a5 : ¬ req < 1 := by omega
  have a6 : ¬ 4611686018427387904 < req := by omega
  clear r ri rr
  have hf : fitB 8 ky v old = (keyB ky && tkB v && empB old) := by unfold fitB; rw [if_neg (by decide), if_neg (by decide), if_neg (by decide), if_neg (by decide), if_neg (by decide), if_neg (by decide), if_neg (by decide), if_pos rfl]
  rw [hf]
  clear hf
  by_cases k1 : (1 : Int) ≤ (ky.size : Int)
  · by_cases k2 : (ky.size : Int) ≤ 8
    · have hk : keyB ky = true := by unfold keyB; exact decide_eq_true ⟨k1, k2⟩
      rw [hk]
      rw [htk]
      clear hnm htk hct
      cases nb
      · have heo : empB old = (old.toList == ([] : List UInt8)) := rfl
        rw [heo]
        clear heo
        go_enter Tryz.func11, Tryz.ntmps11
        go_wp2_with (first | (go_at_call 30; refine (HN.out _).mono ?_; rintro e wx ⟨rfl, rfl⟩) | fail)
        all_goals (go_ret; exact ⟨rfl, HbW.out⟩)
      · by_cases ln : 0 < nv
        · have heo : empB old = (old.toList == ([] : List UInt8)) := rfl
          rw [heo]
          clear heo
          go_enter Tryz.func11, Tryz.ntmps11
          go_wp2_with (first | (go_at_call 30; refine (HN.out _).mono ?_; rintro e wx ⟨rfl, rfl⟩) | fail)
          all_goals (go_ret; exact ⟨rfl, HbW.out⟩)
        · have heo : empB old = (old.toList == ([] : List UInt8)) := rfl
          rw [heo]
          clear heo
          go_enter Tryz.func11, Tryz.ntmps11
          go_wp2_with (first | (go_at_call 30; refine (HN.out _).mono ?_; rintro e wx ⟨rfl, rfl⟩) | fail)
          all_goals (go_ret; exact ⟨rfl, HbW.out⟩)
    · have hk : keyB ky = false := by unfold keyB; rw [decide_eq_false_iff_not]; omega
      rw [hk]
      rw [htk]
      clear hnm htk hct
      cases nb
      · have heo : empB old = (old.toList == ([] : List UInt8)) := rfl
        rw [heo]
        clear heo
        go_enter Tryz.func11, Tryz.ntmps11
        go_wp2_with (first | (go_at_call 30; refine (HN.out _).mono ?_; rintro e wx ⟨rfl, rfl⟩) | fail)
        all_goals (go_ret; exact ⟨rfl, HbW.out⟩)
      · by_cases ln : 0 < nv
        · have heo : empB old = (old.toList == ([] : List UInt8)) := rfl
          rw [heo]
          clear heo
          go_enter Tryz.func11, Tryz.ntmps11
          go_wp2_with (first | (go_at_call 30; refine (HN.out _).mono ?_; rintro e wx ⟨rfl, rfl⟩) | fail)
          all_goals (go_ret; exact ⟨rfl, HbW.out⟩)
        · have heo : empB old = (old.toList == ([] : List UInt8)) := rfl
          rw [heo]
          clear heo
          go_enter Tryz.func11, Tryz.ntmps11
          go_wp2_with (first | (go_at_call 30; refine (HN.out _).mono ?_; rintro e wx ⟨rfl, rfl⟩) | fail)
          all_goals (go_ret; exact ⟨rfl, HbW.out⟩)
  · have hk : keyB ky = false := by unfold keyB; rw [decide_eq_false_iff_not]; omega
    rw [hk]
    rw [htk]
    clear hnm htk hct
    cases nb
    · have heo : empB old = (old.toList == ([] : List UInt8)) := rfl
      rw [heo]
      clear heo
      go_enter Tryz.func11, Tryz.ntmps11
      go_wp2_with (first | (go_at_call 30; refine (HN.out _).mono ?_; rintro e wx ⟨rfl, rfl⟩) | fail)
      all_goals (go_ret; exact ⟨rfl, HbW.out⟩)
    · by_cases ln : 0 < nv
      · have heo : empB old = (old.toList == ([] : List UInt8)) := rfl
        rw [heo]
        clear heo
        go_enter Tryz.func11, Tryz.ntmps11
        go_wp2_with (first | (go_at_call 30; refine (HN.out _).mono ?_; rintro e wx ⟨rfl, rfl⟩) | fail)
        all_goals (go_ret; exact ⟨rfl, HbW.out⟩)
      · have heo : empB old = (old.toList == ([] : List UInt8)) := rfl
        rw [heo]
        clear heo
        go_enter Tryz.func11, Tryz.ntmps11
        go_wp2_with (first | (go_at_call 30; refine (HN.out _).mono ?_; rintro e wx ⟨rfl, rfl⟩) | fail)
        all_goals (go_ret; exact ⟨rfl, HbW.out⟩)
set_option maxHeartbeats 8000000 in
theorem qc_9 {cl inc req : Int} (ky v old : ByteArray) (r : 0 ≤ cl ∧ cl ≤ 15) (ri : 1 ≤ inc ∧ inc ≤ 4611686018427387904) (rr : 1 ≤ req ∧ req ≤ 4611686018427387904) :
    Calls Tryz.prog 11 #[.agg #[.int .i64 cl, .int .i64 inc, .int .i64 req, .int .i64 9, .string ky, .string v, .string old]] w fun e w' => e = .returned (.int .i64 (if fitB 9 ky v old = true then 0 else 130)) ∧ Below w.heap.size w w' := by
  have HN : Hid (∀ X : World, Calls Tryz.prog 30 #[.string v] X fun e w' => e = .returned (numV (numF v)) ∧ X = w') := fun X => qnumber_any v
  obtain ⟨nv, nb, hnv, hn1, hn2⟩ : ∃ nv nb, numV (numF v) = .tuple #[.int .i64 nv, .bool nb] ∧ (numF v).isSome = nb ∧ (numF v).getD 0 = nv := by cases numF v <;> exact ⟨_, _, rfl, rfl, rfl⟩
  rw [hnv] at HN
  clear hnv
  have hnm : nmB v = nb := hn1
  have htk : tkB v = (nb && decide (0 < nv)) := by unfold tkB; rw [hn1, hn2]
  have hct : ctB v = (nb && cliB nv) := by unfold ctB; rw [hn1, hn2]
  clear hn1 hn2
  obtain ⟨W, hW⟩ : ∃ X, w.alloc (.cells #[.int .i64 cl, .int .i64 inc, .int .i64 req, .int .i64 9, .string ky, .string v, .string old] 23) = X := ⟨_, rfl⟩
  have HbW : Hid (Below w.heap.size w W) := by rw [← hW]; exact balloc (Below.refl _ _)
  have HcW : Hid (W.heap[w.heap.size]? = some (.cells #[.int .i64 cl, .int .i64 inc, .int .i64 req, .int .i64 9, .string ky, .string v, .string old] 23 (0, 0))) := by rw [← hW]; exact heap_alloc_new w _
  have y0 := blk_cell HcW.out 0
  have y1 := blk_cell HcW.out 1
  have y2 := blk_cell HcW.out 2
  have y3 := blk_cell HcW.out 3
  have y4 := blk_cell HcW.out 4
  have y5 := blk_cell HcW.out 5
  have y6 := blk_cell HcW.out 6
  simp only [List.getElem?_toArray, List.getElem?_cons_succ, List.getElem?_cons_zero] at y0 y1 y2 y3 y4 y5 y6
  have a1 : ¬ cl < 0 := by omega
  have a2 : ¬ 16 ≤ cl := by omega
  have a3 : ¬ inc < 1 := by omega
  have a4 : ¬ 4611686018427387904 < inc := by omega
  have a5 : ¬ req < 1 := by omega
  have a6 : ¬ 4611686018427387904 < req := by omega
  clear r ri rr
  have hf : fitB 9 ky v old = (empB ky && ctB v && empB old) := by unfold fitB; rw [if_neg (by decide), if_neg (by decide), if_neg (by decide), if_neg (by decide), if_neg (by decide), if_neg (by decide), if_neg (by decide), if_neg (by decide), if_pos rfl]
  rw [hf]
  clear hf
  have hek : empB ky = (ky.toList == ([] : List UInt8)) := rfl
  rw [hek]
  clear hek
  rw [hct]
  clear hnm htk hct
  cases nb
  · have heo : empB old = (old.toList == ([] : List UInt8)) := rfl
    rw [heo]
    clear heo
    go_enter Tryz.func11, Tryz.ntmps11
    go_wp2_with (first | (go_at_call 30; refine (HN.out _).mono ?_; rintro e wx ⟨rfl, rfl⟩) | fail)
    all_goals (go_ret; exact ⟨rfl, HbW.out⟩)
  · by_cases ln : 0 ≤ nv
    · by_cases lm : nv < 16
      · have hc : cliB nv = true := by unfold cliB; rw [decide_eq_true_iff]; omega
        rw [hc]
        have heo : empB old = (old.toList == ([] : List UInt8)) := rfl
        rw [heo]
        clear heo
        go_enter Tryz.func11, Tryz.ntmps11
        go_wp2_with (first | (go_at_call 30; refine (HN.out _).mono ?_; rintro e wx ⟨rfl, rfl⟩) | fail)
        all_goals (go_ret; exact ⟨rfl, HbW.out⟩)
      · have hc : cliB nv = false := by unfold cliB; rw [decide_eq_false_iff_not]; omega
        rw [hc]
        have heo : empB old = (old.toList == ([] : List UInt8)) := rfl
        rw [heo]
        clear heo
        go_enter Tryz.func11, Tryz.ntmps11
        go_wp2_with (first | (go_at_call 30; refine (HN.out _).mono ?_; rintro e wx ⟨rfl, rfl⟩) | fail)
        all_goals (go_ret; exact ⟨rfl, HbW.out⟩)
    · have hc : cliB nv = false := by unfold cliB; rw [decide_eq_false_iff_not]; omega
      rw [hc]
      have heo : empB old = (old.toList == ([] : List UInt8)) := rfl
      rw [heo]
      clear heo
      go_enter Tryz.func11, Tryz.ntmps11
      go_wp2_with (first | (go_at_call 30; refine (HN.out _).mono ?_; rintro e wx ⟨rfl, rfl⟩) | fail)
      all_goals (go_ret; exact ⟨rfl, HbW.out⟩)
set_option maxHeartbeats 8000000 in
theorem qc_no {cl inc req op : Int} (ky v old : ByteArray) (h : cl < 0 ∨ 16 ≤ cl ∨ inc < 1 ∨ 4611686018427387904 < inc ∨ req < 1 ∨ 4611686018427387904 < req ∨ op < 1 ∨ 9 < op) :
    Calls Tryz.prog 11 #[.agg #[.int .i64 cl, .int .i64 inc, .int .i64 req, .int .i64 op, .string ky, .string v, .string old]] w fun e w' => e = .returned (.int .i64 130) ∧ Below w.heap.size w w' := by
  have HN : Hid (∀ X : World, Calls Tryz.prog 30 #[.string v] X fun e w' => e = .returned (numV (numF v)) ∧ X = w') := fun X => qnumber_any v
  obtain ⟨nv, nb, hnv, hn1, hn2⟩ : ∃ nv nb, numV (numF v) = .tuple #[.int .i64 nv, .bool nb] ∧ (numF v).isSome = nb ∧ (numF v).getD 0 = nv := by cases numF v <;> exact ⟨_, _, rfl, rfl, rfl⟩
  rw [hnv] at HN
  clear hnv
  have hnm : nmB v = nb := hn1
  have htk : tkB v = (nb && decide (0 < nv)) := by unfold tkB; rw [hn1, hn2]
  have hct : ctB v = (nb && cliB nv) := by unfold ctB; rw [hn1, hn2]
  clear hn1 hn2
  obtain ⟨W, hW⟩ : ∃ X, w.alloc (.cells #[.int .i64 cl, .int .i64 inc, .int .i64 req, .int .i64 op, .string ky, .string v, .string old] 23) = X := ⟨_, rfl⟩
  have HbW : Hid (Below w.heap.size w W) := by rw [← hW]; exact balloc (Below.refl _ _)
  have HcW : Hid (W.heap[w.heap.size]? = some (.cells #[.int .i64 cl, .int .i64 inc, .int .i64 req, .int .i64 op, .string ky, .string v, .string old] 23 (0, 0))) := by rw [← hW]; exact heap_alloc_new w _
  have y0 := blk_cell HcW.out 0
  have y1 := blk_cell HcW.out 1
  have y2 := blk_cell HcW.out 2
  have y3 := blk_cell HcW.out 3
  have y4 := blk_cell HcW.out 4
  have y5 := blk_cell HcW.out 5
  have y6 := blk_cell HcW.out 6
  simp only [List.getElem?_toArray, List.getElem?_cons_succ, List.getElem?_cons_zero] at y0 y1 y2 y3 y4 y5 y6
  by_cases h0 : cl < 0
  · clear h
    go_enter Tryz.func11, Tryz.ntmps11
    go_wp2_with (first | (go_at_call 30; refine (HN.out _).mono ?_; rintro e wx ⟨rfl, rfl⟩) | fail)
    all_goals (go_ret; exact ⟨rfl, HbW.out⟩)
  by_cases h1 : 16 ≤ cl
  · clear h
    go_enter Tryz.func11, Tryz.ntmps11
    go_wp2_with (first | (go_at_call 30; refine (HN.out _).mono ?_; rintro e wx ⟨rfl, rfl⟩) | fail)
    all_goals (go_ret; exact ⟨rfl, HbW.out⟩)
  by_cases h2 : inc < 1
  · clear h
    go_enter Tryz.func11, Tryz.ntmps11
    go_wp2_with (first | (go_at_call 30; refine (HN.out _).mono ?_; rintro e wx ⟨rfl, rfl⟩) | fail)
    all_goals (go_ret; exact ⟨rfl, HbW.out⟩)
  by_cases h3 : 4611686018427387904 < inc
  · clear h
    go_enter Tryz.func11, Tryz.ntmps11
    go_wp2_with (first | (go_at_call 30; refine (HN.out _).mono ?_; rintro e wx ⟨rfl, rfl⟩) | fail)
    all_goals (go_ret; exact ⟨rfl, HbW.out⟩)
  by_cases h4 : req < 1
  · clear h
    go_enter Tryz.func11, Tryz.ntmps11
    go_wp2_with (first | (go_at_call 30; refine (HN.out _).mono ?_; rintro e wx ⟨rfl, rfl⟩) | fail)
    all_goals (go_ret; exact ⟨rfl, HbW.out⟩)
  by_cases h5 : 4611686018427387904 < req
  · clear h
    go_enter Tryz.func11, Tryz.ntmps11
    go_wp2_with (first | (go_at_call 30; refine (HN.out _).mono ?_; rintro e wx ⟨rfl, rfl⟩) | fail)
    all_goals (go_ret; exact ⟨rfl, HbW.out⟩)
  by_cases h6 : op < 1
  · clear h
    go_enter Tryz.func11, Tryz.ntmps11
    go_wp2_with (first | (go_at_call 30; refine (HN.out _).mono ?_; rintro e wx ⟨rfl, rfl⟩) | fail)
    all_goals (go_ret; exact ⟨rfl, HbW.out⟩)
  by_cases h7 : 9 < op
  · clear h
    go_enter Tryz.func11, Tryz.ntmps11
    go_wp2_with (first | (go_at_call 30; refine (HN.out _).mono ?_; rintro e wx ⟨rfl, rfl⟩) | fail)
    all_goals (go_ret; exact ⟨rfl, HbW.out⟩)
  exact absurd h (by omega)
theorem qcheck_any {cl inc req op : Int} (ky v old : ByteArray) : Calls Tryz.prog 11 #[.agg #[.int .i64 cl, .int .i64 inc, .int .i64 req, .int .i64 op, .string ky, .string v, .string old]] w fun e w' => e = .returned (.int .i64 (if okC cl inc req op ky v old = true then 0 else 130)) ∧ Below w.heap.size w w' := by
  by_cases h : cl < 0 ∨ 16 ≤ cl ∨ inc < 1 ∨ 4611686018427387904 < inc ∨ req < 1 ∨ 4611686018427387904 < req ∨ op < 1 ∨ 9 < op
  · have hno : okC cl inc req op ky v old = false := by
      cases hk : okC cl inc req op ky v old with
      | false => rfl
      | true =>
        obtain ⟨r1, r2, r3, r4, _, _, _⟩ := okC_rng hk
        omega
    rw [hno]
    exact qc_no ky v old h
  · have r : 0 ≤ cl ∧ cl ≤ 15 := by omega
    have ri : 1 ≤ inc ∧ inc ≤ 4611686018427387904 := by omega
    have rr : 1 ≤ req ∧ req ≤ 4611686018427387904 := by omega
    have ha : askB cl inc req = true := by
      unfold askB cliB
      simp only [Bool.and_eq_true, decide_eq_true_eq]
      omega
    have hk : okC cl inc req op ky v old = fitB op ky v old := by unfold okC; rw [ha, Bool.true_and]
    rw [hk]
    have ho : op = 1 ∨ op = 2 ∨ op = 3 ∨ op = 4 ∨ op = 5 ∨ op = 6 ∨ op = 7 ∨ op = 8 ∨ op = 9 := by omega
    rcases ho with rfl | rfl | rfl | rfl | rfl | rfl | rfl | rfl | rfl
    · exact qc_1 ky v old r ri rr
    · exact qc_2 ky v old r ri rr
    · exact qc_3 ky v old r ri rr
    · exact qc_4 ky v old r ri rr
    · exact qc_5 ky v old r ri rr
    · exact qc_6 ky v old r ri rr
    · exact qc_7 ky v old r ri rr
    · exact qc_8 ky v old r ri rr
    · exact qc_9 ky v old r ri rr
end
end Go.Proofs.YtjgjpepmfiklfaaGreatDoor.Mx
