import Derived.Test.YtjgjpepmfiklfaaGreatDoorMxc1
import Derived.Test.YtjgjpepmfiklfaaGreatDoorMxc2
import Derived.Test.YtjgjpepmfiklfaaGreatDoorMxc3
namespace Go.Proofs.YtjgjpepmfiklfaaGreatDoor.Mx
open Go.RowKit Mb Mh
set_option linter.unusedVariables false
set_option maxRecDepth 100000
set_option linter.unusedSimpArgs false
section
variable {w w' W : World} {B : Nat}
set_option maxHeartbeats 4000000 in
theorem chk_no {cl inc req op : Int} (ky v old : ByteArray) (hno : (askB cl inc req && decide (1 ≤ op ∧ op ≤ 9)) = false) : Calls Tryz.prog 8 #[.agg #[.int .i64 cl, .int .i64 inc, .int .i64 req, .int .i64 op, .string ky, .string v, .string old]] w fun e w' => e = .returned (.int .i64 130) ∧ Below w.heap.size w w' := by
  unfold askB at hno
  obtain ⟨W, hW⟩ : ∃ X, w.alloc (.cells #[.int .i64 cl, .int .i64 inc, .int .i64 req, .int .i64 op, .string ky, .string v, .string old] 23) = X := ⟨_, rfl⟩
  have HbW : Hid (Below w.heap.size w W) := by rw [← hW]; exact balloc (Below.refl _ _)
  have HcW : Hid (W.heap[w.heap.size]? = some (.cells #[.int .i64 cl, .int .i64 inc, .int .i64 req, .int .i64 op, .string ky, .string v, .string old] 23 (0, 0))) := by rw [← hW]; exact heap_alloc_new w _
  have y0 := blk_cell HcW.out 0
  have y1 := blk_cell HcW.out 1
  have y2 := blk_cell HcW.out 2
  have y3 := blk_cell HcW.out 3
  simp only [List.getElem?_toArray, List.getElem?_cons_succ, List.getElem?_cons_zero] at y0 y1 y2 y3
  have HC1 : Hid (∀ X : World, Calls Tryz.prog 27 #[.int .i64 cl] X fun e w' => e = .returned (.bool (cliB cl)) ∧ X = w') := fun X => isClient_any cl
  have HC2 : Hid (∀ X : World, Calls Tryz.prog 28 #[.int .i64 inc, .int .i64 1, .int .i64 4611686018427387904] X fun e w' => e = .returned (.bool (decide (1 ≤ inc ∧ inc ≤ 4611686018427387904))) ∧ X = w') := fun X => within_any inc 1 _
  have HC3 : Hid (∀ X : World, Calls Tryz.prog 28 #[.int .i64 req, .int .i64 1, .int .i64 4611686018427387904] X fun e w' => e = .returned (.bool (decide (1 ≤ req ∧ req ≤ 4611686018427387904))) ∧ X = w') := fun X => within_any req 1 _
  have HC4 : Hid (∀ X : World, Calls Tryz.prog 28 #[.int .i64 op, .int .i64 1, .int .i64 9] X fun e w' => e = .returned (.bool (decide (1 ≤ op ∧ op ≤ 9))) ∧ X = w') := fun X => within_any op 1 9
  generalize cliB cl = b1 at *
  generalize decide (1 ≤ inc ∧ inc ≤ 4611686018427387904) = b2 at *
  generalize decide (1 ≤ req ∧ req ≤ 4611686018427387904) = b3 at *
  generalize decide (1 ≤ op ∧ op ≤ 9) = b4 at *
  cases b1 with
  | false =>
    clear hno
    go_enter Tryz.func8, Tryz.ntmps8
    go_wp2_with (fail)
    refine (HC1.out _).mono ?_
    rintro e wx ⟨rfl, rfl⟩
    go_wp2_with (fail)
    go_ret
    exact ⟨rfl, HbW.out⟩
  | true =>
    cases b2 with
    | false =>
      clear hno
      go_enter Tryz.func8, Tryz.ntmps8
      go_wp2_with (fail)
      refine (HC1.out _).mono ?_
      rintro e wx ⟨rfl, rfl⟩
      go_wp2_with (fail)
      refine (HC2.out _).mono ?_
      rintro e wx ⟨rfl, rfl⟩
      go_wp2_with (fail)
      go_ret
      exact ⟨rfl, HbW.out⟩
    | true =>
      cases b3 with
      | false =>
        clear hno
        go_enter Tryz.func8, Tryz.ntmps8
        go_wp2_with (fail)
        refine (HC1.out _).mono ?_
        rintro e wx ⟨rfl, rfl⟩
        go_wp2_with (fail)
        refine (HC2.out _).mono ?_
        rintro e wx ⟨rfl, rfl⟩
        go_wp2_with (fail)
        refine (HC3.out _).mono ?_
        rintro e wx ⟨rfl, rfl⟩
        go_wp2_with (fail)
        go_ret
        exact ⟨rfl, HbW.out⟩
      | true =>
        cases b4 with
        | true => simp at hno
        | false =>
          clear hno
          go_enter Tryz.func8, Tryz.ntmps8
          go_wp2_with (fail)
          refine (HC1.out _).mono ?_
          rintro e wx ⟨rfl, rfl⟩
          go_wp2_with (fail)
          refine (HC2.out _).mono ?_
          rintro e wx ⟨rfl, rfl⟩
          go_wp2_with (fail)
          refine (HC3.out _).mono ?_
          rintro e wx ⟨rfl, rfl⟩
          go_wp2_with (fail)
          refine (HC4.out _).mono ?_
          rintro e wx ⟨rfl, rfl⟩
          go_wp2_with (fail)
          go_ret
          exact ⟨rfl, HbW.out⟩
theorem check_any (hg : Gl w) {cl inc req op : Int} (ky v old : ByteArray) : Calls Tryz.prog 8 #[.agg #[.int .i64 cl, .int .i64 inc, .int .i64 req, .int .i64 op, .string ky, .string v, .string old]] w fun e w' => e = .returned (.int .i64 (if okC cl inc req op ky v old = true then 0 else 130)) ∧ Below w.heap.size w w' := by
  cases ha : askB cl inc req with
  | false =>
    have e1 : okC cl inc req op ky v old = false := by unfold okC; rw [ha]; rfl
    rw [e1]
    exact chk_no ky v old (by rw [ha]; rfl)
  | true =>
    by_cases ho : 1 ≤ op ∧ op ≤ 9
    · have h3 := ha
      unfold askB at h3
      simp only [Bool.and_eq_true] at h3
      obtain ⟨⟨hc, hi⟩, hr⟩ := h3
      have e1 : okC cl inc req op ky v old = fitB op ky v old := by unfold okC; rw [ha, Bool.true_and]
      rw [e1]
      have h9 : op = 1 ∨ op = 2 ∨ op = 3 ∨ op = 4 ∨ op = 5 ∨ op = 6 ∨ op = 7 ∨ op = 8 ∨ op = 9 := by omega
      rcases h9 with rfl | rfl | rfl | rfl | rfl | rfl | rfl | rfl | rfl
      · exact chk1 hg ky v old hc hi hr
      · exact chk2 hg ky v old hc hi hr
      · exact chk3 hg ky v old hc hi hr
      · exact chk4 hg ky v old hc hi hr
      · exact chk5 hg ky v old hc hi hr
      · exact chk6 hg ky v old hc hi hr
      · exact chk7 hg ky v old hc hi hr
      · exact chk8 hg ky v old hc hi hr
      · exact chk9 hg ky v old hc hi hr
    · have e1 : okC cl inc req op ky v old = false := by
        unfold okC fitB
        rw [ha]
        rw [if_neg (by omega), if_neg (by omega), if_neg (by omega), if_neg (by omega), if_neg (by omega), if_neg (by omega), if_neg (by omega), if_neg (by omega), if_neg (by omega)]
        rfl
      rw [e1]
      exact chk_no ky v old (by rw [ha]; simp; omega)
end
end Go.Proofs.YtjgjpepmfiklfaaGreatDoor.Mx
