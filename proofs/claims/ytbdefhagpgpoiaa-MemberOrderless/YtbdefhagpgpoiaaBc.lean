import Derived.Test.YtbdefhagpgpoiaaAm
import Derived.Test.YtbdefhagpgpoiaaAo
import Derived.Test.YtbdefhagpgpoiaaAi
namespace Go.Proofs.Ytbdefhagpgpoiaa.Mb
open Go.RowKit
set_option linter.unusedVariables false
set_option maxRecDepth 100000
set_option linter.unusedSimpArgs false
section
variable {A A' : Ag} {w w' W : World} {B : Nat} {T : Int}
theorem wl_at {ops : Array Oper} {rest : List Oper} {o : Oper} {a : Act} {Q : Exit → Act → World → Prop} (d : Nat) (hd : o.dst = some d) (h : WpL ops Q (o :: rest) a w) : wpList Try.prog ops Q (o :: rest) a w := h.out
def newOk (n s inc fl : Int) : Bool := wB n 1 16 && wB s 0 (n - 1) && wB inc 1 4611686018427387904 && wB fl 0 4611686018427387904
set_option maxHeartbeats 2000000 in
theorem new_no (nI sI inc fl : Int) (hn : -9223372036854775808 ≤ nI ∧ nI ≤ 9223372036854775807) (hno : newOk nI sI inc fl = false) : Calls Try.prog 36 #[.int .i64 nI, .int .i64 sI, .int .i64 inc, .int .i64 fl] w fun e w' => e = .returned (.tuple #[.pointer none, .int .i64 1]) ∧ w = w' := by
  unfold newOk at hno
  obtain ⟨g0, hg0⟩ : ∃ g0, wB nI 1 16 = g0 := ⟨_, rfl⟩
  obtain ⟨g1, hg1⟩ : ∃ g0, wB sI 0 (nI - 1) = g0 := ⟨_, rfl⟩
  obtain ⟨g2, hg2⟩ : ∃ g0, wB inc 1 4611686018427387904 = g0 := ⟨_, rfl⟩
  obtain ⟨g3, hg3⟩ : ∃ g0, wB fl 0 4611686018427387904 = g0 := ⟨_, rfl⟩
  have Hb : Hid (wB nI 1 16 = g0) := hg0
  have H0 : Hid (∀ W, Calls Try.prog 40 #[.int .i64 nI, .int .i64 1, .int .i64 16] W fun e w' => e = .returned (.bool g0) ∧ W = w') := fun W => hg0 ▸ within_w _ _ _
  have H1 : Hid (∀ W, Calls Try.prog 40 #[.int .i64 sI, .int .i64 0, .int .i64 (nI - 1)] W fun e w' => e = .returned (.bool g1) ∧ W = w') := fun W => hg1 ▸ within_w _ _ _
  have H2 : Hid (∀ W, Calls Try.prog 40 #[.int .i64 inc, .int .i64 1, .int .i64 4611686018427387904] W fun e w' => e = .returned (.bool g2) ∧ W = w') := fun W => hg2 ▸ within_w _ _ _
  have H3 : Hid (∀ W, Calls Try.prog 40 #[.int .i64 fl, .int .i64 0, .int .i64 4611686018427387904] W fun e w' => e = .returned (.bool g3) ∧ W = w') := fun W => hg3 ▸ within_w _ _ _
  rw [hg0, hg1, hg2, hg3] at hno
  clear hg0 hg1 hg2 hg3
  cases g0 with
  | false =>
    clear hno
    go_enter Try.func36, Try.ntmps36
    go_wp2_with (first | (refine wl_at 15 rfl ?_) | fail)
    refine wl_step (by kernel_rfl) fun K hK => ?_
    go_simp
    refine (H0.out _).mono ?_
    rintro e w2 ⟨rfl, rfl⟩
    refine hK _ _ ?_
    clear hK K
    try (simp only [Act.put, List.getElem_toArray, List.getElem_cons_zero, List.getElem_cons_succ, List.setIfInBounds_toArray, List.set_cons_zero, List.set_cons_succ])
    refine wl_take (v := .bool false) (by kernel_rfl) (by go_simp) ?_
    simp only [Act.put, List.getElem_toArray, List.getElem_cons_zero, List.getElem_cons_succ, List.setIfInBounds_toArray, List.set_cons_zero, List.set_cons_succ]
    refine wl_skip (by kernel_rfl) ?_
    simp only [Act.put, List.getElem_toArray, List.getElem_cons_zero, List.getElem_cons_succ, List.setIfInBounds_toArray, List.set_cons_zero, List.set_cons_succ]
    refine wl_skip (by kernel_rfl) ?_
    simp only [Act.put, List.getElem_toArray, List.getElem_cons_zero, List.getElem_cons_succ, List.setIfInBounds_toArray, List.set_cons_zero, List.set_cons_succ]
    refine wl_skip (by kernel_rfl) ?_
    simp only [Act.put, List.getElem_toArray, List.getElem_cons_zero, List.getElem_cons_succ, List.setIfInBounds_toArray, List.set_cons_zero, List.set_cons_succ]
    refine wl_skip (by kernel_rfl) ?_
    simp only [Act.put, List.getElem_toArray, List.getElem_cons_zero, List.getElem_cons_succ, List.setIfInBounds_toArray, List.set_cons_zero, List.set_cons_succ]
    refine wl_take (v := .bool false) (by kernel_rfl) (by go_simp) ?_
    simp only [Act.put, List.getElem_toArray, List.getElem_cons_zero, List.getElem_cons_succ, List.setIfInBounds_toArray, List.set_cons_zero, List.set_cons_succ]
    refine wl_take (v := .bool false) (by kernel_rfl) (by go_simp) ?_
    simp only [Act.put, List.getElem_toArray, List.getElem_cons_zero, List.getElem_cons_succ, List.setIfInBounds_toArray, List.set_cons_zero, List.set_cons_succ]
    refine wl_skip (by kernel_rfl) ?_
    simp only [Act.put, List.getElem_toArray, List.getElem_cons_zero, List.getElem_cons_succ, List.setIfInBounds_toArray, List.set_cons_zero, List.set_cons_succ]
    refine wl_skip (by kernel_rfl) ?_
    simp only [Act.put, List.getElem_toArray, List.getElem_cons_zero, List.getElem_cons_succ, List.setIfInBounds_toArray, List.set_cons_zero, List.set_cons_succ]
    refine wl_take (v := .bool false) (by kernel_rfl) (by go_simp) ?_
    simp only [Act.put, List.getElem_toArray, List.getElem_cons_zero, List.getElem_cons_succ, List.setIfInBounds_toArray, List.set_cons_zero, List.set_cons_succ]
    refine wl_take (v := .bool false) (by kernel_rfl) (by go_simp) ?_
    simp only [Act.put, List.getElem_toArray, List.getElem_cons_zero, List.getElem_cons_succ, List.setIfInBounds_toArray, List.set_cons_zero, List.set_cons_succ]
    refine wl_skip (by kernel_rfl) ?_
    simp only [Act.put, List.getElem_toArray, List.getElem_cons_zero, List.getElem_cons_succ, List.setIfInBounds_toArray, List.set_cons_zero, List.set_cons_succ]
    refine wl_skip (by kernel_rfl) ?_
    simp only [Act.put, List.getElem_toArray, List.getElem_cons_zero, List.getElem_cons_succ, List.setIfInBounds_toArray, List.set_cons_zero, List.set_cons_succ]
    refine wl_take (v := .bool false) (by kernel_rfl) (by go_simp) ?_
    simp only [Act.put, List.getElem_toArray, List.getElem_cons_zero, List.getElem_cons_succ, List.setIfInBounds_toArray, List.set_cons_zero, List.set_cons_succ]
    refine ⟨?_⟩
    go_wp2
    (try simp only [Exit.inBlock, Exit.then]); refine bodyPost_ret (results_tmp2 rfl _ _ _) rfl ?_
    exact ⟨rfl, rfl⟩
  | true =>
    cases g1 with
    | false =>
      clear hno
      have hn1 : 1 ≤ nI ∧ nI ≤ 16 := of_decide_eq_true Hb.out
      go_enter Try.func36, Try.ntmps36
      go_wp2_with (first | (refine wl_at 15 rfl ?_) | fail)
      refine wl_step (by kernel_rfl) fun K hK => ?_
      go_simp
      refine (H0.out _).mono ?_
      rintro e w2 ⟨rfl, rfl⟩
      refine hK _ _ ?_
      clear hK K
      try (simp only [Act.put, List.getElem_toArray, List.getElem_cons_zero, List.getElem_cons_succ, List.setIfInBounds_toArray, List.set_cons_zero, List.set_cons_succ])
      refine wl_take (v := .bool true) (by kernel_rfl) (by go_simp) ?_
      simp only [Act.put, List.getElem_toArray, List.getElem_cons_zero, List.getElem_cons_succ, List.setIfInBounds_toArray, List.set_cons_zero, List.set_cons_succ]
      refine wl_take (v := .int .i64 sI) (by kernel_rfl) (by go_simp) ?_
      simp only [Act.put, List.getElem_toArray, List.getElem_cons_zero, List.getElem_cons_succ, List.setIfInBounds_toArray, List.set_cons_zero, List.set_cons_succ]
      refine wl_take (v := .int .i64 nI) (by kernel_rfl) (by go_simp) ?_
      simp only [Act.put, List.getElem_toArray, List.getElem_cons_zero, List.getElem_cons_succ, List.setIfInBounds_toArray, List.set_cons_zero, List.set_cons_succ]
      refine wl_take (v := .int .i64 (nI - 1)) (by kernel_rfl) (by (go_simp; exact wrap_id (by omega) (by omega))) ?_
      simp only [Act.put, List.getElem_toArray, List.getElem_cons_zero, List.getElem_cons_succ, List.setIfInBounds_toArray, List.set_cons_zero, List.set_cons_succ]
      refine wl_step (by kernel_rfl) fun K hK => ?_
      go_simp
      refine (H1.out _).mono ?_
      rintro e w2 ⟨rfl, rfl⟩
      refine hK _ _ ?_
      clear hK K
      try (simp only [Act.put, List.getElem_toArray, List.getElem_cons_zero, List.getElem_cons_succ, List.setIfInBounds_toArray, List.set_cons_zero, List.set_cons_succ])
      refine wl_take (v := .bool false) (by kernel_rfl) (by go_simp) ?_
      simp only [Act.put, List.getElem_toArray, List.getElem_cons_zero, List.getElem_cons_succ, List.setIfInBounds_toArray, List.set_cons_zero, List.set_cons_succ]
      refine wl_take (v := .bool false) (by kernel_rfl) (by go_simp) ?_
      simp only [Act.put, List.getElem_toArray, List.getElem_cons_zero, List.getElem_cons_succ, List.setIfInBounds_toArray, List.set_cons_zero, List.set_cons_succ]
      refine wl_skip (by kernel_rfl) ?_
      simp only [Act.put, List.getElem_toArray, List.getElem_cons_zero, List.getElem_cons_succ, List.setIfInBounds_toArray, List.set_cons_zero, List.set_cons_succ]
      refine wl_skip (by kernel_rfl) ?_
      simp only [Act.put, List.getElem_toArray, List.getElem_cons_zero, List.getElem_cons_succ, List.setIfInBounds_toArray, List.set_cons_zero, List.set_cons_succ]
      refine wl_take (v := .bool false) (by kernel_rfl) (by go_simp) ?_
      simp only [Act.put, List.getElem_toArray, List.getElem_cons_zero, List.getElem_cons_succ, List.setIfInBounds_toArray, List.set_cons_zero, List.set_cons_succ]
      refine wl_take (v := .bool false) (by kernel_rfl) (by go_simp) ?_
      simp only [Act.put, List.getElem_toArray, List.getElem_cons_zero, List.getElem_cons_succ, List.setIfInBounds_toArray, List.set_cons_zero, List.set_cons_succ]
      refine wl_skip (by kernel_rfl) ?_
      simp only [Act.put, List.getElem_toArray, List.getElem_cons_zero, List.getElem_cons_succ, List.setIfInBounds_toArray, List.set_cons_zero, List.set_cons_succ]
      refine wl_skip (by kernel_rfl) ?_
      simp only [Act.put, List.getElem_toArray, List.getElem_cons_zero, List.getElem_cons_succ, List.setIfInBounds_toArray, List.set_cons_zero, List.set_cons_succ]
      refine wl_take (v := .bool false) (by kernel_rfl) (by go_simp) ?_
      simp only [Act.put, List.getElem_toArray, List.getElem_cons_zero, List.getElem_cons_succ, List.setIfInBounds_toArray, List.set_cons_zero, List.set_cons_succ]
      refine ⟨?_⟩
      go_wp2
      (try simp only [Exit.inBlock, Exit.then]); refine bodyPost_ret (results_tmp2 rfl _ _ _) rfl ?_
      exact ⟨rfl, rfl⟩
    | true =>
      cases g2 with
      | false =>
        clear hno
        have hn1 : 1 ≤ nI ∧ nI ≤ 16 := of_decide_eq_true Hb.out
        go_enter Try.func36, Try.ntmps36
        go_wp2_with (first | (refine wl_at 15 rfl ?_) | fail)
        refine wl_step (by kernel_rfl) fun K hK => ?_
        go_simp
        refine (H0.out _).mono ?_
        rintro e w2 ⟨rfl, rfl⟩
        refine hK _ _ ?_
        clear hK K
        try (simp only [Act.put, List.getElem_toArray, List.getElem_cons_zero, List.getElem_cons_succ, List.setIfInBounds_toArray, List.set_cons_zero, List.set_cons_succ])
        refine wl_take (v := .bool true) (by kernel_rfl) (by go_simp) ?_
        simp only [Act.put, List.getElem_toArray, List.getElem_cons_zero, List.getElem_cons_succ, List.setIfInBounds_toArray, List.set_cons_zero, List.set_cons_succ]
        refine wl_take (v := .int .i64 sI) (by kernel_rfl) (by go_simp) ?_
        simp only [Act.put, List.getElem_toArray, List.getElem_cons_zero, List.getElem_cons_succ, List.setIfInBounds_toArray, List.set_cons_zero, List.set_cons_succ]
        refine wl_take (v := .int .i64 nI) (by kernel_rfl) (by go_simp) ?_
        simp only [Act.put, List.getElem_toArray, List.getElem_cons_zero, List.getElem_cons_succ, List.setIfInBounds_toArray, List.set_cons_zero, List.set_cons_succ]
        refine wl_take (v := .int .i64 (nI - 1)) (by kernel_rfl) (by (go_simp; exact wrap_id (by omega) (by omega))) ?_
        simp only [Act.put, List.getElem_toArray, List.getElem_cons_zero, List.getElem_cons_succ, List.setIfInBounds_toArray, List.set_cons_zero, List.set_cons_succ]
        refine wl_step (by kernel_rfl) fun K hK => ?_
        go_simp
        refine (H1.out _).mono ?_
        rintro e w2 ⟨rfl, rfl⟩
        refine hK _ _ ?_
        clear hK K
        try (simp only [Act.put, List.getElem_toArray, List.getElem_cons_zero, List.getElem_cons_succ, List.setIfInBounds_toArray, List.set_cons_zero, List.set_cons_succ])
        refine wl_take (v := .bool true) (by kernel_rfl) (by go_simp) ?_
        simp only [Act.put, List.getElem_toArray, List.getElem_cons_zero, List.getElem_cons_succ, List.setIfInBounds_toArray, List.set_cons_zero, List.set_cons_succ]
        refine wl_take (v := .bool true) (by kernel_rfl) (by go_simp) ?_
        simp only [Act.put, List.getElem_toArray, List.getElem_cons_zero, List.getElem_cons_succ, List.setIfInBounds_toArray, List.set_cons_zero, List.set_cons_succ]
        refine wl_take (v := .int .i64 inc) (by kernel_rfl) (by go_simp) ?_
        simp only [Act.put, List.getElem_toArray, List.getElem_cons_zero, List.getElem_cons_succ, List.setIfInBounds_toArray, List.set_cons_zero, List.set_cons_succ]
        refine wl_step (by kernel_rfl) fun K hK => ?_
        go_simp
        refine (H2.out _).mono ?_
        rintro e w2 ⟨rfl, rfl⟩
        refine hK _ _ ?_
        clear hK K
        try (simp only [Act.put, List.getElem_toArray, List.getElem_cons_zero, List.getElem_cons_succ, List.setIfInBounds_toArray, List.set_cons_zero, List.set_cons_succ])
        refine wl_take (v := .bool false) (by kernel_rfl) (by go_simp) ?_
        simp only [Act.put, List.getElem_toArray, List.getElem_cons_zero, List.getElem_cons_succ, List.setIfInBounds_toArray, List.set_cons_zero, List.set_cons_succ]
        refine wl_take (v := .bool false) (by kernel_rfl) (by go_simp) ?_
        simp only [Act.put, List.getElem_toArray, List.getElem_cons_zero, List.getElem_cons_succ, List.setIfInBounds_toArray, List.set_cons_zero, List.set_cons_succ]
        refine wl_skip (by kernel_rfl) ?_
        simp only [Act.put, List.getElem_toArray, List.getElem_cons_zero, List.getElem_cons_succ, List.setIfInBounds_toArray, List.set_cons_zero, List.set_cons_succ]
        refine wl_skip (by kernel_rfl) ?_
        simp only [Act.put, List.getElem_toArray, List.getElem_cons_zero, List.getElem_cons_succ, List.setIfInBounds_toArray, List.set_cons_zero, List.set_cons_succ]
        refine wl_take (v := .bool false) (by kernel_rfl) (by go_simp) ?_
        simp only [Act.put, List.getElem_toArray, List.getElem_cons_zero, List.getElem_cons_succ, List.setIfInBounds_toArray, List.set_cons_zero, List.set_cons_succ]
        refine ⟨?_⟩
        go_wp2
        (try simp only [Exit.inBlock, Exit.then]); refine bodyPost_ret (results_tmp2 rfl _ _ _) rfl ?_
        exact ⟨rfl, rfl⟩
      | true =>
        cases g3 with
        | false =>
          clear hno
          have hn1 : 1 ≤ nI ∧ nI ≤ 16 := of_decide_eq_true Hb.out
          go_enter Try.func36, Try.ntmps36
          go_wp2_with (first | (refine wl_at 15 rfl ?_) | fail)
          refine wl_step (by kernel_rfl) fun K hK => ?_
          go_simp
          refine (H0.out _).mono ?_
          rintro e w2 ⟨rfl, rfl⟩
          refine hK _ _ ?_
          clear hK K
          try (simp only [Act.put, List.getElem_toArray, List.getElem_cons_zero, List.getElem_cons_succ, List.setIfInBounds_toArray, List.set_cons_zero, List.set_cons_succ])
          refine wl_take (v := .bool true) (by kernel_rfl) (by go_simp) ?_
          simp only [Act.put, List.getElem_toArray, List.getElem_cons_zero, List.getElem_cons_succ, List.setIfInBounds_toArray, List.set_cons_zero, List.set_cons_succ]
          refine wl_take (v := .int .i64 sI) (by kernel_rfl) (by go_simp) ?_
          simp only [Act.put, List.getElem_toArray, List.getElem_cons_zero, List.getElem_cons_succ, List.setIfInBounds_toArray, List.set_cons_zero, List.set_cons_succ]
          refine wl_take (v := .int .i64 nI) (by kernel_rfl) (by go_simp) ?_
          simp only [Act.put, List.getElem_toArray, List.getElem_cons_zero, List.getElem_cons_succ, List.setIfInBounds_toArray, List.set_cons_zero, List.set_cons_succ]
          refine wl_take (v := .int .i64 (nI - 1)) (by kernel_rfl) (by (go_simp; exact wrap_id (by omega) (by omega))) ?_
          simp only [Act.put, List.getElem_toArray, List.getElem_cons_zero, List.getElem_cons_succ, List.setIfInBounds_toArray, List.set_cons_zero, List.set_cons_succ]
          refine wl_step (by kernel_rfl) fun K hK => ?_
          go_simp
          refine (H1.out _).mono ?_
          rintro e w2 ⟨rfl, rfl⟩
          refine hK _ _ ?_
          clear hK K
          try (simp only [Act.put, List.getElem_toArray, List.getElem_cons_zero, List.getElem_cons_succ, List.setIfInBounds_toArray, List.set_cons_zero, List.set_cons_succ])
          refine wl_take (v := .bool true) (by kernel_rfl) (by go_simp) ?_
          simp only [Act.put, List.getElem_toArray, List.getElem_cons_zero, List.getElem_cons_succ, List.setIfInBounds_toArray, List.set_cons_zero, List.set_cons_succ]
          refine wl_take (v := .bool true) (by kernel_rfl) (by go_simp) ?_
          simp only [Act.put, List.getElem_toArray, List.getElem_cons_zero, List.getElem_cons_succ, List.setIfInBounds_toArray, List.set_cons_zero, List.set_cons_succ]
          refine wl_take (v := .int .i64 inc) (by kernel_rfl) (by go_simp) ?_
          simp only [Act.put, List.getElem_toArray, List.getElem_cons_zero, List.getElem_cons_succ, List.setIfInBounds_toArray, List.set_cons_zero, List.set_cons_succ]
          refine wl_step (by kernel_rfl) fun K hK => ?_
          go_simp
          refine (H2.out _).mono ?_
          rintro e w2 ⟨rfl, rfl⟩
          refine hK _ _ ?_
          clear hK K
          try (simp only [Act.put, List.getElem_toArray, List.getElem_cons_zero, List.getElem_cons_succ, List.setIfInBounds_toArray, List.set_cons_zero, List.set_cons_succ])
          refine wl_take (v := .bool true) (by kernel_rfl) (by go_simp) ?_
          simp only [Act.put, List.getElem_toArray, List.getElem_cons_zero, List.getElem_cons_succ, List.setIfInBounds_toArray, List.set_cons_zero, List.set_cons_succ]
          refine wl_take (v := .bool true) (by kernel_rfl) (by go_simp) ?_
          simp only [Act.put, List.getElem_toArray, List.getElem_cons_zero, List.getElem_cons_succ, List.setIfInBounds_toArray, List.set_cons_zero, List.set_cons_succ]
          refine wl_take (v := .int .i64 fl) (by kernel_rfl) (by go_simp) ?_
          simp only [Act.put, List.getElem_toArray, List.getElem_cons_zero, List.getElem_cons_succ, List.setIfInBounds_toArray, List.set_cons_zero, List.set_cons_succ]
          refine wl_step (by kernel_rfl) fun K hK => ?_
          go_simp
          refine (H3.out _).mono ?_
          rintro e w2 ⟨rfl, rfl⟩
          refine hK _ _ ?_
          clear hK K
          try (simp only [Act.put, List.getElem_toArray, List.getElem_cons_zero, List.getElem_cons_succ, List.setIfInBounds_toArray, List.set_cons_zero, List.set_cons_succ])
          refine wl_take (v := .bool false) (by kernel_rfl) (by go_simp) ?_
          simp only [Act.put, List.getElem_toArray, List.getElem_cons_zero, List.getElem_cons_succ, List.setIfInBounds_toArray, List.set_cons_zero, List.set_cons_succ]
          refine ⟨?_⟩
          go_wp2
          (try simp only [Exit.inBlock, Exit.then]); refine bodyPost_ret (results_tmp2 rfl _ _ _) rfl ?_
          exact ⟨rfl, rfl⟩
        | true =>
          cases hno
def P0 (fl : Int) : Pp := ⟨zs, fl, 0, fl, [0, 0, 0, 0], zs⟩
def Pz : Pp := ⟨zs, 0, 0, 0, [0, 0, 0, 0], zs⟩
def A0 (b n s : Nat) (fl : Int) : Ag := ⟨b, n, s, P0 fl, fun _ => Pz, [0, 0, 0, 0], .slice none 0 0, 0, [], false⟩
theorem built_p0 (fl : Int) : Try.prog.built 102 [(1, .int .i64 fl), (3, .int .i64 fl)] = some (ints (P0 fl).fl).toArray := by kernel_rfl
theorem built_a0 (b n s : Nat) (fl : Int) : Try.prog.built 105 [(0, .int .i64 (n : Int)), (1, .int .i64 (s : Int)), (2, .agg (ints (P0 fl).fl).toArray)] = some ((List.range 671).map (A0 b n s fl).at).toArray := by kernel_rfl
theorem a0_ok (b n s : Nat) (fl : Int) (h16 : 1 ≤ n ∧ n ≤ 16 ∧ s < n) (hf : 0 ≤ fl ∧ fl ≤ T) (hT : T ≤ 4611686018427387904) (hb : w.heap[b]? = some (.cells ((List.range 671).map (A0 b n s fl).at).toArray 105 (0, 0))) (hB : B ≤ b) : (A0 b n s fl).Ok w B T := by
  refine ⟨⟨_, hb, by simp, fun i hi => by simp [hi]⟩, h16, ⟨rfl, rfl, rfl⟩, fun _ => ⟨rfl, rfl, rfl⟩, rfl, hB, ⟨rfl, .inl ⟨rfl, rfl⟩⟩, ⟨rfl, Nat.zero_le _⟩, ⟨hf.1, by show fl ≤ _; omega⟩, ⟨by show (0 : Int) ≤ 0; omega, by show (0 : Int) ≤ _; omega⟩, ⟨hf.1, hf.2⟩, ⟨by show (0 : Int) ≤ 0; omega, by show (0 : Int) ≤ _; omega⟩, fun _ => ⟨by show (0 : Int) ≤ 0; omega, by show (0 : Int) ≤ _; omega⟩⟩
end
end Go.Proofs.Ytbdefhagpgpoiaa.Mb
