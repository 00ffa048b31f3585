import Derived.Test.YtbdefhagpgpoiaaAn
import Derived.Test.YtbdefhagpgpoiaaAjA
import Derived.Test.YtbdefhagpgpoiaaAjB
import Derived.Test.YtbdefhagpgpoiaaAjC
import Derived.Test.YtbdefhagpgpoiaaBc
namespace Go.Proofs.Ytbdefhagpgpoiaa.Mb
open Go.RowKit
set_option linter.unusedVariables false
set_option maxRecDepth 100000
set_option linter.unusedSimpArgs false
section
variable {A A' : Ag} {w w' W : World} {B : Nat} {T : Int}
theorem propOf_any (p : Pq) (hp : p.Rd w) (q : Nat) (hq : q < 16) (inc : Int) (n : Nat) (hn : n ≤ 16) : Calls Try.prog 41 #[.agg p.cs, .int .i64 q, .int .i64 inc, .int .i64 n] w fun e w' => ∃ P0 : Pp, e = .returned (.tuple #[.agg (ints P0.fl).toArray, .bool (p.valid q inc n)]) ∧ P0.L ∧ (p.valid q inc n = true → P0 = p.pp) ∧ Below w.heap.size w w' := by
  cases hA : p.SA q inc n with
  | false => exact propOf_A p hp q hq inc n hn hA
  | true =>
    cases hB : p.SB q with
    | false => exact propOf_B p hp q hq inc n hn hA hB
    | true => exact propOf_C p hp q hq inc n hn hA hB
def Ag.tkOk (A : Ag) (q inc : Int) : Bool := wB q 0 ((A.n : Int) - 1) && !(q == (A.self : Int)) && wB inc 1 4611686018427387904
set_option maxHeartbeats 2000000 in
theorem take_arg (h : A.Ok w B T) (q inc : Int) (p : Pq) (hno : A.tkOk q inc = false) : Calls Try.prog 22 #[.pointer (some ⟨A.b, 0, none⟩), .int .i64 q, .int .i64 inc, .agg p.cs] w fun e w' => e = .returned (.tuple #[.bool false, .int .i64 1]) ∧ Below w.heap.size w w' := by
  have h16 := h.n16
  generalize hW1 : w.alloc (.cells p.cs 41) = W1
  have b1 : Below w.heap.size w W1 := hW1 ▸ balloc (Below.refl _ _)
  have c0 := (h.still b1).c0
  have c1 := (h.still b1).c1
  have HB1 : Hid (Below w.heap.size w W1) := b1
  unfold Ag.tkOk at hno
  obtain ⟨g0, hg0⟩ : ∃ g0, wB q 0 ((A.n : Int) - 1) = g0 := ⟨_, rfl⟩
  obtain ⟨g1, hg1⟩ : ∃ g0, wB inc 1 4611686018427387904 = g0 := ⟨_, rfl⟩
  have H0 : Hid (∀ W, Calls Try.prog 40 #[.int .i64 q, .int .i64 0, .int .i64 ((A.n : Int) - 1)] W fun e w' => e = .returned (.bool g0) ∧ W = w') := fun W => hg0 ▸ within_w _ _ _
  have H1 : Hid (∀ W, Calls Try.prog 40 #[.int .i64 inc, .int .i64 1, .int .i64 4611686018427387904] W fun e w' => e = .returned (.bool g1) ∧ W = w') := fun W => hg1 ▸ within_w _ _ _
  rw [hg0, hg1] at hno
  generalize p.cs = pcs at *
  clear h b1 hg0 hg1
  cases g0 with
  | false =>
    clear hno
    go_enter Try.func22, Try.ntmps22
    go_wp2_with (first | (refine wl_at 21 rfl ?_) | fail)
    refine wl_step (by kernel_rfl) fun K hK => ?_
    go_simp
    refine (H0.out _).mono ?_
    rintro e w2 ⟨rfl, rfl⟩
    refine hK _ _ ?_
    clear hK K
    try (simp only [Act.put, List.getElem_toArray, List.getElem_cons_zero, List.getElem_cons_succ, List.setIfInBounds_toArray, List.set_cons_zero, List.set_cons_succ])
    refine wl_take (v := .bool true) (by kernel_rfl) (by go_simp) ?_
    simp only [Act.put, List.getElem_toArray, List.getElem_cons_zero, List.getElem_cons_succ, List.setIfInBounds_toArray, List.set_cons_zero, List.set_cons_succ]
    refine wl_take (v := .bool true) (by kernel_rfl) (by go_simp) ?_
    simp only [Act.put, List.getElem_toArray, List.getElem_cons_zero, List.getElem_cons_succ, List.setIfInBounds_toArray, List.set_cons_zero, List.set_cons_succ]
    refine wl_skip (by kernel_rfl) ?_
    simp only [Act.put, List.getElem_toArray, List.getElem_cons_zero, List.getElem_cons_succ, List.setIfInBounds_toArray, List.set_cons_zero, List.set_cons_succ]
    refine wl_skip (by kernel_rfl) ?_
    simp only [Act.put, List.getElem_toArray, List.getElem_cons_zero, List.getElem_cons_succ, List.setIfInBounds_toArray, List.set_cons_zero, List.set_cons_succ]
    refine wl_skip (by kernel_rfl) ?_
    simp only [Act.put, List.getElem_toArray, List.getElem_cons_zero, List.getElem_cons_succ, List.setIfInBounds_toArray, List.set_cons_zero, List.set_cons_succ]
    refine wl_skip (by kernel_rfl) ?_
    simp only [Act.put, List.getElem_toArray, List.getElem_cons_zero, List.getElem_cons_succ, List.setIfInBounds_toArray, List.set_cons_zero, List.set_cons_succ]
    refine wl_skip (by kernel_rfl) ?_
    simp only [Act.put, List.getElem_toArray, List.getElem_cons_zero, List.getElem_cons_succ, List.setIfInBounds_toArray, List.set_cons_zero, List.set_cons_succ]
    refine wl_skip (by kernel_rfl) ?_
    simp only [Act.put, List.getElem_toArray, List.getElem_cons_zero, List.getElem_cons_succ, List.setIfInBounds_toArray, List.set_cons_zero, List.set_cons_succ]
    refine wl_take (v := .bool true) (by kernel_rfl) (by go_simp) ?_
    simp only [Act.put, List.getElem_toArray, List.getElem_cons_zero, List.getElem_cons_succ, List.setIfInBounds_toArray, List.set_cons_zero, List.set_cons_succ]
    refine wl_take (v := .bool true) (by kernel_rfl) (by go_simp) ?_
    simp only [Act.put, List.getElem_toArray, List.getElem_cons_zero, List.getElem_cons_succ, List.setIfInBounds_toArray, List.set_cons_zero, List.set_cons_succ]
    refine wl_skip (by kernel_rfl) ?_
    simp only [Act.put, List.getElem_toArray, List.getElem_cons_zero, List.getElem_cons_succ, List.setIfInBounds_toArray, List.set_cons_zero, List.set_cons_succ]
    refine wl_skip (by kernel_rfl) ?_
    simp only [Act.put, List.getElem_toArray, List.getElem_cons_zero, List.getElem_cons_succ, List.setIfInBounds_toArray, List.set_cons_zero, List.set_cons_succ]
    refine wl_skip (by kernel_rfl) ?_
    simp only [Act.put, List.getElem_toArray, List.getElem_cons_zero, List.getElem_cons_succ, List.setIfInBounds_toArray, List.set_cons_zero, List.set_cons_succ]
    refine wl_take (v := .bool true) (by kernel_rfl) (by go_simp) ?_
    simp only [Act.put, List.getElem_toArray, List.getElem_cons_zero, List.getElem_cons_succ, List.setIfInBounds_toArray, List.set_cons_zero, List.set_cons_succ]
    refine ⟨?_⟩
    go_wp2
    (try simp only [Exit.inBlock, Exit.then]); refine bodyPost_ret (results_tmp2 rfl _ _ _) rfl ?_
    exact ⟨rfl, HB1.out⟩
  | true =>
    by_cases hs : q = (A.self : Int)
    · clear hno
      subst hs
      go_enter Try.func22, Try.ntmps22
      go_wp2_with (first | (refine wl_at 21 rfl ?_) | fail)
      refine wl_step (by kernel_rfl) fun K hK => ?_
      go_simp
      refine (H0.out _).mono ?_
      rintro e w2 ⟨rfl, rfl⟩
      refine hK _ _ ?_
      clear hK K
      try (simp only [Act.put, List.getElem_toArray, List.getElem_cons_zero, List.getElem_cons_succ, List.setIfInBounds_toArray, List.set_cons_zero, List.set_cons_succ])
      refine wl_take (v := .bool false) (by kernel_rfl) (by go_simp) ?_
      simp only [Act.put, List.getElem_toArray, List.getElem_cons_zero, List.getElem_cons_succ, List.setIfInBounds_toArray, List.set_cons_zero, List.set_cons_succ]
      refine wl_take (v := .bool false) (by kernel_rfl) (by go_simp) ?_
      simp only [Act.put, List.getElem_toArray, List.getElem_cons_zero, List.getElem_cons_succ, List.setIfInBounds_toArray, List.set_cons_zero, List.set_cons_succ]
      refine wl_take (v := .int .i64 (A.self : Int)) (by kernel_rfl) (by go_simp) ?_
      simp only [Act.put, List.getElem_toArray, List.getElem_cons_zero, List.getElem_cons_succ, List.setIfInBounds_toArray, List.set_cons_zero, List.set_cons_succ]
      refine wl_take (v := .pointer (some ⟨A.b, 0, none⟩)) (by kernel_rfl) (by go_simp) ?_
      simp only [Act.put, List.getElem_toArray, List.getElem_cons_zero, List.getElem_cons_succ, List.setIfInBounds_toArray, List.set_cons_zero, List.set_cons_succ]
      refine wl_take (v := .pointer (some ⟨A.b, 0, none⟩)) (by kernel_rfl) (by go_simp) ?_
      simp only [Act.put, List.getElem_toArray, List.getElem_cons_zero, List.getElem_cons_succ, List.setIfInBounds_toArray, List.set_cons_zero, List.set_cons_succ]
      refine wl_take (v := .pointer (some ⟨A.b, 1, none⟩)) (by kernel_rfl) (by go_simp) ?_
      simp only [Act.put, List.getElem_toArray, List.getElem_cons_zero, List.getElem_cons_succ, List.setIfInBounds_toArray, List.set_cons_zero, List.set_cons_succ]
      refine wl_take (v := .int .i64 A.self) (by kernel_rfl) (by go_simp) ?_
      simp only [Act.put, List.getElem_toArray, List.getElem_cons_zero, List.getElem_cons_succ, List.setIfInBounds_toArray, List.set_cons_zero, List.set_cons_succ]
      refine wl_take (v := .bool true) (by kernel_rfl) (by (go_simp <;> first | omega | simp_all)) ?_
      simp only [Act.put, List.getElem_toArray, List.getElem_cons_zero, List.getElem_cons_succ, List.setIfInBounds_toArray, List.set_cons_zero, List.set_cons_succ]
      refine wl_take (v := .bool true) (by kernel_rfl) (by go_simp) ?_
      simp only [Act.put, List.getElem_toArray, List.getElem_cons_zero, List.getElem_cons_succ, List.setIfInBounds_toArray, List.set_cons_zero, List.set_cons_succ]
      refine wl_take (v := .bool true) (by kernel_rfl) (by go_simp) ?_
      simp only [Act.put, List.getElem_toArray, List.getElem_cons_zero, List.getElem_cons_succ, List.setIfInBounds_toArray, List.set_cons_zero, List.set_cons_succ]
      refine wl_skip (by kernel_rfl) ?_
      simp only [Act.put, List.getElem_toArray, List.getElem_cons_zero, List.getElem_cons_succ, List.setIfInBounds_toArray, List.set_cons_zero, List.set_cons_succ]
      refine wl_skip (by kernel_rfl) ?_
      simp only [Act.put, List.getElem_toArray, List.getElem_cons_zero, List.getElem_cons_succ, List.setIfInBounds_toArray, List.set_cons_zero, List.set_cons_succ]
      refine wl_skip (by kernel_rfl) ?_
      simp only [Act.put, List.getElem_toArray, List.getElem_cons_zero, List.getElem_cons_succ, List.setIfInBounds_toArray, List.set_cons_zero, List.set_cons_succ]
      refine wl_take (v := .bool true) (by kernel_rfl) (by go_simp) ?_
      simp only [Act.put, List.getElem_toArray, List.getElem_cons_zero, List.getElem_cons_succ, List.setIfInBounds_toArray, List.set_cons_zero, List.set_cons_succ]
      refine ⟨?_⟩
      go_wp2
      (try simp only [Exit.inBlock, Exit.then]); refine bodyPost_ret (results_tmp2 rfl _ _ _) rfl ?_
      exact ⟨rfl, HB1.out⟩
    · have hs2 : (q == (A.self : Int)) = false := by simpa using hs
      cases g1 with
      | false =>
        clear hno
        go_enter Try.func22, Try.ntmps22
        go_wp2_with (first | (refine wl_at 21 rfl ?_) | fail)
        refine wl_step (by kernel_rfl) fun K hK => ?_
        go_simp
        refine (H0.out _).mono ?_
        rintro e w2 ⟨rfl, rfl⟩
        refine hK _ _ ?_
        clear hK K
        try (simp only [Act.put, List.getElem_toArray, List.getElem_cons_zero, List.getElem_cons_succ, List.setIfInBounds_toArray, List.set_cons_zero, List.set_cons_succ])
        refine wl_take (v := .bool false) (by kernel_rfl) (by go_simp) ?_
        simp only [Act.put, List.getElem_toArray, List.getElem_cons_zero, List.getElem_cons_succ, List.setIfInBounds_toArray, List.set_cons_zero, List.set_cons_succ]
        refine wl_take (v := .bool false) (by kernel_rfl) (by go_simp) ?_
        simp only [Act.put, List.getElem_toArray, List.getElem_cons_zero, List.getElem_cons_succ, List.setIfInBounds_toArray, List.set_cons_zero, List.set_cons_succ]
        refine wl_take (v := .int .i64 q) (by kernel_rfl) (by go_simp) ?_
        simp only [Act.put, List.getElem_toArray, List.getElem_cons_zero, List.getElem_cons_succ, List.setIfInBounds_toArray, List.set_cons_zero, List.set_cons_succ]
        refine wl_take (v := .pointer (some ⟨A.b, 0, none⟩)) (by kernel_rfl) (by go_simp) ?_
        simp only [Act.put, List.getElem_toArray, List.getElem_cons_zero, List.getElem_cons_succ, List.setIfInBounds_toArray, List.set_cons_zero, List.set_cons_succ]
        refine wl_take (v := .pointer (some ⟨A.b, 0, none⟩)) (by kernel_rfl) (by go_simp) ?_
        simp only [Act.put, List.getElem_toArray, List.getElem_cons_zero, List.getElem_cons_succ, List.setIfInBounds_toArray, List.set_cons_zero, List.set_cons_succ]
        refine wl_take (v := .pointer (some ⟨A.b, 1, none⟩)) (by kernel_rfl) (by go_simp) ?_
        simp only [Act.put, List.getElem_toArray, List.getElem_cons_zero, List.getElem_cons_succ, List.setIfInBounds_toArray, List.set_cons_zero, List.set_cons_succ]
        refine wl_take (v := .int .i64 A.self) (by kernel_rfl) (by go_simp) ?_
        simp only [Act.put, List.getElem_toArray, List.getElem_cons_zero, List.getElem_cons_succ, List.setIfInBounds_toArray, List.set_cons_zero, List.set_cons_succ]
        refine wl_take (v := .bool false) (by kernel_rfl) (by (go_simp <;> first | omega | simp_all)) ?_
        simp only [Act.put, List.getElem_toArray, List.getElem_cons_zero, List.getElem_cons_succ, List.setIfInBounds_toArray, List.set_cons_zero, List.set_cons_succ]
        refine wl_take (v := .bool false) (by kernel_rfl) (by go_simp) ?_
        simp only [Act.put, List.getElem_toArray, List.getElem_cons_zero, List.getElem_cons_succ, List.setIfInBounds_toArray, List.set_cons_zero, List.set_cons_succ]
        refine wl_take (v := .bool false) (by kernel_rfl) (by go_simp) ?_
        simp only [Act.put, List.getElem_toArray, List.getElem_cons_zero, List.getElem_cons_succ, List.setIfInBounds_toArray, List.set_cons_zero, List.set_cons_succ]
        refine wl_take (v := .int .i64 inc) (by kernel_rfl) (by go_simp) ?_
        simp only [Act.put, List.getElem_toArray, List.getElem_cons_zero, List.getElem_cons_succ, List.setIfInBounds_toArray, List.set_cons_zero, List.set_cons_succ]
        refine wl_step (by kernel_rfl) fun K hK => ?_
        go_simp
        refine (H1.out _).mono ?_
        rintro e w2 ⟨rfl, rfl⟩
        refine hK _ _ ?_
        clear hK K
        try (simp only [Act.put, List.getElem_toArray, List.getElem_cons_zero, List.getElem_cons_succ, List.setIfInBounds_toArray, List.set_cons_zero, List.set_cons_succ])
        refine wl_take (v := .bool true) (by kernel_rfl) (by go_simp) ?_
        simp only [Act.put, List.getElem_toArray, List.getElem_cons_zero, List.getElem_cons_succ, List.setIfInBounds_toArray, List.set_cons_zero, List.set_cons_succ]
        refine wl_take (v := .bool true) (by kernel_rfl) (by go_simp) ?_
        simp only [Act.put, List.getElem_toArray, List.getElem_cons_zero, List.getElem_cons_succ, List.setIfInBounds_toArray, List.set_cons_zero, List.set_cons_succ]
        refine ⟨?_⟩
        go_wp2
        (try simp only [Exit.inBlock, Exit.then]); refine bodyPost_ret (results_tmp2 rfl _ _ _) rfl ?_
        exact ⟨rfl, HB1.out⟩
      | true => rw [hs2] at hno; cases hno
end
end Go.Proofs.Ytbdefhagpgpoiaa.Mb
