import Derived.Test.YtdegjhkjmgimpaaV10
import Derived.Test.YtdegjhkjmgimpaaV08
namespace Go.Proofs.Ytdegjhkjmgimpaa.Mb
open Go.RowKit
set_option linter.unusedVariables false
set_option maxRecDepth 100000
set_option linter.unusedSimpArgs false
theorem wpList_make_cap {P : Program} (w : World) {ops : Array Oper} {rest : List Oper} {o : Oper} {a : Act} {Q : Exit → Act → World → Prop}
    (hg : o.guard = none) (l c : Operand) (t : TypeId) (hop : o.op = Op.makeSlice t l c)
    (e : TypeId) (i : TypeInfo) (z : Value) (h1 : P.underlying t = some (.slice e)) (h2 : P.info? e = some i) (h3 : i.zero = some z) (h4 : i.size = 1) (h5 : z.cells = #[z]) (bytes : Nat) (h6 : i.bytes = bytes)
    (kl kc : IntKind) (L C : Int) (n m : Nat) (hl : a.eval l = .int kl L) (hc : a.eval c = .int kc C) (hL : L = (n : Int)) (hC : C = (m : Int)) (hnm : n ≤ m) (b2 : bytes * m ≤ 281474976710656) (b3 : m ≤ 9223372036854775807)
    (hK : ∀ w', Hid (w'.heap[w.heap.size]? = some (.cells (List.replicate m z).toArray e (0, 0))) → w'.heap.size = w.heap.size + 1 → Below w.heap.size w w' → wpList P ops Q rest (a.put o.dst (.slice (some ⟨w.heap.size, 0, none⟩) n m)) w') :
    wpList P ops Q (o :: rest) a w := by
  refine wpList_plain hg fun K hK' => ?_
  subst h6
  have hrun := run_make (P := P) w t e i z h1 h2 h3 kl kc L C (by omega) (by omega) (by rw [hC, show (i.bytes : Int) * (m : Int) = ((i.bytes * m : Nat) : Int) from by push_cast; rfl]; omega) (by omega)
  have hm : madeCells z.cells (C.toNat * i.size) = (List.replicate m z).toArray := by
    rw [h5, h4, hC]
    simp only [Int.toNat_natCast, Nat.mul_one]
    rw [← toList_madeCells_one, Array.toArray_toList]
  rw [hm] at hrun
  have hLn : L.toNat = n := by omega
  have hCn : C.toNat = m := by omega
  rw [hLn, hCn] at hrun
  unfold Oper.wp
  simp [execOp, hop, hl, hc, hrun, Result.andThen]
  exact hK' _ _ (hK _ (heap_alloc_new w _) (by simp) ((Below.refl _ _).alloc (Nat.le_refl _) _))
theorem info_i : (Try.prog.info? 3).map (fun i => (i.zero, i.size, i.bytes)) = some (some (.int .i64 0), 1, 8) := by kernel_rfl
theorem size_i : (Try.prog.info? 3).map (·.size) = some 1 := by kernel_rfl
section
variable {A A' : Ag} {w w' W : World} {B : Nat} {T : Int}
theorem take_cell {k n : Nat} {r : List Int} {t : Nat} {j : Nat} {v : Value} (h : Rw w k t r) (hv : (ints (r.take n))[j]? = some v) : w.cell? ⟨k, j, none⟩ = some v := by
  have hj : j < (r.take n).length := by have := (List.getElem?_eq_some_iff.1 hv).1; rwa [ints_len] at this
  have hj2 : j < r.length := by rw [List.length_take] at hj; omega
  rw [h.cell hj2]
  rw [ints_at _ _ hj] at hv
  rw [← hv]
  have hjn : j < n := by rw [List.length_take] at hj; omega
  simp [List.getD, List.getElem?_take, hjn]
theorem changing_any (h : A.Ok w B T) : Calls Try.prog 5 #[.pointer (some ⟨A.b, 0, none⟩)] w fun e w' => e = .returned (.bool A.chg) ∧ w = w' := by
  have c0 := h.c670
  clear h
  go_enter Try.func5, Try.ntmps5
  go_wp2
  go_ret
  exact ⟨rfl, rfl⟩
set_option maxHeartbeats 1000000 in
theorem list_any (r : List Int) (hr : r.length = 16) (n : Nat) (hn : n ≤ 16) : Calls Try.prog 16 #[.agg (ints r).toArray, .int .i64 n] w fun e w' => ∃ g, e = .returned (.slice (some ⟨g, 0, none⟩) n n) ∧ w.heap.size ≤ g ∧ Rw w' g 3 (r.take n) ∧ Below w.heap.size w w' := by
  obtain ⟨i0, hi, hz0, hz1, hz2⟩ := info_parts info_i
  generalize hW1 : w.alloc (.cells (ints r).toArray 61) = W1
  have b1 : Below w.heap.size w W1 := hW1 ▸ balloc (Below.refl _ _)
  have k1 : Rw W1 w.heap.size 61 r := by unfold Rw; rw [← hW1]; exact heap_alloc_new w _
  have HB1 : Hid (Below w.heap.size w W1) := b1
  have HK1 : Hid (Rw W1 w.heap.size 61 r) := k1
  have hl : (ints (r.take n)).length = n := by rw [ints_len, List.length_take, hr]; omega
  have HX1 : Hid (∀ v ∈ ints (r.take n), v.oneCell' = true) := ints_one _
  have Hm : Hid ((ints (r.take n)).length = Nat.min 16 n) := by show _ = _; rw [hl]; show n = min 16 n; omega
  have Hl : Hid ((ints (r.take n)).length = n) := hl
  have Hr : Hid (r.length = 16) := hr
  clear b1 k1 hl hr
  go_enter Try.func16, Try.ntmps16
  go_wp2_with (first
    | (at_make; refine wpList_make_cap _ rfl _ _ 29 rfl 3 i0 (.int .i64 0) Try.underlying29 hi hz0 hz1 rfl 8 hz2 .i64 .i64 _ _ n n rfl rfl rfl rfl (Nat.le_refl _) (by omega) (by omega) ?_; intro W2 hW hWs hWb; have HB2 : Hid (Below W1.heap.size W1 W2) := hWb; have HK2 : Hid (W2.heap[W1.heap.size]? = some (.cells (List.replicate n (.int .i64 0)).toArray 3 (0, 0))) := hW.out; have Hsz : Hid (W2.heap.size = W1.heap.size + 1) := hWs; clear hW hWs hWb; have HS : Hid (0 < (ints (r.take n)).length → (some (⟨W1.heap.size, 0, none⟩ : Addr)) = some ⟨W1.heap.size, 0, none⟩ ∧ ∃ ad, (some (⟨w.heap.size, 0, none⟩ : Addr)) = some ad ∧ ∀ j v, (ints (r.take n))[j]? = some v → W2.cell? (ad.add j) = some v) := (fun _ => ⟨rfl, _, rfl, fun j v hv => by rw [Addr.add_mid, Nat.zero_add]; exact take_cell (HK1.out.still HB2.out) hv⟩))
    | (refine wpList_copy_splice rfl _ _ 29 29 rfl 3 Try.underlying29 size_i _ _ n n 16 16 rfl rfl W1.heap.size 0 (List.replicate n (.int .i64 0)) 3 HK2.out (ints (r.take n)) Hm.out HS.out (by rw [Hl.out]; simp) HX1.out W1.heap.size W1 HB2.out (Nat.le_refl _) ?_; intro W3 hg3 hb3; have HB3 : Hid (Below W1.heap.size W1 W3) := hb3; clear hb3)
    | fail)
  go_ret
  refine ⟨_, rfl, HB1.out.size, ?_, bstep HB1.out HB3.out⟩
  have := hg3.out
  unfold Rw
  rw [this]
  congr 2
  unfold splice
  rw [Hl.out]
  simp
set_option maxHeartbeats 400000 in
theorem run_buildop {o : Oper} {ρ : Operand → Value} {w : World} (t : TypeId) (parts : Array (Nat × Operand)) (ho : o.op = .build t parts) (cells : Array Value) (h : Try.prog.built t (parts.map fun (i, x) => (i, ρ x)).toList = some cells) : (execOp ρ o).run Try.prog w = .ok (.value (.agg cells)) w := by
  unfold execOp
  simp only [ho, Sem.run_bind, run_build w t _ cells h, Result.andThen_ok, Sem.run_pure]
end
end Go.Proofs.Ytdegjhkjmgimpaa.Mb
namespace Go.Proofs.Ytdegjhkjmgimpaa.Mb
open Go.RowKit
set_option linter.unusedVariables false
set_option maxRecDepth 100000
set_option linter.unusedSimpArgs false
section
variable {A A' : Ag} {w w' W : World} {B : Nat} {T : Int}
theorem wl_at {ops : Array Oper} {rest : List Oper} {o : Oper} {a : Act} {Q : Exit → Act → World → Prop} (d : Nat) (hd : o.dst = some d) (h : WpL ops Q (o :: rest) a w) : wpList Try.prog ops Q (o :: rest) a w := h.out
def newOk (n s inc fl : Int) : Bool := wB n 1 16 && wB s 0 (n - 1) && wB inc 1 4611686018427387904 && wB fl 0 4611686018427387904
set_option maxHeartbeats 2000000 in
theorem new_no (nI sI inc fl : Int) (hn : -9223372036854775808 ≤ nI ∧ nI ≤ 9223372036854775807) (hno : newOk nI sI inc fl = false) : Calls Try.prog 15 #[.int .i64 nI, .int .i64 sI, .int .i64 inc, .int .i64 fl] w fun e w' => e = .returned (.tuple #[.pointer none, .int .i64 1]) ∧ w = w' := by
  unfold newOk at hno
  obtain ⟨g0, hg0⟩ : ∃ g0, wB nI 1 16 = g0 := ⟨_, rfl⟩
  obtain ⟨g1, hg1⟩ : ∃ g0, wB sI 0 (nI - 1) = g0 := ⟨_, rfl⟩
  obtain ⟨g2, hg2⟩ : ∃ g0, wB inc 1 4611686018427387904 = g0 := ⟨_, rfl⟩
  obtain ⟨g3, hg3⟩ : ∃ g0, wB fl 0 4611686018427387904 = g0 := ⟨_, rfl⟩
  have Hb : Hid (wB nI 1 16 = g0) := hg0
  have H0 : Hid (∀ W, Calls Try.prog 26 #[.int .i64 nI, .int .i64 1, .int .i64 16] W fun e w' => e = .returned (.bool g0) ∧ W = w') := fun W => hg0 ▸ within_w _ _ _
  have H1 : Hid (∀ W, Calls Try.prog 26 #[.int .i64 sI, .int .i64 0, .int .i64 (nI - 1)] W fun e w' => e = .returned (.bool g1) ∧ W = w') := fun W => hg1 ▸ within_w _ _ _
  have H2 : Hid (∀ W, Calls Try.prog 26 #[.int .i64 inc, .int .i64 1, .int .i64 4611686018427387904] W fun e w' => e = .returned (.bool g2) ∧ W = w') := fun W => hg2 ▸ within_w _ _ _
  have H3 : Hid (∀ W, Calls Try.prog 26 #[.int .i64 fl, .int .i64 0, .int .i64 4611686018427387904] W fun e w' => e = .returned (.bool g3) ∧ W = w') := fun W => hg3 ▸ within_w _ _ _
  rw [hg0, hg1, hg2, hg3] at hno
  clear hg0 hg1 hg2 hg3
  cases g0 with
  | false =>
    clear hno
    go_enter Try.func15, Try.ntmps15
    go_wp2_with (first | (refine wl_at 15 rfl ?_) | fail)
    refine wl_step (by kernel_rfl) fun K hK => ?_
    go_simp
    refine (H0.out _).mono ?_
    rintro e w2 ⟨rfl, rfl⟩
    refine hK _ _ ?_
    clear hK K
    try (simp only [Act.put, gA9, gZ9, gC9, sA9, sZ9, sC9])
    refine wl_take (v := .bool false) (by kernel_rfl) (by go_simp) ?_
    simp only [Act.put, gA9, gZ9, gC9, sA9, sZ9, sC9]
    refine wl_skip (by kernel_rfl) ?_
    simp only [Act.put, gA9, gZ9, gC9, sA9, sZ9, sC9]
    refine wl_skip (by kernel_rfl) ?_
    simp only [Act.put, gA9, gZ9, gC9, sA9, sZ9, sC9]
    refine wl_skip (by kernel_rfl) ?_
    simp only [Act.put, gA9, gZ9, gC9, sA9, sZ9, sC9]
    refine wl_skip (by kernel_rfl) ?_
    simp only [Act.put, gA9, gZ9, gC9, sA9, sZ9, sC9]
    refine wl_take (v := .bool false) (by kernel_rfl) (by go_simp) ?_
    simp only [Act.put, gA9, gZ9, gC9, sA9, sZ9, sC9]
    refine wl_take (v := .bool false) (by kernel_rfl) (by go_simp) ?_
    simp only [Act.put, gA9, gZ9, gC9, sA9, sZ9, sC9]
    refine wl_skip (by kernel_rfl) ?_
    simp only [Act.put, gA9, gZ9, gC9, sA9, sZ9, sC9]
    refine wl_skip (by kernel_rfl) ?_
    simp only [Act.put, gA9, gZ9, gC9, sA9, sZ9, sC9]
    refine wl_take (v := .bool false) (by kernel_rfl) (by go_simp) ?_
    simp only [Act.put, gA9, gZ9, gC9, sA9, sZ9, sC9]
    refine wl_take (v := .bool false) (by kernel_rfl) (by go_simp) ?_
    simp only [Act.put, gA9, gZ9, gC9, sA9, sZ9, sC9]
    refine wl_skip (by kernel_rfl) ?_
    simp only [Act.put, gA9, gZ9, gC9, sA9, sZ9, sC9]
    refine wl_skip (by kernel_rfl) ?_
    simp only [Act.put, gA9, gZ9, gC9, sA9, sZ9, sC9]
    refine wl_take (v := .bool false) (by kernel_rfl) (by go_simp) ?_
    simp only [Act.put, gA9, gZ9, gC9, sA9, sZ9, sC9]
    refine ⟨?_⟩
    go_wp2
    (try simp only [Exit.inBlock, Exit.then]); refine bodyPost_ret (results_tmp2 rfl _ _ _) rfl ?_
    exact ⟨rfl, rfl⟩
  | true =>
    cases g1 with
    | false =>
      clear hno
      have hn1 : 1 ≤ nI ∧ nI ≤ 16 := of_decide_eq_true Hb.out
      go_enter Try.func15, Try.ntmps15
      go_wp2_with (first | (refine wl_at 15 rfl ?_) | fail)
      refine wl_step (by kernel_rfl) fun K hK => ?_
      go_simp
      refine (H0.out _).mono ?_
      rintro e w2 ⟨rfl, rfl⟩
      refine hK _ _ ?_
      clear hK K
      try (simp only [Act.put, gA9, gZ9, gC9, sA9, sZ9, sC9])
      refine wl_take (v := .bool true) (by kernel_rfl) (by go_simp) ?_
      simp only [Act.put, gA9, gZ9, gC9, sA9, sZ9, sC9]
      refine wl_take (v := .int .i64 sI) (by kernel_rfl) (by go_simp) ?_
      simp only [Act.put, gA9, gZ9, gC9, sA9, sZ9, sC9]
      refine wl_take (v := .int .i64 nI) (by kernel_rfl) (by go_simp) ?_
      simp only [Act.put, gA9, gZ9, gC9, sA9, sZ9, sC9]
      refine wl_take (v := .int .i64 (nI - 1)) (by kernel_rfl) (by (go_simp; exact wrap_id (by omega) (by omega))) ?_
      simp only [Act.put, gA9, gZ9, gC9, sA9, sZ9, sC9]
      refine wl_step (by kernel_rfl) fun K hK => ?_
      go_simp
      refine (H1.out _).mono ?_
      rintro e w2 ⟨rfl, rfl⟩
      refine hK _ _ ?_
      clear hK K
      try (simp only [Act.put, gA9, gZ9, gC9, sA9, sZ9, sC9])
      refine wl_take (v := .bool false) (by kernel_rfl) (by go_simp) ?_
      simp only [Act.put, gA9, gZ9, gC9, sA9, sZ9, sC9]
      refine wl_take (v := .bool false) (by kernel_rfl) (by go_simp) ?_
      simp only [Act.put, gA9, gZ9, gC9, sA9, sZ9, sC9]
      refine wl_skip (by kernel_rfl) ?_
      simp only [Act.put, gA9, gZ9, gC9, sA9, sZ9, sC9]
      refine wl_skip (by kernel_rfl) ?_
      simp only [Act.put, gA9, gZ9, gC9, sA9, sZ9, sC9]
      refine wl_take (v := .bool false) (by kernel_rfl) (by go_simp) ?_
      simp only [Act.put, gA9, gZ9, gC9, sA9, sZ9, sC9]
      refine wl_take (v := .bool false) (by kernel_rfl) (by go_simp) ?_
      simp only [Act.put, gA9, gZ9, gC9, sA9, sZ9, sC9]
      refine wl_skip (by kernel_rfl) ?_
      simp only [Act.put, gA9, gZ9, gC9, sA9, sZ9, sC9]
      refine wl_skip (by kernel_rfl) ?_
      simp only [Act.put, gA9, gZ9, gC9, sA9, sZ9, sC9]
      refine wl_take (v := .bool false) (by kernel_rfl) (by go_simp) ?_
      simp only [Act.put, gA9, gZ9, gC9, sA9, sZ9, sC9]
      refine ⟨?_⟩
      go_wp2
      (try simp only [Exit.inBlock, Exit.then]); refine bodyPost_ret (results_tmp2 rfl _ _ _) rfl ?_
      exact ⟨rfl, rfl⟩
    | true =>
      cases g2 with
      | false =>
        clear hno
        have hn1 : 1 ≤ nI ∧ nI ≤ 16 := of_decide_eq_true Hb.out
        go_enter Try.func15, Try.ntmps15
        go_wp2_with (first | (refine wl_at 15 rfl ?_) | fail)
        refine wl_step (by kernel_rfl) fun K hK => ?_
        go_simp
        refine (H0.out _).mono ?_
        rintro e w2 ⟨rfl, rfl⟩
        refine hK _ _ ?_
        clear hK K
        try (simp only [Act.put, gA9, gZ9, gC9, sA9, sZ9, sC9])
        refine wl_take (v := .bool true) (by kernel_rfl) (by go_simp) ?_
        simp only [Act.put, gA9, gZ9, gC9, sA9, sZ9, sC9]
        refine wl_take (v := .int .i64 sI) (by kernel_rfl) (by go_simp) ?_
        simp only [Act.put, gA9, gZ9, gC9, sA9, sZ9, sC9]
        refine wl_take (v := .int .i64 nI) (by kernel_rfl) (by go_simp) ?_
        simp only [Act.put, gA9, gZ9, gC9, sA9, sZ9, sC9]
        refine wl_take (v := .int .i64 (nI - 1)) (by kernel_rfl) (by (go_simp; exact wrap_id (by omega) (by omega))) ?_
        simp only [Act.put, gA9, gZ9, gC9, sA9, sZ9, sC9]
        refine wl_step (by kernel_rfl) fun K hK => ?_
        go_simp
        refine (H1.out _).mono ?_
        rintro e w2 ⟨rfl, rfl⟩
        refine hK _ _ ?_
        clear hK K
        try (simp only [Act.put, gA9, gZ9, gC9, sA9, sZ9, sC9])
        refine wl_take (v := .bool true) (by kernel_rfl) (by go_simp) ?_
        simp only [Act.put, gA9, gZ9, gC9, sA9, sZ9, sC9]
        refine wl_take (v := .bool true) (by kernel_rfl) (by go_simp) ?_
        simp only [Act.put, gA9, gZ9, gC9, sA9, sZ9, sC9]
        refine wl_take (v := .int .i64 inc) (by kernel_rfl) (by go_simp) ?_
        simp only [Act.put, gA9, gZ9, gC9, sA9, sZ9, sC9]
        refine wl_step (by kernel_rfl) fun K hK => ?_
        go_simp
        refine (H2.out _).mono ?_
        rintro e w2 ⟨rfl, rfl⟩
        refine hK _ _ ?_
        clear hK K
        try (simp only [Act.put, gA9, gZ9, gC9, sA9, sZ9, sC9])
        refine wl_take (v := .bool false) (by kernel_rfl) (by go_simp) ?_
        simp only [Act.put, gA9, gZ9, gC9, sA9, sZ9, sC9]
        refine wl_take (v := .bool false) (by kernel_rfl) (by go_simp) ?_
        simp only [Act.put, gA9, gZ9, gC9, sA9, sZ9, sC9]
        refine wl_skip (by kernel_rfl) ?_
        simp only [Act.put, gA9, gZ9, gC9, sA9, sZ9, sC9]
        refine wl_skip (by kernel_rfl) ?_
        simp only [Act.put, gA9, gZ9, gC9, sA9, sZ9, sC9]
        refine wl_take (v := .bool false) (by kernel_rfl) (by go_simp) ?_
        simp only [Act.put, gA9, gZ9, gC9, sA9, sZ9, sC9]
        refine ⟨?_⟩
        go_wp2
        (try simp only [Exit.inBlock, Exit.then]); refine bodyPost_ret (results_tmp2 rfl _ _ _) rfl ?_
        exact ⟨rfl, rfl⟩
      | true =>
        cases g3 with
        | false =>
          clear hno
          have hn1 : 1 ≤ nI ∧ nI ≤ 16 := of_decide_eq_true Hb.out
          go_enter Try.func15, Try.ntmps15
          go_wp2_with (first | (refine wl_at 15 rfl ?_) | fail)
          refine wl_step (by kernel_rfl) fun K hK => ?_
          go_simp
          refine (H0.out _).mono ?_
          rintro e w2 ⟨rfl, rfl⟩
          refine hK _ _ ?_
          clear hK K
          try (simp only [Act.put, gA9, gZ9, gC9, sA9, sZ9, sC9])
          refine wl_take (v := .bool true) (by kernel_rfl) (by go_simp) ?_
          simp only [Act.put, gA9, gZ9, gC9, sA9, sZ9, sC9]
          refine wl_take (v := .int .i64 sI) (by kernel_rfl) (by go_simp) ?_
          simp only [Act.put, gA9, gZ9, gC9, sA9, sZ9, sC9]
          refine wl_take (v := .int .i64 nI) (by kernel_rfl) (by go_simp) ?_
          simp only [Act.put, gA9, gZ9, gC9, sA9, sZ9, sC9]
          refine wl_take (v := .int .i64 (nI - 1)) (by kernel_rfl) (by (go_simp; exact wrap_id (by omega) (by omega))) ?_
          simp only [Act.put, gA9, gZ9, gC9, sA9, sZ9, sC9]
          refine wl_step (by kernel_rfl) fun K hK => ?_
          go_simp
          refine (H1.out _).mono ?_
          rintro e w2 ⟨rfl, rfl⟩
          refine hK _ _ ?_
          clear hK K
          try (simp only [Act.put, gA9, gZ9, gC9, sA9, sZ9, sC9])
          refine wl_take (v := .bool true) (by kernel_rfl) (by go_simp) ?_
          simp only [Act.put, gA9, gZ9, gC9, sA9, sZ9, sC9]
          refine wl_take (v := .bool true) (by kernel_rfl) (by go_simp) ?_
          simp only [Act.put, gA9, gZ9, gC9, sA9, sZ9, sC9]
          refine wl_take (v := .int .i64 inc) (by kernel_rfl) (by go_simp) ?_
          simp only [Act.put, gA9, gZ9, gC9, sA9, sZ9, sC9]
          refine wl_step (by kernel_rfl) fun K hK => ?_
          go_simp
          refine (H2.out _).mono ?_
          rintro e w2 ⟨rfl, rfl⟩
          refine hK _ _ ?_
          clear hK K
          try (simp only [Act.put, gA9, gZ9, gC9, sA9, sZ9, sC9])
          refine wl_take (v := .bool true) (by kernel_rfl) (by go_simp) ?_
          simp only [Act.put, gA9, gZ9, gC9, sA9, sZ9, sC9]
          refine wl_take (v := .bool true) (by kernel_rfl) (by go_simp) ?_
          simp only [Act.put, gA9, gZ9, gC9, sA9, sZ9, sC9]
          refine wl_take (v := .int .i64 fl) (by kernel_rfl) (by go_simp) ?_
          simp only [Act.put, gA9, gZ9, gC9, sA9, sZ9, sC9]
          refine wl_step (by kernel_rfl) fun K hK => ?_
          go_simp
          refine (H3.out _).mono ?_
          rintro e w2 ⟨rfl, rfl⟩
          refine hK _ _ ?_
          clear hK K
          try (simp only [Act.put, gA9, gZ9, gC9, sA9, sZ9, sC9])
          refine wl_take (v := .bool false) (by kernel_rfl) (by go_simp) ?_
          simp only [Act.put, gA9, gZ9, gC9, sA9, sZ9, sC9]
          refine ⟨?_⟩
          go_wp2
          (try simp only [Exit.inBlock, Exit.then]); refine bodyPost_ret (results_tmp2 rfl _ _ _) rfl ?_
          exact ⟨rfl, rfl⟩
        | true =>
          cases hno
def P0 (fl : Int) : Pp := ⟨zs, fl, 0, fl, [0, 0, 0, 0], zs⟩
def Pz : Pp := ⟨zs, 0, 0, 0, [0, 0, 0, 0], zs⟩
def A0 (b n s : Nat) (fl : Int) : Ag := ⟨b, n, s, P0 fl, fun _ => Pz, [0, 0, 0, 0], .slice none 0 0, 0, [], false⟩
theorem built_p0 (fl : Int) : Try.prog.built 63 [(1, .int .i64 fl), (3, .int .i64 fl)] = some (ints (P0 fl).fl).toArray := by kernel_rfl
theorem built_a0 (b n s : Nat) (fl : Int) : Try.prog.built 66 [(0, .int .i64 (n : Int)), (1, .int .i64 (s : Int)), (2, .agg (ints (P0 fl).fl).toArray)] = some ((List.range 671).map (A0 b n s fl).at).toArray := by kernel_rfl
theorem a0_ok (b n s : Nat) (fl : Int) (h16 : 1 ≤ n ∧ n ≤ 16 ∧ s < n) (hf : 0 ≤ fl ∧ fl ≤ T) (hT : T ≤ 4611686018427387904) (hb : w.heap[b]? = some (.cells ((List.range 671).map (A0 b n s fl).at).toArray 66 (0, 0))) (hB : B ≤ b) : (A0 b n s fl).Ok w B T := by
  refine ⟨⟨_, hb, by simp, fun i hi => by simp [hi]⟩, h16, ⟨rfl, rfl, rfl⟩, fun _ => ⟨rfl, rfl, rfl⟩, rfl, hB, ⟨rfl, .inl ⟨rfl, rfl⟩⟩, ⟨rfl, Nat.zero_le _⟩, ⟨hf.1, by show fl ≤ _; omega⟩, ⟨by show (0 : Int) ≤ 0; omega, by show (0 : Int) ≤ _; omega⟩, ⟨hf.1, hf.2⟩, ⟨by show (0 : Int) ≤ 0; omega, by show (0 : Int) ≤ _; omega⟩, fun _ => ⟨by show (0 : Int) ≤ 0; omega, by show (0 : Int) ≤ _; omega⟩⟩
end
end Go.Proofs.Ytdegjhkjmgimpaa.Mb
namespace Go.Proofs.Ytdegjhkjmgimpaa.Mb
open Go.RowKit
set_option linter.unusedVariables false
set_option maxRecDepth 100000
set_option linter.unusedSimpArgs false
section
variable {A A' : Ag} {w w' W : World} {B : Nat} {T : Int}
theorem built_eq {t : TypeId} {l l' : List (Nat × Value)} {c : Array Value} (e : l = l') (h : Try.prog.built t l' = some c) : Try.prog.built t l = some c := e ▸ h
set_option maxHeartbeats 2000000 in
theorem new_run (n s : Nat) (inc fl : Int) (h16 : 1 ≤ n ∧ n ≤ 16 ∧ s < n) (hok : newOk n s inc fl = true) (hf : 0 ≤ fl ∧ fl ≤ T) (hT : T ≤ 4611686018427387904) (hT2 : 4611686018427387903 ≤ T) : Calls Try.prog 15 #[.int .i64 n, .int .i64 s, .int .i64 inc, .int .i64 fl] w fun e w' => e = .returned (.tuple #[.pointer (if (A0 w.heap.size n s fl).begE (zs.set s inc) = 0 then some ⟨w.heap.size, 0, none⟩ else none), .int .i64 ((A0 w.heap.size n s fl).begE (zs.set s inc))]) ∧ ((A0 w.heap.size n s fl).begA (zs.set s inc)).Ok w' w.heap.size T ∧ Below w.heap.size w w' := by
  obtain ⟨nI, hnI⟩ : ∃ nI : Int, (n : Int) = nI := ⟨_, rfl⟩
  have hn1 : 1 ≤ nI ∧ nI ≤ 16 := by omega
  have i1 : (0 : Int) ≤ (s : Int) := Int.natCast_nonneg _
  have i2 : (s : Int) < 16 := by omega
  have hCA := built_a0 w.heap.size n s fl
  have hCP := built_p0 fl
  have hA := fun W h => a0_ok (w := W) (B := w.heap.size) (T := T) w.heap.size n s fl h16 hf hT h (Nat.le_refl _)
  rw [hnI] at hCA
  unfold newOk at hok
  rw [hnI] at hok
  simp only [Bool.and_eq_true] at hok
  obtain ⟨⟨⟨hg0, hg1⟩, hg2⟩, hg3⟩ := hok
  have H0 : Hid (∀ W, Calls Try.prog 26 #[.int .i64 nI, .int .i64 1, .int .i64 16] W fun e w' => e = .returned (.bool true) ∧ W = w') := fun W => hg0 ▸ within_w _ _ _
  have H1 : Hid (∀ W, Calls Try.prog 26 #[.int .i64 (s : Int), .int .i64 0, .int .i64 (nI - 1)] W fun e w' => e = .returned (.bool true) ∧ W = w') := fun W => hg1 ▸ within_w _ _ _
  have H2 : Hid (∀ W, Calls Try.prog 26 #[.int .i64 inc, .int .i64 1, .int .i64 4611686018427387904] W fun e w' => e = .returned (.bool true) ∧ W = w') := fun W => hg2 ▸ within_w _ _ _
  have H3 : Hid (∀ W, Calls Try.prog 26 #[.int .i64 fl, .int .i64 0, .int .i64 4611686018427387904] W fun e w' => e = .returned (.bool true) ∧ W = w') := fun W => hg3 ▸ within_w _ _ _
  generalize ((List.range 671).map (A0 w.heap.size n s fl).at).toArray = CA at *
  generalize (ints (P0 fl).fl).toArray = CP at *
  have HCA : Hid (Try.prog.built 66 [(0, .int .i64 nI), (1, .int .i64 (s : Int)), (2, .agg CP)] = some CA) := hCA
  have HCP : Hid (Try.prog.built 63 [(1, .int .i64 fl), (3, .int .i64 fl)] = some CP) := hCP
  have HA : Hid (∀ W : World, W.heap[w.heap.size]? = some (.cells CA 66 (0, 0)) → (A0 w.heap.size n s fl).Ok W w.heap.size T) := hA
  rw [hnI]
  clear hCA hCP hA hg0 hg1 hg2 hg3 hnI
  generalize hW1 : w.alloc (.cells CA 66) = W1
  generalize hW2 : W1.alloc (.cells #[.int .i64 0, .int .i64 0, .int .i64 0, .int .i64 0, .int .i64 0, .int .i64 0, .int .i64 0, .int .i64 0, .int .i64 0, .int .i64 0, .int .i64 0, .int .i64 0, .int .i64 0, .int .i64 0, .int .i64 0, .int .i64 0] 61) = W2
  have b1 : Below w.heap.size w W1 := hW1 ▸ balloc (Below.refl _ _)
  have b2 : Below W1.heap.size W1 W2 := hW2 ▸ balloc (Below.refl _ _)
  have k1 : W1.heap[w.heap.size]? = some (.cells CA 66 (0, 0)) := by rw [← hW1]; exact heap_alloc_new w _
  have k2 : Rw W2 W1.heap.size 61 zs := by unfold Rw; rw [← hW2]; exact heap_alloc_new W1 _
  have hA2 := (HA.out W1 k1).still b2
  have hlt : w.heap.size < W1.heap.size := lt_heap k1
  have d0 := k2.cell (i := s) (by show s < 16; omega)
  have d1 := k2.fz s
  have hV := k2.set s inc
  have bV := bset (bstep b1 b2) (Nat.le_of_lt hlt) s (.int .i64 inc)
  have hAV := hA2.keep (kset (P := fun j => j = W1.heap.size) W2 W1.heap.size s (.int .i64 inc) rfl) (fun e => by have : w.heap.size = W1.heap.size := e; omega) (fun g hg e => by cases hg)
  have hl : (zs.set s inc).length = 16 := by rw [List.length_set]; rfl
  have HV : Hid (Rw (W2.setCell ⟨W1.heap.size, s, none⟩ (.int .i64 inc)) W1.heap.size 61 (zs.set s inc)) := hV
  have HBg : Hid (Calls Try.prog 21 #[.pointer (some ⟨w.heap.size, 0, none⟩), .agg (ints (zs.set s inc)).toArray] (W2.setCell ⟨W1.heap.size, s, none⟩ (.int .i64 inc)) fun e w' => e = .returned (.int .i64 ((A0 w.heap.size n s fl).begE (zs.set s inc))) ∧ ((A0 w.heap.size n s fl).begA (zs.set s inc)).Ok w' w.heap.size T ∧ Kept (W2.setCell ⟨W1.heap.size, s, none⟩ (.int .i64 inc)) w' (fun j => j = w.heap.size)) := begin_any hAV hT2 _ hl
  have HBV : Hid (Below w.heap.size w (W2.setCell ⟨W1.heap.size, s, none⟩ (.int .i64 inc))) := bV
  have Hl : Hid ((zs.set s inc).length = 16) := hl
  generalize (A0 w.heap.size n s fl).begE (zs.set s inc) = E at *
  obtain ⟨pv, hpv⟩ : ∃ pv : Option Addr, (if E = 0 then some ⟨w.heap.size, 0, none⟩ else none) = pv := ⟨_, rfl⟩
  rw [hpv]
  have HP : Hid ((if E = 0 then some (⟨w.heap.size, 0, none⟩ : Addr) else none) = pv) := hpv
  clear b1 b2 k1 k2 hA2 hV bV hAV hl HA hpv
  go_enter Try.func15, Try.ntmps15
  go_wp2_with (first | (refine wl_at 15 rfl ?_) | fail)
  refine wl_step (by kernel_rfl) fun K hK => ?_
  go_simp
  refine (H0.out _).mono ?_
  rintro e w2 ⟨rfl, rfl⟩
  refine hK _ _ ?_
  clear hK K
  try (simp only [Act.put, gA9, gZ9, gC9, sA9, sZ9, sC9])
  refine wl_take (v := .bool true) (by kernel_rfl) (by go_simp) ?_
  simp only [Act.put, gA9, gZ9, gC9, sA9, sZ9, sC9]
  refine wl_take (v := .int .i64 (s : Int)) (by kernel_rfl) (by go_simp) ?_
  simp only [Act.put, gA9, gZ9, gC9, sA9, sZ9, sC9]
  refine wl_take (v := .int .i64 nI) (by kernel_rfl) (by go_simp) ?_
  simp only [Act.put, gA9, gZ9, gC9, sA9, sZ9, sC9]
  refine wl_take (v := .int .i64 (nI - 1)) (by kernel_rfl) (by (go_simp; exact wrap_id (by omega) (by omega))) ?_
  simp only [Act.put, gA9, gZ9, gC9, sA9, sZ9, sC9]
  refine wl_step (by kernel_rfl) fun K hK => ?_
  go_simp
  refine (H1.out _).mono ?_
  rintro e w2 ⟨rfl, rfl⟩
  refine hK _ _ ?_
  clear hK K
  try (simp only [Act.put, gA9, gZ9, gC9, sA9, sZ9, sC9])
  refine wl_take (v := .bool true) (by kernel_rfl) (by go_simp) ?_
  simp only [Act.put, gA9, gZ9, gC9, sA9, sZ9, sC9]
  refine wl_take (v := .bool true) (by kernel_rfl) (by go_simp) ?_
  simp only [Act.put, gA9, gZ9, gC9, sA9, sZ9, sC9]
  refine wl_take (v := .int .i64 inc) (by kernel_rfl) (by go_simp) ?_
  simp only [Act.put, gA9, gZ9, gC9, sA9, sZ9, sC9]
  refine wl_step (by kernel_rfl) fun K hK => ?_
  go_simp
  refine (H2.out _).mono ?_
  rintro e w2 ⟨rfl, rfl⟩
  refine hK _ _ ?_
  clear hK K
  try (simp only [Act.put, gA9, gZ9, gC9, sA9, sZ9, sC9])
  refine wl_take (v := .bool true) (by kernel_rfl) (by go_simp) ?_
  simp only [Act.put, gA9, gZ9, gC9, sA9, sZ9, sC9]
  refine wl_take (v := .bool true) (by kernel_rfl) (by go_simp) ?_
  simp only [Act.put, gA9, gZ9, gC9, sA9, sZ9, sC9]
  refine wl_take (v := .int .i64 fl) (by kernel_rfl) (by go_simp) ?_
  simp only [Act.put, gA9, gZ9, gC9, sA9, sZ9, sC9]
  refine wl_step (by kernel_rfl) fun K hK => ?_
  go_simp
  refine (H3.out _).mono ?_
  rintro e w2 ⟨rfl, rfl⟩
  refine hK _ _ ?_
  clear hK K
  try (simp only [Act.put, gA9, gZ9, gC9, sA9, sZ9, sC9])
  refine wl_take (v := .bool true) (by kernel_rfl) (by go_simp) ?_
  simp only [Act.put, gA9, gZ9, gC9, sA9, sZ9, sC9]
  refine ⟨?_⟩
  go_wp2_with (first | (refine wl_at 36 rfl ?_) | fail)
  refine wl_take (v := .agg CP) (by kernel_rfl) (by exact run_buildop 63 _ rfl _ (built_eq (by kernel_rfl) HCP.out)) ?_
  simp only [Act.put, gA9, gZ9, gC9, sA9, sZ9, sC9]
  refine wl_take (v := .agg CA) (by kernel_rfl) (by exact run_buildop 66 _ rfl _ (built_eq (by kernel_rfl) HCA.out)) ?_
  simp only [Act.put, gA9, gZ9, gC9, sA9, sZ9, sC9]
  refine ⟨?_⟩
  by_cases hE : E = 0
  · obtain rfl : pv = some ⟨w.heap.size, 0, none⟩ := by rw [← HP.out, if_pos hE]
    subst hE
    go_wp2_with (first
      | (go_at_call 21; refine HBg.out.mono ?_; rintro e w3 ⟨rfl, hO, hK⟩)
      | (refine load_mid 61 (.tmp 12) HV.out.all _ Try.underlying61 rfl (by rw [ints_len, Hl.out]; exact info_row) rfl rfl rfl ?_)
      | fail)
    (try simp only [Exit.inBlock, Exit.then]); refine bodyPost_ret (results_tmp2 rfl _ _ _) rfl ?_
    exact ⟨rfl, hO, bstepK HBV.out hK (fun j hj e => by omega)⟩
  · obtain rfl : pv = none := by rw [← HP.out, if_neg hE]
    have hE2 : (E != 0) = true := by simpa using hE
    go_wp2_with (first
      | (go_at_call 21; refine HBg.out.mono ?_; rintro e w3 ⟨rfl, hO, hK⟩)
      | (refine load_mid 61 (.tmp 12) HV.out.all _ Try.underlying61 rfl (by rw [ints_len, Hl.out]; exact info_row) rfl rfl rfl ?_)
      | fail)
    (try simp only [Exit.inBlock, Exit.then]); refine bodyPost_ret (results_tmp2 rfl _ _ _) rfl ?_
    exact ⟨rfl, hO, bstepK HBV.out hK (fun j hj e => by omega)⟩
end
end Go.Proofs.Ytdegjhkjmgimpaa.Mb
