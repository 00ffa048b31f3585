import Derived.Test.YtbdefhagpgpoiacQ00
import Derived.Test.YtbdefhagpgpoiacQ09
import Derived.Test.YtbdefhagpgpoiacQ05
import Derived.Test.YtbdefhagpgpoiacQ08
import Derived.Test.YtbdefhagpgpoiacQ06
import Derived.Test.YtbdefhagpgpoiacQ10
import Derived.Test.YtbdefhagpgpoiacQ11
import Derived.Test.YtbdefhagpgpoiacQ12
namespace Go.Proofs.Ytbdefhagpgpoiac.Mb
open Go.RowKit
set_option linter.unusedVariables false
set_option maxRecDepth 100000
set_option linter.unusedSimpArgs false
theorem wpList_make_cap {P : Program} (w : World) {ops : Array Oper} {rest : List Oper} {o : Oper} {a : Act} {Q : Exit → Act → World → Prop}
    (hg : o.guard = none) (l c : Operand) (t : TypeId) (hop : o.op = Op.makeSlice t l c)
    (e : TypeId) (i : TypeInfo) (z : Value) (h1 : P.underlying t = some (.slice e)) (h2 : P.info? e = some i) (h3 : i.zero = some z) (h4 : i.size = 1) (h5 : z.cells = #[z]) (bytes : Nat) (h6 : i.bytes = bytes)
    (kl kc : IntKind) (L C : Int) (n m : Nat) (hl : a.eval l = .int kl L) (hc : a.eval c = .int kc C) (hL : L = (n : Int)) (hC : C = (m : Int)) (hnm : n ≤ m) (b2 : bytes * m ≤ 281474976710656) (b3 : m ≤ 9223372036854775807)
    (hK : ∀ w', Hid (w'.heap[w.heap.size]? = some (.cells (List.replicate m z).toArray e (0, 0))) → w'.heap.size = w.heap.size + 1 → Below w.heap.size w w' → wpList P ops Q rest (a.put o.dst (.slice (some ⟨w.heap.size, 0, none⟩) n m)) w') :
    wpList P ops Q (o :: rest) a w := by
  refine wpList_plain hg fun K hK' => ?_
  subst h6
  have hrun := run_make (P := P) w t e i z h1 h2 h3 kl kc L C (by omega) (by omega) (by rw [hC, show (i.bytes : Int) * (m : Int) = ((i.bytes * m : Nat) : Int) from by push_cast; rfl]; omega) (by omega)
  have hm : madeCells z.cells (C.toNat * i.size) = (List.replicate m z).toArray := by
    rw [h5, h4, hC]
    simp only [Int.toNat_natCast, Nat.mul_one]
    rw [← toList_madeCells_one, Array.toArray_toList]
  rw [hm] at hrun
  have hLn : L.toNat = n := by omega
  have hCn : C.toNat = m := by omega
  rw [hLn, hCn] at hrun
  unfold Oper.wp
  simp [execOp, hop, hl, hc, hrun, Result.andThen]
  exact hK' _ _ (hK _ (heap_alloc_new w _) (by simp) ((Below.refl _ _).alloc (Nat.le_refl _) _))
theorem info_i : (Try.prog.info? 3).map (fun i => (i.zero, i.size, i.bytes)) = some (some (.int .i64 0), 1, 8) := by kernel_rfl
theorem size_i : (Try.prog.info? 3).map (·.size) = some 1 := by kernel_rfl
section
variable {A A' : Ag} {w w' W : World} {B : Nat} {T : Int}
theorem take_cell {k n : Nat} {r : List Int} {t : Nat} {j : Nat} {v : Value} (h : Rw w k t r) (hv : (ints (r.take n))[j]? = some v) : w.cell? ⟨k, j, none⟩ = some v := by
  have hj : j < (r.take n).length := by have := (List.getElem?_eq_some_iff.1 hv).1; rwa [ints_len] at this
  have hj2 : j < r.length := by rw [List.length_take] at hj; omega
  rw [h.cell hj2]
  rw [ints_at _ _ hj] at hv
  rw [← hv]
  have hjn : j < n := by rw [List.length_take] at hj; omega
  simp [List.getD, List.getElem?_take, hjn]
theorem changing_any (h : A.Ok w B T) : Calls Try.prog 30 #[.pointer (some ⟨A.b, 0, none⟩)] w fun e w' => e = .returned (.bool A.chg) ∧ w = w' := by
  have c0 := h.c670
  clear h
  go_enter Try.func30, Try.ntmps30
  go_wp2
  go_ret
  exact ⟨rfl, rfl⟩
set_option maxHeartbeats 1000000 in
theorem list_any (r : List Int) (hr : r.length = 16) (n : Nat) (hn : n ≤ 16) : Calls Try.prog 44 #[.agg (ints r).toArray, .int .i64 n] w fun e w' => ∃ g, e = .returned (.slice (some ⟨g, 0, none⟩) n n) ∧ w.heap.size ≤ g ∧ Rw w' g 3 (r.take n) ∧ Below w.heap.size w w' := by
  obtain ⟨i0, hi, hz0, hz1, hz2⟩ := info_parts info_i
  generalize hW1 : w.alloc (.cells (ints r).toArray 45) = W1
  have b1 : Below w.heap.size w W1 := hW1 ▸ balloc (Below.refl _ _)
  have k1 : Rw W1 w.heap.size 45 r := by unfold Rw; rw [← hW1]; exact heap_alloc_new w _
  have HB1 : Hid (Below w.heap.size w W1) := b1
  have HK1 : Hid (Rw W1 w.heap.size 45 r) := k1
  have hl : (ints (r.take n)).length = n := by rw [ints_len, List.length_take, hr]; omega
  have HX1 : Hid (∀ v ∈ ints (r.take n), v.oneCell' = true) := ints_one _
  have Hm : Hid ((ints (r.take n)).length = Nat.min 16 n) := by show _ = _; rw [hl]; show n = min 16 n; omega
  have Hl : Hid ((ints (r.take n)).length = n) := hl
  have Hr : Hid (r.length = 16) := hr
  clear b1 k1 hl hr
  go_enter Try.func44, Try.ntmps44
  go_wp2_with (first
    | (at_make; refine wpList_make_cap _ rfl _ _ 36 rfl 3 i0 (.int .i64 0) Try.underlying36 hi hz0 hz1 rfl 8 hz2 .i64 .i64 _ _ n n rfl rfl rfl rfl (Nat.le_refl _) (by omega) (by omega) ?_; intro W2 hW hWs hWb; have HB2 : Hid (Below W1.heap.size W1 W2) := hWb; have HK2 : Hid (W2.heap[W1.heap.size]? = some (.cells (List.replicate n (.int .i64 0)).toArray 3 (0, 0))) := hW.out; have Hsz : Hid (W2.heap.size = W1.heap.size + 1) := hWs; clear hW hWs hWb; have HS : Hid (0 < (ints (r.take n)).length → (some (⟨W1.heap.size, 0, none⟩ : Addr)) = some ⟨W1.heap.size, 0, none⟩ ∧ ∃ ad, (some (⟨w.heap.size, 0, none⟩ : Addr)) = some ad ∧ ∀ j v, (ints (r.take n))[j]? = some v → W2.cell? (ad.add j) = some v) := (fun _ => ⟨rfl, _, rfl, fun j v hv => by rw [Addr.add_mid, Nat.zero_add]; exact take_cell (HK1.out.still HB2.out) hv⟩))
    | (refine wpList_copy_splice rfl _ _ 36 36 rfl 3 Try.underlying36 size_i _ _ n n 16 16 rfl rfl W1.heap.size 0 (List.replicate n (.int .i64 0)) 3 HK2.out (ints (r.take n)) Hm.out HS.out (by rw [Hl.out]; simp) HX1.out W1.heap.size W1 HB2.out (Nat.le_refl _) ?_; intro W3 hg3 hb3; have HB3 : Hid (Below W1.heap.size W1 W3) := hb3; clear hb3)
    | fail)
  go_ret
  refine ⟨_, rfl, HB1.out.size, ?_, bstep HB1.out HB3.out⟩
  have := hg3.out
  unfold Rw
  rw [this]
  congr 2
  unfold splice
  rw [Hl.out]
  simp
set_option maxHeartbeats 400000 in
theorem run_buildop {o : Oper} {ρ : Operand → Value} {w : World} (t : TypeId) (parts : Array (Nat × Operand)) (ho : o.op = .build t parts) (cells : Array Value) (h : Try.prog.built t (parts.map fun (i, x) => (i, ρ x)).toList = some cells) : (execOp ρ o).run Try.prog w = .ok (.value (.agg cells)) w := by
  unfold execOp
  simp only [ho, Sem.run_bind, run_build w t _ cells h, Result.andThen_ok, Sem.run_pure]
end
end Go.Proofs.Ytbdefhagpgpoiac.Mb
namespace Go.Proofs.Ytbdefhagpgpoiac.Mb
open Go.RowKit
set_option linter.unusedVariables false
set_option maxRecDepth 100000
set_option linter.unusedSimpArgs false
section
variable {A A' : Ag} {w w' W : World} {B : Nat} {T : Int}
theorem wl_at {ops : Array Oper} {rest : List Oper} {o : Oper} {a : Act} {Q : Exit → Act → World → Prop} (d : Nat) (hd : o.dst = some d) (h : WpL ops Q (o :: rest) a w) : wpList Try.prog ops Q (o :: rest) a w := h.out
def newOk (n s inc fl : Int) : Bool := wB n 1 16 && wB s 0 (n - 1) && wB inc 1 4611686018427387904 && wB fl 0 4611686018427387904
set_option maxHeartbeats 2000000 in
theorem new_no (nI sI inc fl : Int) (hn : -9223372036854775808 ≤ nI ∧ nI ≤ 9223372036854775807) (hno : newOk nI sI inc fl = false) : Calls Try.prog 5 #[.int .i64 nI, .int .i64 sI, .int .i64 inc, .int .i64 fl] w fun e w' => e = .returned (.tuple #[.pointer none, .int .i64 1]) ∧ w = w' := by
  unfold newOk at hno
  obtain ⟨g0, hg0⟩ : ∃ g0, wB nI 1 16 = g0 := ⟨_, rfl⟩
  obtain ⟨g1, hg1⟩ : ∃ g0, wB sI 0 (nI - 1) = g0 := ⟨_, rfl⟩
  obtain ⟨g2, hg2⟩ : ∃ g0, wB inc 1 4611686018427387904 = g0 := ⟨_, rfl⟩
  obtain ⟨g3, hg3⟩ : ∃ g0, wB fl 0 4611686018427387904 = g0 := ⟨_, rfl⟩
  have Hb : Hid (wB nI 1 16 = g0) := hg0
  have H0 : Hid (∀ W, Calls Try.prog 9 #[.int .i64 nI, .int .i64 1, .int .i64 16] W fun e w' => e = .returned (.bool g0) ∧ W = w') := fun W => hg0 ▸ within_w _ _ _
  have H1 : Hid (∀ W, Calls Try.prog 9 #[.int .i64 sI, .int .i64 0, .int .i64 (nI - 1)] W fun e w' => e = .returned (.bool g1) ∧ W = w') := fun W => hg1 ▸ within_w _ _ _
  have H2 : Hid (∀ W, Calls Try.prog 9 #[.int .i64 inc, .int .i64 1, .int .i64 4611686018427387904] W fun e w' => e = .returned (.bool g2) ∧ W = w') := fun W => hg2 ▸ within_w _ _ _
  have H3 : Hid (∀ W, Calls Try.prog 9 #[.int .i64 fl, .int .i64 0, .int .i64 4611686018427387904] W fun e w' => e = .returned (.bool g3) ∧ W = w') := fun W => hg3 ▸ within_w _ _ _
  rw [hg0, hg1, hg2, hg3] at hno
  clear hg0 hg1 hg2 hg3
  cases g0 with
  | false =>
    clear hno
    go_enter Try.func5, Try.ntmps5
    go_wp2_with (first | (refine wl_at 15 rfl ?_) | fail)
    refine wl_step (by kernel_rfl) fun K hK => ?_
    go_simp
    refine (H0.out _).mono ?_
    rintro e w2 ⟨rfl, rfl⟩
    refine hK _ _ ?_
    clear hK K
    try (simp only [Act.put, gA, gB, gC, gD, gE, gF])
    refine wlT (.bool false) ?_
    simp only [Act.put, gA, gB, gC, gD, gE, gF]
    refine wlS ?_
    simp only [Act.put, gA, gB, gC, gD, gE, gF]
    refine wlS ?_
    simp only [Act.put, gA, gB, gC, gD, gE, gF]
    refine wlS ?_
    simp only [Act.put, gA, gB, gC, gD, gE, gF]
    refine wlS ?_
    simp only [Act.put, gA, gB, gC, gD, gE, gF]
    refine wlT (.bool false) ?_
    simp only [Act.put, gA, gB, gC, gD, gE, gF]
    refine wlT (.bool false) ?_
    simp only [Act.put, gA, gB, gC, gD, gE, gF]
    refine wlS ?_
    simp only [Act.put, gA, gB, gC, gD, gE, gF]
    refine wlS ?_
    simp only [Act.put, gA, gB, gC, gD, gE, gF]
    refine wlT (.bool false) ?_
    simp only [Act.put, gA, gB, gC, gD, gE, gF]
    refine wlT (.bool false) ?_
    simp only [Act.put, gA, gB, gC, gD, gE, gF]
    refine wlS ?_
    simp only [Act.put, gA, gB, gC, gD, gE, gF]
    refine wlS ?_
    simp only [Act.put, gA, gB, gC, gD, gE, gF]
    refine wlT (.bool false) ?_
    simp only [Act.put, gA, gB, gC, gD, gE, gF]
    refine ⟨?_⟩
    go_wp2
    (try simp only [Exit.inBlock, Exit.then]); refine bodyPost_ret (results_tmp2 rfl _ _ _) rfl ?_
    exact ⟨rfl, rfl⟩
  | true =>
    cases g1 with
    | false =>
      clear hno
      have hn1 : 1 ≤ nI ∧ nI ≤ 16 := of_decide_eq_true Hb.out
      go_enter Try.func5, Try.ntmps5
      go_wp2_with (first | (refine wl_at 15 rfl ?_) | fail)
      refine wl_step (by kernel_rfl) fun K hK => ?_
      go_simp
      refine (H0.out _).mono ?_
      rintro e w2 ⟨rfl, rfl⟩
      refine hK _ _ ?_
      clear hK K
      try (simp only [Act.put, gA, gB, gC, gD, gE, gF])
      refine wlT (.bool true) ?_
      simp only [Act.put, gA, gB, gC, gD, gE, gF]
      refine wlT (.int .i64 sI) ?_
      simp only [Act.put, gA, gB, gC, gD, gE, gF]
      refine wlT (.int .i64 nI) ?_
      simp only [Act.put, gA, gB, gC, gD, gE, gF]
      refine wl_take (v := .int .i64 (nI - 1)) (by kernel_rfl) (by (go_simp; exact wrap_id (by omega) (by omega))) ?_
      simp only [Act.put, gA, gB, gC, gD, gE, gF]
      refine wl_step (by kernel_rfl) fun K hK => ?_
      go_simp
      refine (H1.out _).mono ?_
      rintro e w2 ⟨rfl, rfl⟩
      refine hK _ _ ?_
      clear hK K
      try (simp only [Act.put, gA, gB, gC, gD, gE, gF])
      refine wlT (.bool false) ?_
      simp only [Act.put, gA, gB, gC, gD, gE, gF]
      refine wlT (.bool false) ?_
      simp only [Act.put, gA, gB, gC, gD, gE, gF]
      refine wlS ?_
      simp only [Act.put, gA, gB, gC, gD, gE, gF]
      refine wlS ?_
      simp only [Act.put, gA, gB, gC, gD, gE, gF]
      refine wlT (.bool false) ?_
      simp only [Act.put, gA, gB, gC, gD, gE, gF]
      refine wlT (.bool false) ?_
      simp only [Act.put, gA, gB, gC, gD, gE, gF]
      refine wlS ?_
      simp only [Act.put, gA, gB, gC, gD, gE, gF]
      refine wlS ?_
      simp only [Act.put, gA, gB, gC, gD, gE, gF]
      refine wlT (.bool false) ?_
      simp only [Act.put, gA, gB, gC, gD, gE, gF]
      refine ⟨?_⟩
      go_wp2
      (try simp only [Exit.inBlock, Exit.then]); refine bodyPost_ret (results_tmp2 rfl _ _ _) rfl ?_
      exact ⟨rfl, rfl⟩
    | true =>
      cases g2 with
      | false =>
        clear hno
        have hn1 : 1 ≤ nI ∧ nI ≤ 16 := of_decide_eq_true Hb.out
        go_enter Try.func5, Try.ntmps5
        go_wp2_with (first | (refine wl_at 15 rfl ?_) | fail)
        refine wl_step (by kernel_rfl) fun K hK => ?_
        go_simp
        refine (H0.out _).mono ?_
        rintro e w2 ⟨rfl, rfl⟩
        refine hK _ _ ?_
        clear hK K
        try (simp only [Act.put, gA, gB, gC, gD, gE, gF])
        refine wlT (.bool true) ?_
        simp only [Act.put, gA, gB, gC, gD, gE, gF]
        refine wlT (.int .i64 sI) ?_
        simp only [Act.put, gA, gB, gC, gD, gE, gF]
        refine wlT (.int .i64 nI) ?_
        simp only [Act.put, gA, gB, gC, gD, gE, gF]
        refine wl_take (v := .int .i64 (nI - 1)) (by kernel_rfl) (by (go_simp; exact wrap_id (by omega) (by omega))) ?_
        simp only [Act.put, gA, gB, gC, gD, gE, gF]
        refine wl_step (by kernel_rfl) fun K hK => ?_
        go_simp
        refine (H1.out _).mono ?_
        rintro e w2 ⟨rfl, rfl⟩
        refine hK _ _ ?_
        clear hK K
        try (simp only [Act.put, gA, gB, gC, gD, gE, gF])
        refine wlT (.bool true) ?_
        simp only [Act.put, gA, gB, gC, gD, gE, gF]
        refine wlT (.bool true) ?_
        simp only [Act.put, gA, gB, gC, gD, gE, gF]
        refine wlT (.int .i64 inc) ?_
        simp only [Act.put, gA, gB, gC, gD, gE, gF]
        refine wl_step (by kernel_rfl) fun K hK => ?_
        go_simp
        refine (H2.out _).mono ?_
        rintro e w2 ⟨rfl, rfl⟩
        refine hK _ _ ?_
        clear hK K
        try (simp only [Act.put, gA, gB, gC, gD, gE, gF])
        refine wlT (.bool false) ?_
        simp only [Act.put, gA, gB, gC, gD, gE, gF]
        refine wlT (.bool false) ?_
        simp only [Act.put, gA, gB, gC, gD, gE, gF]
        refine wlS ?_
        simp only [Act.put, gA, gB, gC, gD, gE, gF]
        refine wlS ?_
        simp only [Act.put, gA, gB, gC, gD, gE, gF]
        refine wlT (.bool false) ?_
        simp only [Act.put, gA, gB, gC, gD, gE, gF]
        refine ⟨?_⟩
        go_wp2
        (try simp only [Exit.inBlock, Exit.then]); refine bodyPost_ret (results_tmp2 rfl _ _ _) rfl ?_
        exact ⟨rfl, rfl⟩
      | true =>
        cases g3 with
        | false =>
          clear hno
          have hn1 : 1 ≤ nI ∧ nI ≤ 16 := of_decide_eq_true Hb.out
          go_enter Try.func5, Try.ntmps5
          go_wp2_with (first | (refine wl_at 15 rfl ?_) | fail)
          refine wl_step (by kernel_rfl) fun K hK => ?_
          go_simp
          refine (H0.out _).mono ?_
          rintro e w2 ⟨rfl, rfl⟩
          refine hK _ _ ?_
          clear hK K
          try (simp only [Act.put, gA, gB, gC, gD, gE, gF])
          refine wlT (.bool true) ?_
          simp only [Act.put, gA, gB, gC, gD, gE, gF]
          refine wlT (.int .i64 sI) ?_
          simp only [Act.put, gA, gB, gC, gD, gE, gF]
          refine wlT (.int .i64 nI) ?_
          simp only [Act.put, gA, gB, gC, gD, gE, gF]
          refine wl_take (v := .int .i64 (nI - 1)) (by kernel_rfl) (by (go_simp; exact wrap_id (by omega) (by omega))) ?_
          simp only [Act.put, gA, gB, gC, gD, gE, gF]
          refine wl_step (by kernel_rfl) fun K hK => ?_
          go_simp
          refine (H1.out _).mono ?_
          rintro e w2 ⟨rfl, rfl⟩
          refine hK _ _ ?_
          clear hK K
          try (simp only [Act.put, gA, gB, gC, gD, gE, gF])
          refine wlT (.bool true) ?_
          simp only [Act.put, gA, gB, gC, gD, gE, gF]
          refine wlT (.bool true) ?_
          simp only [Act.put, gA, gB, gC, gD, gE, gF]
          refine wlT (.int .i64 inc) ?_
          simp only [Act.put, gA, gB, gC, gD, gE, gF]
          refine wl_step (by kernel_rfl) fun K hK => ?_
          go_simp
          refine (H2.out _).mono ?_
          rintro e w2 ⟨rfl, rfl⟩
          refine hK _ _ ?_
          clear hK K
          try (simp only [Act.put, gA, gB, gC, gD, gE, gF])
          refine wlT (.bool true) ?_
          simp only [Act.put, gA, gB, gC, gD, gE, gF]
          refine wlT (.bool true) ?_
          simp only [Act.put, gA, gB, gC, gD, gE, gF]
          refine wlT (.int .i64 fl) ?_
          simp only [Act.put, gA, gB, gC, gD, gE, gF]
          refine wl_step (by kernel_rfl) fun K hK => ?_
          go_simp
          refine (H3.out _).mono ?_
          rintro e w2 ⟨rfl, rfl⟩
          refine hK _ _ ?_
          clear hK K
          try (simp only [Act.put, gA, gB, gC, gD, gE, gF])
          refine wlT (.bool false) ?_
          simp only [Act.put, gA, gB, gC, gD, gE, gF]
          refine ⟨?_⟩
          go_wp2
          (try simp only [Exit.inBlock, Exit.then]); refine bodyPost_ret (results_tmp2 rfl _ _ _) rfl ?_
          exact ⟨rfl, rfl⟩
        | true =>
          cases hno
def P0 (fl : Int) : Pp := ⟨zs, fl, 0, fl, [0, 0, 0, 0], zs⟩
def Pz : Pp := ⟨zs, 0, 0, 0, [0, 0, 0, 0], zs⟩
def A0 (b n s : Nat) (fl : Int) : Ag := ⟨b, n, s, P0 fl, fun _ => Pz, [0, 0, 0, 0], .slice none 0 0, 0, [], false⟩
theorem built_p0 (fl : Int) : Try.prog.built 47 [(1, .int .i64 fl), (3, .int .i64 fl)] = some (ints (P0 fl).fl).toArray := by kernel_rfl
theorem built_a0 (b n s : Nat) (fl : Int) : Try.prog.built 53 [(0, .int .i64 (n : Int)), (1, .int .i64 (s : Int)), (2, .agg (ints (P0 fl).fl).toArray)] = some ((List.range 671).map (A0 b n s fl).at).toArray := by kernel_rfl
theorem a0_ok (b n s : Nat) (fl : Int) (h16 : 1 ≤ n ∧ n ≤ 16 ∧ s < n) (hf : 0 ≤ fl ∧ fl ≤ T) (hT : T ≤ 4611686018427387904) (hb : w.heap[b]? = some (.cells ((List.range 671).map (A0 b n s fl).at).toArray 53 (0, 0))) (hB : B ≤ b) : (A0 b n s fl).Ok w B T := by
  refine ⟨⟨_, hb, by simp, fun i hi => by simp [hi]⟩, h16, ⟨rfl, rfl, rfl⟩, fun _ => ⟨rfl, rfl, rfl⟩, rfl, hB, ⟨rfl, .inl ⟨rfl, rfl⟩⟩, ⟨rfl, Nat.zero_le _⟩, ⟨hf.1, by show fl ≤ _; omega⟩, ⟨by show (0 : Int) ≤ 0; omega, by show (0 : Int) ≤ _; omega⟩, ⟨hf.1, hf.2⟩, ⟨by show (0 : Int) ≤ 0; omega, by show (0 : Int) ≤ _; omega⟩, fun _ => ⟨by show (0 : Int) ≤ 0; omega, by show (0 : Int) ≤ _; omega⟩⟩
end
end Go.Proofs.Ytbdefhagpgpoiac.Mb
namespace Go.Proofs.Ytbdefhagpgpoiac.Mb
open Go.RowKit
set_option linter.unusedVariables false
set_option maxRecDepth 100000
set_option linter.unusedSimpArgs false
section
variable {A A' : Ag} {w w' W : World} {B : Nat} {T : Int}
theorem propOf_any (p : Pq) (hp : p.Rd w) (q : Nat) (hq : q < 16) (inc : Int) (n : Nat) (hn : n ≤ 16) : Calls Try.prog 37 #[.agg p.cs, .int .i64 q, .int .i64 inc, .int .i64 n] w fun e w' => ∃ P0 : Pp, e = .returned (.tuple #[.agg (ints P0.fl).toArray, .bool (p.valid q inc n)]) ∧ P0.L ∧ (p.valid q inc n = true → P0 = p.pp) ∧ Below w.heap.size w w' := by
  cases hA : p.SA q inc n with
  | false => exact propOf_A p hp q hq inc n hn hA
  | true =>
    cases hB : p.SB q with
    | false => exact propOf_B p hp q hq inc n hn hA hB
    | true => exact propOf_C p hp q hq inc n hn hA hB
def Ag.tkOk (A : Ag) (q inc : Int) : Bool := wB q 0 ((A.n : Int) - 1) && !(q == (A.self : Int)) && wB inc 1 4611686018427387904
set_option maxHeartbeats 2000000 in
theorem take_arg (h : A.Ok w B T) (q inc : Int) (p : Pq) (hno : A.tkOk q inc = false) : Calls Try.prog 17 #[.pointer (some ⟨A.b, 0, none⟩), .int .i64 q, .int .i64 inc, .agg p.cs] w fun e w' => e = .returned (.tuple #[.bool false, .int .i64 1]) ∧ Below w.heap.size w w' := by
  have h16 := h.n16
  generalize hW1 : w.alloc (.cells p.cs 40) = W1
  have b1 : Below w.heap.size w W1 := hW1 ▸ balloc (Below.refl _ _)
  have c0 := (h.still b1).c0
  have c1 := (h.still b1).c1
  have HB1 : Hid (Below w.heap.size w W1) := b1
  unfold Ag.tkOk at hno
  obtain ⟨g0, hg0⟩ : ∃ g0, wB q 0 ((A.n : Int) - 1) = g0 := ⟨_, rfl⟩
  obtain ⟨g1, hg1⟩ : ∃ g0, wB inc 1 4611686018427387904 = g0 := ⟨_, rfl⟩
  have H0 : Hid (∀ W, Calls Try.prog 9 #[.int .i64 q, .int .i64 0, .int .i64 ((A.n : Int) - 1)] W fun e w' => e = .returned (.bool g0) ∧ W = w') := fun W => hg0 ▸ within_w _ _ _
  have H1 : Hid (∀ W, Calls Try.prog 9 #[.int .i64 inc, .int .i64 1, .int .i64 4611686018427387904] W fun e w' => e = .returned (.bool g1) ∧ W = w') := fun W => hg1 ▸ within_w _ _ _
  rw [hg0, hg1] at hno
  generalize p.cs = pcs at *
  clear h b1 hg0 hg1
  cases g0 with
  | false =>
    clear hno
    go_enter Try.func17, Try.ntmps17
    go_wp2_with (first | (refine wl_at 21 rfl ?_) | fail)
    refine wl_step (by kernel_rfl) fun K hK => ?_
    go_simp
    refine (H0.out _).mono ?_
    rintro e w2 ⟨rfl, rfl⟩
    refine hK _ _ ?_
    clear hK K
    try (simp only [Act.put, gA, gB, gC, gD, gE, gF])
    refine wlT (.bool true) ?_
    simp only [Act.put, gA, gB, gC, gD, gE, gF]
    refine wlT (.bool true) ?_
    simp only [Act.put, gA, gB, gC, gD, gE, gF]
    refine wlS ?_
    simp only [Act.put, gA, gB, gC, gD, gE, gF]
    refine wlS ?_
    simp only [Act.put, gA, gB, gC, gD, gE, gF]
    refine wlS ?_
    simp only [Act.put, gA, gB, gC, gD, gE, gF]
    refine wlS ?_
    simp only [Act.put, gA, gB, gC, gD, gE, gF]
    refine wlS ?_
    simp only [Act.put, gA, gB, gC, gD, gE, gF]
    refine wlS ?_
    simp only [Act.put, gA, gB, gC, gD, gE, gF]
    refine wlT (.bool true) ?_
    simp only [Act.put, gA, gB, gC, gD, gE, gF]
    refine wlT (.bool true) ?_
    simp only [Act.put, gA, gB, gC, gD, gE, gF]
    refine wlS ?_
    simp only [Act.put, gA, gB, gC, gD, gE, gF]
    refine wlS ?_
    simp only [Act.put, gA, gB, gC, gD, gE, gF]
    refine wlS ?_
    simp only [Act.put, gA, gB, gC, gD, gE, gF]
    refine wlT (.bool true) ?_
    simp only [Act.put, gA, gB, gC, gD, gE, gF]
    refine ⟨?_⟩
    go_wp2
    (try simp only [Exit.inBlock, Exit.then]); refine bodyPost_ret (results_tmp2 rfl _ _ _) rfl ?_
    exact ⟨rfl, HB1.out⟩
  | true =>
    by_cases hs : q = (A.self : Int)
    · clear hno
      subst hs
      go_enter Try.func17, Try.ntmps17
      go_wp2_with (first | (refine wl_at 21 rfl ?_) | fail)
      refine wl_step (by kernel_rfl) fun K hK => ?_
      go_simp
      refine (H0.out _).mono ?_
      rintro e w2 ⟨rfl, rfl⟩
      refine hK _ _ ?_
      clear hK K
      try (simp only [Act.put, gA, gB, gC, gD, gE, gF])
      refine wlT (.bool false) ?_
      simp only [Act.put, gA, gB, gC, gD, gE, gF]
      refine wlT (.bool false) ?_
      simp only [Act.put, gA, gB, gC, gD, gE, gF]
      refine wlT (.int .i64 (A.self : Int)) ?_
      simp only [Act.put, gA, gB, gC, gD, gE, gF]
      refine wlT (.pointer (some ⟨A.b, 0, none⟩)) ?_
      simp only [Act.put, gA, gB, gC, gD, gE, gF]
      refine wlT (.pointer (some ⟨A.b, 0, none⟩)) ?_
      simp only [Act.put, gA, gB, gC, gD, gE, gF]
      refine wlT (.pointer (some ⟨A.b, 1, none⟩)) ?_
      simp only [Act.put, gA, gB, gC, gD, gE, gF]
      refine wlT (.int .i64 A.self) ?_
      simp only [Act.put, gA, gB, gC, gD, gE, gF]
      refine wl_take (v := .bool true) (by kernel_rfl) (by (go_simp <;> first | omega | simp_all)) ?_
      simp only [Act.put, gA, gB, gC, gD, gE, gF]
      refine wlT (.bool true) ?_
      simp only [Act.put, gA, gB, gC, gD, gE, gF]
      refine wlT (.bool true) ?_
      simp only [Act.put, gA, gB, gC, gD, gE, gF]
      refine wlS ?_
      simp only [Act.put, gA, gB, gC, gD, gE, gF]
      refine wlS ?_
      simp only [Act.put, gA, gB, gC, gD, gE, gF]
      refine wlS ?_
      simp only [Act.put, gA, gB, gC, gD, gE, gF]
      refine wlT (.bool true) ?_
      simp only [Act.put, gA, gB, gC, gD, gE, gF]
      refine ⟨?_⟩
      go_wp2
      (try simp only [Exit.inBlock, Exit.then]); refine bodyPost_ret (results_tmp2 rfl _ _ _) rfl ?_
      exact ⟨rfl, HB1.out⟩
    · have hs2 : (q == (A.self : Int)) = false := by simpa using hs
      cases g1 with
      | false =>
        clear hno
        go_enter Try.func17, Try.ntmps17
        go_wp2_with (first | (refine wl_at 21 rfl ?_) | fail)
        refine wl_step (by kernel_rfl) fun K hK => ?_
        go_simp
        refine (H0.out _).mono ?_
        rintro e w2 ⟨rfl, rfl⟩
        refine hK _ _ ?_
        clear hK K
        try (simp only [Act.put, gA, gB, gC, gD, gE, gF])
        refine wlT (.bool false) ?_
        simp only [Act.put, gA, gB, gC, gD, gE, gF]
        refine wlT (.bool false) ?_
        simp only [Act.put, gA, gB, gC, gD, gE, gF]
        refine wlT (.int .i64 q) ?_
        simp only [Act.put, gA, gB, gC, gD, gE, gF]
        refine wlT (.pointer (some ⟨A.b, 0, none⟩)) ?_
        simp only [Act.put, gA, gB, gC, gD, gE, gF]
        refine wlT (.pointer (some ⟨A.b, 0, none⟩)) ?_
        simp only [Act.put, gA, gB, gC, gD, gE, gF]
        refine wlT (.pointer (some ⟨A.b, 1, none⟩)) ?_
        simp only [Act.put, gA, gB, gC, gD, gE, gF]
        refine wlT (.int .i64 A.self) ?_
        simp only [Act.put, gA, gB, gC, gD, gE, gF]
        refine wl_take (v := .bool false) (by kernel_rfl) (by (go_simp <;> first | omega | simp_all)) ?_
        simp only [Act.put, gA, gB, gC, gD, gE, gF]
        refine wlT (.bool false) ?_
        simp only [Act.put, gA, gB, gC, gD, gE, gF]
        refine wlT (.bool false) ?_
        simp only [Act.put, gA, gB, gC, gD, gE, gF]
        refine wlT (.int .i64 inc) ?_
        simp only [Act.put, gA, gB, gC, gD, gE, gF]
        refine wl_step (by kernel_rfl) fun K hK => ?_
        go_simp
        refine (H1.out _).mono ?_
        rintro e w2 ⟨rfl, rfl⟩
        refine hK _ _ ?_
        clear hK K
        try (simp only [Act.put, gA, gB, gC, gD, gE, gF])
        refine wlT (.bool true) ?_
        simp only [Act.put, gA, gB, gC, gD, gE, gF]
        refine wlT (.bool true) ?_
        simp only [Act.put, gA, gB, gC, gD, gE, gF]
        refine ⟨?_⟩
        go_wp2
        (try simp only [Exit.inBlock, Exit.then]); refine bodyPost_ret (results_tmp2 rfl _ _ _) rfl ?_
        exact ⟨rfl, HB1.out⟩
      | true => rw [hs2] at hno; cases hno
end
end Go.Proofs.Ytbdefhagpgpoiac.Mb
namespace Go.Proofs.Ytbdefhagpgpoiac.Mb
open Go.RowKit
set_option linter.unusedVariables false
set_option maxRecDepth 100000
set_option linter.unusedSimpArgs false
section
variable {A A' : Ag} {w w' W : World} {B : Nat} {T : Int}
theorem run_loadrow {o : Oper} {ρ : Operand → Value} {w : World} {g : Nat} {cs : Array Value} {t : TypeId} {d : TypeDesc} (ty : TypeId) (x : Operand) (ho : o.op = .load ty x) (hx : ρ x = .pointer (some ⟨g, 0, none⟩)) (hg : w.heap[g]? = some (.cells cs t (0, 0))) (hu : Try.prog.underlying ty = some d) (hd : (match d with | .struct _ | .array _ _ => true | _ => false) = true) (hi : (Try.prog.info? ty).map (·.size) = some cs.size) : (execOp ρ o).run Try.prog w = .ok (.value (.agg cs)) w := by
  have hl := run_loadVar_row w g t ty cs (0, 0) d hg hu (by cases d <;> simp_all) hi
  unfold execOp
  simp only [ho, hx, Instr.loadAt, Instr.sureAddr, Sem.run_bind, Sem.run_pure, Result.andThen_ok, hl]
set_option maxHeartbeats 4000000 in
theorem take_set (h : A.Ok w B T) (q : Nat) (hq : q < A.n) (hqs0 : q ≠ A.self) (inc : Int) (hinc : 1 ≤ inc ∧ inc ≤ 4611686018427387904) (p : Pq) (hp : p.Rd w) (hv : p.valid q inc A.n = false) : Calls Try.prog 17 #[.pointer (some ⟨A.b, 0, none⟩), .int .i64 q, .int .i64 inc, .agg p.cs] w fun e w' => e = .returned (.tuple #[.bool false, .int .i64 60]) ∧ Below w.heap.size w w' := by
  have h16 := h.n16
  generalize hW1 : w.alloc (.cells p.cs 40) = W1
  have b1 : Below w.heap.size w W1 := hW1 ▸ balloc (Below.refl _ _)
  have k1 : W1.heap[w.heap.size]? = some (.cells p.cs 40 (0, 0)) := by rw [← hW1]; exact heap_alloc_new w _
  have hlt1 : w.heap.size < W1.heap.size := lt_heap k1
  have c0 := (h.still b1).c0
  have c1 := (h.still b1).c1
  have HK1 : Hid (W1.heap[w.heap.size]? = some (.cells p.cs 40 (0, 0))) := k1
  have HB1 : Hid (Below w.heap.size w W1) := b1
  have HA0 : Hid (A.Ok w B T) := h
  have HA1 : Hid (A.Ok W1 B T) := h.still b1
  have HP1 : Hid (p.Rd W1) := hp.still b1
  have hlb := h.lt_b
  have hqs : ¬ ((q : Int) = (A.self : Int)) := by omega
  have i3 : (q : Int) < 16 := by omega
  have i4 : q < 16 := by omega
  have H0 : Hid (∀ W, Calls Try.prog 9 #[.int .i64 (q : Int), .int .i64 0, .int .i64 ((A.n : Int) - 1)] W fun e w' => e = .returned (.bool true) ∧ W = w') := fun W => (show wB (q : Int) 0 ((A.n : Int) - 1) = true from decide_eq_true (by omega)) ▸ within_w _ _ _
  have H1 : Hid (∀ W, Calls Try.prog 9 #[.int .i64 inc, .int .i64 1, .int .i64 4611686018427387904] W fun e w' => e = .returned (.bool true) ∧ W = w') := fun W => (show wB inc 1 4611686018427387904 = true from decide_eq_true hinc) ▸ within_w _ _ _
  have HPr : Hid (∀ W, Below W1.heap.size W1 W → Calls Try.prog 37 #[.agg p.cs, .int .i64 q, .int .i64 inc, .int .i64 A.n] W fun e w' => ∃ P0 : Pp, e = .returned (.tuple #[.agg (ints P0.fl).toArray, .bool (p.valid q inc A.n)]) ∧ P0.L ∧ (p.valid q inc A.n = true → P0 = p.pp) ∧ Below W.heap.size W w') := fun W hW => propOf_any p ((hp.still b1).still hW) q i4 inc A.n h16.2.1
  clear h b1 k1 hp
  go_enter Try.func17, Try.ntmps17
  go_wp2_with (first | (refine wl_at 21 rfl ?_) | fail)
  refine wl_step (by kernel_rfl) fun K hK => ?_
  go_simp
  refine (H0.out _).mono ?_
  rintro e w2 ⟨rfl, rfl⟩
  refine hK _ _ ?_
  clear hK K
  try (simp only [Act.put, gA, gB, gC, gD, gE, gF])
  refine wlT (.bool false) ?_
  simp only [Act.put, gA, gB, gC, gD, gE, gF]
  refine wlT (.bool false) ?_
  simp only [Act.put, gA, gB, gC, gD, gE, gF]
  refine wlT (.int .i64 (q : Int)) ?_
  simp only [Act.put, gA, gB, gC, gD, gE, gF]
  refine wlT (.pointer (some ⟨A.b, 0, none⟩)) ?_
  simp only [Act.put, gA, gB, gC, gD, gE, gF]
  refine wlT (.pointer (some ⟨A.b, 0, none⟩)) ?_
  simp only [Act.put, gA, gB, gC, gD, gE, gF]
  refine wlT (.pointer (some ⟨A.b, 1, none⟩)) ?_
  simp only [Act.put, gA, gB, gC, gD, gE, gF]
  refine wlT (.int .i64 A.self) ?_
  simp only [Act.put, gA, gB, gC, gD, gE, gF]
  refine wl_take (v := .bool false) (by kernel_rfl) (by (go_simp <;> first | omega | simp_all)) ?_
  simp only [Act.put, gA, gB, gC, gD, gE, gF]
  refine wlT (.bool false) ?_
  simp only [Act.put, gA, gB, gC, gD, gE, gF]
  refine wlT (.bool false) ?_
  simp only [Act.put, gA, gB, gC, gD, gE, gF]
  refine wlT (.int .i64 inc) ?_
  simp only [Act.put, gA, gB, gC, gD, gE, gF]
  refine wl_step (by kernel_rfl) fun K hK => ?_
  go_simp
  refine (H1.out _).mono ?_
  rintro e w2 ⟨rfl, rfl⟩
  refine hK _ _ ?_
  clear hK K
  try (simp only [Act.put, gA, gB, gC, gD, gE, gF])
  refine wlT (.bool false) ?_
  simp only [Act.put, gA, gB, gC, gD, gE, gF]
  refine wlT (.bool false) ?_
  simp only [Act.put, gA, gB, gC, gD, gE, gF]
  refine ⟨?_⟩
  go_wp2
  refine wp_region_held_drew (S := (fun w' => w'.heap[w.heap.size]? = some (.cells p.cs 40 (0, 0)) ∧ w'.cell? ⟨A.b, 0, none⟩ = some (.int .i64 A.n) ∧ Below W1.heap.size W1 w')) (by kernel_rfl) ⟨HK1.out, below_at (Below.refl _ _).drew c0, (Below.refl _ _).drew⟩ (fun hHeld => ?_)
  simp only [Act.put, List.size_toArray, List.length_cons, List.length_nil, Nat.zero_add]
  refine tkL 0 (.agg p.cs) rfl (fun w' hS => run_loadrow 40 (.tmp 7) rfl (by rfl) hS.1 Try.underlying40 rfl (by kernel_rfl)) hHeld ?_
  simp only [Act.put, gA, gB, gC, gD, gE, gF]
  refine tkI 1 (.int .i64 (q : Int)) rfl hHeld ?_
  simp only [Act.put, gA, gB, gC, gD, gE, gF]
  refine tkI 2 (.int .i64 inc) rfl hHeld ?_
  simp only [Act.put, gA, gB, gC, gD, gE, gF]
  refine tkI 3 (.pointer (some ⟨A.b, 0, none⟩)) rfl hHeld ?_
  simp only [Act.put, gA, gB, gC, gD, gE, gF]
  refine tkI 4 (.pointer (some ⟨A.b, 0, none⟩)) rfl hHeld ?_
  simp only [Act.put, gA, gB, gC, gD, gE, gF]
  refine tkI 5 (.pointer (some ⟨A.b, 0, none⟩)) rfl hHeld ?_
  simp only [Act.put, gA, gB, gC, gD, gE, gF]
  refine tkL 6 (.int .i64 A.n) rfl (fun w' hS => by (obtain ⟨s0, s1, s2⟩ := hS; go_simp)) hHeld ?_
  simp only [Act.put, gA, gB, gC, gD, gE, gF]
  refine wpAnyH_ready (rs := [7, 11]) (by kernel_rfl) (by simp) ?_
  refine AllReadyH.cons rfl (fun K hK => ?_) (AllReadyH.cons rfl (fun K hK => ?_) AllReadyH.nil)
  · go_simp
    refine (HPr.out _ hHeld.2.2).mono ?_
    rintro e W2 ⟨P0, rfl, hPL, hPe, hb2⟩
    refine hK.out _ _ ⟨(hb2.block _ (lt_heap hHeld.1)).trans hHeld.1, below_at hb2 hHeld.2.1, bstep hHeld.2.2 hb2⟩ (fun hHeld => ?_)
    clear hK K
    refine tkI 8 (.tuple #[.agg (ints P0.fl).toArray, .bool (p.valid q inc A.n)]) rfl hHeld ?_
    simp only [Act.put, gA, gB, gC, gD, gE, gF]
    refine tkI 9 (.agg (ints P0.fl).toArray) rfl hHeld ?_
    simp only [Act.put, gA, gB, gC, gD, gE, gF]
    refine tkI 10 (.bool (p.valid q inc A.n)) rfl hHeld ?_
    simp only [Act.put, gA, gB, gC, gD, gE, gF]
    refine wpAnyH_ready (rs := [11]) (by kernel_rfl) (by simp) ?_
    refine AllReadyH.cons rfl (fun K hK => ?_) AllReadyH.nil
    generalize hW3 : W2.alloc (.cells #[.int .i64 0, .int .i64 0, .int .i64 0, .int .i64 0, .int .i64 0, .int .i64 0, .int .i64 0, .int .i64 0, .int .i64 0, .int .i64 0, .int .i64 0, .int .i64 0, .int .i64 0, .int .i64 0, .int .i64 0, .int .i64 0, .int .i64 0, .int .i64 0, .int .i64 0, .int .i64 0, .int .i64 0, .int .i64 0, .int .i64 0, .int .i64 0, .int .i64 0, .int .i64 0, .int .i64 0, .int .i64 0, .int .i64 0, .int .i64 0, .int .i64 0, .int .i64 0, .int .i64 0, .int .i64 0, .int .i64 0, .int .i64 0, .int .i64 0, .int .i64 0, .int .i64 0] 47) = W3
    have bA : Below W2.heap.size W2 W3 := by rw [← hW3]; exact balloc (Below.refl _ _)
    have hZ : Rw W3 W2.heap.size 47 z39 := by unfold Rw; rw [← hW3]; exact heap_alloc_new W2 _
    have hktge : W1.heap.size ≤ W2.heap.size := hHeld.2.2.size
    go_simp
    refine hK.out _ _ ⟨(bA.block _ (lt_heap hHeld.1)).trans hHeld.1, below_at bA hHeld.2.1, bstep hHeld.2.2 bA⟩ (fun hHeld => ?_)
    clear hK K
    generalize hkt : W2.heap.size = kt at *
    have hT0 : Rw W3 kt 47 z39 := hZ
    refine wpAnyH_ready (rs := [12]) (by kernel_rfl) (by simp) ?_
    refine AllReadyH.cons rfl (fun K hK => ?_) AllReadyH.nil
    split
    · refine wp_store_mid 47 (.tmp 10) (.tmp 45) rfl kt 0 (ints P0.fl).toArray rfl rfl (by simpa [ints, hPL.fl] using hT0.there 0 39 (by show 0 + 39 ≤ 39; omega)) (by simpa [ints, hPL.fl] using info_prop) (all_oneCell_toArray (ints_one _)) ?_
      rw [List.toList_toArray]
      have hTF : Rw (W3.setCells kt 0 (ints P0.fl)) kt 47 P0.fl := hT0.whole (by rw [hPL.fl]; rfl)
      have kTF := ksets (P := fun j => j = kt) rfl (ints P0.fl) 0 W3
      have bTF : Below W1.heap.size W1 (W3.setCells kt 0 (ints P0.fl)) := bsets hktge _ _ hHeld.2.2
      generalize W3.setCells kt 0 (ints P0.fl) = V at *
      refine hK.out _ _ ⟨kTF.obj hHeld.1 (by omega), below_at bTF c0, bTF⟩ (fun hHeld => ?_)
      clear hK K
      refine tkI 13 (.bool (p.valid q inc A.n)) rfl hHeld ?_
      simp only [Act.put, gA, gB, gC, gD, gE, gF]
      refine wpAnyH_done (by kernel_rfl) ?_ _
      clear hHeld hT0 kTF bA hb2 hZ hW3 hkt
      rw [hv]
      go_wp2
      (try simp only [Exit.inBlock, Exit.then]); refine bodyPost_ret (results_tmp2 rfl _ _ _) rfl ?_
      exact ⟨rfl, bstep HB1.out bTF⟩
    · rename_i hh; exact absurd rfl hh
  · generalize hW3 : (W1.alloc (.cells #[.int .i64 0, .int .i64 0, .int .i64 0, .int .i64 0, .int .i64 0, .int .i64 0, .int .i64 0, .int .i64 0, .int .i64 0, .int .i64 0, .int .i64 0, .int .i64 0, .int .i64 0, .int .i64 0, .int .i64 0, .int .i64 0, .int .i64 0, .int .i64 0, .int .i64 0, .int .i64 0, .int .i64 0, .int .i64 0, .int .i64 0, .int .i64 0, .int .i64 0, .int .i64 0, .int .i64 0, .int .i64 0, .int .i64 0, .int .i64 0, .int .i64 0, .int .i64 0, .int .i64 0, .int .i64 0, .int .i64 0, .int .i64 0, .int .i64 0, .int .i64 0, .int .i64 0] 47)).drew = W3
    have bA : Below W1.heap.size W1 W3 := by rw [← hW3]; exact (balloc (Below.refl _ _)).drew
    have hZ0 : Rw W3 W1.heap.size 47 z39 := by unfold Rw; rw [← hW3]; exact heap_alloc_new W1 _
    have hktge : W1.heap.size ≤ W1.heap.size := Nat.le_refl _
    go_simp
    refine hK.out _ _ ⟨(bA.block _ (lt_heap HK1.out)).trans HK1.out, below_at bA c0, bA⟩ (fun hHeld => ?_)
    clear hK K
    refine wpAnyH_ready (rs := [7]) (by kernel_rfl) (by simp) ?_
    refine AllReadyH.cons rfl (fun K hK => ?_) AllReadyH.nil
    go_simp
    refine (HPr.out _ hHeld.2.2).mono ?_
    rintro e W2 ⟨P0, rfl, hPL, hPe, hb2⟩
    have hZ : Rw W2 W1.heap.size 47 z39 := hZ0.still hb2
    refine hK.out _ _ ⟨(hb2.block _ (lt_heap hHeld.1)).trans hHeld.1, below_at hb2 hHeld.2.1, bstep hHeld.2.2 hb2⟩ (fun hHeld => ?_)
    clear hK K
    refine tkI 8 (.tuple #[.agg (ints P0.fl).toArray, .bool (p.valid q inc A.n)]) rfl hHeld ?_
    simp only [Act.put, gA, gB, gC, gD, gE, gF]
    refine tkI 9 (.agg (ints P0.fl).toArray) rfl hHeld ?_
    simp only [Act.put, gA, gB, gC, gD, gE, gF]
    refine tkI 10 (.bool (p.valid q inc A.n)) rfl hHeld ?_
    simp only [Act.put, gA, gB, gC, gD, gE, gF]
    have hT0 : Rw W2 W1.heap.size 47 z39 := hZ
    refine wpAnyH_ready (rs := [12]) (by kernel_rfl) (by simp) ?_
    refine AllReadyH.cons rfl (fun K hK => ?_) AllReadyH.nil
    split
    · refine wp_store_mid 47 (.tmp 10) (.tmp 45) rfl W1.heap.size 0 (ints P0.fl).toArray rfl rfl (by simpa [ints, hPL.fl] using hT0.there 0 39 (by show 0 + 39 ≤ 39; omega)) (by simpa [ints, hPL.fl] using info_prop) (all_oneCell_toArray (ints_one _)) ?_
      rw [List.toList_toArray]
      have hTF : Rw (W2.setCells W1.heap.size 0 (ints P0.fl)) W1.heap.size 47 P0.fl := hT0.whole (by rw [hPL.fl]; rfl)
      have kTF := ksets (P := fun j => j = W1.heap.size) rfl (ints P0.fl) 0 W2
      have bTF : Below W1.heap.size W1 (W2.setCells W1.heap.size 0 (ints P0.fl)) := bsets hktge _ _ hHeld.2.2
      generalize W2.setCells W1.heap.size 0 (ints P0.fl) = V at *
      refine hK.out _ _ ⟨kTF.obj hHeld.1 (by omega), below_at bTF c0, bTF⟩ (fun hHeld => ?_)
      clear hK K
      refine tkI 13 (.bool (p.valid q inc A.n)) rfl hHeld ?_
      simp only [Act.put, gA, gB, gC, gD, gE, gF]
      refine wpAnyH_done (by kernel_rfl) ?_ _
      clear hHeld hT0 kTF bA hb2 hZ hZ0 hW3
      rw [hv]
      go_wp2
      (try simp only [Exit.inBlock, Exit.then]); refine bodyPost_ret (results_tmp2 rfl _ _ _) rfl ?_
      exact ⟨rfl, bstep HB1.out bTF⟩
    · rename_i hh; exact absurd rfl hh
end
end Go.Proofs.Ytbdefhagpgpoiac.Mb
