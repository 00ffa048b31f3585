import Derived.Test.YtdegjhkjmgimpaaV25
namespace Go.Proofs.Ytdegjhkjmgimpaa.Mb
open Go.RowKit
set_option linter.unusedVariables false
set_option maxRecDepth 100000
set_option linter.unusedSimpArgs false
section
variable {A A' : Ag} {w w' W : World} {B : Nat} {T : Int}
theorem run_loadmid {o : Oper} {ρ : Operand → Value} {w : World} {b off : Nat} {cs : List Value} {d : TypeDesc} (ty : TypeId) (x : Operand) (ho : o.op = .load ty x) (hx : ρ x = .pointer (some ⟨b, off, none⟩)) (hc : w.rangeAt b off cs) (hu : Try.prog.underlying ty = some d) (hd : d.isRow = true) (hi : (Try.prog.info? ty).map (·.size) = some cs.length) : (execOp ρ o).run Try.prog w = .ok (.value (.agg cs.toArray)) w := by
  unfold execOp
  simp only [ho, hx, Instr.loadAt, Instr.sureAddr, Sem.run_bind, Sem.run_pure, Result.andThen_ok, run_loadVar_mid w b off ty cs d hc hu hd hi]
def Pq.same (p p' : Pq) : Bool := decide (p.ss = p'.ss) && decide (p.vs = p'.vs) && (p.cid == p'.cid) && (p.rev == p'.rev) && (p.top == p'.top) && decide (p.prev = p'.prev)
set_option maxHeartbeats 8000000 in
theorem props_any (p p' : Pq) (hp : p.Rd w) (hp' : p'.Rd w) : Calls Try.prog 22 #[.agg p.cs, .agg p'.cs] w fun e w' => e = .returned (.bool (p.same p')) ∧ Below w.heap.size w w' := by
  generalize hW1 : w.alloc (.cells p.cs 33) = W1
  generalize hW2 : W1.alloc (.cells p'.cs 33) = W2
  have b1 : Below w.heap.size w W1 := hW1 ▸ balloc (Below.refl _ _)
  have b2 : Below W1.heap.size W1 W2 := hW2 ▸ balloc (Below.refl _ _)
  have k1 : W1.heap[w.heap.size]? = some (.cells p.cs 33 (0, 0)) := by rw [← hW1]; exact heap_alloc_new w _
  have k2 : W2.heap[W1.heap.size]? = some (.cells p'.cs 33 (0, 0)) := by rw [← hW2]; exact heap_alloc_new W1 _
  have k12 : W2.heap[w.heap.size]? = some (.cells p.cs 33 (0, 0)) := (b2.block _ (lt_heap k1)).trans k1
  have hR := (hp.still b1).still b2
  have hR' := (hp'.still b1).still b2
  have a0 : W2.cell? ⟨w.heap.size, 0, none⟩ = some (.slice p.sa p.sn p.sc) := blk_cell k12 0
  have d0 : W2.cell? ⟨W1.heap.size, 0, none⟩ = some (.slice p'.sa p'.sn p'.sc) := blk_cell k2 0
  have a8 : W2.cell? ⟨w.heap.size, 8, none⟩ = some (.slice p.va p.vn p.vc) := blk_cell k12 8
  have d8 : W2.cell? ⟨W1.heap.size, 8, none⟩ = some (.slice p'.va p'.vn p'.vc) := blk_cell k2 8
  have a1 : W2.cell? ⟨w.heap.size, 1, none⟩ = some (.int .i64 p.cid) := blk_cell k12 1
  have d1 : W2.cell? ⟨W1.heap.size, 1, none⟩ = some (.int .i64 p'.cid) := blk_cell k2 1
  have a2 : W2.cell? ⟨w.heap.size, 2, none⟩ = some (.int .i64 p.rev) := blk_cell k12 2
  have d2 : W2.cell? ⟨W1.heap.size, 2, none⟩ = some (.int .i64 p'.rev) := blk_cell k2 2
  have a3 : W2.cell? ⟨w.heap.size, 3, none⟩ = some (.int .i64 p.top) := blk_cell k12 3
  have d3 : W2.cell? ⟨W1.heap.size, 3, none⟩ = some (.int .i64 p'.top) := blk_cell k2 3
  have A4 : Hid (W2.rangeAt w.heap.size 4 (ints p.prev)) := prev_range k12 hp.l
  have D4 : Hid (W2.rangeAt W1.heap.size 4 (ints p'.prev)) := prev_range k2 hp'.l
  have hl := hp.l
  have hl' := hp'.l
  have HBw : Hid (Below w.heap.size w W2) := bstep b1 b2
  have HBx : Hid (Below W2.heap.size W2 W2) := Below.refl _ _
  obtain ⟨f0, hf0⟩ : ∃ f, decide (p.ss = p'.ss) = f := ⟨_, rfl⟩
  obtain ⟨f1, hf1⟩ : ∃ f, decide (p.vs = p'.vs) = f := ⟨_, rfl⟩
  obtain ⟨f5, hf5⟩ : ∃ f, decide (p.prev = p'.prev) = f := ⟨_, rfl⟩
  have F0 : Hid (∀ X, Below W2.heap.size W2 X → Calls Try.prog 24 #[.slice p.sa p.sn p.sc, .slice p'.sa p'.sn p'.sc] X fun e w' => e = .returned (.bool f0) ∧ Below X.heap.size X w') := fun X hX => hf0 ▸ ints_any (hR.s.still hX) (hR'.s.still hX) (by have := hp.sn; omega)
  have F1 : Hid (∀ X, Below W2.heap.size W2 X → Calls Try.prog 24 #[.slice p.va p.vn p.vc, .slice p'.va p'.vn p'.vc] X fun e w' => e = .returned (.bool f1) ∧ Below X.heap.size X w') := fun X hX => hf1 ▸ ints_any (hR.v.still hX) (hR'.v.still hX) (by have := hp.vn; omega)
  have F5 : Hid (∀ X, Below W2.heap.size W2 X → Calls Try.prog 34 #[.agg (ints p.prev).toArray, .agg (ints p'.prev).toArray] X fun e w' => e = .returned (.bool f5) ∧ Below X.heap.size X w') := fun X hX => hf5 ▸ sid_any p.prev p'.prev hp.l hp'.l
  have Hs : Hid (p.same p' = (f0 && f1 && (p.cid == p'.cid) && (p.rev == p'.rev) && (p.top == p'.top) && f5)) := by
    show p.same p' = _
    unfold Pq.same
    rw [hf0, hf1, hf5]
  generalize p.cs = pc at *
  generalize p'.cs = pc' at *
  clear b1 b2 k1 k2 k12 hR hR' hp hp' hf0 hf1 hf5
  cases f0 with
  | false =>
    go_enter Try.func22, Try.ntmps22
    go_wp2_with (first | (refine wl_at 9 rfl ?_) | fail)
    refine wl_step (by kernel_rfl) fun K hK => ?_
    go_simp
    refine (F0.out _ HBx.out).mono ?_
    rintro e X0 ⟨rfl, hb0⟩
    refine hK _ _ ?_
    clear hK K
    try (simp only [Act.put, gA9, gZ9, gC9, sA9, sZ9, sC9])
    have HB0 : Hid (Below W2.heap.size W2 X0) := hb0
    clear hb0
    have ca8 := below_at HB0.out a8
    have cd8 := below_at HB0.out d8
    have ca1 := below_at HB0.out a1
    have cd1 := below_at HB0.out d1
    have ca2 := below_at HB0.out a2
    have cd2 := below_at HB0.out d2
    have ca3 := below_at HB0.out a3
    have cd3 := below_at HB0.out d3
    refine wl_take (v := .bool false) (by kernel_rfl) (by go_simp) ?_
    simp only [Act.put, gA9, gZ9, gC9, sA9, sZ9, sC9]
    refine wl_skip (by kernel_rfl) ?_
    simp only [Act.put, gA9, gZ9, gC9, sA9, sZ9, sC9]
    refine wl_skip (by kernel_rfl) ?_
    simp only [Act.put, gA9, gZ9, gC9, sA9, sZ9, sC9]
    refine wl_skip (by kernel_rfl) ?_
    simp only [Act.put, gA9, gZ9, gC9, sA9, sZ9, sC9]
    refine wl_skip (by kernel_rfl) ?_
    simp only [Act.put, gA9, gZ9, gC9, sA9, sZ9, sC9]
    refine wl_skip (by kernel_rfl) ?_
    simp only [Act.put, gA9, gZ9, gC9, sA9, sZ9, sC9]
    refine wl_take (v := .bool false) (by kernel_rfl) (by go_simp) ?_
    simp only [Act.put, gA9, gZ9, gC9, sA9, sZ9, sC9]
    refine wl_take (v := .bool false) (by kernel_rfl) (by go_simp) ?_
    simp only [Act.put, gA9, gZ9, gC9, sA9, sZ9, sC9]
    refine wl_skip (by kernel_rfl) ?_
    simp only [Act.put, gA9, gZ9, gC9, sA9, sZ9, sC9]
    refine wl_skip (by kernel_rfl) ?_
    simp only [Act.put, gA9, gZ9, gC9, sA9, sZ9, sC9]
    refine wl_skip (by kernel_rfl) ?_
    simp only [Act.put, gA9, gZ9, gC9, sA9, sZ9, sC9]
    refine wl_skip (by kernel_rfl) ?_
    simp only [Act.put, gA9, gZ9, gC9, sA9, sZ9, sC9]
    refine wl_skip (by kernel_rfl) ?_
    simp only [Act.put, gA9, gZ9, gC9, sA9, sZ9, sC9]
    refine wl_take (v := .bool false) (by kernel_rfl) (by go_simp) ?_
    simp only [Act.put, gA9, gZ9, gC9, sA9, sZ9, sC9]
    refine wl_take (v := .bool false) (by kernel_rfl) (by go_simp) ?_
    simp only [Act.put, gA9, gZ9, gC9, sA9, sZ9, sC9]
    refine wl_skip (by kernel_rfl) ?_
    simp only [Act.put, gA9, gZ9, gC9, sA9, sZ9, sC9]
    refine wl_skip (by kernel_rfl) ?_
    simp only [Act.put, gA9, gZ9, gC9, sA9, sZ9, sC9]
    refine wl_skip (by kernel_rfl) ?_
    simp only [Act.put, gA9, gZ9, gC9, sA9, sZ9, sC9]
    refine wl_skip (by kernel_rfl) ?_
    simp only [Act.put, gA9, gZ9, gC9, sA9, sZ9, sC9]
    refine wl_skip (by kernel_rfl) ?_
    simp only [Act.put, gA9, gZ9, gC9, sA9, sZ9, sC9]
    refine wl_take (v := .bool false) (by kernel_rfl) (by go_simp) ?_
    simp only [Act.put, gA9, gZ9, gC9, sA9, sZ9, sC9]
    refine wl_take (v := .bool false) (by kernel_rfl) (by go_simp) ?_
    simp only [Act.put, gA9, gZ9, gC9, sA9, sZ9, sC9]
    refine wl_skip (by kernel_rfl) ?_
    simp only [Act.put, gA9, gZ9, gC9, sA9, sZ9, sC9]
    refine wl_skip (by kernel_rfl) ?_
    simp only [Act.put, gA9, gZ9, gC9, sA9, sZ9, sC9]
    refine wl_skip (by kernel_rfl) ?_
    simp only [Act.put, gA9, gZ9, gC9, sA9, sZ9, sC9]
    refine wl_skip (by kernel_rfl) ?_
    simp only [Act.put, gA9, gZ9, gC9, sA9, sZ9, sC9]
    refine wl_skip (by kernel_rfl) ?_
    simp only [Act.put, gA9, gZ9, gC9, sA9, sZ9, sC9]
    refine wl_take (v := .bool false) (by kernel_rfl) (by go_simp) ?_
    simp only [Act.put, gA9, gZ9, gC9, sA9, sZ9, sC9]
    refine wl_take (v := .bool false) (by kernel_rfl) (by go_simp) ?_
    simp only [Act.put, gA9, gZ9, gC9, sA9, sZ9, sC9]
    refine wl_skip (by kernel_rfl) ?_
    simp only [Act.put, gA9, gZ9, gC9, sA9, sZ9, sC9]
    refine wl_skip (by kernel_rfl) ?_
    simp only [Act.put, gA9, gZ9, gC9, sA9, sZ9, sC9]
    refine wl_skip (by kernel_rfl) ?_
    simp only [Act.put, gA9, gZ9, gC9, sA9, sZ9, sC9]
    refine wl_skip (by kernel_rfl) ?_
    simp only [Act.put, gA9, gZ9, gC9, sA9, sZ9, sC9]
    refine wl_skip (by kernel_rfl) ?_
    simp only [Act.put, gA9, gZ9, gC9, sA9, sZ9, sC9]
    refine wl_take (v := .bool false) (by kernel_rfl) (by go_simp) ?_
    simp only [Act.put, gA9, gZ9, gC9, sA9, sZ9, sC9]
    refine ⟨?_⟩
    go_wp2
    go_ret
    exact ⟨by rw [Hs.out]; rfl, bstep HBw.out HB0.out⟩
  | true =>
    cases f1 with
    | false =>
      go_enter Try.func22, Try.ntmps22
      go_wp2_with (first | (refine wl_at 9 rfl ?_) | fail)
      refine wl_step (by kernel_rfl) fun K hK => ?_
      go_simp
      refine (F0.out _ HBx.out).mono ?_
      rintro e X0 ⟨rfl, hb0⟩
      refine hK _ _ ?_
      clear hK K
      try (simp only [Act.put, gA9, gZ9, gC9, sA9, sZ9, sC9])
      have HB0 : Hid (Below W2.heap.size W2 X0) := hb0
      clear hb0
      have ca8 := below_at HB0.out a8
      have cd8 := below_at HB0.out d8
      have ca1 := below_at HB0.out a1
      have cd1 := below_at HB0.out d1
      have ca2 := below_at HB0.out a2
      have cd2 := below_at HB0.out d2
      have ca3 := below_at HB0.out a3
      have cd3 := below_at HB0.out d3
      refine wl_take (v := .bool true) (by kernel_rfl) (by go_simp) ?_
      simp only [Act.put, gA9, gZ9, gC9, sA9, sZ9, sC9]
      refine wl_take (v := .pointer (some ⟨w.heap.size, 8, none⟩)) (by kernel_rfl) (by go_simp) ?_
      simp only [Act.put, gA9, gZ9, gC9, sA9, sZ9, sC9]
      refine wl_take (v := .slice p.va p.vn p.vc) (by kernel_rfl) (by go_simp) ?_
      simp only [Act.put, gA9, gZ9, gC9, sA9, sZ9, sC9]
      refine wl_take (v := .pointer (some ⟨W1.heap.size, 8, none⟩)) (by kernel_rfl) (by go_simp) ?_
      simp only [Act.put, gA9, gZ9, gC9, sA9, sZ9, sC9]
      refine wl_take (v := .slice p'.va p'.vn p'.vc) (by kernel_rfl) (by go_simp) ?_
      simp only [Act.put, gA9, gZ9, gC9, sA9, sZ9, sC9]
      refine wl_step (by kernel_rfl) fun K hK => ?_
      go_simp
      refine (F1.out _ HB0.out).mono ?_
      rintro e X1 ⟨rfl, hb1⟩
      refine hK _ _ ?_
      clear hK K
      try (simp only [Act.put, gA9, gZ9, gC9, sA9, sZ9, sC9])
      have HB1 : Hid (Below W2.heap.size W2 X1) := bstep HB0.out hb1
      clear hb1
      have qa1 := below_at HB1.out a1
      have qd1 := below_at HB1.out d1
      have qa2 := below_at HB1.out a2
      have qd2 := below_at HB1.out d2
      have qa3 := below_at HB1.out a3
      have qd3 := below_at HB1.out d3
      refine wl_take (v := .bool false) (by kernel_rfl) (by go_simp) ?_
      simp only [Act.put, gA9, gZ9, gC9, sA9, sZ9, sC9]
      refine wl_take (v := .bool false) (by kernel_rfl) (by go_simp) ?_
      simp only [Act.put, gA9, gZ9, gC9, sA9, sZ9, sC9]
      refine wl_skip (by kernel_rfl) ?_
      simp only [Act.put, gA9, gZ9, gC9, sA9, sZ9, sC9]
      refine wl_skip (by kernel_rfl) ?_
      simp only [Act.put, gA9, gZ9, gC9, sA9, sZ9, sC9]
      refine wl_skip (by kernel_rfl) ?_
      simp only [Act.put, gA9, gZ9, gC9, sA9, sZ9, sC9]
      refine wl_skip (by kernel_rfl) ?_
      simp only [Act.put, gA9, gZ9, gC9, sA9, sZ9, sC9]
      refine wl_skip (by kernel_rfl) ?_
      simp only [Act.put, gA9, gZ9, gC9, sA9, sZ9, sC9]
      refine wl_take (v := .bool false) (by kernel_rfl) (by go_simp) ?_
      simp only [Act.put, gA9, gZ9, gC9, sA9, sZ9, sC9]
      refine wl_take (v := .bool false) (by kernel_rfl) (by go_simp) ?_
      simp only [Act.put, gA9, gZ9, gC9, sA9, sZ9, sC9]
      refine wl_skip (by kernel_rfl) ?_
      simp only [Act.put, gA9, gZ9, gC9, sA9, sZ9, sC9]
      refine wl_skip (by kernel_rfl) ?_
      simp only [Act.put, gA9, gZ9, gC9, sA9, sZ9, sC9]
      refine wl_skip (by kernel_rfl) ?_
      simp only [Act.put, gA9, gZ9, gC9, sA9, sZ9, sC9]
      refine wl_skip (by kernel_rfl) ?_
      simp only [Act.put, gA9, gZ9, gC9, sA9, sZ9, sC9]
      refine wl_skip (by kernel_rfl) ?_
      simp only [Act.put, gA9, gZ9, gC9, sA9, sZ9, sC9]
      refine wl_take (v := .bool false) (by kernel_rfl) (by go_simp) ?_
      simp only [Act.put, gA9, gZ9, gC9, sA9, sZ9, sC9]
      refine wl_take (v := .bool false) (by kernel_rfl) (by go_simp) ?_
      simp only [Act.put, gA9, gZ9, gC9, sA9, sZ9, sC9]
      refine wl_skip (by kernel_rfl) ?_
      simp only [Act.put, gA9, gZ9, gC9, sA9, sZ9, sC9]
      refine wl_skip (by kernel_rfl) ?_
      simp only [Act.put, gA9, gZ9, gC9, sA9, sZ9, sC9]
      refine wl_skip (by kernel_rfl) ?_
      simp only [Act.put, gA9, gZ9, gC9, sA9, sZ9, sC9]
      refine wl_skip (by kernel_rfl) ?_
      simp only [Act.put, gA9, gZ9, gC9, sA9, sZ9, sC9]
      refine wl_skip (by kernel_rfl) ?_
      simp only [Act.put, gA9, gZ9, gC9, sA9, sZ9, sC9]
      refine wl_take (v := .bool false) (by kernel_rfl) (by go_simp) ?_
      simp only [Act.put, gA9, gZ9, gC9, sA9, sZ9, sC9]
      refine wl_take (v := .bool false) (by kernel_rfl) (by go_simp) ?_
      simp only [Act.put, gA9, gZ9, gC9, sA9, sZ9, sC9]
      refine wl_skip (by kernel_rfl) ?_
      simp only [Act.put, gA9, gZ9, gC9, sA9, sZ9, sC9]
      refine wl_skip (by kernel_rfl) ?_
      simp only [Act.put, gA9, gZ9, gC9, sA9, sZ9, sC9]
      refine wl_skip (by kernel_rfl) ?_
      simp only [Act.put, gA9, gZ9, gC9, sA9, sZ9, sC9]
      refine wl_skip (by kernel_rfl) ?_
      simp only [Act.put, gA9, gZ9, gC9, sA9, sZ9, sC9]
      refine wl_skip (by kernel_rfl) ?_
      simp only [Act.put, gA9, gZ9, gC9, sA9, sZ9, sC9]
      refine wl_take (v := .bool false) (by kernel_rfl) (by go_simp) ?_
      simp only [Act.put, gA9, gZ9, gC9, sA9, sZ9, sC9]
      refine ⟨?_⟩
      go_wp2
      go_ret
      exact ⟨by rw [Hs.out]; rfl, bstep HBw.out HB1.out⟩
    | true =>
      rcases Bool.eq_false_or_eq_true (p.cid == p'.cid) with g2 | g2
      rotate_left
      · skip
        go_enter Try.func22, Try.ntmps22
        go_wp2_with (first | (refine wl_at 9 rfl ?_) | fail)
        refine wl_step (by kernel_rfl) fun K hK => ?_
        go_simp
        refine (F0.out _ HBx.out).mono ?_
        rintro e X0 ⟨rfl, hb0⟩
        refine hK _ _ ?_
        clear hK K
        try (simp only [Act.put, gA9, gZ9, gC9, sA9, sZ9, sC9])
        have HB0 : Hid (Below W2.heap.size W2 X0) := hb0
        clear hb0
        have ca8 := below_at HB0.out a8
        have cd8 := below_at HB0.out d8
        have ca1 := below_at HB0.out a1
        have cd1 := below_at HB0.out d1
        have ca2 := below_at HB0.out a2
        have cd2 := below_at HB0.out d2
        have ca3 := below_at HB0.out a3
        have cd3 := below_at HB0.out d3
        refine wl_take (v := .bool true) (by kernel_rfl) (by go_simp) ?_
        simp only [Act.put, gA9, gZ9, gC9, sA9, sZ9, sC9]
        refine wl_take (v := .pointer (some ⟨w.heap.size, 8, none⟩)) (by kernel_rfl) (by go_simp) ?_
        simp only [Act.put, gA9, gZ9, gC9, sA9, sZ9, sC9]
        refine wl_take (v := .slice p.va p.vn p.vc) (by kernel_rfl) (by go_simp) ?_
        simp only [Act.put, gA9, gZ9, gC9, sA9, sZ9, sC9]
        refine wl_take (v := .pointer (some ⟨W1.heap.size, 8, none⟩)) (by kernel_rfl) (by go_simp) ?_
        simp only [Act.put, gA9, gZ9, gC9, sA9, sZ9, sC9]
        refine wl_take (v := .slice p'.va p'.vn p'.vc) (by kernel_rfl) (by go_simp) ?_
        simp only [Act.put, gA9, gZ9, gC9, sA9, sZ9, sC9]
        refine wl_step (by kernel_rfl) fun K hK => ?_
        go_simp
        refine (F1.out _ HB0.out).mono ?_
        rintro e X1 ⟨rfl, hb1⟩
        refine hK _ _ ?_
        clear hK K
        try (simp only [Act.put, gA9, gZ9, gC9, sA9, sZ9, sC9])
        have HB1 : Hid (Below W2.heap.size W2 X1) := bstep HB0.out hb1
        clear hb1
        have qa1 := below_at HB1.out a1
        have qd1 := below_at HB1.out d1
        have qa2 := below_at HB1.out a2
        have qd2 := below_at HB1.out d2
        have qa3 := below_at HB1.out a3
        have qd3 := below_at HB1.out d3
        refine wl_take (v := .bool true) (by kernel_rfl) (by go_simp) ?_
        simp only [Act.put, gA9, gZ9, gC9, sA9, sZ9, sC9]
        refine wl_take (v := .bool true) (by kernel_rfl) (by go_simp) ?_
        simp only [Act.put, gA9, gZ9, gC9, sA9, sZ9, sC9]
        refine wl_take (v := .pointer (some ⟨w.heap.size, 1, none⟩)) (by kernel_rfl) (by go_simp) ?_
        simp only [Act.put, gA9, gZ9, gC9, sA9, sZ9, sC9]
        refine wl_take (v := .int .i64 p.cid) (by kernel_rfl) (by go_simp) ?_
        simp only [Act.put, gA9, gZ9, gC9, sA9, sZ9, sC9]
        refine wl_take (v := .pointer (some ⟨W1.heap.size, 1, none⟩)) (by kernel_rfl) (by go_simp) ?_
        simp only [Act.put, gA9, gZ9, gC9, sA9, sZ9, sC9]
        refine wl_take (v := .int .i64 p'.cid) (by kernel_rfl) (by go_simp) ?_
        simp only [Act.put, gA9, gZ9, gC9, sA9, sZ9, sC9]
        refine wl_take (v := .bool false) (by kernel_rfl) (by (go_simp <;> simpa using g2)) ?_
        simp only [Act.put, gA9, gZ9, gC9, sA9, sZ9, sC9]
        refine wl_take (v := .bool false) (by kernel_rfl) (by go_simp) ?_
        simp only [Act.put, gA9, gZ9, gC9, sA9, sZ9, sC9]
        refine wl_take (v := .bool false) (by kernel_rfl) (by go_simp) ?_
        simp only [Act.put, gA9, gZ9, gC9, sA9, sZ9, sC9]
        refine wl_skip (by kernel_rfl) ?_
        simp only [Act.put, gA9, gZ9, gC9, sA9, sZ9, sC9]
        refine wl_skip (by kernel_rfl) ?_
        simp only [Act.put, gA9, gZ9, gC9, sA9, sZ9, sC9]
        refine wl_skip (by kernel_rfl) ?_
        simp only [Act.put, gA9, gZ9, gC9, sA9, sZ9, sC9]
        refine wl_skip (by kernel_rfl) ?_
        simp only [Act.put, gA9, gZ9, gC9, sA9, sZ9, sC9]
        refine wl_skip (by kernel_rfl) ?_
        simp only [Act.put, gA9, gZ9, gC9, sA9, sZ9, sC9]
        refine wl_take (v := .bool false) (by kernel_rfl) (by go_simp) ?_
        simp only [Act.put, gA9, gZ9, gC9, sA9, sZ9, sC9]
        refine wl_take (v := .bool false) (by kernel_rfl) (by go_simp) ?_
        simp only [Act.put, gA9, gZ9, gC9, sA9, sZ9, sC9]
        refine wl_skip (by kernel_rfl) ?_
        simp only [Act.put, gA9, gZ9, gC9, sA9, sZ9, sC9]
        refine wl_skip (by kernel_rfl) ?_
        simp only [Act.put, gA9, gZ9, gC9, sA9, sZ9, sC9]
        refine wl_skip (by kernel_rfl) ?_
        simp only [Act.put, gA9, gZ9, gC9, sA9, sZ9, sC9]
        refine wl_skip (by kernel_rfl) ?_
        simp only [Act.put, gA9, gZ9, gC9, sA9, sZ9, sC9]
        refine wl_skip (by kernel_rfl) ?_
        simp only [Act.put, gA9, gZ9, gC9, sA9, sZ9, sC9]
        refine wl_take (v := .bool false) (by kernel_rfl) (by go_simp) ?_
        simp only [Act.put, gA9, gZ9, gC9, sA9, sZ9, sC9]
        refine wl_take (v := .bool false) (by kernel_rfl) (by go_simp) ?_
        simp only [Act.put, gA9, gZ9, gC9, sA9, sZ9, sC9]
        refine wl_skip (by kernel_rfl) ?_
        simp only [Act.put, gA9, gZ9, gC9, sA9, sZ9, sC9]
        refine wl_skip (by kernel_rfl) ?_
        simp only [Act.put, gA9, gZ9, gC9, sA9, sZ9, sC9]
        refine wl_skip (by kernel_rfl) ?_
        simp only [Act.put, gA9, gZ9, gC9, sA9, sZ9, sC9]
        refine wl_skip (by kernel_rfl) ?_
        simp only [Act.put, gA9, gZ9, gC9, sA9, sZ9, sC9]
        refine wl_skip (by kernel_rfl) ?_
        simp only [Act.put, gA9, gZ9, gC9, sA9, sZ9, sC9]
        refine wl_take (v := .bool false) (by kernel_rfl) (by go_simp) ?_
        simp only [Act.put, gA9, gZ9, gC9, sA9, sZ9, sC9]
        refine ⟨?_⟩
        go_wp2
        go_ret
        exact ⟨by rw [Hs.out, g2]; rfl, bstep HBw.out HB1.out⟩
      rcases Bool.eq_false_or_eq_true (p.rev == p'.rev) with g3 | g3
      rotate_left
      · skip
        go_enter Try.func22, Try.ntmps22
        go_wp2_with (first | (refine wl_at 9 rfl ?_) | fail)
        refine wl_step (by kernel_rfl) fun K hK => ?_
        go_simp
        refine (F0.out _ HBx.out).mono ?_
        rintro e X0 ⟨rfl, hb0⟩
        refine hK _ _ ?_
        clear hK K
        try (simp only [Act.put, gA9, gZ9, gC9, sA9, sZ9, sC9])
        have HB0 : Hid (Below W2.heap.size W2 X0) := hb0
        clear hb0
        have ca8 := below_at HB0.out a8
        have cd8 := below_at HB0.out d8
        have ca1 := below_at HB0.out a1
        have cd1 := below_at HB0.out d1
        have ca2 := below_at HB0.out a2
        have cd2 := below_at HB0.out d2
        have ca3 := below_at HB0.out a3
        have cd3 := below_at HB0.out d3
        refine wl_take (v := .bool true) (by kernel_rfl) (by go_simp) ?_
        simp only [Act.put, gA9, gZ9, gC9, sA9, sZ9, sC9]
        refine wl_take (v := .pointer (some ⟨w.heap.size, 8, none⟩)) (by kernel_rfl) (by go_simp) ?_
        simp only [Act.put, gA9, gZ9, gC9, sA9, sZ9, sC9]
        refine wl_take (v := .slice p.va p.vn p.vc) (by kernel_rfl) (by go_simp) ?_
        simp only [Act.put, gA9, gZ9, gC9, sA9, sZ9, sC9]
        refine wl_take (v := .pointer (some ⟨W1.heap.size, 8, none⟩)) (by kernel_rfl) (by go_simp) ?_
        simp only [Act.put, gA9, gZ9, gC9, sA9, sZ9, sC9]
        refine wl_take (v := .slice p'.va p'.vn p'.vc) (by kernel_rfl) (by go_simp) ?_
        simp only [Act.put, gA9, gZ9, gC9, sA9, sZ9, sC9]
        refine wl_step (by kernel_rfl) fun K hK => ?_
        go_simp
        refine (F1.out _ HB0.out).mono ?_
        rintro e X1 ⟨rfl, hb1⟩
        refine hK _ _ ?_
        clear hK K
        try (simp only [Act.put, gA9, gZ9, gC9, sA9, sZ9, sC9])
        have HB1 : Hid (Below W2.heap.size W2 X1) := bstep HB0.out hb1
        clear hb1
        have qa1 := below_at HB1.out a1
        have qd1 := below_at HB1.out d1
        have qa2 := below_at HB1.out a2
        have qd2 := below_at HB1.out d2
        have qa3 := below_at HB1.out a3
        have qd3 := below_at HB1.out d3
        refine wl_take (v := .bool true) (by kernel_rfl) (by go_simp) ?_
        simp only [Act.put, gA9, gZ9, gC9, sA9, sZ9, sC9]
        refine wl_take (v := .bool true) (by kernel_rfl) (by go_simp) ?_
        simp only [Act.put, gA9, gZ9, gC9, sA9, sZ9, sC9]
        refine wl_take (v := .pointer (some ⟨w.heap.size, 1, none⟩)) (by kernel_rfl) (by go_simp) ?_
        simp only [Act.put, gA9, gZ9, gC9, sA9, sZ9, sC9]
        refine wl_take (v := .int .i64 p.cid) (by kernel_rfl) (by go_simp) ?_
        simp only [Act.put, gA9, gZ9, gC9, sA9, sZ9, sC9]
        refine wl_take (v := .pointer (some ⟨W1.heap.size, 1, none⟩)) (by kernel_rfl) (by go_simp) ?_
        simp only [Act.put, gA9, gZ9, gC9, sA9, sZ9, sC9]
        refine wl_take (v := .int .i64 p'.cid) (by kernel_rfl) (by go_simp) ?_
        simp only [Act.put, gA9, gZ9, gC9, sA9, sZ9, sC9]
        refine wl_take (v := .bool true) (by kernel_rfl) (by (go_simp <;> simpa using g2)) ?_
        simp only [Act.put, gA9, gZ9, gC9, sA9, sZ9, sC9]
        refine wl_take (v := .bool true) (by kernel_rfl) (by go_simp) ?_
        simp only [Act.put, gA9, gZ9, gC9, sA9, sZ9, sC9]
        refine wl_take (v := .bool true) (by kernel_rfl) (by go_simp) ?_
        simp only [Act.put, gA9, gZ9, gC9, sA9, sZ9, sC9]
        refine wl_take (v := .pointer (some ⟨w.heap.size, 2, none⟩)) (by kernel_rfl) (by go_simp) ?_
        simp only [Act.put, gA9, gZ9, gC9, sA9, sZ9, sC9]
        refine wl_take (v := .int .i64 p.rev) (by kernel_rfl) (by go_simp) ?_
        simp only [Act.put, gA9, gZ9, gC9, sA9, sZ9, sC9]
        refine wl_take (v := .pointer (some ⟨W1.heap.size, 2, none⟩)) (by kernel_rfl) (by go_simp) ?_
        simp only [Act.put, gA9, gZ9, gC9, sA9, sZ9, sC9]
        refine wl_take (v := .int .i64 p'.rev) (by kernel_rfl) (by go_simp) ?_
        simp only [Act.put, gA9, gZ9, gC9, sA9, sZ9, sC9]
        refine wl_take (v := .bool false) (by kernel_rfl) (by (go_simp <;> simpa using g3)) ?_
        simp only [Act.put, gA9, gZ9, gC9, sA9, sZ9, sC9]
        refine wl_take (v := .bool false) (by kernel_rfl) (by go_simp) ?_
        simp only [Act.put, gA9, gZ9, gC9, sA9, sZ9, sC9]
        refine wl_take (v := .bool false) (by kernel_rfl) (by go_simp) ?_
        simp only [Act.put, gA9, gZ9, gC9, sA9, sZ9, sC9]
        refine wl_skip (by kernel_rfl) ?_
        simp only [Act.put, gA9, gZ9, gC9, sA9, sZ9, sC9]
        refine wl_skip (by kernel_rfl) ?_
        simp only [Act.put, gA9, gZ9, gC9, sA9, sZ9, sC9]
        refine wl_skip (by kernel_rfl) ?_
        simp only [Act.put, gA9, gZ9, gC9, sA9, sZ9, sC9]
        refine wl_skip (by kernel_rfl) ?_
        simp only [Act.put, gA9, gZ9, gC9, sA9, sZ9, sC9]
        refine wl_skip (by kernel_rfl) ?_
        simp only [Act.put, gA9, gZ9, gC9, sA9, sZ9, sC9]
        refine wl_take (v := .bool false) (by kernel_rfl) (by go_simp) ?_
        simp only [Act.put, gA9, gZ9, gC9, sA9, sZ9, sC9]
        refine wl_take (v := .bool false) (by kernel_rfl) (by go_simp) ?_
        simp only [Act.put, gA9, gZ9, gC9, sA9, sZ9, sC9]
        refine wl_skip (by kernel_rfl) ?_
        simp only [Act.put, gA9, gZ9, gC9, sA9, sZ9, sC9]
        refine wl_skip (by kernel_rfl) ?_
        simp only [Act.put, gA9, gZ9, gC9, sA9, sZ9, sC9]
        refine wl_skip (by kernel_rfl) ?_
        simp only [Act.put, gA9, gZ9, gC9, sA9, sZ9, sC9]
        refine wl_skip (by kernel_rfl) ?_
        simp only [Act.put, gA9, gZ9, gC9, sA9, sZ9, sC9]
        refine wl_skip (by kernel_rfl) ?_
        simp only [Act.put, gA9, gZ9, gC9, sA9, sZ9, sC9]
        refine wl_take (v := .bool false) (by kernel_rfl) (by go_simp) ?_
        simp only [Act.put, gA9, gZ9, gC9, sA9, sZ9, sC9]
        refine ⟨?_⟩
        go_wp2
        go_ret
        exact ⟨by rw [Hs.out, g2, g3]; rfl, bstep HBw.out HB1.out⟩
      rcases Bool.eq_false_or_eq_true (p.top == p'.top) with g4 | g4
      rotate_left
      · skip
        go_enter Try.func22, Try.ntmps22
        go_wp2_with (first | (refine wl_at 9 rfl ?_) | fail)
        refine wl_step (by kernel_rfl) fun K hK => ?_
        go_simp
        refine (F0.out _ HBx.out).mono ?_
        rintro e X0 ⟨rfl, hb0⟩
        refine hK _ _ ?_
        clear hK K
        try (simp only [Act.put, gA9, gZ9, gC9, sA9, sZ9, sC9])
        have HB0 : Hid (Below W2.heap.size W2 X0) := hb0
        clear hb0
        have ca8 := below_at HB0.out a8
        have cd8 := below_at HB0.out d8
        have ca1 := below_at HB0.out a1
        have cd1 := below_at HB0.out d1
        have ca2 := below_at HB0.out a2
        have cd2 := below_at HB0.out d2
        have ca3 := below_at HB0.out a3
        have cd3 := below_at HB0.out d3
        refine wl_take (v := .bool true) (by kernel_rfl) (by go_simp) ?_
        simp only [Act.put, gA9, gZ9, gC9, sA9, sZ9, sC9]
        refine wl_take (v := .pointer (some ⟨w.heap.size, 8, none⟩)) (by kernel_rfl) (by go_simp) ?_
        simp only [Act.put, gA9, gZ9, gC9, sA9, sZ9, sC9]
        refine wl_take (v := .slice p.va p.vn p.vc) (by kernel_rfl) (by go_simp) ?_
        simp only [Act.put, gA9, gZ9, gC9, sA9, sZ9, sC9]
        refine wl_take (v := .pointer (some ⟨W1.heap.size, 8, none⟩)) (by kernel_rfl) (by go_simp) ?_
        simp only [Act.put, gA9, gZ9, gC9, sA9, sZ9, sC9]
        refine wl_take (v := .slice p'.va p'.vn p'.vc) (by kernel_rfl) (by go_simp) ?_
        simp only [Act.put, gA9, gZ9, gC9, sA9, sZ9, sC9]
        refine wl_step (by kernel_rfl) fun K hK => ?_
        go_simp
        refine (F1.out _ HB0.out).mono ?_
        rintro e X1 ⟨rfl, hb1⟩
        refine hK _ _ ?_
        clear hK K
        try (simp only [Act.put, gA9, gZ9, gC9, sA9, sZ9, sC9])
        have HB1 : Hid (Below W2.heap.size W2 X1) := bstep HB0.out hb1
        clear hb1
        have qa1 := below_at HB1.out a1
        have qd1 := below_at HB1.out d1
        have qa2 := below_at HB1.out a2
        have qd2 := below_at HB1.out d2
        have qa3 := below_at HB1.out a3
        have qd3 := below_at HB1.out d3
        refine wl_take (v := .bool true) (by kernel_rfl) (by go_simp) ?_
        simp only [Act.put, gA9, gZ9, gC9, sA9, sZ9, sC9]
        refine wl_take (v := .bool true) (by kernel_rfl) (by go_simp) ?_
        simp only [Act.put, gA9, gZ9, gC9, sA9, sZ9, sC9]
        refine wl_take (v := .pointer (some ⟨w.heap.size, 1, none⟩)) (by kernel_rfl) (by go_simp) ?_
        simp only [Act.put, gA9, gZ9, gC9, sA9, sZ9, sC9]
        refine wl_take (v := .int .i64 p.cid) (by kernel_rfl) (by go_simp) ?_
        simp only [Act.put, gA9, gZ9, gC9, sA9, sZ9, sC9]
        refine wl_take (v := .pointer (some ⟨W1.heap.size, 1, none⟩)) (by kernel_rfl) (by go_simp) ?_
        simp only [Act.put, gA9, gZ9, gC9, sA9, sZ9, sC9]
        refine wl_take (v := .int .i64 p'.cid) (by kernel_rfl) (by go_simp) ?_
        simp only [Act.put, gA9, gZ9, gC9, sA9, sZ9, sC9]
        refine wl_take (v := .bool true) (by kernel_rfl) (by (go_simp <;> simpa using g2)) ?_
        simp only [Act.put, gA9, gZ9, gC9, sA9, sZ9, sC9]
        refine wl_take (v := .bool true) (by kernel_rfl) (by go_simp) ?_
        simp only [Act.put, gA9, gZ9, gC9, sA9, sZ9, sC9]
        refine wl_take (v := .bool true) (by kernel_rfl) (by go_simp) ?_
        simp only [Act.put, gA9, gZ9, gC9, sA9, sZ9, sC9]
        refine wl_take (v := .pointer (some ⟨w.heap.size, 2, none⟩)) (by kernel_rfl) (by go_simp) ?_
        simp only [Act.put, gA9, gZ9, gC9, sA9, sZ9, sC9]
        refine wl_take (v := .int .i64 p.rev) (by kernel_rfl) (by go_simp) ?_
        simp only [Act.put, gA9, gZ9, gC9, sA9, sZ9, sC9]
        refine wl_take (v := .pointer (some ⟨W1.heap.size, 2, none⟩)) (by kernel_rfl) (by go_simp) ?_
        simp only [Act.put, gA9, gZ9, gC9, sA9, sZ9, sC9]
        refine wl_take (v := .int .i64 p'.rev) (by kernel_rfl) (by go_simp) ?_
        simp only [Act.put, gA9, gZ9, gC9, sA9, sZ9, sC9]
        refine wl_take (v := .bool true) (by kernel_rfl) (by (go_simp <;> simpa using g3)) ?_
        simp only [Act.put, gA9, gZ9, gC9, sA9, sZ9, sC9]
        refine wl_take (v := .bool true) (by kernel_rfl) (by go_simp) ?_
        simp only [Act.put, gA9, gZ9, gC9, sA9, sZ9, sC9]
        refine wl_take (v := .bool true) (by kernel_rfl) (by go_simp) ?_
        simp only [Act.put, gA9, gZ9, gC9, sA9, sZ9, sC9]
        refine wl_take (v := .pointer (some ⟨w.heap.size, 3, none⟩)) (by kernel_rfl) (by go_simp) ?_
        simp only [Act.put, gA9, gZ9, gC9, sA9, sZ9, sC9]
        refine wl_take (v := .int .i64 p.top) (by kernel_rfl) (by go_simp) ?_
        simp only [Act.put, gA9, gZ9, gC9, sA9, sZ9, sC9]
        refine wl_take (v := .pointer (some ⟨W1.heap.size, 3, none⟩)) (by kernel_rfl) (by go_simp) ?_
        simp only [Act.put, gA9, gZ9, gC9, sA9, sZ9, sC9]
        refine wl_take (v := .int .i64 p'.top) (by kernel_rfl) (by go_simp) ?_
        simp only [Act.put, gA9, gZ9, gC9, sA9, sZ9, sC9]
        refine wl_take (v := .bool false) (by kernel_rfl) (by (go_simp <;> simpa using g4)) ?_
        simp only [Act.put, gA9, gZ9, gC9, sA9, sZ9, sC9]
        refine wl_take (v := .bool false) (by kernel_rfl) (by go_simp) ?_
        simp only [Act.put, gA9, gZ9, gC9, sA9, sZ9, sC9]
        refine wl_take (v := .bool false) (by kernel_rfl) (by go_simp) ?_
        simp only [Act.put, gA9, gZ9, gC9, sA9, sZ9, sC9]
        refine wl_skip (by kernel_rfl) ?_
        simp only [Act.put, gA9, gZ9, gC9, sA9, sZ9, sC9]
        refine wl_skip (by kernel_rfl) ?_
        simp only [Act.put, gA9, gZ9, gC9, sA9, sZ9, sC9]
        refine wl_skip (by kernel_rfl) ?_
        simp only [Act.put, gA9, gZ9, gC9, sA9, sZ9, sC9]
        refine wl_skip (by kernel_rfl) ?_
        simp only [Act.put, gA9, gZ9, gC9, sA9, sZ9, sC9]
        refine wl_skip (by kernel_rfl) ?_
        simp only [Act.put, gA9, gZ9, gC9, sA9, sZ9, sC9]
        refine wl_take (v := .bool false) (by kernel_rfl) (by go_simp) ?_
        simp only [Act.put, gA9, gZ9, gC9, sA9, sZ9, sC9]
        refine ⟨?_⟩
        go_wp2
        go_ret
        exact ⟨by rw [Hs.out, g2, g3, g4]; rfl, bstep HBw.out HB1.out⟩
      cases f5 with
      | false =>
        go_enter Try.func22, Try.ntmps22
        go_wp2_with (first | (refine wl_at 9 rfl ?_) | fail)
        refine wl_step (by kernel_rfl) fun K hK => ?_
        go_simp
        refine (F0.out _ HBx.out).mono ?_
        rintro e X0 ⟨rfl, hb0⟩
        refine hK _ _ ?_
        clear hK K
        try (simp only [Act.put, gA9, gZ9, gC9, sA9, sZ9, sC9])
        have HB0 : Hid (Below W2.heap.size W2 X0) := hb0
        clear hb0
        have ca8 := below_at HB0.out a8
        have cd8 := below_at HB0.out d8
        have ca1 := below_at HB0.out a1
        have cd1 := below_at HB0.out d1
        have ca2 := below_at HB0.out a2
        have cd2 := below_at HB0.out d2
        have ca3 := below_at HB0.out a3
        have cd3 := below_at HB0.out d3
        refine wl_take (v := .bool true) (by kernel_rfl) (by go_simp) ?_
        simp only [Act.put, gA9, gZ9, gC9, sA9, sZ9, sC9]
        refine wl_take (v := .pointer (some ⟨w.heap.size, 8, none⟩)) (by kernel_rfl) (by go_simp) ?_
        simp only [Act.put, gA9, gZ9, gC9, sA9, sZ9, sC9]
        refine wl_take (v := .slice p.va p.vn p.vc) (by kernel_rfl) (by go_simp) ?_
        simp only [Act.put, gA9, gZ9, gC9, sA9, sZ9, sC9]
        refine wl_take (v := .pointer (some ⟨W1.heap.size, 8, none⟩)) (by kernel_rfl) (by go_simp) ?_
        simp only [Act.put, gA9, gZ9, gC9, sA9, sZ9, sC9]
        refine wl_take (v := .slice p'.va p'.vn p'.vc) (by kernel_rfl) (by go_simp) ?_
        simp only [Act.put, gA9, gZ9, gC9, sA9, sZ9, sC9]
        refine wl_step (by kernel_rfl) fun K hK => ?_
        go_simp
        refine (F1.out _ HB0.out).mono ?_
        rintro e X1 ⟨rfl, hb1⟩
        refine hK _ _ ?_
        clear hK K
        try (simp only [Act.put, gA9, gZ9, gC9, sA9, sZ9, sC9])
        have HB1 : Hid (Below W2.heap.size W2 X1) := bstep HB0.out hb1
        clear hb1
        have qa1 := below_at HB1.out a1
        have qd1 := below_at HB1.out d1
        have qa2 := below_at HB1.out a2
        have qd2 := below_at HB1.out d2
        have qa3 := below_at HB1.out a3
        have qd3 := below_at HB1.out d3
        refine wl_take (v := .bool true) (by kernel_rfl) (by go_simp) ?_
        simp only [Act.put, gA9, gZ9, gC9, sA9, sZ9, sC9]
        refine wl_take (v := .bool true) (by kernel_rfl) (by go_simp) ?_
        simp only [Act.put, gA9, gZ9, gC9, sA9, sZ9, sC9]
        refine wl_take (v := .pointer (some ⟨w.heap.size, 1, none⟩)) (by kernel_rfl) (by go_simp) ?_
        simp only [Act.put, gA9, gZ9, gC9, sA9, sZ9, sC9]
        refine wl_take (v := .int .i64 p.cid) (by kernel_rfl) (by go_simp) ?_
        simp only [Act.put, gA9, gZ9, gC9, sA9, sZ9, sC9]
        refine wl_take (v := .pointer (some ⟨W1.heap.size, 1, none⟩)) (by kernel_rfl) (by go_simp) ?_
        simp only [Act.put, gA9, gZ9, gC9, sA9, sZ9, sC9]
        refine wl_take (v := .int .i64 p'.cid) (by kernel_rfl) (by go_simp) ?_
        simp only [Act.put, gA9, gZ9, gC9, sA9, sZ9, sC9]
        refine wl_take (v := .bool true) (by kernel_rfl) (by (go_simp <;> simpa using g2)) ?_
        simp only [Act.put, gA9, gZ9, gC9, sA9, sZ9, sC9]
        refine wl_take (v := .bool true) (by kernel_rfl) (by go_simp) ?_
        simp only [Act.put, gA9, gZ9, gC9, sA9, sZ9, sC9]
        refine wl_take (v := .bool true) (by kernel_rfl) (by go_simp) ?_
        simp only [Act.put, gA9, gZ9, gC9, sA9, sZ9, sC9]
        refine wl_take (v := .pointer (some ⟨w.heap.size, 2, none⟩)) (by kernel_rfl) (by go_simp) ?_
        simp only [Act.put, gA9, gZ9, gC9, sA9, sZ9, sC9]
        refine wl_take (v := .int .i64 p.rev) (by kernel_rfl) (by go_simp) ?_
        simp only [Act.put, gA9, gZ9, gC9, sA9, sZ9, sC9]
        refine wl_take (v := .pointer (some ⟨W1.heap.size, 2, none⟩)) (by kernel_rfl) (by go_simp) ?_
        simp only [Act.put, gA9, gZ9, gC9, sA9, sZ9, sC9]
        refine wl_take (v := .int .i64 p'.rev) (by kernel_rfl) (by go_simp) ?_
        simp only [Act.put, gA9, gZ9, gC9, sA9, sZ9, sC9]
        refine wl_take (v := .bool true) (by kernel_rfl) (by (go_simp <;> simpa using g3)) ?_
        simp only [Act.put, gA9, gZ9, gC9, sA9, sZ9, sC9]
        refine wl_take (v := .bool true) (by kernel_rfl) (by go_simp) ?_
        simp only [Act.put, gA9, gZ9, gC9, sA9, sZ9, sC9]
        refine wl_take (v := .bool true) (by kernel_rfl) (by go_simp) ?_
        simp only [Act.put, gA9, gZ9, gC9, sA9, sZ9, sC9]
        refine wl_take (v := .pointer (some ⟨w.heap.size, 3, none⟩)) (by kernel_rfl) (by go_simp) ?_
        simp only [Act.put, gA9, gZ9, gC9, sA9, sZ9, sC9]
        refine wl_take (v := .int .i64 p.top) (by kernel_rfl) (by go_simp) ?_
        simp only [Act.put, gA9, gZ9, gC9, sA9, sZ9, sC9]
        refine wl_take (v := .pointer (some ⟨W1.heap.size, 3, none⟩)) (by kernel_rfl) (by go_simp) ?_
        simp only [Act.put, gA9, gZ9, gC9, sA9, sZ9, sC9]
        refine wl_take (v := .int .i64 p'.top) (by kernel_rfl) (by go_simp) ?_
        simp only [Act.put, gA9, gZ9, gC9, sA9, sZ9, sC9]
        refine wl_take (v := .bool true) (by kernel_rfl) (by (go_simp <;> simpa using g4)) ?_
        simp only [Act.put, gA9, gZ9, gC9, sA9, sZ9, sC9]
        refine wl_take (v := .bool true) (by kernel_rfl) (by go_simp) ?_
        simp only [Act.put, gA9, gZ9, gC9, sA9, sZ9, sC9]
        refine wl_take (v := .bool true) (by kernel_rfl) (by go_simp) ?_
        simp only [Act.put, gA9, gZ9, gC9, sA9, sZ9, sC9]
        refine wl_take (v := .pointer (some ⟨w.heap.size, 4, none⟩)) (by kernel_rfl) (by go_simp) ?_
        simp only [Act.put, gA9, gZ9, gC9, sA9, sZ9, sC9]
        refine wl_take (v := .agg (ints p.prev).toArray) (by kernel_rfl) (run_loadmid 31 (.tmp 39) rfl (by rfl) (rng_below A4.out HB1.out) Try.underlying31 rfl (by rw [ints_len, hl]; exact info_id)) ?_
        simp only [Act.put, gA9, gZ9, gC9, sA9, sZ9, sC9]
        refine wl_take (v := .pointer (some ⟨W1.heap.size, 4, none⟩)) (by kernel_rfl) (by go_simp) ?_
        simp only [Act.put, gA9, gZ9, gC9, sA9, sZ9, sC9]
        refine wl_take (v := .agg (ints p'.prev).toArray) (by kernel_rfl) (run_loadmid 31 (.tmp 41) rfl (by rfl) (rng_below D4.out HB1.out) Try.underlying31 rfl (by rw [ints_len, hl']; exact info_id)) ?_
        simp only [Act.put, gA9, gZ9, gC9, sA9, sZ9, sC9]
        refine wl_step (by kernel_rfl) fun K hK => ?_
        go_simp
        refine (F5.out _ HB1.out).mono ?_
        rintro e X2 ⟨rfl, hb2⟩
        refine hK _ _ ?_
        clear hK K
        try (simp only [Act.put, gA9, gZ9, gC9, sA9, sZ9, sC9])
        have HB2 : Hid (Below W2.heap.size W2 X2) := bstep HB1.out hb2
        clear hb2
        refine wl_take (v := .bool false) (by kernel_rfl) (by go_simp) ?_
        simp only [Act.put, gA9, gZ9, gC9, sA9, sZ9, sC9]
        refine ⟨?_⟩
        go_wp2
        go_ret
        exact ⟨by rw [Hs.out, g2, g3, g4]; rfl, bstep HBw.out HB2.out⟩
      | true =>
        go_enter Try.func22, Try.ntmps22
        go_wp2_with (first | (refine wl_at 9 rfl ?_) | fail)
        refine wl_step (by kernel_rfl) fun K hK => ?_
        go_simp
        refine (F0.out _ HBx.out).mono ?_
        rintro e X0 ⟨rfl, hb0⟩
        refine hK _ _ ?_
        clear hK K
        try (simp only [Act.put, gA9, gZ9, gC9, sA9, sZ9, sC9])
        have HB0 : Hid (Below W2.heap.size W2 X0) := hb0
        clear hb0
        have ca8 := below_at HB0.out a8
        have cd8 := below_at HB0.out d8
        have ca1 := below_at HB0.out a1
        have cd1 := below_at HB0.out d1
        have ca2 := below_at HB0.out a2
        have cd2 := below_at HB0.out d2
        have ca3 := below_at HB0.out a3
        have cd3 := below_at HB0.out d3
        refine wl_take (v := .bool true) (by kernel_rfl) (by go_simp) ?_
        simp only [Act.put, gA9, gZ9, gC9, sA9, sZ9, sC9]
        refine wl_take (v := .pointer (some ⟨w.heap.size, 8, none⟩)) (by kernel_rfl) (by go_simp) ?_
        simp only [Act.put, gA9, gZ9, gC9, sA9, sZ9, sC9]
        refine wl_take (v := .slice p.va p.vn p.vc) (by kernel_rfl) (by go_simp) ?_
        simp only [Act.put, gA9, gZ9, gC9, sA9, sZ9, sC9]
        refine wl_take (v := .pointer (some ⟨W1.heap.size, 8, none⟩)) (by kernel_rfl) (by go_simp) ?_
        simp only [Act.put, gA9, gZ9, gC9, sA9, sZ9, sC9]
        refine wl_take (v := .slice p'.va p'.vn p'.vc) (by kernel_rfl) (by go_simp) ?_
        simp only [Act.put, gA9, gZ9, gC9, sA9, sZ9, sC9]
        refine wl_step (by kernel_rfl) fun K hK => ?_
        go_simp
        refine (F1.out _ HB0.out).mono ?_
        rintro e X1 ⟨rfl, hb1⟩
        refine hK _ _ ?_
        clear hK K
        try (simp only [Act.put, gA9, gZ9, gC9, sA9, sZ9, sC9])
        have HB1 : Hid (Below W2.heap.size W2 X1) := bstep HB0.out hb1
        clear hb1
        have qa1 := below_at HB1.out a1
        have qd1 := below_at HB1.out d1
        have qa2 := below_at HB1.out a2
        have qd2 := below_at HB1.out d2
        have qa3 := below_at HB1.out a3
        have qd3 := below_at HB1.out d3
        refine wl_take (v := .bool true) (by kernel_rfl) (by go_simp) ?_
        simp only [Act.put, gA9, gZ9, gC9, sA9, sZ9, sC9]
        refine wl_take (v := .bool true) (by kernel_rfl) (by go_simp) ?_
        simp only [Act.put, gA9, gZ9, gC9, sA9, sZ9, sC9]
        refine wl_take (v := .pointer (some ⟨w.heap.size, 1, none⟩)) (by kernel_rfl) (by go_simp) ?_
        simp only [Act.put, gA9, gZ9, gC9, sA9, sZ9, sC9]
        refine wl_take (v := .int .i64 p.cid) (by kernel_rfl) (by go_simp) ?_
        simp only [Act.put, gA9, gZ9, gC9, sA9, sZ9, sC9]
        refine wl_take (v := .pointer (some ⟨W1.heap.size, 1, none⟩)) (by kernel_rfl) (by go_simp) ?_
        simp only [Act.put, gA9, gZ9, gC9, sA9, sZ9, sC9]
        refine wl_take (v := .int .i64 p'.cid) (by kernel_rfl) (by go_simp) ?_
        simp only [Act.put, gA9, gZ9, gC9, sA9, sZ9, sC9]
        refine wl_take (v := .bool true) (by kernel_rfl) (by (go_simp <;> simpa using g2)) ?_
        simp only [Act.put, gA9, gZ9, gC9, sA9, sZ9, sC9]
        refine wl_take (v := .bool true) (by kernel_rfl) (by go_simp) ?_
        simp only [Act.put, gA9, gZ9, gC9, sA9, sZ9, sC9]
        refine wl_take (v := .bool true) (by kernel_rfl) (by go_simp) ?_
        simp only [Act.put, gA9, gZ9, gC9, sA9, sZ9, sC9]
        refine wl_take (v := .pointer (some ⟨w.heap.size, 2, none⟩)) (by kernel_rfl) (by go_simp) ?_
        simp only [Act.put, gA9, gZ9, gC9, sA9, sZ9, sC9]
        refine wl_take (v := .int .i64 p.rev) (by kernel_rfl) (by go_simp) ?_
        simp only [Act.put, gA9, gZ9, gC9, sA9, sZ9, sC9]
        refine wl_take (v := .pointer (some ⟨W1.heap.size, 2, none⟩)) (by kernel_rfl) (by go_simp) ?_
        simp only [Act.put, gA9, gZ9, gC9, sA9, sZ9, sC9]
        refine wl_take (v := .int .i64 p'.rev) (by kernel_rfl) (by go_simp) ?_
        simp only [Act.put, gA9, gZ9, gC9, sA9, sZ9, sC9]
        refine wl_take (v := .bool true) (by kernel_rfl) (by (go_simp <;> simpa using g3)) ?_
        simp only [Act.put, gA9, gZ9, gC9, sA9, sZ9, sC9]
        refine wl_take (v := .bool true) (by kernel_rfl) (by go_simp) ?_
        simp only [Act.put, gA9, gZ9, gC9, sA9, sZ9, sC9]
        refine wl_take (v := .bool true) (by kernel_rfl) (by go_simp) ?_
        simp only [Act.put, gA9, gZ9, gC9, sA9, sZ9, sC9]
        refine wl_take (v := .pointer (some ⟨w.heap.size, 3, none⟩)) (by kernel_rfl) (by go_simp) ?_
        simp only [Act.put, gA9, gZ9, gC9, sA9, sZ9, sC9]
        refine wl_take (v := .int .i64 p.top) (by kernel_rfl) (by go_simp) ?_
        simp only [Act.put, gA9, gZ9, gC9, sA9, sZ9, sC9]
        refine wl_take (v := .pointer (some ⟨W1.heap.size, 3, none⟩)) (by kernel_rfl) (by go_simp) ?_
        simp only [Act.put, gA9, gZ9, gC9, sA9, sZ9, sC9]
        refine wl_take (v := .int .i64 p'.top) (by kernel_rfl) (by go_simp) ?_
        simp only [Act.put, gA9, gZ9, gC9, sA9, sZ9, sC9]
        refine wl_take (v := .bool true) (by kernel_rfl) (by (go_simp <;> simpa using g4)) ?_
        simp only [Act.put, gA9, gZ9, gC9, sA9, sZ9, sC9]
        refine wl_take (v := .bool true) (by kernel_rfl) (by go_simp) ?_
        simp only [Act.put, gA9, gZ9, gC9, sA9, sZ9, sC9]
        refine wl_take (v := .bool true) (by kernel_rfl) (by go_simp) ?_
        simp only [Act.put, gA9, gZ9, gC9, sA9, sZ9, sC9]
        refine wl_take (v := .pointer (some ⟨w.heap.size, 4, none⟩)) (by kernel_rfl) (by go_simp) ?_
        simp only [Act.put, gA9, gZ9, gC9, sA9, sZ9, sC9]
        refine wl_take (v := .agg (ints p.prev).toArray) (by kernel_rfl) (run_loadmid 31 (.tmp 39) rfl (by rfl) (rng_below A4.out HB1.out) Try.underlying31 rfl (by rw [ints_len, hl]; exact info_id)) ?_
        simp only [Act.put, gA9, gZ9, gC9, sA9, sZ9, sC9]
        refine wl_take (v := .pointer (some ⟨W1.heap.size, 4, none⟩)) (by kernel_rfl) (by go_simp) ?_
        simp only [Act.put, gA9, gZ9, gC9, sA9, sZ9, sC9]
        refine wl_take (v := .agg (ints p'.prev).toArray) (by kernel_rfl) (run_loadmid 31 (.tmp 41) rfl (by rfl) (rng_below D4.out HB1.out) Try.underlying31 rfl (by rw [ints_len, hl']; exact info_id)) ?_
        simp only [Act.put, gA9, gZ9, gC9, sA9, sZ9, sC9]
        refine wl_step (by kernel_rfl) fun K hK => ?_
        go_simp
        refine (F5.out _ HB1.out).mono ?_
        rintro e X2 ⟨rfl, hb2⟩
        refine hK _ _ ?_
        clear hK K
        try (simp only [Act.put, gA9, gZ9, gC9, sA9, sZ9, sC9])
        have HB2 : Hid (Below W2.heap.size W2 X2) := bstep HB1.out hb2
        clear hb2
        refine wl_take (v := .bool true) (by kernel_rfl) (by go_simp) ?_
        simp only [Act.put, gA9, gZ9, gC9, sA9, sZ9, sC9]
        refine ⟨?_⟩
        go_wp2
        go_ret
        exact ⟨by rw [Hs.out, g2, g3, g4]; rfl, bstep HBw.out HB2.out⟩
end
end Go.Proofs.Ytdegjhkjmgimpaa.Mb
