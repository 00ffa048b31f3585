import Derived.Test.YtdegjhkjmgimpaaV07
namespace Go.Proofs.Ytdegjhkjmgimpaa.Mb
open Go.RowKit
set_option linter.unusedVariables false
set_option maxRecDepth 100000
set_option linter.unusedSimpArgs false
section
variable {A A' : Ag} {w w' W : World} {B : Nat} {T : Int}
def Ag.leaves (A : Ag) (q : Nat) : Bool := (List.range A.k).any (lvs q ((A.lat q).set.getD q 0) (A.lat q).cid A.ms)
theorem Ag.Ok.rdM (h : A.Ok w B T) : ∃ ao c, A.msv = .slice ao A.k c ∧ RdM w ao A.k A.ms := by
  rcases h.mem.2 with ⟨h2, h3⟩ | ⟨g, cap, cur, h2, h3⟩
  · refine ⟨none, 0, by rw [h2, h3], ?_⟩
    have := h.mem
    rw [h2] at this
    rw [h3] at this
    rw [h3]
    exact own_rdM this
  · refine ⟨some ⟨g, 0, none⟩, cap, h2, ?_⟩
    have := h.mem
    rw [h2] at this
    exact own_rdM this
set_option maxHeartbeats 2000000 in
theorem leaves_any (h : A.Ok w B T) (q : Nat) (hq : q < 16) : Calls Try.prog 41 #[.pointer (some ⟨A.b, 0, none⟩), .int .i64 q] w fun e w' => e = .returned (.bool (A.leaves q)) ∧ Below w.heap.size w w' := by
  obtain ⟨ao, cp, hmv, hrm⟩ := h.rdM
  generalize hW1 : w.alloc (.cells #[.int .i64 q] 3) = W1
  have b1 : Below w.heap.size w W1 := hW1 ▸ balloc (Below.refl _ _)
  have s1 : W1.heap.size = w.heap.size + 1 := by rw [← hW1]; simp
  have k1 : W1.heap[w.heap.size]? = some (.cells #[.int .i64 q] 3 (0, 0)) := by rw [← hW1]; exact heap_alloc_new w _
  have c0 : W1.cell? ⟨w.heap.size, 0, none⟩ = some (.int .i64 q) := blk_cell k1 0
  have hA := h.still b1
  have c1 : W1.cell? ⟨A.b, 41 + q * 39 + q, none⟩ = some (.int .i64 ((A.lat q).set.getD q 0)) := by rw [hA.lat_c q q hq (by omega), (h.ll q).at_set q hq]
  have c2 : W1.cell? ⟨A.b, 41 + q * 39 + 16, none⟩ = some (.int .i64 (A.lat q).cid) := by rw [hA.lat_c q 16 hq (by omega), (h.ll q).cid]
  have Hl : Hid (A.leaves q = (List.range A.k).any (lvs q ((A.lat q).set.getD q 0) (A.lat q).cid A.ms)) := rfl
  generalize (A.lat q).set.getD q 0 = inc at *
  generalize (A.lat q).cid = cid at *
  have i3 : (q : Int) < 16 := by omega
  generalize hA1 : W1.drew.alloc (.cells #[.int .i64 0] 3) = X1
  generalize hA2 : X1.alloc (.cells #[.int .i64 0] 3) = X2
  have bA1 : Below W1.heap.size W1 X1 := by rw [← hA1]; exact (Below.refl _ _).drew.alloc (Nat.le_refl _) _
  have bA12 : Below X1.heap.size X1 X2 := by rw [← hA2]; exact balloc (Below.refl _ _)
  have bA2 : Below W1.heap.size W1 X2 := bstep bA1 bA12
  have sA1 : X1.heap.size = W1.heap.size + 1 := by rw [← hA1]; simp
  have kA1 : X1.heap[W1.heap.size]? = some (.cells #[.int .i64 0] 3 (0, 0)) := by rw [← hA1]; exact heap_alloc_new W1.drew _
  have kA2 : X2.heap[X1.heap.size]? = some (.cells #[.int .i64 0] 3 (0, 0)) := by rw [← hA2]; exact heap_alloc_new X1 _
  have kA12 : X2.heap[W1.heap.size]? = some (.cells #[.int .i64 0] 3 (0, 0)) := (Kept.ofBelow bA12 (fun _ => False)).obj kA1 (fun hh => hh)
  have HA : Hid (A.Ok w B T) := h
  have HR : Hid (RdM w ao A.k A.ms) := hrm
  have HB1 : Hid (Below w.heap.size w W1) := b1
  have Hk : Hid (A.k ≤ 16) := h.ml.2
  have lb := h.lt_b
  have zk1 : X2.cell? ⟨W1.heap.size, 0, none⟩ = some (.int .i64 0) := blk_cell kA12 0
  have zk2 : X2.cell? ⟨X1.heap.size, 0, none⟩ = some (.int .i64 0) := blk_cell kA2 0
  have zf1 : X2.frozen? ⟨W1.heap.size, 0, none⟩ = false := frozen_of_row X2 _ 0 _ _ kA12
  have zf2 : X2.frozen? ⟨X1.heap.size, 0, none⟩ = false := frozen_of_row X2 _ 0 _ _ kA2
  have lt1 : w.heap.size < W1.heap.size := by omega
  have lt2 : W1.heap.size < X1.heap.size := by omega
  clear h hA k1 kA1 kA2 kA12 hrm s1 sA1
  go_enter Try.func41, Try.ntmps41
  go_wp2
  refine wp_region_held_drew (S := (fun w' => w'.cell? ⟨w.heap.size, 0, none⟩ = some (.int .i64 q) ∧ w'.cell? ⟨A.b, 41 + q * 39 + q, none⟩ = some (.int .i64 inc) ∧ w'.cell? ⟨A.b, 41 + q * 39 + 16, none⟩ = some (.int .i64 cid))) (by kernel_rfl) ⟨below_at (Below.refl _ _).drew c0, below_at (Below.refl _ _).drew c1, below_at (Below.refl _ _).drew c2⟩ (fun hHeld => ?_)
  simp only [Act.put, List.size_toArray, List.length_cons, List.length_nil, Nat.zero_add]
  refine wpAnyH_take (i := 0) (v := .pointer (some ⟨A.b, 0, none⟩)) rfl (by kernel_rfl) (by kernel_rfl) (by kernel_rfl) (fun _ _ _ h => h) (Or.inl ⟨by rfl, fun w' hS => by go_simp⟩) hHeld ?_
  simp only [Act.put, gA9, gZ9, gC9, sA9, sZ9, sC9]
  refine wpAnyH_take (i := 1) (v := .int .i64 (q : Int)) rfl (by kernel_rfl) (by kernel_rfl) (by kernel_rfl) (fun _ _ _ h => h) (Or.inl ⟨by rfl, fun w' hS => by (obtain ⟨s0, s1, s2⟩ := hS; go_simp)⟩) hHeld ?_
  simp only [Act.put, gA9, gZ9, gC9, sA9, sZ9, sC9]
  refine wpAnyH_take (i := 2) (v := .int .i64 (q : Int)) rfl (by kernel_rfl) (by kernel_rfl) (by kernel_rfl) (fun _ _ _ h => h) (Or.inl ⟨by rfl, fun w' hS => by (obtain ⟨s0, s1, s2⟩ := hS; go_simp)⟩) hHeld ?_
  simp only [Act.put, gA9, gZ9, gC9, sA9, sZ9, sC9]
  refine wpAnyH_take (i := 3) (v := .pointer (some ⟨A.b, 0, none⟩)) rfl (by kernel_rfl) (by kernel_rfl) (by kernel_rfl) (fun _ _ _ h => h) (Or.inl ⟨by rfl, fun w' hS => by go_simp⟩) hHeld ?_
  simp only [Act.put, gA9, gZ9, gC9, sA9, sZ9, sC9]
  refine wpAnyH_take (i := 4) (v := .pointer (some ⟨A.b, 41, none⟩)) rfl (by kernel_rfl) (by kernel_rfl) (by kernel_rfl) (fun _ _ _ h => h) (Or.inl ⟨by rfl, fun w' hS => by go_simp⟩) hHeld ?_
  simp only [Act.put, gA9, gZ9, gC9, sA9, sZ9, sC9]
  refine wpAnyH_take (i := 5) (v := .pointer (some ⟨A.b, 41 + q * 39, none⟩)) rfl (by kernel_rfl) (by kernel_rfl) (by kernel_rfl) (fun _ _ _ h => h) (Or.inl ⟨by rfl, fun w' hS => by (go_simp <;> (intro hh; omega))⟩) hHeld ?_
  simp only [Act.put, gA9, gZ9, gC9, sA9, sZ9, sC9]
  refine wpAnyH_take (i := 6) (v := .pointer (some ⟨A.b, 41 + q * 39, none⟩)) rfl (by kernel_rfl) (by kernel_rfl) (by kernel_rfl) (fun _ _ _ h => h) (Or.inl ⟨by rfl, fun w' hS => by go_simp⟩) hHeld ?_
  simp only [Act.put, gA9, gZ9, gC9, sA9, sZ9, sC9]
  refine wpAnyH_take (i := 7) (v := .pointer (some ⟨A.b, 41 + q * 39 + q, none⟩)) rfl (by kernel_rfl) (by kernel_rfl) (by kernel_rfl) (fun _ _ _ h => h) (Or.inl ⟨by rfl, fun w' hS => by (go_simp <;> (intro hh; omega))⟩) hHeld ?_
  simp only [Act.put, gA9, gZ9, gC9, sA9, sZ9, sC9]
  refine wpAnyH_take (i := 8) (v := .int .i64 inc) rfl (by kernel_rfl) (by kernel_rfl) (by kernel_rfl) (fun _ _ _ h => h) (Or.inl ⟨by rfl, fun w' hS => by (obtain ⟨s0, s1, s2⟩ := hS; go_simp)⟩) hHeld ?_
  simp only [Act.put, gA9, gZ9, gC9, sA9, sZ9, sC9]
  refine wpAnyH_take (i := 9) (v := .pointer (some ⟨A.b, 0, none⟩)) rfl (by kernel_rfl) (by kernel_rfl) (by kernel_rfl) (fun _ _ _ h => h) (Or.inl ⟨by rfl, fun w' hS => by go_simp⟩) hHeld ?_
  simp only [Act.put, gA9, gZ9, gC9, sA9, sZ9, sC9]
  refine wpAnyH_take (i := 10) (v := .int .i64 (q : Int)) rfl (by kernel_rfl) (by kernel_rfl) (by kernel_rfl) (fun _ _ _ h => h) (Or.inl ⟨by rfl, fun w' hS => by (obtain ⟨s0, s1, s2⟩ := hS; go_simp)⟩) hHeld ?_
  simp only [Act.put, gA9, gZ9, gC9, sA9, sZ9, sC9]
  refine wpAnyH_take (i := 11) (v := .pointer (some ⟨A.b, 0, none⟩)) rfl (by kernel_rfl) (by kernel_rfl) (by kernel_rfl) (fun _ _ _ h => h) (Or.inl ⟨by rfl, fun w' hS => by go_simp⟩) hHeld ?_
  simp only [Act.put, gA9, gZ9, gC9, sA9, sZ9, sC9]
  refine wpAnyH_take (i := 12) (v := .pointer (some ⟨A.b, 41, none⟩)) rfl (by kernel_rfl) (by kernel_rfl) (by kernel_rfl) (fun _ _ _ h => h) (Or.inl ⟨by rfl, fun w' hS => by go_simp⟩) hHeld ?_
  simp only [Act.put, gA9, gZ9, gC9, sA9, sZ9, sC9]
  refine wpAnyH_take (i := 13) (v := .pointer (some ⟨A.b, 41 + q * 39, none⟩)) rfl (by kernel_rfl) (by kernel_rfl) (by kernel_rfl) (fun _ _ _ h => h) (Or.inl ⟨by rfl, fun w' hS => by (go_simp <;> (intro hh; omega))⟩) hHeld ?_
  simp only [Act.put, gA9, gZ9, gC9, sA9, sZ9, sC9]
  refine wpAnyH_take (i := 14) (v := .pointer (some ⟨A.b, 41 + q * 39 + 16, none⟩)) rfl (by kernel_rfl) (by kernel_rfl) (by kernel_rfl) (fun _ _ _ h => h) (Or.inl ⟨by rfl, fun w' hS => by go_simp⟩) hHeld ?_
  simp only [Act.put, gA9, gZ9, gC9, sA9, sZ9, sC9]
  refine wpAnyH_take (i := 15) (v := .int .i64 cid) rfl (by kernel_rfl) (by kernel_rfl) (by kernel_rfl) (fun _ _ _ h => h) (Or.inl ⟨by rfl, fun w' hS => by (obtain ⟨s0, s1, s2⟩ := hS; go_simp)⟩) hHeld ?_
  simp only [Act.put, gA9, gZ9, gC9, sA9, sZ9, sC9]
  refine wpAnyH_ready (rs := [16, 17]) (by kernel_rfl) (by simp) ?_
  refine AllReadyH.cons rfl (fun K hK => ?_) (AllReadyH.cons rfl (fun K hK => ?_) AllReadyH.nil)
  · go_simp
    refine hK.out _ _ ⟨below_at bA1 c0, below_at bA1 c1, below_at bA1 c2⟩ (fun hHeld => ?_)
    clear hK K
    refine wpAnyH_ready (rs := [17]) (by kernel_rfl) (by simp) ?_
    refine AllReadyH.cons rfl (fun K hK => ?_) AllReadyH.nil
    go_simp
    refine hK.out _ _ ⟨below_at bA2 c0, below_at bA2 c1, below_at bA2 c2⟩ (fun hHeld => ?_)
    clear hK K
    have k1 := kset (P := fun j => j = W1.heap.size) X2 W1.heap.size 0 (.int .i64 inc) rfl
    have e1 : (X2.setCell ⟨W1.heap.size, 0, none⟩ (.int .i64 inc)).cell? ⟨X1.heap.size, 0, none⟩ = some (.int .i64 0) := k1.cell (by assumption) (by omega)
    have e2 : (X2.setCell ⟨W1.heap.size, 0, none⟩ (.int .i64 inc)).cell? ⟨W1.heap.size, 0, none⟩ = some (.int .i64 inc) := World.cell?_setCell_same _ _ _ (by assumption)
    have k2 := kset (P := fun j => j = X1.heap.size) (X2.setCell ⟨W1.heap.size, 0, none⟩ (.int .i64 inc)) X1.heap.size 0 (.int .i64 cid) rfl
    have f2 := k2.cell e2 (by omega)
    have f1 : ((X2.setCell ⟨W1.heap.size, 0, none⟩ (.int .i64 inc)).setCell ⟨X1.heap.size, 0, none⟩ (.int .i64 cid)).cell? ⟨X1.heap.size, 0, none⟩ = some (.int .i64 cid) := World.cell?_setCell_same _ _ _ e1
    have f0 := k2.cell (k1.cell (below_at bA2 c0) (by omega)) (by omega)
    have HBY : Hid (Below w.heap.size w ((X2.setCell ⟨W1.heap.size, 0, none⟩ (.int .i64 inc)).setCell ⟨X1.heap.size, 0, none⟩ (.int .i64 cid))) := bset (bset (bstep HB1.out bA2) (by omega) _ _) (by omega) _ _
    refine wpAnyH_ready (rs := [18]) (by kernel_rfl) (by simp) ?_
    refine AllReadyH.cons rfl (fun K hK => ?_) AllReadyH.nil
    go_simp
    refine hK.out _ _ ⟨k1.cell (below_at bA2 c0) (by omega), k1.cell (below_at bA2 c1) (by omega), k1.cell (below_at bA2 c2) (by omega)⟩ (fun hHeld => ?_)
    clear hK K
    refine wpAnyH_ready (rs := [19]) (by kernel_rfl) (by simp) ?_
    refine AllReadyH.cons rfl (fun K hK => ?_) AllReadyH.nil
    go_simp
    refine hK.out _ _ ⟨k2.cell (k1.cell (below_at bA2 c0) (by omega)) (by omega), k2.cell (k1.cell (below_at bA2 c1) (by omega)) (by omega), k2.cell (k1.cell (below_at bA2 c2) (by omega)) (by omega)⟩ (fun hHeld => ?_)
    clear hK K
    refine wpAnyH_done (by kernel_rfl) ?_ _
    clear hHeld k1 k2 e1 e2
    generalize (X2.setCell ⟨W1.heap.size, 0, none⟩ (.int .i64 inc)).setCell ⟨X1.heap.size, 0, none⟩ (.int .i64 cid) = Y at *
    have m9 := (HA.out.still HBY.out).c669
    rw [hmv] at m9
    have HH : Hid (Calls Try.prog 43 #[.slice ao A.k cp, .func (.func 44) #[] #[.pointer (some ⟨w.heap.size, 0, none⟩), .pointer (some ⟨W1.heap.size, 0, none⟩), .pointer (some ⟨X1.heap.size, 0, none⟩)]] Y fun e w' => e = .returned (.bool ((List.range A.k).any (lvs q inc cid A.ms))) ∧ Below Y.heap.size Y w') := has_any (HR.out.still HBY.out) Hk.out q inc cid _ _ _ f0 f2 f1
    go_wp2_with (first | (go_at_call 43; refine HH.out.mono ?_; rintro e w2 ⟨rfl, hb2⟩) | fail)
    go_ret
    exact ⟨by rw [Hl.out]; rfl, bstep HBY.out hb2⟩
  · go_simp
    refine hK.out _ _ ⟨below_at bA1 c0, below_at bA1 c1, below_at bA1 c2⟩ (fun hHeld => ?_)
    clear hK K
    refine wpAnyH_ready (rs := [16]) (by kernel_rfl) (by simp) ?_
    refine AllReadyH.cons rfl (fun K hK => ?_) AllReadyH.nil
    go_simp
    refine hK.out _ _ ⟨below_at bA2 c0, below_at bA2 c1, below_at bA2 c2⟩ (fun hHeld => ?_)
    clear hK K
    have k1 := kset (P := fun j => j = X1.heap.size) X2 X1.heap.size 0 (.int .i64 inc) rfl
    have e1 : (X2.setCell ⟨X1.heap.size, 0, none⟩ (.int .i64 inc)).cell? ⟨W1.heap.size, 0, none⟩ = some (.int .i64 0) := k1.cell (by assumption) (by omega)
    have e2 : (X2.setCell ⟨X1.heap.size, 0, none⟩ (.int .i64 inc)).cell? ⟨X1.heap.size, 0, none⟩ = some (.int .i64 inc) := World.cell?_setCell_same _ _ _ (by assumption)
    have k2 := kset (P := fun j => j = W1.heap.size) (X2.setCell ⟨X1.heap.size, 0, none⟩ (.int .i64 inc)) W1.heap.size 0 (.int .i64 cid) rfl
    have f2 := k2.cell e2 (by omega)
    have f1 : ((X2.setCell ⟨X1.heap.size, 0, none⟩ (.int .i64 inc)).setCell ⟨W1.heap.size, 0, none⟩ (.int .i64 cid)).cell? ⟨W1.heap.size, 0, none⟩ = some (.int .i64 cid) := World.cell?_setCell_same _ _ _ e1
    have f0 := k2.cell (k1.cell (below_at bA2 c0) (by omega)) (by omega)
    have HBY : Hid (Below w.heap.size w ((X2.setCell ⟨X1.heap.size, 0, none⟩ (.int .i64 inc)).setCell ⟨W1.heap.size, 0, none⟩ (.int .i64 cid))) := bset (bset (bstep HB1.out bA2) (by omega) _ _) (by omega) _ _
    refine wpAnyH_ready (rs := [18]) (by kernel_rfl) (by simp) ?_
    refine AllReadyH.cons rfl (fun K hK => ?_) AllReadyH.nil
    go_simp
    refine hK.out _ _ ⟨k1.cell (below_at bA2 c0) (by omega), k1.cell (below_at bA2 c1) (by omega), k1.cell (below_at bA2 c2) (by omega)⟩ (fun hHeld => ?_)
    clear hK K
    refine wpAnyH_ready (rs := [19]) (by kernel_rfl) (by simp) ?_
    refine AllReadyH.cons rfl (fun K hK => ?_) AllReadyH.nil
    go_simp
    refine hK.out _ _ ⟨k2.cell (k1.cell (below_at bA2 c0) (by omega)) (by omega), k2.cell (k1.cell (below_at bA2 c1) (by omega)) (by omega), k2.cell (k1.cell (below_at bA2 c2) (by omega)) (by omega)⟩ (fun hHeld => ?_)
    clear hK K
    refine wpAnyH_done (by kernel_rfl) ?_ _
    clear hHeld k1 k2 e1 e2
    generalize (X2.setCell ⟨X1.heap.size, 0, none⟩ (.int .i64 inc)).setCell ⟨W1.heap.size, 0, none⟩ (.int .i64 cid) = Y at *
    have m9 := (HA.out.still HBY.out).c669
    rw [hmv] at m9
    have HH : Hid (Calls Try.prog 43 #[.slice ao A.k cp, .func (.func 44) #[] #[.pointer (some ⟨w.heap.size, 0, none⟩), .pointer (some ⟨X1.heap.size, 0, none⟩), .pointer (some ⟨W1.heap.size, 0, none⟩)]] Y fun e w' => e = .returned (.bool ((List.range A.k).any (lvs q inc cid A.ms))) ∧ Below Y.heap.size Y w') := has_any (HR.out.still HBY.out) Hk.out q inc cid _ _ _ f0 f2 f1
    go_wp2_with (first | (go_at_call 43; refine HH.out.mono ?_; rintro e w2 ⟨rfl, hb2⟩) | fail)
    go_ret
    exact ⟨by rw [Hl.out]; rfl, bstep HBY.out hb2⟩
end
end Go.Proofs.Ytdegjhkjmgimpaa.Mb
namespace Go.Proofs.Ytdegjhkjmgimpaa.Mb
open Go.RowKit
set_option linter.unusedVariables false
set_option maxRecDepth 100000
set_option linter.unusedSimpArgs false
section
variable {A A' : Ag} {w w' W : World} {B : Nat} {T : Int}
theorem begA_b (A : Ag) (s : List Int) : (A.begA s).b = A.b := by
  unfold Ag.begA
  split
  · rfl
  · split
    · exact revA_b A _
    · rfl
def Ag.folE (A : Ag) (q : Nat) : Int := if A.chg then A.revE A.own else if A.leaves q then A.begE A.own.set else 0
def Ag.folA (A : Ag) (q : Nat) : Ag := if A.chg then A.revA A.own else if A.leaves q then A.begA A.own.set else A
def Ag.folB (A : Ag) (q : Nat) : Bool := if A.chg then false else if A.leaves q then A.begE A.own.set == 0 else false
set_option maxHeartbeats 1000000 in
theorem follow_any (h : A.Ok w B T) (hT : 4611686018427387903 ≤ T) (q : Nat) (hq : q < 16) : Calls Try.prog 32 #[.pointer (some ⟨A.b, 0, none⟩), .int .i64 q] w fun e w' => e = .returned (.tuple #[.bool (A.folB q), .int .i64 (A.folE q)]) ∧ (A.folA q).Ok w' B T ∧ Kept w w' (fun j => j = A.b) := by
  have c0 := h.c670
  have HA : Hid (A.Ok w B T) := h
  have Lo : Hid A.own.L := h.ol
  have HRv : Hid (Calls Try.prog 33 #[.pointer (some ⟨A.b, 0, none⟩), .agg (ints A.own.fl).toArray] w fun e w' => e = .returned (.int .i64 (A.revE A.own)) ∧ (A.revA A.own).Ok w' B T ∧ Kept w w' (fun j => j = A.b)) := revise_any h A.own h.ol h.cid h.rev h.top
  have HLv : Hid (Calls Try.prog 41 #[.pointer (some ⟨A.b, 0, none⟩), .int .i64 q] w fun e w' => e = .returned (.bool (A.leaves q)) ∧ Below w.heap.size w w') := leaves_any h q hq
  have HE : Hid (A.folE q = if A.chg then A.revE A.own else if A.leaves q then A.begE A.own.set else 0) := rfl
  have HA' : Hid (A.folA q = if A.chg then A.revA A.own else if A.leaves q then A.begA A.own.set else A) := rfl
  have HBb : Hid (A.folB q = if A.chg then false else if A.leaves q then A.begE A.own.set == 0 else false) := rfl
  clear h
  cases hc : A.chg with
  | true =>
    rw [hc] at c0 HE HA' HBb
    go_enter Try.func32, Try.ntmps32
    go_wp2_with (first
      | (go_at_call 33; refine HRv.out.mono ?_; rintro e w2 ⟨rfl, hO, hK⟩)
      | (refine load_mid 63 (.tmp 15) HA.out.own_r _ Try.underlying63 rfl (by rw [ints_len, Lo.out.fl]; exact info_prop) rfl rfl rfl ?_)
      | fail)
    (try simp only [Exit.inBlock, Exit.then]); refine bodyPost_ret (results_tmp2 rfl _ _ _) rfl ?_
    exact ⟨by rw [HE.out, HBb.out]; rfl, by rw [HA'.out]; exact hO, hK⟩
  | false =>
    rw [hc] at c0 HE HA' HBb
    cases hl : A.leaves q with
    | false =>
      rw [hl] at HLv HE HA' HBb
      go_enter Try.func32, Try.ntmps32
      go_wp2_with (first | (go_at_call 41; refine HLv.out.mono ?_; rintro e w2 ⟨rfl, hb2⟩) | fail)
      (try simp only [Exit.inBlock, Exit.then]); refine bodyPost_ret (results_tmp2 rfl _ _ _) rfl ?_
      exact ⟨by rw [HE.out, HBb.out]; rfl, by rw [HA'.out]; exact HA.out.still hb2, Kept.ofBelow hb2 _⟩
    | true =>
      rw [hl] at HLv HE HA' HBb
      go_enter Try.func32, Try.ntmps32
      go_wp2_with (first
        | (go_at_call 21; refine (begin_any (HA.out.still HB2.out) hT A.own.set Lo.out.ls).mono ?_; rintro e w3 ⟨rfl, hO, hK⟩)
        | (go_at_call 41; refine HLv.out.mono ?_; rintro e w2 ⟨rfl, hb2⟩; have HB2 : Hid (Below w.heap.size w w2) := hb2; clear hb2)
        | (refine load_mid 61 (.tmp 26) (HA.out.still HB2.out).set_r _ Try.underlying61 rfl (by rw [ints_len, Lo.out.ls]; exact info_row) rfl rfl rfl ?_)
        | fail)
      (try simp only [Exit.inBlock, Exit.then]); refine bodyPost_ret (results_tmp2 rfl _ _ _) rfl ?_
      exact ⟨by rw [HE.out, HBb.out]; rfl, by rw [HA'.out]; exact hO, (Kept.ofBelow HB2.out _).trans hK⟩
end
end Go.Proofs.Ytdegjhkjmgimpaa.Mb
