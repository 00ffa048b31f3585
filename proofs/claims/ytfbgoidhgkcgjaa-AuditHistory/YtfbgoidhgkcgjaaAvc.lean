import Derived.Test.YtfbgoidhgkcgjaaAvb
namespace Go.Proofs.Ytfbgoidhgkcgjaa.Lo
open Go.RowKit Go.Maps
set_option linter.unusedVariables false
set_option linter.unusedSimpArgs false
section
variable {w w' W : World} {B : Nat} {P : Nat → Prop}
def fV (g : Int → Option Mk) : Int → Option Value := fun x => (g x).map (fun m => Value.agg m.en.toArray)
def updG (g : Int → Option Mk) (x : Int) (e : Mk) : Int → Option Mk := fun y => if y = x then some e else g y
def MpG (w : World) (b m : Nat) (g : Int → Option Mk) : Prop := MpE w b m (fV g)
theorem MpG.still {b m : Nat} {g : Int → Option Mk} (h : MpG w b m g) (hb : Below w.heap.size w w') : MpG w' b m g := MpE.still h hb
theorem MpG.keep {b m : Nat} {g : Int → Option Mk} (h : MpG w b m g) (k : Mb.Kept w w' P) (hp : ¬ P b) : MpG w' b m g := MpE.keep h k hp
theorem MpG.lt {b m : Nat} {g : Int → Option Mk} (h : MpG w b m g) : b < w.heap.size := MpE.lt h
theorem MpG.ne {b m k t : Nat} {g : Int → Option Mk} {C : Array Value} (h : MpG w b m g) (hk : w.heap[k]? = some (.cells C t (0, 0))) : k ≠ b := by
  obtain ⟨D, ⟨es, cl, hb, _⟩, _⟩ := h
  intro e
  subst e
  rw [hb] at hk
  cases hk
theorem MpG.no {b m : Nat} {g : Int → Option Mk} (h : MpG w b m g) {x : Int} (hx : i64B x) (hg : g x = none) : (Instr.lookup 53 (.map (some b)) (.int .i64 x) true).run Try.prog w = .ok (.tuple #[.agg mk0.en.toArray, .bool false]) w := by
  have := MpE.look h hx
  simpa [fV, hg] using this
theorem MpG.yes {b m : Nat} {g : Int → Option Mk} (h : MpG w b m g) {x : Int} (hx : i64B x) {e0 : Mk} (hg : g x = some e0) : (Instr.lookup 53 (.map (some b)) (.int .i64 x) true).run Try.prog w = .ok (.tuple #[.agg e0.en.toArray, .bool true]) w := by
  have := MpE.look h hx
  simpa [fV, hg] using this
theorem MpG.put {b m : Nat} {g : Int → Option Mk} (h : MpG w b m g) (hm : m < 140737488355328) {x : Int} (h1 : i64B x) (hg : g x = none) {e : Mk} : ∃ w', (Instr.mapUpdate 53 (.map (some b)) (.int .i64 x) (.agg e.en.toArray)).run Try.prog w = .ok () w' ∧ MpG w' b (m + 1) (updG g x e) ∧ Mb.Kept w w' (fun k => k = b) := by
  obtain ⟨w', h2, h3, h4⟩ := MpE.put h hm h1 (.agg e.en.toArray)
  refine ⟨w', h2, ?_, h4⟩
  have : fV (updG g x e) = updV (fV g) x (.agg e.en.toArray) := by
    funext y
    unfold fV updG updV
    by_cases hy : y = x
    · rw [if_pos hy, if_pos hy]; rfl
    · rw [if_neg hy, if_neg hy]
  unfold MpG
  rw [this]
  exact h3
theorem kcell {g k i : Nat} {v : Value} (h : Mb.Kept w w' (fun q => q = g)) (hne : k ≠ g) (hc : w.cell? ⟨k, i, none⟩ = some v) : w'.cell? ⟨k, i, none⟩ = some v := by
  have hlt := World.block_lt_of_cell? w _ hc
  have := h.block k hlt (fun e => hne e)
  unfold World.cell? at *
  rw [this]
  exact hc
theorem krange {g k o : Nat} {cs : List Value} (h : Mb.Kept w w' (fun q => q = g)) (hne : k ≠ g) (hc : w.rangeAt k o cs) : w'.rangeAt k o cs := fun j v hv => kcell h hne (hc j v hv)
theorem run_lookop {o : Oper} {ρ : Operand → Value} {w : World} (t : TypeId) (m k : Operand) (ho : o.op = .lookup t m k true) {x y v : Value} (hm : ρ m = x) (hk : ρ k = y) (hr : (Instr.lookup t x y true).run Try.prog w = .ok v w) : (execOp ρ o).run Try.prog w = .ok (.value v) w := by
  unfold execOp
  simp only [ho, hm, hk, Sem.run_bind, hr, Result.andThen_ok, Sem.run_pure]
set_option maxRecDepth 100000 in
set_option maxHeartbeats 4000000 in
theorem add_yes (hb mb m : Nat) (g : Int → Option Mk) (e : Mk) (e0 : Mk) (w : World) (h0 : w.cell? ⟨hb, 0, none⟩ = some (.map (some mb))) (hM : MpG w mb m g) (hmm : m < 140737488355328) (hn : i64B e.n) (hne : hb ≠ mb) (hg : g e.n = some e0) : Calls Try.prog 12 #[.pointer (some ⟨hb, 0, none⟩), .agg e.cs.toArray] w fun r w' => r = .returned (.tuple #[]) ∧ Below w.heap.size w w' := by
  have HB : Hid (Below w.heap.size w (w.alloc (.cells e.cs.toArray 50))) := bsp _ _ _
  have hk := heap_new w e.cs.toArray 50
  have hWs : w.heap.size < (w.alloc (.cells e.cs.toArray 50)).heap.size := by simp
  generalize hW : w.alloc (.cells e.cs.toArray 50) = W at *
  have h0 : W.cell? ⟨hb, 0, none⟩ = some (.map (some mb)) := below_at HB.out h0
  have n13 : W.cell? ⟨w.heap.size, 13, none⟩ = some (.int .i64 e.n) := blk_cell hk 13
  have HRg : Hid (W.rangeAt w.heap.size 0 e.cs) := Ln.blk_range hk
  have hne2 : w.heap.size ≠ mb := by have := hM.lt; omega
  have HM : Hid (MpG W mb m g) := hM.still HB.out
  clear hk hM
  go_enter Try.func12, Try.ntmps12
  go_wp2_with fail
  refine wp_region_held_drew (S := (fun w' => w'.cell? ⟨hb, 0, none⟩ = some (.map (some mb)) ∧ w'.cell? ⟨w.heap.size, 13, none⟩ = some (.int .i64 e.n) ∧ MpG w' mb m g)) (by kernel_rfl) ⟨(below_at (drew_bel _) h0), (below_at (drew_bel _) n13), (HM.out.still (drew_bel _))⟩ (fun hHeld => ?_)
  simp only [Act.put, List.size_toArray, List.length_cons, List.length_nil, Nat.zero_add]
  refine takeD (i := 0) (d := 7) (v := .pointer (some ⟨hb, 0, none⟩)) rfl (by kernel_rfl) (by kernel_rfl) (by kernel_rfl) (by kernel_rfl) (fun _ _ _ h => h) (Or.inl ⟨by rfl, fun w' hS => by go_simp⟩) hHeld ?_
  simp only [Act.put, List.setIfInBounds_toArray, List.set_cons_zero, List.set_cons_succ]
  refine takeD (i := 1) (d := 8) (v := .pointer (some ⟨hb, 0, none⟩)) rfl (by kernel_rfl) (by kernel_rfl) (by kernel_rfl) (by kernel_rfl) (fun _ _ _ h => h) (Or.inl ⟨by rfl, fun w' hS => by go_simp⟩) hHeld ?_
  simp only [Act.put, List.setIfInBounds_toArray, List.set_cons_zero, List.set_cons_succ]
  refine takeD (i := 2) (d := 9) (v := .pointer (some ⟨hb, 0, none⟩)) rfl (by kernel_rfl) (by kernel_rfl) (by kernel_rfl) (by kernel_rfl) (fun _ _ _ h => h) (Or.inl ⟨by rfl, fun w' hS => by go_simp⟩) hHeld ?_
  simp only [Act.put, List.setIfInBounds_toArray, List.set_cons_zero, List.set_cons_succ]
  refine takeD (i := 3) (d := 10) (v := .map (some mb)) rfl (by kernel_rfl) (by kernel_rfl) (by kernel_rfl) (by kernel_rfl) (fun _ _ _ h => h) (Or.inl ⟨by rfl, fun w' hS => by (obtain ⟨s0, s1, s2⟩ := hS; go_simp)⟩) hHeld ?_
  simp only [Act.put, List.setIfInBounds_toArray, List.set_cons_zero, List.set_cons_succ]
  refine takeD (i := 4) (d := 11) (v := .pointer (some ⟨w.heap.size, 13, none⟩)) rfl (by kernel_rfl) (by kernel_rfl) (by kernel_rfl) (by kernel_rfl) (fun _ _ _ h => h) (Or.inl ⟨by rfl, fun w' hS => by go_simp⟩) hHeld ?_
  simp only [Act.put, List.setIfInBounds_toArray, List.set_cons_zero, List.set_cons_succ]
  refine takeD (i := 5) (d := 12) (v := .int .i64 e.n) rfl (by kernel_rfl) (by kernel_rfl) (by kernel_rfl) (by kernel_rfl) (fun _ _ _ h => h) (Or.inl ⟨by rfl, fun w' hS => by (obtain ⟨s0, s1, s2⟩ := hS; go_simp)⟩) hHeld ?_
  simp only [Act.put, List.setIfInBounds_toArray, List.set_cons_zero, List.set_cons_succ]
  refine takeD (i := 6) (d := 13) (v := .tuple #[.agg e0.en.toArray, .bool true]) rfl (by kernel_rfl) (by kernel_rfl) (by kernel_rfl) (by kernel_rfl) (fun _ _ _ h => h) (Or.inl ⟨by rfl, fun w' hS => by (obtain ⟨s0, s1, s2⟩ := hS; exact run_lookop 53 (.tmp 10) (.tmp 12) rfl rfl rfl (s2.yes hn hg))⟩) hHeld ?_
  simp only [Act.put, List.setIfInBounds_toArray, List.set_cons_zero, List.set_cons_succ]
  refine takeD (i := 7) (d := 6) (v := .tuple #[.agg e0.en.toArray, .bool true]) rfl (by kernel_rfl) (by kernel_rfl) (by kernel_rfl) (by kernel_rfl) (fun _ _ _ h => h) (Or.inl ⟨by rfl, fun w' hS => by go_simp⟩) hHeld ?_
  simp only [Act.put, List.setIfInBounds_toArray, List.set_cons_zero, List.set_cons_succ]
  refine takeD (i := 8) (d := 14) (v := .agg e0.en.toArray) rfl (by kernel_rfl) (by kernel_rfl) (by kernel_rfl) (by kernel_rfl) (fun _ _ _ h => h) (Or.inl ⟨by rfl, fun w' hS => by go_simp⟩) hHeld ?_
  simp only [Act.put, List.setIfInBounds_toArray, List.set_cons_zero, List.set_cons_succ]
  refine takeD (i := 9) (d := 15) (v := .bool true) rfl (by kernel_rfl) (by kernel_rfl) (by kernel_rfl) (by kernel_rfl) (fun _ _ _ h => h) (Or.inl ⟨by rfl, fun w' hS => by go_simp⟩) hHeld ?_
  simp only [Act.put, List.setIfInBounds_toArray, List.set_cons_zero, List.set_cons_succ]
  have hbD : Below W.heap.size W W.drew := drew_bel _
  have q0 := below_at hbD h0
  have q1 := below_at hbD n13
  generalize W.drew = D0 at *
  refine wpAnyH_ready (rs := [10]) (by kernel_rfl) (by simp) ?_
  refine AllReadyH.cons rfl (fun K hK => ?_) AllReadyH.nil
  refine step_allocZ rfl 59 rfl zEn ?_
  intro X1 k1 b1 s1
  refine hK.out _ _ ⟨(below_at b1 q0), (below_at b1 q1), ((HM.out.still hbD).still b1)⟩ (fun hHeld => ?_)
  clear hK K
  refine wpAnyH_ready (rs := [11]) (by kernel_rfl) (by simp) ?_
  refine AllReadyH.cons rfl (fun K hK => ?_) AllReadyH.nil
  refine step_storeZ rfl 59 _ _ rfl (L := e0.en) rfl rfl k1 (iEn _) rfl (Mk.one' _) ?_
  intro X2 k2 kk2
  have hb2 : Below D0.heap.size D0 X2 := b1.trans (kn kk2 (Nat.le_refl _) b1.size)
  refine hK.out _ _ ⟨(below_at hb2 q0), (below_at hb2 q1), ((HM.out.still hbD).still hb2)⟩ (fun hHeld => ?_)
  clear hK K
  refine takeD (i := 12) (d := 5) (v := .bool true) rfl (by kernel_rfl) (by kernel_rfl) (by kernel_rfl) (by kernel_rfl) (fun _ _ _ h => h) (Or.inl ⟨by rfl, fun w' hS => by go_simp⟩) hHeld ?_
  simp only [Act.put, List.setIfInBounds_toArray, List.set_cons_zero, List.set_cons_succ]
  refine wpAnyH_done (by kernel_rfl) ?_ _
  clear hHeld
  have HBx : Hid (Below w.heap.size w X2) := (show Below _ _ _ from bst HB.out (bstep hbD hb2))
  clear q0 q1 hbD hb2 k1 b1 s1 k2 kk2 HM HB
  go_wp2_with fail
  (first | go_end0 | ((try simp only [Exit.inBlock, Exit.then]); refine bodyPost_ret (results_none rfl _ _ _) rfl ?_))
  exact ⟨rfl, HBx.out⟩
set_option maxRecDepth 100000 in
set_option maxHeartbeats 4000000 in
theorem add_no (hb mb m : Nat) (g : Int → Option Mk) (e : Mk) (w : World) (h0 : w.cell? ⟨hb, 0, none⟩ = some (.map (some mb))) (hM : MpG w mb m g) (hmm : m < 140737488355328) (hn : i64B e.n) (hne : hb ≠ mb) (hg : g e.n = none) : Calls Try.prog 12 #[.pointer (some ⟨hb, 0, none⟩), .agg e.cs.toArray] w fun r w' => r = .returned (.tuple #[]) ∧ MpG w' mb (m + 1) (updG g e.n e) ∧ Mb.Kept w w' (fun k => k = mb) := by
  have HB : Hid (Below w.heap.size w (w.alloc (.cells e.cs.toArray 50))) := bsp _ _ _
  have hk := heap_new w e.cs.toArray 50
  have hWs : w.heap.size < (w.alloc (.cells e.cs.toArray 50)).heap.size := by simp
  generalize hW : w.alloc (.cells e.cs.toArray 50) = W at *
  have h0 : W.cell? ⟨hb, 0, none⟩ = some (.map (some mb)) := below_at HB.out h0
  have n13 : W.cell? ⟨w.heap.size, 13, none⟩ = some (.int .i64 e.n) := blk_cell hk 13
  have HRg : Hid (W.rangeAt w.heap.size 0 e.cs) := Ln.blk_range hk
  have hne2 : w.heap.size ≠ mb := by have := hM.lt; omega
  have HM : Hid (MpG W mb m g) := hM.still HB.out
  clear hk hM
  go_enter Try.func12, Try.ntmps12
  go_wp2_with fail
  refine wp_region_held_drew (S := (fun w' => w'.cell? ⟨hb, 0, none⟩ = some (.map (some mb)) ∧ w'.cell? ⟨w.heap.size, 13, none⟩ = some (.int .i64 e.n) ∧ MpG w' mb m g)) (by kernel_rfl) ⟨(below_at (drew_bel _) h0), (below_at (drew_bel _) n13), (HM.out.still (drew_bel _))⟩ (fun hHeld => ?_)
  simp only [Act.put, List.size_toArray, List.length_cons, List.length_nil, Nat.zero_add]
  refine takeD (i := 0) (d := 7) (v := .pointer (some ⟨hb, 0, none⟩)) rfl (by kernel_rfl) (by kernel_rfl) (by kernel_rfl) (by kernel_rfl) (fun _ _ _ h => h) (Or.inl ⟨by rfl, fun w' hS => by go_simp⟩) hHeld ?_
  simp only [Act.put, List.setIfInBounds_toArray, List.set_cons_zero, List.set_cons_succ]
  refine takeD (i := 1) (d := 8) (v := .pointer (some ⟨hb, 0, none⟩)) rfl (by kernel_rfl) (by kernel_rfl) (by kernel_rfl) (by kernel_rfl) (fun _ _ _ h => h) (Or.inl ⟨by rfl, fun w' hS => by go_simp⟩) hHeld ?_
  simp only [Act.put, List.setIfInBounds_toArray, List.set_cons_zero, List.set_cons_succ]
  refine takeD (i := 2) (d := 9) (v := .pointer (some ⟨hb, 0, none⟩)) rfl (by kernel_rfl) (by kernel_rfl) (by kernel_rfl) (by kernel_rfl) (fun _ _ _ h => h) (Or.inl ⟨by rfl, fun w' hS => by go_simp⟩) hHeld ?_
  simp only [Act.put, List.setIfInBounds_toArray, List.set_cons_zero, List.set_cons_succ]
  refine takeD (i := 3) (d := 10) (v := .map (some mb)) rfl (by kernel_rfl) (by kernel_rfl) (by kernel_rfl) (by kernel_rfl) (fun _ _ _ h => h) (Or.inl ⟨by rfl, fun w' hS => by (obtain ⟨s0, s1, s2⟩ := hS; go_simp)⟩) hHeld ?_
  simp only [Act.put, List.setIfInBounds_toArray, List.set_cons_zero, List.set_cons_succ]
  refine takeD (i := 4) (d := 11) (v := .pointer (some ⟨w.heap.size, 13, none⟩)) rfl (by kernel_rfl) (by kernel_rfl) (by kernel_rfl) (by kernel_rfl) (fun _ _ _ h => h) (Or.inl ⟨by rfl, fun w' hS => by go_simp⟩) hHeld ?_
  simp only [Act.put, List.setIfInBounds_toArray, List.set_cons_zero, List.set_cons_succ]
  refine takeD (i := 5) (d := 12) (v := .int .i64 e.n) rfl (by kernel_rfl) (by kernel_rfl) (by kernel_rfl) (by kernel_rfl) (fun _ _ _ h => h) (Or.inl ⟨by rfl, fun w' hS => by (obtain ⟨s0, s1, s2⟩ := hS; go_simp)⟩) hHeld ?_
  simp only [Act.put, List.setIfInBounds_toArray, List.set_cons_zero, List.set_cons_succ]
  refine takeD (i := 6) (d := 13) (v := .tuple #[.agg mk0.en.toArray, .bool false]) rfl (by kernel_rfl) (by kernel_rfl) (by kernel_rfl) (by kernel_rfl) (fun _ _ _ h => h) (Or.inl ⟨by rfl, fun w' hS => by (obtain ⟨s0, s1, s2⟩ := hS; exact run_lookop 53 (.tmp 10) (.tmp 12) rfl rfl rfl (s2.no hn hg))⟩) hHeld ?_
  simp only [Act.put, List.setIfInBounds_toArray, List.set_cons_zero, List.set_cons_succ]
  refine takeD (i := 7) (d := 6) (v := .tuple #[.agg mk0.en.toArray, .bool false]) rfl (by kernel_rfl) (by kernel_rfl) (by kernel_rfl) (by kernel_rfl) (fun _ _ _ h => h) (Or.inl ⟨by rfl, fun w' hS => by go_simp⟩) hHeld ?_
  simp only [Act.put, List.setIfInBounds_toArray, List.set_cons_zero, List.set_cons_succ]
  refine takeD (i := 8) (d := 14) (v := .agg mk0.en.toArray) rfl (by kernel_rfl) (by kernel_rfl) (by kernel_rfl) (by kernel_rfl) (fun _ _ _ h => h) (Or.inl ⟨by rfl, fun w' hS => by go_simp⟩) hHeld ?_
  simp only [Act.put, List.setIfInBounds_toArray, List.set_cons_zero, List.set_cons_succ]
  refine takeD (i := 9) (d := 15) (v := .bool false) rfl (by kernel_rfl) (by kernel_rfl) (by kernel_rfl) (by kernel_rfl) (fun _ _ _ h => h) (Or.inl ⟨by rfl, fun w' hS => by go_simp⟩) hHeld ?_
  simp only [Act.put, List.setIfInBounds_toArray, List.set_cons_zero, List.set_cons_succ]
  have hbD : Below W.heap.size W W.drew := drew_bel _
  have q0 := below_at hbD h0
  have q1 := below_at hbD n13
  generalize W.drew = D0 at *
  refine wpAnyH_ready (rs := [10]) (by kernel_rfl) (by simp) ?_
  refine AllReadyH.cons rfl (fun K hK => ?_) AllReadyH.nil
  refine step_allocZ rfl 59 rfl zEn ?_
  intro X1 k1 b1 s1
  refine hK.out _ _ ⟨(below_at b1 q0), (below_at b1 q1), ((HM.out.still hbD).still b1)⟩ (fun hHeld => ?_)
  clear hK K
  refine wpAnyH_ready (rs := [11]) (by kernel_rfl) (by simp) ?_
  refine AllReadyH.cons rfl (fun K hK => ?_) AllReadyH.nil
  refine step_storeZ rfl 59 _ _ rfl (L := mk0.en) rfl rfl k1 (iEn _) rfl (Mk.one' _) ?_
  intro X2 k2 kk2
  have hb2 : Below D0.heap.size D0 X2 := b1.trans (kn kk2 (Nat.le_refl _) b1.size)
  refine hK.out _ _ ⟨(below_at hb2 q0), (below_at hb2 q1), ((HM.out.still hbD).still hb2)⟩ (fun hHeld => ?_)
  clear hK K
  refine takeD (i := 12) (d := 5) (v := .bool false) rfl (by kernel_rfl) (by kernel_rfl) (by kernel_rfl) (by kernel_rfl) (fun _ _ _ h => h) (Or.inl ⟨by rfl, fun w' hS => by go_simp⟩) hHeld ?_
  simp only [Act.put, List.setIfInBounds_toArray, List.set_cons_zero, List.set_cons_succ]
  refine wpAnyH_done (by kernel_rfl) ?_ _
  clear hHeld
  have HBx : Hid (Below w.heap.size w X2) := (show Below _ _ _ from bst HB.out (bstep hbD hb2))
  have HMY : Hid (MpG X2 mb m g) := (show MpG _ _ _ _ from (HM.out.still hbD).still hb2)
  have h0y := below_at hb2 q0
  have n13y := below_at hb2 q1
  have HRy : Hid (X2.rangeAt w.heap.size 0 e.cs) := (show World.rangeAt _ _ _ _ from range_on (range_on HRg.out hbD) hb2)
  clear q0 q1 hbD hb2 k1 b1 s1 k2 kk2 HM HB HRg h0 n13
  have h0 := h0y
  have n13 := n13y
  have HRg := HRy
  clear h0y n13y HRy
  generalize X2 = Y at *
  go_wp2_with fail
  refine wp_region_held_drew (S := (fun w' => w'.cell? ⟨hb, 0, none⟩ = some (.map (some mb)) ∧ w'.cell? ⟨w.heap.size, 13, none⟩ = some (.int .i64 e.n) ∧ w'.rangeAt w.heap.size 0 e.cs)) (by kernel_rfl) ⟨(below_at (drew_bel _) h0), (below_at (drew_bel _) n13), (range_on HRg.out (drew_bel _))⟩ (fun hHeld => ?_)
  simp only [Act.put, List.size_toArray, List.length_cons, List.length_nil, Nat.zero_add]
  refine takeD (i := 0) (d := 18) (v := .pointer (some ⟨hb, 0, none⟩)) rfl (by kernel_rfl) (by kernel_rfl) (by kernel_rfl) (by kernel_rfl) (fun _ _ _ h => h) (Or.inl ⟨by rfl, fun w' hS => by go_simp⟩) hHeld ?_
  simp only [Act.put, List.setIfInBounds_toArray, List.set_cons_zero, List.set_cons_succ]
  refine takeD (i := 1) (d := 19) (v := .pointer (some ⟨hb, 0, none⟩)) rfl (by kernel_rfl) (by kernel_rfl) (by kernel_rfl) (by kernel_rfl) (fun _ _ _ h => h) (Or.inl ⟨by rfl, fun w' hS => by go_simp⟩) hHeld ?_
  simp only [Act.put, List.setIfInBounds_toArray, List.set_cons_zero, List.set_cons_succ]
  refine takeD (i := 2) (d := 20) (v := .pointer (some ⟨hb, 0, none⟩)) rfl (by kernel_rfl) (by kernel_rfl) (by kernel_rfl) (by kernel_rfl) (fun _ _ _ h => h) (Or.inl ⟨by rfl, fun w' hS => by go_simp⟩) hHeld ?_
  simp only [Act.put, List.setIfInBounds_toArray, List.set_cons_zero, List.set_cons_succ]
  refine takeD (i := 3) (d := 21) (v := .map (some mb)) rfl (by kernel_rfl) (by kernel_rfl) (by kernel_rfl) (by kernel_rfl) (fun _ _ _ h => h) (Or.inl ⟨by rfl, fun w' hS => by (obtain ⟨s0, s1, s2⟩ := hS; go_simp)⟩) hHeld ?_
  simp only [Act.put, List.setIfInBounds_toArray, List.set_cons_zero, List.set_cons_succ]
  refine takeD (i := 4) (d := 22) (v := .pointer (some ⟨w.heap.size, 13, none⟩)) rfl (by kernel_rfl) (by kernel_rfl) (by kernel_rfl) (by kernel_rfl) (fun _ _ _ h => h) (Or.inl ⟨by rfl, fun w' hS => by go_simp⟩) hHeld ?_
  simp only [Act.put, List.setIfInBounds_toArray, List.set_cons_zero, List.set_cons_succ]
  refine takeD (i := 5) (d := 23) (v := .int .i64 e.n) rfl (by kernel_rfl) (by kernel_rfl) (by kernel_rfl) (by kernel_rfl) (fun _ _ _ h => h) (Or.inl ⟨by rfl, fun w' hS => by (obtain ⟨s0, s1, s2⟩ := hS; go_simp)⟩) hHeld ?_
  simp only [Act.put, List.setIfInBounds_toArray, List.set_cons_zero, List.set_cons_succ]
  refine takeD (i := 6) (d := 24) (v := .agg e.cs.toArray) rfl (by kernel_rfl) (by kernel_rfl) (by kernel_rfl) (by kernel_rfl) (fun _ _ _ h => h) (Or.inl ⟨by rfl, fun w' hS => by (obtain ⟨s0, s1, s2⟩ := hS; exact run_loadop 50 _ rfl rfl s2 Try.underlying50 rfl (iMk e))⟩) hHeld ?_
  simp only [Act.put, List.setIfInBounds_toArray, List.set_cons_zero, List.set_cons_succ]
  have hbE : Below Y.heap.size Y Y.drew := drew_bel _
  have q0 := below_at hbE h0
  have q1 := below_at hbE n13
  generalize Y.drew = D1 at *
  refine wpAnyH_ready (rs := [7]) (by kernel_rfl) (by simp) ?_
  refine AllReadyH.cons rfl (fun K hK => ?_) AllReadyH.nil
  go_simp
  refine (entryOf_any e _).mono ?_
  rintro r5 w5 ⟨rfl, hb5⟩
  refine hK.out _ _ ⟨(below_at hb5 q0), (below_at hb5 q1), (range_on (range_on HRg.out hbE) hb5)⟩ (fun hHeld => ?_)
  clear hK K
  refine wpAnyH_ready (rs := [8]) (by kernel_rfl) (by simp) ?_
  refine AllReadyH.cons rfl (fun K hK => ?_) AllReadyH.nil
  obtain ⟨w6, hr6, hm6, kk6⟩ := ((HMY.out.still hbE).still hb5).put hmm hn hg (e := e)
  refine step_mapU rfl 53 _ _ _ rfl hr6 ?_
  refine hK.out _ _ ⟨(kcell kk6 hne (below_at hb5 q0)), (kcell kk6 hne2 (below_at hb5 q1)), (krange kk6 hne2 (range_on (range_on HRg.out hbE) hb5))⟩ (fun hHeld => ?_)
  clear hK K
  refine wpAnyH_done (by kernel_rfl) ?_ _
  clear hHeld
  have HF : Hid (MpG w6 mb (m + 1) (updG g e.n e) ∧ Mb.Kept w w6 (fun k => k = mb)) := (show _ ∧ _ from ⟨hm6, (Mb.Kept.ofBelow (bst HBx.out (bstep hbE hb5)) (fun k => k = mb)).trans kk6⟩)
  clear q0 q1 hbE hb5 kk6 hm6 hr6 HMY HRg h0 n13
  go_wp2_with fail
  (first | go_end0 | ((try simp only [Exit.inBlock, Exit.then]); refine bodyPost_ret (results_none rfl _ _ _) rfl ?_))
  exact ⟨rfl, HF.out.1, HF.out.2⟩
end
end Go.Proofs.Ytfbgoidhgkcgjaa.Lo
