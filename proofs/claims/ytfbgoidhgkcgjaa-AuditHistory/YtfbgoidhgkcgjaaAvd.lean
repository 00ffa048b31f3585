import Derived.Test.YtfbgoidhgkcgjaaAvc
namespace Go.Proofs.Ytfbgoidhgkcgjaa.Lo
open Go.RowKit Go.Maps
set_option linter.unusedVariables false
set_option linter.unusedSimpArgs false
section
variable {w w' W : World} {B : Nat} {P : Nat → Prop}
set_option maxRecDepth 100000 in
set_option maxHeartbeats 4000000 in
theorem next_no (hb mb m k : Nat) (g : Int → Option Mk) (w : World) (hh : w.heap[hb]? = some (.cells #[.map (some mb), .int .i64 (k : Int)] 55 (0, 0))) (hM : MpG w mb m g) (hk : k < 140737488355328) (hg : g ((k : Int) + 1) = none) : Calls Try.prog 13 #[.pointer (some ⟨hb, 0, none⟩)] w fun r w' => r = .returned (.tuple #[.agg mk0.en.toArray, .bool false]) ∧ Below w.heap.size w w' := by
  have hn : i64B ((k : Int) + 1) := by unfold i64B; omega
  have hwr : wrap64 ((k : Int) + 1) = (k : Int) + 1 := by unfold wrap64; omega
  have HWi : Hid (IntKind.i64.wrap ((k : Int) + 1) = (k : Int) + 1) := (show _ = _ from by rw [IntKind.wrap_i64]; omega)
  have hlt := (Array.getElem?_eq_some_iff.1 hh).1
  go_enter Try.func13, Try.ntmps13
  go_wp2_with (first | (refine wl_allocZ rfl 59 rfl zEn ?_) | fail)
  intro W k0 b0 s0
  have hhW := blk_on b0 hh
  have h0 : W.cell? ⟨hb, 0, none⟩ = some (.map (some mb)) := blk_cell hhW 0
  have h1 : W.cell? ⟨hb, 1, none⟩ = some (.int .i64 (k : Int)) := blk_cell hhW 1
  have HM : Hid (MpG W mb m g) := hM.still b0
  have HB : Hid (Below w.heap.size w W) := b0
  have HK : Hid (W.heap[w.heap.size]? = some (.cells mk0.en.toArray 59 (0, 0))) := k0
  have HH : Hid (W.heap[hb]? = some (.cells #[.map (some mb), .int .i64 (k : Int)] 55 (0, 0))) := hhW
  clear k0 b0 s0 hhW hh hM
  go_wp2_with fail
  refine wp_region_held_drew (S := (fun w' => w'.cell? ⟨hb, 0, none⟩ = some (.map (some mb)) ∧ w'.cell? ⟨hb, 1, none⟩ = some (.int .i64 (k : Int)) ∧ MpG w' mb m g)) (by kernel_rfl) ⟨(below_at (drew_bel _) h0), (below_at (drew_bel _) h1), (HM.out.still (drew_bel _))⟩ (fun hHeld => ?_)
  simp only [Act.put, List.size_toArray, List.length_cons, List.length_nil, Nat.zero_add]
  refine takeD (i := 0) (d := 7) (v := .pointer (some ⟨hb, 0, none⟩)) rfl (by kernel_rfl) (by kernel_rfl) (by kernel_rfl) (by kernel_rfl) (fun _ _ _ h => h) (Or.inl ⟨by rfl, fun w' hS => by go_simp⟩) hHeld ?_
  simp only [Act.put, List.setIfInBounds_toArray, List.set_cons_zero, List.set_cons_succ]
  refine takeD (i := 1) (d := 8) (v := .pointer (some ⟨hb, 0, none⟩)) rfl (by kernel_rfl) (by kernel_rfl) (by kernel_rfl) (by kernel_rfl) (fun _ _ _ h => h) (Or.inl ⟨by rfl, fun w' hS => by go_simp⟩) hHeld ?_
  simp only [Act.put, List.setIfInBounds_toArray, List.set_cons_zero, List.set_cons_succ]
  refine takeD (i := 2) (d := 9) (v := .pointer (some ⟨hb, 0, none⟩)) rfl (by kernel_rfl) (by kernel_rfl) (by kernel_rfl) (by kernel_rfl) (fun _ _ _ h => h) (Or.inl ⟨by rfl, fun w' hS => by go_simp⟩) hHeld ?_
  simp only [Act.put, List.setIfInBounds_toArray, List.set_cons_zero, List.set_cons_succ]
  refine takeD (i := 3) (d := 10) (v := .map (some mb)) rfl (by kernel_rfl) (by kernel_rfl) (by kernel_rfl) (by kernel_rfl) (fun _ _ _ h => h) (Or.inl ⟨by rfl, fun w' hS => by (obtain ⟨s0, s1, s2⟩ := hS; go_simp)⟩) hHeld ?_
  simp only [Act.put, List.setIfInBounds_toArray, List.set_cons_zero, List.set_cons_succ]
  refine takeD (i := 4) (d := 11) (v := .pointer (some ⟨hb, 0, none⟩)) rfl (by kernel_rfl) (by kernel_rfl) (by kernel_rfl) (by kernel_rfl) (fun _ _ _ h => h) (Or.inl ⟨by rfl, fun w' hS => by go_simp⟩) hHeld ?_
  simp only [Act.put, List.setIfInBounds_toArray, List.set_cons_zero, List.set_cons_succ]
  refine takeD (i := 5) (d := 12) (v := .pointer (some ⟨hb, 0, none⟩)) rfl (by kernel_rfl) (by kernel_rfl) (by kernel_rfl) (by kernel_rfl) (fun _ _ _ h => h) (Or.inl ⟨by rfl, fun w' hS => by go_simp⟩) hHeld ?_
  simp only [Act.put, List.setIfInBounds_toArray, List.set_cons_zero, List.set_cons_succ]
  refine takeD (i := 6) (d := 13) (v := .pointer (some ⟨hb, 1, none⟩)) rfl (by kernel_rfl) (by kernel_rfl) (by kernel_rfl) (by kernel_rfl) (fun _ _ _ h => h) (Or.inl ⟨by rfl, fun w' hS => by go_simp⟩) hHeld ?_
  simp only [Act.put, List.setIfInBounds_toArray, List.set_cons_zero, List.set_cons_succ]
  refine takeD (i := 7) (d := 14) (v := .int .i64 (k : Int)) rfl (by kernel_rfl) (by kernel_rfl) (by kernel_rfl) (by kernel_rfl) (fun _ _ _ h => h) (Or.inl ⟨by rfl, fun w' hS => by (obtain ⟨s0, s1, s2⟩ := hS; go_simp)⟩) hHeld ?_
  simp only [Act.put, List.setIfInBounds_toArray, List.set_cons_zero, List.set_cons_succ]
  refine takeD (i := 8) (d := 15) (v := .int .i64 ((k : Int) + 1)) rfl (by kernel_rfl) (by kernel_rfl) (by kernel_rfl) (by kernel_rfl) (fun _ _ _ h => h) (Or.inl ⟨by rfl, fun w' hS => by (go_simp <;> exact HWi.out)⟩) hHeld ?_
  simp only [Act.put, List.setIfInBounds_toArray, List.set_cons_zero, List.set_cons_succ]
  refine takeD (i := 9) (d := 16) (v := .tuple #[.agg mk0.en.toArray, .bool false]) rfl (by kernel_rfl) (by kernel_rfl) (by kernel_rfl) (by kernel_rfl) (fun _ _ _ h => h) (Or.inl ⟨by rfl, fun w' hS => by (obtain ⟨s0, s1, s2⟩ := hS; exact run_lookop 53 (.tmp 10) (.tmp 15) rfl rfl rfl (s2.no hn hg))⟩) hHeld ?_
  simp only [Act.put, List.setIfInBounds_toArray, List.set_cons_zero, List.set_cons_succ]
  refine takeD (i := 10) (d := 6) (v := .tuple #[.agg mk0.en.toArray, .bool false]) rfl (by kernel_rfl) (by kernel_rfl) (by kernel_rfl) (by kernel_rfl) (fun _ _ _ h => h) (Or.inl ⟨by rfl, fun w' hS => by go_simp⟩) hHeld ?_
  simp only [Act.put, List.setIfInBounds_toArray, List.set_cons_zero, List.set_cons_succ]
  refine takeD (i := 11) (d := 17) (v := .agg mk0.en.toArray) rfl (by kernel_rfl) (by kernel_rfl) (by kernel_rfl) (by kernel_rfl) (fun _ _ _ h => h) (Or.inl ⟨by rfl, fun w' hS => by go_simp⟩) hHeld ?_
  simp only [Act.put, List.setIfInBounds_toArray, List.set_cons_zero, List.set_cons_succ]
  refine takeD (i := 12) (d := 18) (v := .bool false) rfl (by kernel_rfl) (by kernel_rfl) (by kernel_rfl) (by kernel_rfl) (fun _ _ _ h => h) (Or.inl ⟨by rfl, fun w' hS => by go_simp⟩) hHeld ?_
  simp only [Act.put, List.setIfInBounds_toArray, List.set_cons_zero, List.set_cons_succ]
  have hbD : Below W.heap.size W W.drew := drew_bel _
  have q0 := below_at hbD h0
  have q1 := below_at hbD h1
  generalize W.drew = D0 at *
  refine wpAnyH_ready (rs := [13]) (by kernel_rfl) (by simp) ?_
  refine AllReadyH.cons rfl (fun K hK => ?_) AllReadyH.nil
  refine step_allocZ rfl 59 rfl zEn ?_
  intro X1 k1 b1 s1
  refine hK.out _ _ ⟨(below_at b1 q0), (below_at b1 q1), ((HM.out.still hbD).still b1)⟩ (fun hHeld => ?_)
  clear hK K
  refine wpAnyH_ready (rs := [14]) (by kernel_rfl) (by simp) ?_
  refine AllReadyH.cons rfl (fun K hK => ?_) AllReadyH.nil
  refine step_storeZ rfl 59 _ _ rfl (L := mk0.en) rfl rfl k1 (iEn _) rfl (Mk.one' _) ?_
  intro X2 k2 kk2
  have hb2 : Below D0.heap.size D0 X2 := b1.trans (kn kk2 (Nat.le_refl _) b1.size)
  refine hK.out _ _ ⟨(below_at hb2 q0), (below_at hb2 q1), ((HM.out.still hbD).still hb2)⟩ (fun hHeld => ?_)
  clear hK K
  refine takeD (i := 15) (d := 5) (v := .bool false) rfl (by kernel_rfl) (by kernel_rfl) (by kernel_rfl) (by kernel_rfl) (fun _ _ _ h => h) (Or.inl ⟨by rfl, fun w' hS => by go_simp⟩) hHeld ?_
  simp only [Act.put, List.setIfInBounds_toArray, List.set_cons_zero, List.set_cons_succ]
  refine wpAnyH_done (by kernel_rfl) ?_ _
  clear hHeld
  have hbX : Below W.heap.size W X2 := bstep hbD hb2
  have hKX := blk_on hbX HK.out
  have hHX := blk_on hbX HH.out
  have HBX : Hid (Below w.heap.size w X2) := (show Below _ _ _ from bst HB.out hbX)
  have HRg : Hid (X2.rangeAt D0.heap.size 0 mk0.en) := Ln.blk_range k2
  have HK2 : Hid (X2.heap[w.heap.size]? = some (.cells mk0.en.toArray 59 (0, 0))) := hKX
  have HH2 : Hid (X2.heap[hb]? = some (.cells #[.map (some mb), .int .i64 (k : Int)] 55 (0, 0))) := hHX
  have hdw : W.heap.size ≤ D0.heap.size := hbD.size
  have hhd : hb ≠ D0.heap.size := by have := HB.out.size; omega
  clear q0 q1 hb2 hbX hKX hHX k1 b1 s1 k2 kk2 HM HB HK HH h0 h1 hbD
  generalize D0.heap.size = db at *
  go_wp2_with (first | (refine Ln.at_load 59 (.tmp 4) rfl ?_; refine Ln.load_mid 59 (.tmp 4) HRg.out _ Try.underlying59 rfl (iEn mk0) rfl rfl rfl ?_) | (refine Ln.at_store 59 _ _ rfl ?_; refine wl_storeZ rfl 59 _ _ rfl (L := mk0.en) rfl rfl HK2.out (iEn _) rfl (Mk.one' _) ?_) | fail)
  intro X9 k9 kk9
  have HB9 : Hid (Below w.heap.size w X9) := (show Below _ _ _ from HBX.out.trans (kn kk9 (Nat.le_refl _) HBX.out.size))
  have HK9 : Hid (X9.heap[w.heap.size]? = some (.cells mk0.en.toArray 59 (0, 0))) := k9
  clear k9 kk9 HBX HK2 HH2 HRg
  go_wp2_with fail
  (try simp only [Exit.inBlock, Exit.then])
  refine bodyPost_ret (v := .tuple #[.agg mk0.en.toArray, .bool false]) ?_ rfl ⟨rfl, HB9.out⟩
  refine (results_cell_tmp Try.results13 _ _ w.heap.size mk0.en.toArray rfl (run_loadVar_row _ _ 59 59 _ (0, 0) _ HK9.out Try.underlying59 rfl (iEn mk0))).trans ?_
  rfl
set_option maxRecDepth 100000 in
set_option maxHeartbeats 4000000 in
theorem next_yes (hb mb m k : Nat) (g : Int → Option Mk) (e0 : Mk) (w : World) (hh : w.heap[hb]? = some (.cells #[.map (some mb), .int .i64 (k : Int)] 55 (0, 0))) (hM : MpG w mb m g) (hk : k < 140737488355328) (hg : g ((k : Int) + 1) = some e0) : Calls Try.prog 13 #[.pointer (some ⟨hb, 0, none⟩)] w fun r w' => r = .returned (.tuple #[.agg e0.en.toArray, .bool true]) ∧ w'.heap[hb]? = some (.cells #[.map (some mb), .int .i64 ((k : Int) + 1)] 55 (0, 0)) ∧ Mb.Kept w w' (fun q => q = hb) := by
  have hn : i64B ((k : Int) + 1) := by unfold i64B; omega
  have hwr : wrap64 ((k : Int) + 1) = (k : Int) + 1 := by unfold wrap64; omega
  have HWi : Hid (IntKind.i64.wrap ((k : Int) + 1) = (k : Int) + 1) := (show _ = _ from by rw [IntKind.wrap_i64]; omega)
  have hlt := (Array.getElem?_eq_some_iff.1 hh).1
  go_enter Try.func13, Try.ntmps13
  go_wp2_with (first | (refine wl_allocZ rfl 59 rfl zEn ?_) | fail)
  intro W k0 b0 s0
  have hhW := blk_on b0 hh
  have h0 : W.cell? ⟨hb, 0, none⟩ = some (.map (some mb)) := blk_cell hhW 0
  have h1 : W.cell? ⟨hb, 1, none⟩ = some (.int .i64 (k : Int)) := blk_cell hhW 1
  have HM : Hid (MpG W mb m g) := hM.still b0
  have HB : Hid (Below w.heap.size w W) := b0
  have HK : Hid (W.heap[w.heap.size]? = some (.cells mk0.en.toArray 59 (0, 0))) := k0
  have HH : Hid (W.heap[hb]? = some (.cells #[.map (some mb), .int .i64 (k : Int)] 55 (0, 0))) := hhW
  clear k0 b0 s0 hhW hh hM
  go_wp2_with fail
  refine wp_region_held_drew (S := (fun w' => w'.cell? ⟨hb, 0, none⟩ = some (.map (some mb)) ∧ w'.cell? ⟨hb, 1, none⟩ = some (.int .i64 (k : Int)) ∧ MpG w' mb m g)) (by kernel_rfl) ⟨(below_at (drew_bel _) h0), (below_at (drew_bel _) h1), (HM.out.still (drew_bel _))⟩ (fun hHeld => ?_)
  simp only [Act.put, List.size_toArray, List.length_cons, List.length_nil, Nat.zero_add]
  refine takeD (i := 0) (d := 7) (v := .pointer (some ⟨hb, 0, none⟩)) rfl (by kernel_rfl) (by kernel_rfl) (by kernel_rfl) (by kernel_rfl) (fun _ _ _ h => h) (Or.inl ⟨by rfl, fun w' hS => by go_simp⟩) hHeld ?_
  simp only [Act.put, List.setIfInBounds_toArray, List.set_cons_zero, List.set_cons_succ]
  refine takeD (i := 1) (d := 8) (v := .pointer (some ⟨hb, 0, none⟩)) rfl (by kernel_rfl) (by kernel_rfl) (by kernel_rfl) (by kernel_rfl) (fun _ _ _ h => h) (Or.inl ⟨by rfl, fun w' hS => by go_simp⟩) hHeld ?_
  simp only [Act.put, List.setIfInBounds_toArray, List.set_cons_zero, List.set_cons_succ]
  refine takeD (i := 2) (d := 9) (v := .pointer (some ⟨hb, 0, none⟩)) rfl (by kernel_rfl) (by kernel_rfl) (by kernel_rfl) (by kernel_rfl) (fun _ _ _ h => h) (Or.inl ⟨by rfl, fun w' hS => by go_simp⟩) hHeld ?_
  simp only [Act.put, List.setIfInBounds_toArray, List.set_cons_zero, List.set_cons_succ]
  refine takeD (i := 3) (d := 10) (v := .map (some mb)) rfl (by kernel_rfl) (by kernel_rfl) (by kernel_rfl) (by kernel_rfl) (fun _ _ _ h => h) (Or.inl ⟨by rfl, fun w' hS => by (obtain ⟨s0, s1, s2⟩ := hS; go_simp)⟩) hHeld ?_
  simp only [Act.put, List.setIfInBounds_toArray, List.set_cons_zero, List.set_cons_succ]
  refine takeD (i := 4) (d := 11) (v := .pointer (some ⟨hb, 0, none⟩)) rfl (by kernel_rfl) (by kernel_rfl) (by kernel_rfl) (by kernel_rfl) (fun _ _ _ h => h) (Or.inl ⟨by rfl, fun w' hS => by go_simp⟩) hHeld ?_
  simp only [Act.put, List.setIfInBounds_toArray, List.set_cons_zero, List.set_cons_succ]
  refine takeD (i := 5) (d := 12) (v := .pointer (some ⟨hb, 0, none⟩)) rfl (by kernel_rfl) (by kernel_rfl) (by kernel_rfl) (by kernel_rfl) (fun _ _ _ h => h) (Or.inl ⟨by rfl, fun w' hS => by go_simp⟩) hHeld ?_
  simp only [Act.put, List.setIfInBounds_toArray, List.set_cons_zero, List.set_cons_succ]
  refine takeD (i := 6) (d := 13) (v := .pointer (some ⟨hb, 1, none⟩)) rfl (by kernel_rfl) (by kernel_rfl) (by kernel_rfl) (by kernel_rfl) (fun _ _ _ h => h) (Or.inl ⟨by rfl, fun w' hS => by go_simp⟩) hHeld ?_
  simp only [Act.put, List.setIfInBounds_toArray, List.set_cons_zero, List.set_cons_succ]
  refine takeD (i := 7) (d := 14) (v := .int .i64 (k : Int)) rfl (by kernel_rfl) (by kernel_rfl) (by kernel_rfl) (by kernel_rfl) (fun _ _ _ h => h) (Or.inl ⟨by rfl, fun w' hS => by (obtain ⟨s0, s1, s2⟩ := hS; go_simp)⟩) hHeld ?_
  simp only [Act.put, List.setIfInBounds_toArray, List.set_cons_zero, List.set_cons_succ]
  refine takeD (i := 8) (d := 15) (v := .int .i64 ((k : Int) + 1)) rfl (by kernel_rfl) (by kernel_rfl) (by kernel_rfl) (by kernel_rfl) (fun _ _ _ h => h) (Or.inl ⟨by rfl, fun w' hS => by (go_simp <;> exact HWi.out)⟩) hHeld ?_
  simp only [Act.put, List.setIfInBounds_toArray, List.set_cons_zero, List.set_cons_succ]
  refine takeD (i := 9) (d := 16) (v := .tuple #[.agg e0.en.toArray, .bool true]) rfl (by kernel_rfl) (by kernel_rfl) (by kernel_rfl) (by kernel_rfl) (fun _ _ _ h => h) (Or.inl ⟨by rfl, fun w' hS => by (obtain ⟨s0, s1, s2⟩ := hS; exact run_lookop 53 (.tmp 10) (.tmp 15) rfl rfl rfl (s2.yes hn hg))⟩) hHeld ?_
  simp only [Act.put, List.setIfInBounds_toArray, List.set_cons_zero, List.set_cons_succ]
  refine takeD (i := 10) (d := 6) (v := .tuple #[.agg e0.en.toArray, .bool true]) rfl (by kernel_rfl) (by kernel_rfl) (by kernel_rfl) (by kernel_rfl) (fun _ _ _ h => h) (Or.inl ⟨by rfl, fun w' hS => by go_simp⟩) hHeld ?_
  simp only [Act.put, List.setIfInBounds_toArray, List.set_cons_zero, List.set_cons_succ]
  refine takeD (i := 11) (d := 17) (v := .agg e0.en.toArray) rfl (by kernel_rfl) (by kernel_rfl) (by kernel_rfl) (by kernel_rfl) (fun _ _ _ h => h) (Or.inl ⟨by rfl, fun w' hS => by go_simp⟩) hHeld ?_
  simp only [Act.put, List.setIfInBounds_toArray, List.set_cons_zero, List.set_cons_succ]
  refine takeD (i := 12) (d := 18) (v := .bool true) rfl (by kernel_rfl) (by kernel_rfl) (by kernel_rfl) (by kernel_rfl) (fun _ _ _ h => h) (Or.inl ⟨by rfl, fun w' hS => by go_simp⟩) hHeld ?_
  simp only [Act.put, List.setIfInBounds_toArray, List.set_cons_zero, List.set_cons_succ]
  have hbD : Below W.heap.size W W.drew := drew_bel _
  have q0 := below_at hbD h0
  have q1 := below_at hbD h1
  generalize W.drew = D0 at *
  refine wpAnyH_ready (rs := [13]) (by kernel_rfl) (by simp) ?_
  refine AllReadyH.cons rfl (fun K hK => ?_) AllReadyH.nil
  refine step_allocZ rfl 59 rfl zEn ?_
  intro X1 k1 b1 s1
  refine hK.out _ _ ⟨(below_at b1 q0), (below_at b1 q1), ((HM.out.still hbD).still b1)⟩ (fun hHeld => ?_)
  clear hK K
  refine wpAnyH_ready (rs := [14]) (by kernel_rfl) (by simp) ?_
  refine AllReadyH.cons rfl (fun K hK => ?_) AllReadyH.nil
  refine step_storeZ rfl 59 _ _ rfl (L := e0.en) rfl rfl k1 (iEn _) rfl (Mk.one' _) ?_
  intro X2 k2 kk2
  have hb2 : Below D0.heap.size D0 X2 := b1.trans (kn kk2 (Nat.le_refl _) b1.size)
  refine hK.out _ _ ⟨(below_at hb2 q0), (below_at hb2 q1), ((HM.out.still hbD).still hb2)⟩ (fun hHeld => ?_)
  clear hK K
  refine takeD (i := 15) (d := 5) (v := .bool true) rfl (by kernel_rfl) (by kernel_rfl) (by kernel_rfl) (by kernel_rfl) (fun _ _ _ h => h) (Or.inl ⟨by rfl, fun w' hS => by go_simp⟩) hHeld ?_
  simp only [Act.put, List.setIfInBounds_toArray, List.set_cons_zero, List.set_cons_succ]
  refine wpAnyH_done (by kernel_rfl) ?_ _
  clear hHeld
  have hbX : Below W.heap.size W X2 := bstep hbD hb2
  have hKX := blk_on hbX HK.out
  have hHX := blk_on hbX HH.out
  have HBX : Hid (Below w.heap.size w X2) := (show Below _ _ _ from bst HB.out hbX)
  have HRg : Hid (X2.rangeAt D0.heap.size 0 e0.en) := Ln.blk_range k2
  have HK2 : Hid (X2.heap[w.heap.size]? = some (.cells mk0.en.toArray 59 (0, 0))) := hKX
  have HH2 : Hid (X2.heap[hb]? = some (.cells #[.map (some mb), .int .i64 (k : Int)] 55 (0, 0))) := hHX
  have hdw : W.heap.size ≤ D0.heap.size := hbD.size
  have hhd : hb ≠ D0.heap.size := by have := HB.out.size; omega
  clear q0 q1 hb2 hbX hKX hHX k1 b1 s1 k2 kk2 HM HB HK HH h0 h1 hbD
  have z1 : X2.cell? ⟨hb, 1, none⟩ = some (.int .i64 (k : Int)) := blk_cell HH2.out 1
  have z2 : X2.frozen? ⟨hb, 1, none⟩ = false := frozen_of_row X2 hb 1 _ _ HH2.out
  obtain ⟨Y, hY⟩ : ∃ Y, X2.setCell ⟨hb, 1, none⟩ (.int .i64 ((k : Int) + 1)) = Y := ⟨_, rfl⟩
  have kkY : Mb.Kept X2 Y (fun q => q = hb) := hY ▸ Mb.kset X2 hb 1 _ rfl
  have HHY : Hid (Y.heap[hb]? = some (.cells #[.map (some mb), .int .i64 ((k : Int) + 1)] 55 (0, 0))) := (show _ = _ from hY ▸ Mb.blk_set HH2.out rfl)
  have HKY : Hid (Y.heap[w.heap.size]? = some (.cells mk0.en.toArray 59 (0, 0))) := (show _ = _ from kkY.obj HK2.out (fun e => by have e' : w.heap.size = hb := e; omega))
  have HRY : Hid (Y.rangeAt D0.heap.size 0 e0.en) := (show World.rangeAt _ _ _ _ from krange kkY (fun e => hhd e.symm) HRg.out)
  have HKk : Hid (Mb.Kept w Y (fun q => q = hb)) := (show Mb.Kept _ _ _ from (Mb.Kept.ofBelow HBX.out (fun q => q = hb)).trans kkY)
  clear kkY HRg HK2 HH2
  generalize D0.heap.size = db at *
  go_wp2_with (first | (refine Ln.at_load 59 (.tmp 4) rfl ?_; refine Ln.load_mid 59 (.tmp 4) HRY.out _ Try.underlying59 rfl (iEn e0) rfl rfl rfl ?_) | (refine Ln.at_store 59 _ _ rfl ?_; refine wl_storeZ rfl 59 _ _ rfl (L := e0.en) rfl rfl HKY.out (iEn _) rfl (Mk.one' _) ?_) | fail)
  intro X9 k9 kk9
  have hsw : w.heap.size < Y.heap.size := (Array.getElem?_eq_some_iff.1 HKY.out).1
  have HB9 : Hid (Mb.Kept w X9 (fun q => q = hb)) := (show Mb.Kept _ _ _ from HKk.out.step kk9 (fun j hj => .inr (by have e' : j = w.heap.size := hj; omega)))
  have HH9 : Hid (X9.heap[hb]? = some (.cells #[.map (some mb), .int .i64 ((k : Int) + 1)] 55 (0, 0))) := (show _ = _ from kk9.obj HHY.out (fun e => by have e' : hb = w.heap.size := e; omega))
  have HK9 : Hid (X9.heap[w.heap.size]? = some (.cells e0.en.toArray 59 (0, 0))) := k9
  clear k9 kk9 HBX HKY HHY HRY HKk z1 z2 hY
  go_wp2_with fail
  (try simp only [Exit.inBlock, Exit.then])
  refine bodyPost_ret (v := .tuple #[.agg e0.en.toArray, .bool true]) ?_ rfl ⟨rfl, HH9.out, HB9.out⟩
  refine (results_cell_tmp Try.results13 _ _ w.heap.size e0.en.toArray rfl (run_loadVar_row _ _ 59 59 _ (0, 0) _ HK9.out Try.underlying59 rfl (iEn e0))).trans ?_
  rfl
end
end Go.Proofs.Ytfbgoidhgkcgjaa.Lo
