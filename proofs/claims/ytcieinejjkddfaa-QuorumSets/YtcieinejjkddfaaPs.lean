import Derived.Test.YtcieinejjkddfaaPr
namespace Go.Proofs.Ytcieinejjkddfaa.Qm
open Go.RowKit Mb
set_option linter.unusedVariables false
set_option maxRecDepth 100000
set_option linter.unusedSimpArgs false
section
variable {w w' : World} {B : Nat}
theorem lent_rd {a : Option Addr} {n c : Nat} {xs : List Int} (hl : xs.length = n) (h : w.ownsRow B 3 1 (.slice a (n + 64) c) (n + 64) (ints (xs ++ mks 64))) : RdI w a n c xs := by
  have := (own_rd h).take (m := n) (by omega)
  rw [← hl, List.take_left, hl] at this
  exact this
set_option maxHeartbeats 4000000 in
theorem sets_law {ao bo : Option Addr} {n c m d : Nat} {xs ys : List Int} (hr : RdI w ao n c xs) (hn : n ≤ 17592186043904) (hr2 : RdI w bo m d ys) (hm : m ≤ 17592186043904) : Calls Try.prog 8 #[.agg #[.slice ao n c, .slice bo m d]] w fun e w' => e = .returned (.bool true) ∧ Below w.heap.size w w' := by
  generalize hW : w.alloc (.cells #[.slice ao n c, .slice bo m d] 48) = W
  have hbW : Below w.heap.size w W := by rw [← hW]; exact balloc (Below.refl _ w)
  have hblk : W.heap[w.heap.size]? = some (.cells #[.slice ao n c, .slice bo m d] 48 (0, 0)) := by rw [← hW]; exact heap_alloc_new w _
  have q0 : W.cell? ⟨w.heap.size, 0, none⟩ = some (.slice ao n c) := blk_cell hblk 0
  have q1 : W.cell? ⟨w.heap.size, 1, none⟩ = some (.slice bo m d) := blk_cell hblk 1
  have HR : Hid (RdI W ao n c xs) := hr.still hbW
  have HR2 : Hid (RdI W bo m d ys) := hr2.still hbW
  have HBW : Hid (Below w.heap.size w W) := hbW
  have HRC : Hid (∀ V, Below W.heap.size W V → Calls Try.prog 23 #[.slice ao n c] V fun e w' => e = .returned (.int .i64 (chkE xs)) ∧ V = w') := fun V hV => rcheck_any (HR.out.still hV)
  have HRQ : Hid (∀ V, Below W.heap.size W V → Calls Try.prog 22 #[.slice ao n c, .slice bo m d] V fun e w' => e = .returned (.tuple #[.bool (quoB xs ys), .int .i64 (quoE xs ys)]) ∧ V = w') := fun V hV => rquorate_any (HR.out.still hV) (HR2.out.still hV) (by omega)
  have Hl1 : Hid (xs.length = n) := hr.len
  have Hl2 : Hid (ys.length = m) := hr2.len
  clear hr hr2 hblk hbW
  go_enter Try.func8, Try.ntmps8
  go_wp2_with (fail)
  refine (lent_any HR.out hn).mono ?_
  rintro e w1 ⟨v1, rfl, ho1, hb1⟩
  obtain ⟨a1, c1, rfl⟩ := own_shape ho1
  have hc1 : n + 64 ≤ c1 := (own_rd ho1).cap
  have HO1 : Hid (w1.ownsRow W.heap.size 3 1 (.slice a1 (n + 64) c1) (n + 64) (ints (xs ++ mks 64))) := ho1
  have HB1 : Hid (Below W.heap.size W w1) := hb1
  replace q0 := below_at hb1 q0
  replace q1 := below_at hb1 q1
  clear ho1 hb1
  go_wp2_with (fail)
  refine (lent_any (HR2.out.still HB1.out) hm).mono ?_
  rintro e w2 ⟨v2, rfl, ho2, hb2⟩
  obtain ⟨a2, c2, rfl⟩ := own_shape ho2
  have hc2 : m + 64 ≤ c2 := (own_rd ho2).cap
  have HO2 : Hid (w2.ownsRow w1.heap.size 3 1 (.slice a2 (m + 64) c2) (m + 64) (ints (ys ++ mks 64))) := ho2
  have HO1' : Hid (w2.ownsRow W.heap.size 3 1 (.slice a1 (n + 64) c1) (n + 64) (ints (xs ++ mks 64))) := own_still HO1.out hb2
  have HB2 : Hid (Below W.heap.size W w2) := bstep HB1.out hb2
  replace q0 := below_at hb2 q0
  replace q1 := below_at hb2 q1
  clear ho2 hb2 HO1 HB1
  have HV1 : Hid (RdI w2 a1 n c1 xs) := lent_rd Hl1.out HO1'.out
  have HV2 : Hid (RdI w2 a2 m c2 ys) := lent_rd Hl2.out HO2.out
  go_wp2_with (fail)
  refine (check_any HV1.out).mono ?_
  rintro e w3 ⟨rfl, hb3⟩
  have HB3 : Hid (Below w2.heap.size w2 w3) := hb3
  replace q0 := below_at hb3 q0
  replace q1 := below_at hb3 q1
  clear hb3
  go_wp2_with (fail)
  refine (quorate_any (HV1.out.still HB3.out) (HV2.out.still HB3.out) (by omega)).mono ?_
  rintro e w4 ⟨rfl, hb4⟩
  have HB4 : Hid (Below w2.heap.size w2 w4) := bstep HB3.out hb4
  have HBB : Hid (Below W.heap.size W w4) := bstep HB2.out HB4.out
  replace q0 := below_at hb4 q0
  replace q1 := below_at hb4 q1
  clear hb4 HB3
  have HK1 : Hid (∀ V, Below w4.heap.size w4 V → Calls Try.prog 24 #[.slice a1 (n + 64) c1, .slice ao n c] V fun e w' => e = .returned (.bool true) ∧ Below V.heap.size V w') := fun V hV => kept_any ((own_rd HO1'.out).still (bstep HB4.out hV)) (HR.out.still (bstep HBB.out hV)) hn
  have HK2 : Hid (∀ V, Below w4.heap.size w4 V → Calls Try.prog 24 #[.slice a2 (m + 64) c2, .slice bo m d] V fun e w' => e = .returned (.bool true) ∧ Below V.heap.size V w') := fun V hV => kept_any ((own_rd HO2.out).still (bstep HB4.out hV)) (HR2.out.still (bstep HBB.out hV)) hm
  go_wp2_with (fail)
  refine (HRQ.out _ HBB.out).mono ?_
  rintro e w5 ⟨rfl, rfl⟩
  go_wp2_with (fail)
  refine wp_region_held_drew (S := (fun w' => w'.cell? ⟨w.heap.size, 0, none⟩ = some (.slice ao n c) ∧ w'.cell? ⟨w.heap.size, 1, none⟩ = some (.slice bo m d))) (by kernel_rfl) ⟨below_at (Below.refl _ _).drew q0, below_at (Below.refl _ _).drew q1⟩ (fun hHeld => ?_)
  simp only [Act.put, List.size_toArray, List.length_cons, List.length_nil, Nat.zero_add]
  refine wpAnyH_take (i := 0) (v := .int .i64 (chkE xs)) rfl (by kernel_rfl) (by kernel_rfl) (by kernel_rfl) (fun _ _ _ h => h) (Or.inl ⟨by rfl, fun w' hS => by go_simp⟩) hHeld ?_
  simp only [Act.put, List.getElem_toArray, List.getElem_cons_zero, List.getElem_cons_succ, List.setIfInBounds_toArray, List.set_cons_zero, List.set_cons_succ]
  refine wpAnyH_take (i := 2) (v := .pointer (some ⟨w.heap.size, 0, none⟩)) rfl (by kernel_rfl) (by kernel_rfl) (by kernel_rfl) (fun _ _ _ h => h) (Or.inl ⟨by rfl, fun w' hS => by go_simp⟩) hHeld ?_
  simp only [Act.put, List.getElem_toArray, List.getElem_cons_zero, List.getElem_cons_succ, List.setIfInBounds_toArray, List.set_cons_zero, List.set_cons_succ]
  refine wpAnyH_take (i := 3) (v := .slice ao n c) rfl (by kernel_rfl) (by kernel_rfl) (by kernel_rfl) (fun _ _ _ h => h) (Or.inl ⟨by rfl, fun w' hS => by (obtain ⟨s0, s1⟩ := hS; go_simp)⟩) hHeld ?_
  simp only [Act.put, List.getElem_toArray, List.getElem_cons_zero, List.getElem_cons_succ, List.setIfInBounds_toArray, List.set_cons_zero, List.set_cons_succ]
  refine wpAnyH_ready (rs := [1]) (by kernel_rfl) (by simp) ?_
  refine AllReadyH.cons rfl (fun K hK => ?_) AllReadyH.nil
  go_simp
  refine (num_any (chkE xs)).mono ?_
  rintro e w2 ⟨rfl, rfl⟩
  refine hK.out _ _ ⟨below_at (Below.refl _ _).drew q0, below_at (Below.refl _ _).drew q1⟩ (fun hHeld => ?_)
  clear hK K
  refine wpAnyH_ready (rs := [4]) (by kernel_rfl) (by simp) ?_
  refine AllReadyH.cons rfl (fun K hK => ?_) AllReadyH.nil
  go_simp
  refine (HRC.out _ (bstep HBB.out (Below.refl _ _).drew)).mono ?_
  rintro e w2 ⟨rfl, rfl⟩
  refine hK.out _ _ ⟨below_at (Below.refl _ _).drew q0, below_at (Below.refl _ _).drew q1⟩ (fun hHeld => ?_)
  clear hK K
  refine wpAnyH_take (i := 5) (v := .bool true) rfl (by kernel_rfl) (by kernel_rfl) (by kernel_rfl) (fun _ _ _ h => h) (Or.inl ⟨by rfl, fun w' hS => by go_simp⟩) hHeld ?_
  simp only [Act.put, List.getElem_toArray, List.getElem_cons_zero, List.getElem_cons_succ, List.setIfInBounds_toArray, List.set_cons_zero, List.set_cons_succ]
  refine wpAnyH_take (i := 6) (v := .bool true) rfl (by kernel_rfl) (by kernel_rfl) (by kernel_rfl) (fun _ _ _ h => h) (Or.inl ⟨by rfl, fun w' hS => by go_simp⟩) hHeld ?_
  simp only [Act.put, List.getElem_toArray, List.getElem_cons_zero, List.getElem_cons_succ, List.setIfInBounds_toArray, List.set_cons_zero, List.set_cons_succ]
  refine wpAnyH_take (i := 7) (v := .bool (quoB xs ys)) rfl (by kernel_rfl) (by kernel_rfl) (by kernel_rfl) (fun _ _ _ h => h) (Or.inl ⟨by rfl, fun w' hS => by go_simp⟩) hHeld ?_
  simp only [Act.put, List.getElem_toArray, List.getElem_cons_zero, List.getElem_cons_succ, List.setIfInBounds_toArray, List.set_cons_zero, List.set_cons_succ]
  refine wpAnyH_take (i := 8) (v := .bool (quoB xs ys)) rfl (by kernel_rfl) (by kernel_rfl) (by kernel_rfl) (fun _ _ _ h => h) (Or.inl ⟨by rfl, fun w' hS => by go_simp⟩) hHeld ?_
  simp only [Act.put, List.getElem_toArray, List.getElem_cons_zero, List.getElem_cons_succ, List.setIfInBounds_toArray, List.set_cons_zero, List.set_cons_succ]
  refine wpAnyH_take (i := 9) (v := .bool true) rfl (by kernel_rfl) (by kernel_rfl) (by kernel_rfl) (fun _ _ _ h => h) (Or.inl ⟨by rfl, fun w' hS => by go_simp⟩) hHeld ?_
  simp only [Act.put, List.getElem_toArray, List.getElem_cons_zero, List.getElem_cons_succ, List.setIfInBounds_toArray, List.set_cons_zero, List.set_cons_succ]
  refine wpAnyH_take (i := 10) (v := .bool true) rfl (by kernel_rfl) (by kernel_rfl) (by kernel_rfl) (fun _ _ _ h => h) (Or.inl ⟨by rfl, fun w' hS => by go_simp⟩) hHeld ?_
  simp only [Act.put, List.getElem_toArray, List.getElem_cons_zero, List.getElem_cons_succ, List.setIfInBounds_toArray, List.set_cons_zero, List.set_cons_succ]
  refine wpAnyH_take (i := 11) (v := .bool true) rfl (by kernel_rfl) (by kernel_rfl) (by kernel_rfl) (fun _ _ _ h => h) (Or.inl ⟨by rfl, fun w' hS => by go_simp⟩) hHeld ?_
  simp only [Act.put, List.getElem_toArray, List.getElem_cons_zero, List.getElem_cons_succ, List.setIfInBounds_toArray, List.set_cons_zero, List.set_cons_succ]
  refine wpAnyH_take (i := 12) (v := .int .i64 (quoE xs ys)) rfl (by kernel_rfl) (by kernel_rfl) (by kernel_rfl) (fun _ _ _ h => h) (Or.inl ⟨by rfl, fun w' hS => by go_simp⟩) hHeld ?_
  simp only [Act.put, List.getElem_toArray, List.getElem_cons_zero, List.getElem_cons_succ, List.setIfInBounds_toArray, List.set_cons_zero, List.set_cons_succ]
  refine wpAnyH_take (i := 14) (v := .int .i64 (quoE xs ys)) rfl (by kernel_rfl) (by kernel_rfl) (by kernel_rfl) (fun _ _ _ h => h) (Or.inl ⟨by rfl, fun w' hS => by go_simp⟩) hHeld ?_
  simp only [Act.put, List.getElem_toArray, List.getElem_cons_zero, List.getElem_cons_succ, List.setIfInBounds_toArray, List.set_cons_zero, List.set_cons_succ]
  refine wpAnyH_ready (rs := [13]) (by kernel_rfl) (by simp) ?_
  refine AllReadyH.cons rfl (fun K hK => ?_) AllReadyH.nil
  go_simp
  refine (num_any (quoE xs ys)).mono ?_
  rintro e w2 ⟨rfl, rfl⟩
  refine hK.out _ _ ⟨below_at (Below.refl _ _).drew q0, below_at (Below.refl _ _).drew q1⟩ (fun hHeld => ?_)
  clear hK K
  refine wpAnyH_take (i := 15) (v := .bool true) rfl (by kernel_rfl) (by kernel_rfl) (by kernel_rfl) (fun _ _ _ h => h) (Or.inl ⟨by rfl, fun w' hS => by go_simp⟩) hHeld ?_
  simp only [Act.put, List.getElem_toArray, List.getElem_cons_zero, List.getElem_cons_succ, List.setIfInBounds_toArray, List.set_cons_zero, List.set_cons_succ]
  refine wpAnyH_take (i := 16) (v := .bool true) rfl (by kernel_rfl) (by kernel_rfl) (by kernel_rfl) (fun _ _ _ h => h) (Or.inl ⟨by rfl, fun w' hS => by go_simp⟩) hHeld ?_
  simp only [Act.put, List.getElem_toArray, List.getElem_cons_zero, List.getElem_cons_succ, List.setIfInBounds_toArray, List.set_cons_zero, List.set_cons_succ]
  refine wpAnyH_take (i := 17) (v := .bool true) rfl (by kernel_rfl) (by kernel_rfl) (by kernel_rfl) (fun _ _ _ h => h) (Or.inl ⟨by rfl, fun w' hS => by go_simp⟩) hHeld ?_
  simp only [Act.put, List.getElem_toArray, List.getElem_cons_zero, List.getElem_cons_succ, List.setIfInBounds_toArray, List.set_cons_zero, List.set_cons_succ]
  refine wpAnyH_take (i := 18) (v := .slice a1 (n + 64) c1) rfl (by kernel_rfl) (by kernel_rfl) (by kernel_rfl) (fun _ _ _ h => h) (Or.inl ⟨by rfl, fun w' hS => by go_simp⟩) hHeld ?_
  simp only [Act.put, List.getElem_toArray, List.getElem_cons_zero, List.getElem_cons_succ, List.setIfInBounds_toArray, List.set_cons_zero, List.set_cons_succ]
  refine wpAnyH_take (i := 19) (v := .pointer (some ⟨w.heap.size, 0, none⟩)) rfl (by kernel_rfl) (by kernel_rfl) (by kernel_rfl) (fun _ _ _ h => h) (Or.inl ⟨by rfl, fun w' hS => by go_simp⟩) hHeld ?_
  simp only [Act.put, List.getElem_toArray, List.getElem_cons_zero, List.getElem_cons_succ, List.setIfInBounds_toArray, List.set_cons_zero, List.set_cons_succ]
  refine wpAnyH_take (i := 20) (v := .slice ao n c) rfl (by kernel_rfl) (by kernel_rfl) (by kernel_rfl) (fun _ _ _ h => h) (Or.inl ⟨by rfl, fun w' hS => by (obtain ⟨s0, s1⟩ := hS; go_simp)⟩) hHeld ?_
  simp only [Act.put, List.getElem_toArray, List.getElem_cons_zero, List.getElem_cons_succ, List.setIfInBounds_toArray, List.set_cons_zero, List.set_cons_succ]
  refine wpAnyH_ready (rs := [21]) (by kernel_rfl) (by simp) ?_
  refine AllReadyH.cons rfl (fun K hK => ?_) AllReadyH.nil
  go_simp
  refine (HK1.out _ (Below.refl _ _).drew).mono ?_
  rintro e w6 ⟨rfl, hb6⟩
  refine hK.out _ _ ⟨below_at hb6 (below_at (Below.refl _ _).drew q0), below_at hb6 (below_at (Below.refl _ _).drew q1)⟩ (fun hHeld => ?_)
  clear hK K
  refine wpAnyH_take (i := 22) (v := .bool true) rfl (by kernel_rfl) (by kernel_rfl) (by kernel_rfl) (fun _ _ _ h => h) (Or.inl ⟨by rfl, fun w' hS => by go_simp⟩) hHeld ?_
  simp only [Act.put, List.getElem_toArray, List.getElem_cons_zero, List.getElem_cons_succ, List.setIfInBounds_toArray, List.set_cons_zero, List.set_cons_succ]
  refine wpAnyH_take (i := 23) (v := .bool true) rfl (by kernel_rfl) (by kernel_rfl) (by kernel_rfl) (fun _ _ _ h => h) (Or.inl ⟨by rfl, fun w' hS => by go_simp⟩) hHeld ?_
  simp only [Act.put, List.getElem_toArray, List.getElem_cons_zero, List.getElem_cons_succ, List.setIfInBounds_toArray, List.set_cons_zero, List.set_cons_succ]
  refine wpAnyH_take (i := 24) (v := .slice a2 (m + 64) c2) rfl (by kernel_rfl) (by kernel_rfl) (by kernel_rfl) (fun _ _ _ h => h) (Or.inl ⟨by rfl, fun w' hS => by go_simp⟩) hHeld ?_
  simp only [Act.put, List.getElem_toArray, List.getElem_cons_zero, List.getElem_cons_succ, List.setIfInBounds_toArray, List.set_cons_zero, List.set_cons_succ]
  refine wpAnyH_take (i := 25) (v := .pointer (some ⟨w.heap.size, 1, none⟩)) rfl (by kernel_rfl) (by kernel_rfl) (by kernel_rfl) (fun _ _ _ h => h) (Or.inl ⟨by rfl, fun w' hS => by go_simp⟩) hHeld ?_
  simp only [Act.put, List.getElem_toArray, List.getElem_cons_zero, List.getElem_cons_succ, List.setIfInBounds_toArray, List.set_cons_zero, List.set_cons_succ]
  refine wpAnyH_take (i := 26) (v := .slice bo m d) rfl (by kernel_rfl) (by kernel_rfl) (by kernel_rfl) (fun _ _ _ h => h) (Or.inl ⟨by rfl, fun w' hS => by (obtain ⟨s0, s1⟩ := hS; go_simp)⟩) hHeld ?_
  simp only [Act.put, List.getElem_toArray, List.getElem_cons_zero, List.getElem_cons_succ, List.setIfInBounds_toArray, List.set_cons_zero, List.set_cons_succ]
  refine wpAnyH_ready (rs := [27]) (by kernel_rfl) (by simp) ?_
  refine AllReadyH.cons rfl (fun K hK => ?_) AllReadyH.nil
  go_simp
  refine (HK2.out _ (bstep (Below.refl _ _).drew hb6)).mono ?_
  rintro e w7 ⟨rfl, hb7⟩
  refine hK.out _ _ ⟨below_at hb7 (below_at hb6 (below_at (Below.refl _ _).drew q0)), below_at hb7 (below_at hb6 (below_at (Below.refl _ _).drew q1))⟩ (fun hHeld => ?_)
  clear hK K
  refine wpAnyH_take (i := 28) (v := .bool true) rfl (by kernel_rfl) (by kernel_rfl) (by kernel_rfl) (fun _ _ _ h => h) (Or.inl ⟨by rfl, fun w' hS => by go_simp⟩) hHeld ?_
  simp only [Act.put, List.getElem_toArray, List.getElem_cons_zero, List.getElem_cons_succ, List.setIfInBounds_toArray, List.set_cons_zero, List.set_cons_succ]
  refine wpAnyH_take (i := 29) (v := .bool true) rfl (by kernel_rfl) (by kernel_rfl) (by kernel_rfl) (fun _ _ _ h => h) (Or.inl ⟨by rfl, fun w' hS => by go_simp⟩) hHeld ?_
  simp only [Act.put, List.getElem_toArray, List.getElem_cons_zero, List.getElem_cons_succ, List.setIfInBounds_toArray, List.set_cons_zero, List.set_cons_succ]
  refine wpAnyH_done (by kernel_rfl) ?_ _
  clear hHeld
  go_wp2
  go_ret
  exact ⟨rfl, bstep (bstep (bstep HBW.out HBB.out) (Below.refl _ _).drew) (bstep hb6 hb7)⟩
end
end Go.Proofs.Ytcieinejjkddfaa.Qm
