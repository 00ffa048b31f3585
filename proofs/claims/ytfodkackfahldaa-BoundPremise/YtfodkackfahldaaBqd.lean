import Derived.Test.YtfodkackfahldaaBqc
namespace Go.Proofs.Ytfodkackfahldaa.Lo
open Go.RowKit
set_option linter.unusedVariables false
set_option linter.unusedSimpArgs false

theorem run_buildop {o : Oper} {ρ : Operand → Value} {w : World} (t : TypeId) (parts : Array (Nat × Operand)) (ho : o.op = .build t parts) (cs : Array Value) (h : Try.prog.built t (parts.map fun (i, x) => (i, ρ x)).toList = some cs) : (execOp ρ o).run Try.prog w = .ok (.value (.agg cs)) w := by
  unfold execOp
  simp only [ho, Sem.run_bind, run_build w t _ cs h, Result.andThen_ok, Sem.run_pure]
set_option maxRecDepth 100000 in
set_option maxHeartbeats 2000000 in
theorem newWatch_any (N : Nat) (wi ba st ca ro fl : Int) (va : Option Addr) (vn vc : Nat) (ao : Option Addr) (n c : Nat) (xs : List Int) (w : World) (n1 : 1 ≤ N) (n2 : N ≤ 16) (hr : Ri w ao n c xs) (hn : n ≤ 140737488355328) (hx : ∀ p ∈ xs, 0 ≤ p ∧ p < 16) : Calls Try.prog 22 #[.agg #[.int .i64 (N : Int), .int .i64 wi, .int .i64 ba, .int .i64 st, .int .i64 ca, .int .i64 ro, .int .i64 fl, .slice va vn vc], .slice ao n c] w fun e w' => ∃ b, e = .returned (.pointer (some ⟨b, 0, none⟩)) ∧ w.heap.size ≤ b ∧ Nb w' b (inF (wtF N ba) xs) ∧ Below w.heap.size w w' := by
  have HB : Hid (Below w.heap.size w (w.alloc (.cells #[.int .i64 (N : Int), .int .i64 wi, .int .i64 ba, .int .i64 st, .int .i64 ca, .int .i64 ro, .int .i64 fl, .slice va vn vc] 24))) := bsp _ _ _
  have hk := heap_new w #[.int .i64 (N : Int), .int .i64 wi, .int .i64 ba, .int .i64 st, .int .i64 ca, .int .i64 ro, .int .i64 fl, .slice va vn vc] 24
  generalize hW : w.alloc (.cells #[.int .i64 (N : Int), .int .i64 wi, .int .i64 ba, .int .i64 st, .int .i64 ca, .int .i64 ro, .int .i64 fl, .slice va vn vc] 24) = W at *
  have c0 : W.cell? ⟨w.heap.size, 0, none⟩ = some (.int .i64 (N : Int)) := blk_cell hk 0
  have c2 : W.cell? ⟨w.heap.size, 2, none⟩ = some (.int .i64 ba) := blk_cell hk 2
  have HR : Hid (Ri W ao n c xs) := hr.below HB.out
  have HX : Hid (∀ p ∈ xs, 0 ≤ p ∧ p < 16) := hx
  have hl : xs.length = n := hr.1
  clear hk hr hx
  go_enter Try.func22, Try.ntmps22
  go_wp2_with fail
  refine wp_region_held_drew (S := (fun w' => w'.cell? ⟨w.heap.size, 0, none⟩ = some (.int .i64 (N : Int)) ∧ w'.cell? ⟨w.heap.size, 2, none⟩ = some (.int .i64 ba))) (by kernel_rfl) ⟨(below_at (drew_bel _) c0), (below_at (drew_bel _) c2)⟩ (fun hHeld => ?_)
  simp only [Act.put, List.size_toArray, List.length_cons, List.length_nil, Nat.zero_add]
  refine takeD (i := 0) (d := 8) (v := .pointer (some ⟨w.heap.size, 0, none⟩)) rfl (by kernel_rfl) (by kernel_rfl) (by kernel_rfl) (by kernel_rfl) (fun _ _ _ h => h) (Or.inl ⟨by rfl, fun w' hS => by go_simp⟩) hHeld ?_
  simp only [Act.put, List.setIfInBounds_toArray, List.set_cons_zero, List.set_cons_succ]
  refine takeD (i := 1) (d := 9) (v := .int .i64 (N : Int)) rfl (by kernel_rfl) (by kernel_rfl) (by kernel_rfl) (by kernel_rfl) (fun _ _ _ h => h) (Or.inl ⟨by rfl, fun w' hS => by (obtain ⟨s0, s1⟩ := hS; go_simp)⟩) hHeld ?_
  simp only [Act.put, List.setIfInBounds_toArray, List.set_cons_zero, List.set_cons_succ]
  refine takeD (i := 3) (d := 11) (v := .pointer (some ⟨w.heap.size, 2, none⟩)) rfl (by kernel_rfl) (by kernel_rfl) (by kernel_rfl) (by kernel_rfl) (fun _ _ _ h => h) (Or.inl ⟨by rfl, fun w' hS => by go_simp⟩) hHeld ?_
  simp only [Act.put, List.setIfInBounds_toArray, List.set_cons_zero, List.set_cons_succ]
  refine takeD (i := 4) (d := 12) (v := .int .i64 ba) rfl (by kernel_rfl) (by kernel_rfl) (by kernel_rfl) (by kernel_rfl) (fun _ _ _ h => h) (Or.inl ⟨by rfl, fun w' hS => by (obtain ⟨s0, s1⟩ := hS; go_simp)⟩) hHeld ?_
  simp only [Act.put, List.setIfInBounds_toArray, List.set_cons_zero, List.set_cons_succ]
  have hbD1 : Below W.heap.size W W.drew := drew_bel _
  have q0 := below_at hbD1 c0
  have q1 := below_at hbD1 c2
  generalize W.drew = D1 at *
  refine wpAnyH_ready (rs := [2]) (by kernel_rfl) (by simp) ?_
  refine AllReadyH.cons rfl (fun K hK => ?_) AllReadyH.nil
  go_simp
  refine (newNet_any N _ n1 n2).mono ?_
  rintro e w5 ⟨rfl, hb5⟩
  refine hK.out _ _ ⟨(below_at hb5 q0), (below_at hb5 q1)⟩ (fun hHeld => ?_)
  clear hK K
  refine takeD (i := 5) (d := 13) (v := .agg (Mb.ints (rl 292 (wtF N ba))).toArray) rfl (by kernel_rfl) (by kernel_rfl) (by kernel_rfl) (by kernel_rfl) (fun _ _ _ h => h) (Or.inl ⟨by rfl, fun w' hS => by (exact run_buildop 59 _ rfl _ (built_eq (by kernel_rfl) (bWt (nwF N) ba)))⟩) hHeld ?_
  simp only [Act.put, List.setIfInBounds_toArray, List.set_cons_zero, List.set_cons_succ]
  refine wpAnyH_ready (rs := [6]) (by kernel_rfl) (by simp) ?_
  refine AllReadyH.cons rfl (fun K hK => ?_) AllReadyH.nil
  go_simp
  refine hK.out _ _ ⟨(below_at (bsp _ _ _) (below_at hb5 q0)), (below_at (bsp _ _ _) (below_at hb5 q1))⟩ (fun hHeld => ?_)
  clear hK K
  refine takeD (i := 7) (d := 5) (v := .pointer (some ⟨w5.heap.size, 0, none⟩)) rfl (by kernel_rfl) (by kernel_rfl) (by kernel_rfl) (by kernel_rfl) (fun _ _ _ h => h) (Or.inl ⟨by rfl, fun w' hS => by go_simp⟩) hHeld ?_
  simp only [Act.put, List.setIfInBounds_toArray, List.set_cons_zero, List.set_cons_succ]
  refine wpAnyH_done (by kernel_rfl) ?_ _
  clear hHeld
  have HB5 : Hid (Below W.heap.size W w5) := (show Below _ _ _ from bstep hbD1 hb5)
  have hN5 : Nb (w5.alloc (.cells (Mb.ints (rl 292 (wtF N ba))).toArray 59)) w5.heap.size (wtF N ba) := Nb.of (heap_new _ _ _)
  have HB6 : Hid (Below W.heap.size W (w5.alloc (.cells (Mb.ints (rl 292 (wtF N ba))).toArray 59))) := (show Below _ _ _ from bstep HB5.out (bsp _ _ _))
  have hble : w.heap.size ≤ w5.heap.size := by have := HB5.out.size; have := HB.out.size; omega
  have H5 : Hid (Nb (w5.alloc (.cells (Mb.ints (rl 292 (wtF N ba))).toArray 59)) w5.heap.size (inF (wtF N ba) (xs.take 0))) := hN5
  have HR6 : Hid (Ri (w5.alloc (.cells (Mb.ints (rl 292 (wtF N ba))).toArray 59)) ao n c xs) := HR.out.below HB6.out
  have HB7 : Hid (Below w5.heap.size (w5.alloc (.cells (Mb.ints (rl 292 (wtF N ba))).toArray 59)) (w5.alloc (.cells (Mb.ints (rl 292 (wtF N ba))).toArray 59))) := Below.refl _ _
  have HRB : Hid (n = 0 ∨ ∃ b off, ao = some ⟨b, off, none⟩ ∧ b < w5.heap.size ∧ ∀ i, i < n → (w5.alloc (.cells (Mb.ints (rl 292 (wtF N ba))).toArray 59)).cell? ⟨b, off + i, none⟩ = some (.int .i64 (xs.getD i 0))) := (show _ ∨ _ from by
    rcases HR6.out.2.2 with h | ⟨b, off, rfl, hc⟩
    · exact .inl h
    · by_cases e0 : n = 0
      · exact .inl e0
      · refine .inr ⟨b, off, rfl, ?_, hc⟩
        rcases HR.out.2.2 with h | ⟨b', off', e', hc'⟩
        · omega
        · cases e'
          have := World.block_lt_of_cell? W _ (hc' 0 (by omega))
          exact Nat.lt_of_lt_of_le this HB5.out.size)
  clear hN5 HR6 HR hbD1 hb5 c0 c2 HB5
  generalize w5.alloc (.cells (Mb.ints (rl 292 (wtF N ba))).toArray 59) = W6 at *
  generalize w5.heap.size = wb at *
  try clear q0 q1
  go_wp2_with fail
  go_loopw [17] (fun x wr => ∃ (j : Nat), j ≤ n ∧ x = .int .i64 j ∧ Hid (Nb wr wb (inF (wtF N ba) (xs.take j))) ∧ Hid (Below wb W6 wr)) (fun x _ => n - (intOf x).toNat)
  case atStart => exact ⟨0, Nat.zero_le _, rfl, H5, HB7⟩
  case round =>
    obtain ⟨j, hj, rfl, h1, hb⟩ := hrel
    by_cases hjn : j < n
    · have j1 : (0 : Int) ≤ (j : Int) := Int.natCast_nonneg _
      have j3 : (j : Int) < (n : Int) := by omega
      rcases HRB.out with h | ⟨b, off, rfl, hbw, hc⟩
      · omega
      have e1 := (hb.out.cell (p := ⟨b, off + j, none⟩) hbw).trans (hc j hjn)
      have hm := HX.out (xs.getD j 0) (by rw [List.getD_eq_getElem?_getD, List.getElem?_eq_getElem (by omega)]; exact List.getElem_mem _)
      have HT : Hid (inF (wtF N ba) (xs.take (j + 1)) = upF (inF (wtF N ba) (xs.take j)) (273 + (xs.getD j 0).toNat) 1) := (show _ = _ from inF_take _ (by omega))
      clear hc
      obtain ⟨p, hp⟩ : ∃ p : Nat, xs.getD j 0 = (p : Int) := ⟨(xs.getD j 0).toNat, by omega⟩
      rw [hp] at e1 hm HT
      have hp16 : p < 16 := by omega
      have p1 : (0 : Int) ≤ (p : Int) := hm.1
      have p2 : (p : Int) < 16 := hm.2
      have c1 := h1.out.cell (i := 273 + p) (by omega)
      have z1 := h1.out.fz (273 + p)
      have H2 : Hid (Nb (wr.setCell ⟨wb, 273 + p, none⟩ (.int .i64 1)) wb (inF (wtF N ba) (xs.take (j + 1)))) := (show Nb _ _ _ from by
        rw [HT.out]
        exact h1.out.set (i := 273 + p) (by omega) 1)
      have HB2 : Hid (Below wb W6 (wr.setCell ⟨wb, 273 + p, none⟩ (.int .i64 1))) := hb.out.setCell (Nat.le_refl _) _
      clear h1 hb hp HT hm
      go_wp2_with fail
      go_roundw
      case rel => exact ⟨j + 1, by omega, by go_num, H2, HB2⟩
      case measure => simp [intOf]; omega
    · have hjN : j = n := by omega
      subst hjN
      have H2 : Hid (Nb wr wb (inF (wtF N ba) xs)) := (show Nb _ _ _ from by
        have := h1.out
        rw [List.take_of_length_le (by omega)] at this
        exact this)
      have HBX : Hid (Below w.heap.size w wr) := (show Below _ _ _ from (bst HB.out HB6.out).trans (hb.out.mono hble))
      clear h1
      go_wp2_with fail
      go_ret
      exact ⟨wb, rfl, hble, H2.out, HBX.out⟩
end Go.Proofs.Ytfodkackfahldaa.Lo
