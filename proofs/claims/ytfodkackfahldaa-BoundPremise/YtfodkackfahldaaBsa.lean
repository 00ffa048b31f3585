import Derived.Test.YtfodkackfahldaaBrd
import Derived.Laws.BytesArg
namespace Go.Proofs.Ytfodkackfahldaa.Lo
open Go.RowKit
set_option linter.unusedVariables false
set_option linter.unusedSimpArgs false

theorem bel_dN (B : Nat) (w : World) (n : Nat) : Below B w (w.drewN n) := ⟨rfl, rfl, rfl, Nat.le_refl _, fun _ _ => rfl⟩
def pcL (xs : List Int) (j : Nat) : List Int := xs ++ (List.range j).map (fun (i : Nat) => (-7 : Int) - (i : Int))
theorem pcL_len (xs : List Int) (j : Nat) : (pcL xs j).length = xs.length + j := by simp [pcL]
theorem pcL_succ (xs : List Int) (j : Nat) : pcL xs (j + 1) = pcL xs j ++ [(-7 : Int) - (j : Int)] := by simp [pcL, List.range_succ]
theorem pcL_at {xs : List Int} {j i : Nat} (h : i < xs.length) : (pcL xs j).getD i 0 = xs.getD i 0 := by
  simp only [pcL, List.getD_eq_getElem?_getD]
  rw [List.getElem?_append_left h]
theorem pcL_hi {xs : List Int} {j i : Nat} (h : i < j) : (pcL xs j).getD (xs.length + i) 0 = (-7 : Int) - (i : Int) := by
  simp only [pcL, List.getD_eq_getElem?_getD]
  rw [List.getElem?_append_right (by omega)]
  simp [h]
set_option maxRecDepth 100000 in
set_option maxHeartbeats 1000000 in
theorem piece_any (ao : Option Addr) (n c : Nat) (xs : List Int) (w : World) (hr : Ri w ao n c xs) (hn : n * 8 ≤ 140737488351232) : Calls Try.prog 35 #[.slice ao n c] w fun r w' => ∃ (g cc : Nat), r = .returned (.slice (some ⟨g, 0, none⟩) (n + 64) cc) ∧ OwI w' w.heap.size (.slice (some ⟨g, 0, none⟩) (n + 64) cc) (pcL xs 64) ∧ Below w.heap.size w w' := by
  have HR : Hid (Ri w ao n c xs) := hr
  have hl : xs.length = n := hr.1
  clear hr
  go_enter Try.func35, Try.ntmps35
  go_wp2_with (first | (at_builtin; refine app_I rfl _ _ rfl rfl (show OwI w w.heap.size (.slice none 0 0) [] from ow_nil _ _ _ _) rfl HR.out (by simp only [List.length_nil]; omega) (Nat.le_refl _) ?_) | fail)
  intro v1 w1 o1 kk1 _
  have o1' : OwI w1 w.heap.size v1 (pcL xs 0) := by simpa [pcL] using o1.out
  obtain ⟨a1, c1, hv⟩ := ow_shape o1'
  subst hv
  have HO1 : Hid (OwI w1 w.heap.size (.slice a1 (pcL xs 0).length c1) (pcL xs 0)) := o1'
  have HB1 : Hid (Below w.heap.size w w1) := kb kk1.out
  clear o1 kk1 o1'
  go_wp2_with fail
  go_loopw [3, 4] (fun v x wr => ∃ (j : Nat) (a : Option Addr) (cc : Nat), j ≤ 64 ∧ x = .int .i64 j ∧ v = .slice a (pcL xs j).length cc ∧ Hid (OwI wr w.heap.size (.slice a (pcL xs j).length cc) (pcL xs j)) ∧ Hid (Below w.heap.size w wr)) (fun _ x _ => 64 - (intOf x).toNat)
  case atStart => exact ⟨0, a1, c1, Nat.zero_le _, rfl, rfl, HO1, HB1⟩
  case round =>
    obtain ⟨j, a, cc, hj, rfl, rfl, ho, hb⟩ := hrel
    by_cases hjn : j < 64
    · have j1 : (0 : Int) ≤ (j : Int) := Int.natCast_nonneg _
      have j3 : (j : Int) < 64 := by omega
      have hs : w.heap.size ≤ wr.heap.size := hb.out.size
      go_wp2_with (first | (at_builtin; refine app_I1 rfl _ _ rfl rfl ho.out ((-7 : Int) - (j : Int)) rfl rfl (by rw [pcL_len]; omega) hs ?_) | fail)
      intro v2 w2 o2 k2 _
      have o2' : OwI w2 w.heap.size v2 (pcL xs (j + 1)) := by rw [pcL_succ]; exact o2.out
      obtain ⟨a', c', hv⟩ := ow_shape o2'
      subst hv
      have HO : Hid (OwI w2 w.heap.size (.slice a' (pcL xs (j + 1)).length c') (pcL xs (j + 1))) := o2'
      have HB : Hid (Below w.heap.size w w2) := (show Below _ _ _ from hb.out.trans (k2.out.below hs (fun k hk e => by have := (World.ownsRow.lt ho.out k e).1; omega)))
      clear o2 k2 o2' ho hb
      go_wp2_with fail
      go_roundw
      case rel => exact ⟨j + 1, a', c', by omega, by go_num, rfl, HO, HB⟩
      case measure => simp [intOf]; omega
    · obtain rfl : 64 = j := by omega
      have hsh : ∃ g, a = some ⟨g, 0, none⟩ := by
        rcases ho.out.2 with ⟨e, e0⟩ | ⟨g, cap, cur, e, _⟩
        · rw [pcL_len] at e0; omega
        · simp only [Value.slice.injEq] at e; exact ⟨g, e.1⟩
      obtain ⟨g, rfl⟩ := hsh
      have hln : (pcL xs 64).length = n + 64 := by rw [pcL_len, hl]
      have HOf : Hid (OwI wr w.heap.size (.slice (some ⟨g, 0, none⟩) (n + 64) cc) (pcL xs 64)) := (show OwI _ _ _ _ from by have := ho.out; rw [hln] at this; exact this)
      rw [hln]
      clear hln ho
      go_wp2_with fail
      go_ret
      exact ⟨g, cc, rfl, HOf.out, hb.out⟩
set_option maxRecDepth 100000 in
set_option maxHeartbeats 1000000 in
theorem kept_any (fa : Option Addr) (fc : Nat) (la : Option Addr) (n lc : Nat) (xs : List Int) (w : World) (hf : Ri w fa (n + 64) fc (pcL xs 64)) (hr : Ri w la n lc xs) (hn : n * 8 ≤ 140737488351232) : Calls Try.prog 37 #[.slice fa (n + 64) fc, .slice la n lc] w fun r w' => r = .returned (.bool true) ∧ Below w.heap.size w w' := by
  have hl : xs.length = n := hr.1
  rcases hf.2.2 with h0 | ⟨fb, fo, rfl, hfc⟩
  · omega
  have HF : Hid (∀ i, i < n + 64 → w.cell? ⟨fb, fo + i, none⟩ = some (.int .i64 ((pcL xs 64).getD i 0))) := hfc
  have HR : Hid (Ri w la n lc xs) := hr
  clear hf hfc hr
  go_enter Try.func37, Try.ntmps37
  go_wp2_with fail
  go_loopw [5] (fun x wr => ∃ (j : Nat), j ≤ n ∧ x = .int .i64 j ∧ Hid (Below w.heap.size w wr)) (fun x _ => n - (intOf x).toNat)
  case atStart => exact ⟨0, Nat.zero_le _, rfl, Below.refl _ _⟩
  case round =>
    obtain ⟨j, hj, rfl, hb⟩ := hrel
    by_cases hjn : j < n
    · have j1 : (0 : Int) ≤ (j : Int) := Int.natCast_nonneg _
      have j3 : (j : Int) < (n : Int) := by omega
      have j4 : (j : Int) < ((n + 64 : Nat) : Int) := by omega
      rcases HR.out.2.2 with h0 | ⟨lb, lo, rfl, hlc⟩
      · omega
      have e1 := below_at hb.out (HF.out j (by omega))
      have e2 := below_at hb.out (hlc j hjn)
      rw [pcL_at (by omega)] at e1
      generalize xs.getD j 0 = y at *
      clear hlc
      go_wp2_with fail
      go_quiet (fail)
      go_wp2_with fail
      have HB2 : Hid (Below w.heap.size w (wr.drewN nq)) := (show Below _ _ _ from hb.out.trans (bel_dN _ _ nq))
      go_roundw
      case rel => exact ⟨j + 1, by omega, by go_num, HB2⟩
      case measure => simp [intOf]; omega
    · obtain rfl : n = j := by omega
      go_wp2_with fail
      go_loopw [6] (fun x wr => ∃ (i : Nat), i ≤ 64 ∧ x = .int .i64 i ∧ Hid (Below w.heap.size w wr)) (fun x _ => 64 - (intOf x).toNat)
      case atStart => exact ⟨0, Nat.zero_le _, rfl, hb⟩
      case round =>
        obtain ⟨i, hi, rfl, hb2⟩ := hrel
        by_cases hin : i < 64
        · have i1 : (0 : Int) ≤ (i : Int) := Int.natCast_nonneg _
          have i2 : (i : Int) < 64 := by omega
          have i3 : (0 : Int) ≤ (n : Int) + (i : Int) := by omega
          have i4 : (n : Int) + (i : Int) < ((n + 64 : Nat) : Int) := by omega
          have i5 : ((n : Int) + (i : Int)).toNat = n + i := by omega
          have e1 := below_at hb2.out (HF.out (n + i) (by omega))
          rw [← hl, pcL_hi hin, hl] at e1
          go_wp2_with fail
          go_roundw
          case rel => exact ⟨i + 1, by omega, by go_num, hb2⟩
          case measure => simp [intOf]; omega
        · obtain rfl : 64 = i := by omega
          go_wp2_with fail
          go_ret
          exact ⟨rfl, hb2.out⟩
theorem conv_of {w : World} {ao : Option Addr} {n c : Nat} {bs : List Int} (hr : Ln.Rd w ao n c bs) : (convert 32 9 (.slice ao n c)).run Try.prog w = .ok (.string (strOfNums bs)) w := by
  by_cases hk : n = 0
  · subst hk
    obtain rfl := hr.nil'
    cases ao with
    | none =>
      rw [run_convert_bytes_nil (P := Try.prog) w 32 5 Try.underlying32 Try.underlying5 0 c 9 Try.underlying9]
      rfl
    | some x =>
      rw [run_convert_bytes_string w 32 9 5 _ 0 c Try.underlying32 Try.underlying5 Try.underlying9]
      have hl : (loadCells x 0).run Try.prog w = .ok (([] : List Int).map (Value.int .u8)).toArray w := by
        have := run_loadCells_list (P := Try.prog) w x [] (fun j v hj => by simp at hj)
        simpa using this
      rw [run_bytesToString w x 0 c [] hl]
      rfl
  · rcases hr.at_ with h0 | ⟨b, off, rfl, hc⟩
    · omega
    · exact run_convert_bytes_arg (P := Try.prog) w 32 5 Try.underlying32 Try.underlying5 b off n c bs hr.len hc 9 Try.underlying9
set_option maxRecDepth 100000 in
set_option maxHeartbeats 4000000 in
theorem sameEv_any (e e2 : Em) (w : World) (hs : Sm e e2) (h1 : Ri w e.sa e.sn e.sc e.xs) (h2 : Ri w e2.sa e2.sn e2.sc e2.xs) (g1 : Ln.Rd w e.ba e.bn e.bc e.bs) (g2 : Ln.Rd w e2.ba e2.bn e2.bc e2.bs) (hn : e.sn ≤ 140737488355328) : Calls Try.prog 51 #[.agg e.cs.toArray, .agg e2.cs.toArray] w fun r w' => r = .returned (.bool true) ∧ Below w.heap.size w w' := by
  have hbn : e2.bn = e.bn := by rw [← g1.len, ← g2.len, hs.bs]
  have hsn : e2.sn = e.sn := by rw [← h1.1, ← h2.1, hs.xs]
  have hk1 := heap_new w e.cs.toArray 36
  have hb1 := bsp w e.cs.toArray 36
  generalize hW1 : w.alloc (.cells e.cs.toArray 36) = W1 at *
  have hk2 := heap_new W1 e2.cs.toArray 36
  have hb2 := bsp W1 e2.cs.toArray 36
  generalize hW2 : W1.alloc (.cells e2.cs.toArray 36) = W2 at *
  have HB2 : Hid (Below w.heap.size w W2) := bst hb1 hb2
  have c0 : W2.cell? ⟨w.heap.size, 0, none⟩ = some (.int .i64 e.k) := below_at hb2 (blk_cell hk1 0)
  have c1 : W2.cell? ⟨w.heap.size, 1, none⟩ = some (.int .i64 e.a) := below_at hb2 (blk_cell hk1 1)
  have c2 : W2.cell? ⟨w.heap.size, 2, none⟩ = some (.int .i64 e.b) := below_at hb2 (blk_cell hk1 2)
  have c3 : W2.cell? ⟨w.heap.size, 3, none⟩ = some (.int .i64 e.n) := below_at hb2 (blk_cell hk1 3)
  have c4 : W2.cell? ⟨w.heap.size, 4, none⟩ = some (.slice e.ba e.bn e.bc) := below_at hb2 (blk_cell hk1 4)
  have c5 : W2.cell? ⟨w.heap.size, 5, none⟩ = some (.int .i64 e.c5) := below_at hb2 (blk_cell hk1 5)
  have c6 : W2.cell? ⟨w.heap.size, 6, none⟩ = some (.int .i64 e.c6) := below_at hb2 (blk_cell hk1 6)
  have c7 : W2.cell? ⟨w.heap.size, 7, none⟩ = some (.int .i64 e.c7) := below_at hb2 (blk_cell hk1 7)
  have c8 : W2.cell? ⟨w.heap.size, 8, none⟩ = some (.int .i64 e.c8) := below_at hb2 (blk_cell hk1 8)
  have c9 : W2.cell? ⟨w.heap.size, 9, none⟩ = some (.string e.s9) := below_at hb2 (blk_cell hk1 9)
  have c10 : W2.cell? ⟨w.heap.size, 10, none⟩ = some (.string e.s10) := below_at hb2 (blk_cell hk1 10)
  have c11 : W2.cell? ⟨w.heap.size, 11, none⟩ = some (.string e.s11) := below_at hb2 (blk_cell hk1 11)
  have c12 : W2.cell? ⟨w.heap.size, 12, none⟩ = some (.slice e.sa e.sn e.sc) := below_at hb2 (blk_cell hk1 12)
  have d0 : W2.cell? ⟨W1.heap.size, 0, none⟩ = some (.int .i64 e.k) := by rw [← hs.k]; exact blk_cell hk2 0
  have d1 : W2.cell? ⟨W1.heap.size, 1, none⟩ = some (.int .i64 e.a) := by rw [← hs.a]; exact blk_cell hk2 1
  have d2 : W2.cell? ⟨W1.heap.size, 2, none⟩ = some (.int .i64 e.b) := by rw [← hs.b]; exact blk_cell hk2 2
  have d3 : W2.cell? ⟨W1.heap.size, 3, none⟩ = some (.int .i64 e.n) := by rw [← hs.n]; exact blk_cell hk2 3
  have d4 : W2.cell? ⟨W1.heap.size, 4, none⟩ = some (.slice e2.ba e.bn e2.bc) := by rw [← hbn]; exact blk_cell hk2 4
  have d5 : W2.cell? ⟨W1.heap.size, 5, none⟩ = some (.int .i64 e.c5) := by rw [← hs.c5]; exact blk_cell hk2 5
  have d6 : W2.cell? ⟨W1.heap.size, 6, none⟩ = some (.int .i64 e.c6) := by rw [← hs.c6]; exact blk_cell hk2 6
  have d7 : W2.cell? ⟨W1.heap.size, 7, none⟩ = some (.int .i64 e.c7) := by rw [← hs.c7]; exact blk_cell hk2 7
  have d8 : W2.cell? ⟨W1.heap.size, 8, none⟩ = some (.int .i64 e.c8) := by rw [← hs.c8]; exact blk_cell hk2 8
  have d9 : W2.cell? ⟨W1.heap.size, 9, none⟩ = some (.string e.s9) := by rw [← hs.s9]; exact blk_cell hk2 9
  have d10 : W2.cell? ⟨W1.heap.size, 10, none⟩ = some (.string e.s10) := by rw [← hs.s10]; exact blk_cell hk2 10
  have d11 : W2.cell? ⟨W1.heap.size, 11, none⟩ = some (.string e.s11) := by rw [← hs.s11]; exact blk_cell hk2 11
  have d12 : W2.cell? ⟨W1.heap.size, 12, none⟩ = some (.slice e2.sa e.sn e2.sc) := by rw [← hsn]; exact blk_cell hk2 12
  have q1 := conv_of (g1.still HB2.out)
  have q2 := conv_of (g2.still HB2.out)
  rw [hbn, hs.bs] at q2
  have HR1 : Hid (Ri W2 e.sa e.sn e.sc e.xs) := h1.below HB2.out
  have HR2 : Hid (Ri W2 e2.sa e.sn e2.sc e.xs) := (show Ri _ _ _ _ _ from by
    have := h2.below HB2.out
    rw [hsn, hs.xs] at this
    exact this)
  clear hk1 hk2 hb1 hb2 h1 h2 g1 g2 hbn hsn hs
  go_enter Try.func51, Try.ntmps51
  go_wp2_with fail
  go_loopw [5] (fun x wr => ∃ (j : Nat), j ≤ e.sn ∧ x = .int .i64 j ∧ Hid (Below W2.heap.size W2 wr)) (fun x _ => e.sn - (intOf x).toNat)
  case atStart => exact ⟨0, Nat.zero_le _, rfl, Below.refl _ _⟩
  case round =>
    obtain ⟨j, hj, rfl, hb⟩ := hrel
    have c12w := below_at hb.out c12
    have d12w := below_at hb.out d12
    by_cases hjn : j < e.sn
    · have j1 : (0 : Int) ≤ (j : Int) := Int.natCast_nonneg _
      have j3 : (j : Int) < (e.sn : Int) := by omega
      rcases HR1.out.2.2 with h0 | ⟨lb, lo, hla, hlc⟩
      · omega
      rcases HR2.out.2.2 with h0 | ⟨mb, mo, hma, hmc⟩
      · omega
      rw [hla] at c12w
      rw [hma] at d12w
      have e1 := below_at hb.out (hlc j hjn)
      have e2 := below_at hb.out (hmc j hjn)
      generalize e.xs.getD j 0 = y at *
      clear hlc hmc hla hma c0 c1 c2 c3 c4 c5 c6 c7 c8 c9 c10 c11 c12 d0 d1 d2 d3 d4 d5 d6 d7 d8 d9 d10 d11 d12 q1 q2
      go_wp2_with fail
      go_quiet (fail)
      go_wp2_with fail
      have HB3 : Hid (Below W2.heap.size W2 (wr.drewN nq)) := (show Below _ _ _ from hb.out.trans (bel_dN _ _ nq))
      go_roundw
      case rel => exact ⟨j + 1, by omega, by go_num, HB3⟩
      case measure => simp [intOf]; omega
    · have hjN : j = e.sn := by omega
      have HBX : Hid (Below w.heap.size w wr) := bst HB2.out hb.out
      have j3 : ¬ (j : Int) < (e.sn : Int) := by omega
      go_wp2_with fail
      go_ret
      exact ⟨rfl, HBX.out⟩
end Go.Proofs.Ytfodkackfahldaa.Lo
