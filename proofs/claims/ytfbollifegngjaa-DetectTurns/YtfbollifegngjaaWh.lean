import Derived.Test.YtfbollifegngjaaWg
namespace Go.Proofs.Ytfbollifegngjaa.Dt
open Go.RowKit
set_option linter.unusedVariables false
set_option maxRecDepth 100000
set_option linter.unusedSimpArgs false
section
variable {R R' : Rf} {w w' W V : World} {B m : Nat}

set_option maxHeartbeats 1000000 in
theorem rests_any (h : R.Ok w B) (hA : R.all.length ≤ 2513169434917) : Calls Try.prog 47 #[.pointer (some ⟨R.b, 0, none⟩)] w fun e w' => ∃ v, e = .returned v ∧ w'.ownsRow w.heap.size 3 1 v (R.ests R.n).length (ints (R.ests R.n)) ∧ Below w.heap.size w w' := by
  obtain ⟨i0, hi, hz0, hz1, hz2⟩ := info_parts info_i
  have hnum := h.num
  have c0 := h.cells.1
  have Hh : Hid (R.Ok w B) := h
  clear h
  go_enter Try.func47, Try.ntmps47
  go_wp2
  go_loopw [3, 4] (fun v i wr => ∃ k : Nat, k ≤ R.n ∧ i = .int .i64 k ∧ wr.ownsRow w.heap.size 3 1 v (R.ests k).length (ints (R.ests k)) ∧ Below w.heap.size w wr) (fun _ i _ => R.n - (intOf i).toNat)
  case atStart => exact ⟨0, Nat.zero_le _, rfl, ⟨rfl, .inl ⟨rfl, rfl⟩⟩, Below.refl _ _⟩
  case round =>
    obtain ⟨k, hk, rfl, ho, hb⟩ := hrel
    have hR := Hh.out.still hb
    obtain ⟨e0, e1, e2, _⟩ := hR.cells
    by_cases hlt : k < R.n
    · have HOf := of_any hR (k : Int) hA
      have hll : (R.ests k).length ≤ k := by simp [Rf.ests]
      have i1 : (0 : Int) ≤ (k : Int) := Int.natCast_nonneg _
      have i2 : (k : Int) < (R.n : Int) := by omega
      have hsz := hb.size
      have HRw : Hid (R.Ok wr B) := hR
      have HOw : Hid (wr.ownsRow w.heap.size 3 1 u3 (R.ests k).length (ints (R.ests k))) := ho
      have HBw : Hid (Below w.heap.size w wr) := hb
      have hnx : R.ests (k + 1) = R.ests k ++ [R.ev k] := by unfold Rf.ests; rw [List.range_succ, List.map_append]; rfl
      have Hpy : Hid (∀ p, R.of (k : Int) = p → R.ev k = if k = R.s then R.inc else if p.heard && p.both then p.known else 0) := fun p e => by unfold Rf.ev; rw [e]
      generalize hp : R.of (k : Int) = p at *
      have hvv := Hpy.out p rfl
      unfold Py.cs at HOf
      generalize hLN : R.ests k = LN at *
      have Hnx : Hid (R.ests (k + 1) = LN ++ [R.ev k]) := hnx
      clear ho hb hR hnx Hpy hLN
      go_wp2_with (fail)
      refine HOf.mono ?_
      rintro e w2 ⟨rfl, hb2⟩
      generalize hV : w2.alloc (.cells #[.int .i64 p.known, .int .i64 p.last, .int .i64 p.age, .int .i64 p.ticks, .int .i64 p.wrong, .bool p.heard, .bool p.both, .bool p.left] 96) = V
      have hbV : Below wr.heap.size wr V := by rw [← hV]; exact balloc hb2
      have hkV : V.heap[w2.heap.size]? = some (.cells #[.int .i64 p.known, .int .i64 p.last, .int .i64 p.age, .int .i64 p.ticks, .int .i64 p.wrong, .bool p.heard, .bool p.both, .bool p.left] 96 (0, 0)) := by rw [← hV]; exact heap_alloc_new w2 _
      have p0 : V.cell? ⟨w2.heap.size, 0, none⟩ = some (.int .i64 p.known) := blk_cell hkV 0
      have p5 : V.cell? ⟨w2.heap.size, 5, none⟩ = some (.bool p.heard) := blk_cell hkV 5
      have p6 : V.cell? ⟨w2.heap.size, 6, none⟩ = some (.bool p.both) := blk_cell hkV 6
      obtain ⟨f0, f1, f2, _⟩ := (HRw.out.still hbV).cells
      have HO2 : Hid (V.ownsRow w.heap.size 3 1 u3 LN.length (ints LN)) := own_still HOw.out hbV
      have HB2 : Hid (Below w.heap.size w V) := HBw.out.trans (hbV.mono HBw.out.size)
      have hszV : w.heap.size ≤ V.heap.size := HB2.out.size
      clear hb2 hbV hkV e0 e1 e2 HOf HRw HOw HBw hp
      by_cases hs : k = R.s
      · rw [if_pos hs] at hvv
        have hsi : ((k : Int) == (R.s : Int)) = true := by simp; omega
        clear hs
        have hint : Hid (ints (R.ests (k + 1)) = ints LN ++ [.int .i64 (R.inc)] ∧ (R.ests (k + 1)).length = LN.length + 1) := by
          have := Hnx.out
          rw [hvv] at this
          rw [this]
          exact ⟨by simp [ints], by simp⟩
        clear hvv
        generalize hI : ints LN = I at HO2 hint
        go_wp2_with (first | (at_builtin; refine wpList_append_lies _ rfl _ _ 25 rfl w.heap.size 3 i0 (.int .i64 0) 1 8 Try.underlying25 hi hz0 hz1 hz2 rfl (by omega) u3 LN.length I rfl (World.ownsRow.alloc HO2.out _) _ 1 1 _ rfl rfl (World.news_of_block (heap_alloc_new _ _)) (by simp [Value.oneCell']) (by omega) (by unfold maxLen; omega) (by omega) (by simp; omega) _ rfl ?_; intro g3 cap3 w3 hown3 hgrow3 hat3 hlt3) | fail)
        go_roundw
        case rel =>
          refine ⟨k + 1, by omega, by go_num, by rw [hint.out.1, hint.out.2]; simpa using hown3, ?_⟩
          exact (balloc HB2.out).grown hgrow3 (by simp; omega) (fun q hq => (World.ownsRow.lt HO2.out q hq).1)
        case measure => simp [intOf]; omega
      · rw [if_neg hs] at hvv
        have hsi : ((k : Int) == (R.s : Int)) = false := by simp; omega
        clear hs
        rcases Bool.eq_false_or_eq_true (p.heard) with hh | hh
        · skip
          rcases Bool.eq_false_or_eq_true (p.both) with hbo | hbo
          · skip
            rw [hh, hbo] at hvv
            rw [hh] at p5
            rw [hbo] at p6
            clear hh hbo
            simp only [Bool.and_self, if_true] at hvv
            have hint : Hid (ints (R.ests (k + 1)) = ints LN ++ [.int .i64 (p.known)] ∧ (R.ests (k + 1)).length = LN.length + 1) := by
              have := Hnx.out
              rw [hvv] at this
              rw [this]
              exact ⟨by simp [ints], by simp⟩
            clear hvv
            generalize hI : ints LN = I at HO2 hint
            go_wp2_with (first | (at_builtin; refine wpList_append_lies _ rfl _ _ 25 rfl w.heap.size 3 i0 (.int .i64 0) 1 8 Try.underlying25 hi hz0 hz1 hz2 rfl (by omega) u3 LN.length I rfl (World.ownsRow.alloc HO2.out _) _ 1 1 _ rfl rfl (World.news_of_block (heap_alloc_new _ _)) (by simp [Value.oneCell']) (by omega) (by unfold maxLen; omega) (by omega) (by simp; omega) _ rfl ?_; intro g3 cap3 w3 hown3 hgrow3 hat3 hlt3) | fail)
            go_roundw
            case rel =>
              refine ⟨k + 1, by omega, by go_num, by rw [hint.out.1, hint.out.2]; simpa using hown3, ?_⟩
              exact (balloc HB2.out).grown hgrow3 (by simp; omega) (fun q hq => (World.ownsRow.lt HO2.out q hq).1)
            case measure => simp [intOf]; omega
          · skip
            rw [hh, hbo] at hvv
            rw [hh] at p5
            rw [hbo] at p6
            clear hh hbo
            simp only [Bool.and_false, if_false, Bool.false_eq_true] at hvv
            have hint : Hid (ints (R.ests (k + 1)) = ints LN ++ [.int .i64 (0)] ∧ (R.ests (k + 1)).length = LN.length + 1) := by
              have := Hnx.out
              rw [hvv] at this
              rw [this]
              exact ⟨by simp [ints], by simp⟩
            clear hvv
            generalize hI : ints LN = I at HO2 hint
            go_wp2_with (first | (at_builtin; refine wpList_append_lies _ rfl _ _ 25 rfl w.heap.size 3 i0 (.int .i64 0) 1 8 Try.underlying25 hi hz0 hz1 hz2 rfl (by omega) u3 LN.length I rfl (World.ownsRow.alloc HO2.out _) _ 1 1 _ rfl rfl (World.news_of_block (heap_alloc_new _ _)) (by simp [Value.oneCell']) (by omega) (by unfold maxLen; omega) (by omega) (by simp; omega) _ rfl ?_; intro g3 cap3 w3 hown3 hgrow3 hat3 hlt3) | fail)
            go_roundw
            case rel =>
              refine ⟨k + 1, by omega, by go_num, by rw [hint.out.1, hint.out.2]; simpa using hown3, ?_⟩
              exact (balloc HB2.out).grown hgrow3 (by simp; omega) (fun q hq => (World.ownsRow.lt HO2.out q hq).1)
            case measure => simp [intOf]; omega
        · skip
          rw [hh] at hvv p5
          clear hh
          simp only [Bool.false_and, if_false, Bool.false_eq_true] at hvv
          have hint : Hid (ints (R.ests (k + 1)) = ints LN ++ [.int .i64 (0)] ∧ (R.ests (k + 1)).length = LN.length + 1) := by
            have := Hnx.out
            rw [hvv] at this
            rw [this]
            exact ⟨by simp [ints], by simp⟩
          clear hvv
          generalize hI : ints LN = I at HO2 hint
          go_wp2_with (first | (at_builtin; refine wpList_append_lies _ rfl _ _ 25 rfl w.heap.size 3 i0 (.int .i64 0) 1 8 Try.underlying25 hi hz0 hz1 hz2 rfl (by omega) u3 LN.length I rfl (World.ownsRow.alloc HO2.out _) _ 1 1 _ rfl rfl (World.news_of_block (heap_alloc_new _ _)) (by simp [Value.oneCell']) (by omega) (by unfold maxLen; omega) (by omega) (by simp; omega) _ rfl ?_; intro g3 cap3 w3 hown3 hgrow3 hat3 hlt3) | fail)
          go_roundw
          case rel =>
            refine ⟨k + 1, by omega, by go_num, by rw [hint.out.1, hint.out.2]; simpa using hown3, ?_⟩
            exact (balloc HB2.out).grown hgrow3 (by simp; omega) (fun q hq => (World.ownsRow.lt HO2.out q hq).1)
          case measure => simp [intOf]; omega
    · obtain rfl : k = R.n := by omega
      clear hR
      go_wp2
      go_ret
      exact ⟨_, rfl, ho, hb⟩

set_option maxHeartbeats 1000000 in
theorem rsus_any (h : R.Ok w B) (hA : R.all.length ≤ 2513169434917) : Calls Try.prog 49 #[.pointer (some ⟨R.b, 0, none⟩)] w fun e w' => ∃ v, e = .returned v ∧ w'.ownsRow w.heap.size 3 1 v (R.sus R.n).length (ints (R.sus R.n)) ∧ Below w.heap.size w w' := by
  obtain ⟨i0, hi, hz0, hz1, hz2⟩ := info_parts info_i
  have hnum := h.num
  have c0 := h.cells.1
  have Hh : Hid (R.Ok w B) := h
  clear h
  go_enter Try.func49, Try.ntmps49
  go_wp2
  go_loopw [3, 4] (fun v i wr => ∃ k : Nat, k ≤ R.n ∧ i = .int .i64 k ∧ wr.ownsRow w.heap.size 3 1 v (R.sus k).length (ints (R.sus k)) ∧ Below w.heap.size w wr) (fun _ i _ => R.n - (intOf i).toNat)
  case atStart => exact ⟨0, Nat.zero_le _, rfl, ⟨rfl, .inl ⟨rfl, rfl⟩⟩, Below.refl _ _⟩
  case round =>
    obtain ⟨k, hk, rfl, ho, hb⟩ := hrel
    have hR := Hh.out.still hb
    obtain ⟨e0, e1, e2, _⟩ := hR.cells
    by_cases hlt : k < R.n
    · have HOf := of_any hR (k : Int) hA
      have hll : (R.sus k).length ≤ k := by unfold Rf.sus; rw [List.length_map]; exact Nat.le_trans (List.length_filter_le _ _) (by simp)
      have i1 : (0 : Int) ≤ (k : Int) := Int.natCast_nonneg _
      have i2 : (k : Int) < (R.n : Int) := by omega
      have hsz := hb.size
      have HRw : Hid (R.Ok wr B) := hR
      have HOw : Hid (wr.ownsRow w.heap.size 3 1 u3 (R.sus k).length (ints (R.sus k))) := ho
      have HBw : Hid (Below w.heap.size w wr) := hb
      have hnx : R.sus (k + 1) = R.sus k ++ (if R.sv k = true then [(k : Int)] else []) := by
        unfold Rf.sus
        rw [List.range_succ, List.filter_append, List.map_append]
        congr 1
        by_cases h : R.sv k = true
        · rw [if_pos h, List.filter_cons, if_pos h]; rfl
        · rw [if_neg h, List.filter_cons, if_neg h]; rfl
      have Hpy : Hid (∀ p, R.of (k : Int) = p → R.sv k = (decide (k ≠ R.s) && (!p.heard && decide (p.known ≠ 0)))) := fun p e => by unfold Rf.sv; rw [e]
      generalize hp : R.of (k : Int) = p at *
      have hvv := Hpy.out p rfl
      unfold Py.cs at HOf
      generalize hLN : R.sus k = LN at *
      have Hnx : Hid (R.sus (k + 1) = LN ++ (if R.sv k = true then [(k : Int)] else [])) := hnx
      clear ho hb hR hnx Hpy hLN
      go_wp2_with (fail)
      refine HOf.mono ?_
      rintro e w2 ⟨rfl, hb2⟩
      generalize hV : w2.alloc (.cells #[.int .i64 p.known, .int .i64 p.last, .int .i64 p.age, .int .i64 p.ticks, .int .i64 p.wrong, .bool p.heard, .bool p.both, .bool p.left] 96) = V
      have hbV : Below wr.heap.size wr V := by rw [← hV]; exact balloc hb2
      have hkV : V.heap[w2.heap.size]? = some (.cells #[.int .i64 p.known, .int .i64 p.last, .int .i64 p.age, .int .i64 p.ticks, .int .i64 p.wrong, .bool p.heard, .bool p.both, .bool p.left] 96 (0, 0)) := by rw [← hV]; exact heap_alloc_new w2 _
      have p0 : V.cell? ⟨w2.heap.size, 0, none⟩ = some (.int .i64 p.known) := blk_cell hkV 0
      have p5 : V.cell? ⟨w2.heap.size, 5, none⟩ = some (.bool p.heard) := blk_cell hkV 5
      have p6 : V.cell? ⟨w2.heap.size, 6, none⟩ = some (.bool p.both) := blk_cell hkV 6
      obtain ⟨f0, f1, f2, _⟩ := (HRw.out.still hbV).cells
      have HO2 : Hid (V.ownsRow w.heap.size 3 1 u3 LN.length (ints LN)) := own_still HOw.out hbV
      have HB2 : Hid (Below w.heap.size w V) := HBw.out.trans (hbV.mono HBw.out.size)
      have hszV : w.heap.size ≤ V.heap.size := HB2.out.size
      clear hb2 hbV hkV e0 e1 e2 HOf HRw HOw HBw hp
      by_cases hs : k = R.s
      · rw [decide_eq_false (by omega), Bool.false_and] at hvv
        subst hs
        have hn0 : R.sus (R.s + 1) = LN := by
          have := Hnx.out
          rw [hvv] at this
          simpa using this
        have Hn : Hid (R.sus (R.s + 1) = LN) := hn0
        clear hvv hn0
        go_wp2
        go_roundw
        case rel => exact ⟨R.s + 1, by omega, by go_num, by rw [Hn.out]; exact HO2.out, HB2.out⟩
        case measure => simp [intOf]; omega
      · have hsi : ¬ ((k : Int) = (R.s : Int)) := by omega
        have hsi2 : ((k : Int) != (R.s : Int)) = true := by simp; omega
        rw [decide_eq_true hs, Bool.true_and] at hvv
        clear hs
        rcases Bool.eq_false_or_eq_true (p.heard) with hh | hh
        · skip
          rw [hh] at hvv p5
          clear hh
          simp only [Bool.not_true, Bool.false_and] at hvv
          have hn0 : R.sus (k + 1) = LN := by
            have := Hnx.out
            rw [hvv] at this
            simpa using this
          have Hn : Hid (R.sus (k + 1) = LN) := hn0
          clear hvv hn0
          go_wp2
          go_roundw
          case rel => exact ⟨k + 1, by omega, by go_num, by rw [Hn.out]; exact HO2.out, HB2.out⟩
          case measure => simp [intOf]; omega
        · skip
          rw [hh] at hvv p5
          clear hh
          simp only [Bool.not_false, Bool.true_and] at hvv
          by_cases hk0 : p.known = 0
          · rw [decide_eq_false (by omega)] at hvv
            rw [hk0] at p0
            clear hk0
            have hn0 : R.sus (k + 1) = LN := by
              have := Hnx.out
              rw [hvv] at this
              simpa using this
            have Hn : Hid (R.sus (k + 1) = LN) := hn0
            clear hvv hn0
            go_wp2
            go_roundw
            case rel => exact ⟨k + 1, by omega, by go_num, by rw [Hn.out]; exact HO2.out, HB2.out⟩
            case measure => simp [intOf]; omega
          · rw [decide_eq_true hk0] at hvv
            have hki : (p.known != 0) = true := by simp [hk0]
            have hint : Hid (ints (R.sus (k + 1)) = ints LN ++ [.int .i64 ((k : Int))] ∧ (R.sus (k + 1)).length = LN.length + 1) := by
              have := Hnx.out
              rw [hvv] at this
              rw [this]
              exact ⟨by simp [ints], by simp⟩
            clear hvv
            generalize hI : ints LN = I at HO2 hint
            go_wp2_with (first | (at_builtin; refine wpList_append_lies _ rfl _ _ 25 rfl w.heap.size 3 i0 (.int .i64 0) 1 8 Try.underlying25 hi hz0 hz1 hz2 rfl (by omega) u3 LN.length I rfl (World.ownsRow.alloc HO2.out _) _ 1 1 _ rfl rfl (World.news_of_block (heap_alloc_new _ _)) (by simp [Value.oneCell']) (by omega) (by unfold maxLen; omega) (by omega) (by simp; omega) _ rfl ?_; intro g3 cap3 w3 hown3 hgrow3 hat3 hlt3) | fail)
            go_roundw
            case rel =>
              refine ⟨k + 1, by omega, by go_num, by rw [hint.out.1, hint.out.2]; simpa using hown3, ?_⟩
              exact (balloc HB2.out).grown hgrow3 (by simp; omega) (fun q hq => (World.ownsRow.lt HO2.out q hq).1)
            case measure => simp [intOf]; omega
    · obtain rfl : k = R.n := by omega
      clear hR
      go_wp2
      go_ret
      exact ⟨_, rfl, ho, hb⟩
end
end Go.Proofs.Ytfbollifegngjaa.Dt
