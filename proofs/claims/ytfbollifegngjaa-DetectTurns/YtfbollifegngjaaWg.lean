import Derived.Test.YtfbollifegngjaaWf
namespace Go.Proofs.Ytfbollifegngjaa.Dt
open Go.RowKit
set_option linter.unusedVariables false
set_option maxRecDepth 100000
set_option linter.unusedSimpArgs false
section
variable {R R' : Rf} {w w' W V : World} {B m : Nat}
def Rf.lfK (R : Rf) (k : Nat) : Bool := (R.all.take k).any fun x => decide (x.k = 3)
def Rf.lf (R : Rf) : Bool := R.all.any fun x => decide (x.k = 3)
def Rf.tkK (R : Rf) (k : Nat) : Nat := ((R.all.take k).filter fun x => decide (x.k = 1)).length
def Rf.tk (R : Rf) : Nat := (R.all.filter fun x => decide (x.k = 1)).length
set_option maxHeartbeats 400000 in
theorem left_any (h : R.Ok w B) (hA : R.all.length ≤ 2513169434917) : Calls Try.prog 53 #[.pointer (some ⟨R.b, 0, none⟩)] w fun e w' => e = .returned (.bool R.lf) ∧ w = w' := by
  have c6 := h.cells.2.2.2.2.2.2
  have Hh : Hid (R.Ok w B) := h
  clear h
  go_enter Try.func53, Try.ntmps53
  go_wp2
  generalize hN : R.all.length = N at *
  go_loopw [3] (fun i wr => ∃ k : Nat, k ≤ N ∧ i = .int .i64 k ∧ R.lfK k = false ∧ wr = w) (fun i _ => N - (intOf i).toNat)
  case atStart => exact ⟨0, Nat.zero_le _, rfl, by simp [Rf.lfK], rfl⟩
  case round =>
    obtain ⟨k, hk, rfl, hno, rfl⟩ := hrel
    have Hno : Hid (R.lfK k = false) := hno
    clear hno
    by_cases hlt : k < N
    · obtain ⟨g, hva, v0, _⟩ := Hh.out.at (k := k) (by omega)
      have hnx : R.lfK (k + 1) = (R.lfK k || decide ((R.all.getD k x0).k = 3)) := by
        unfold Rf.lfK
        have e2 : R.all[k]? = some (R.all.getD k x0) := by simp [List.getD, show k < R.all.length by omega]
        rw [List.take_add_one, e2, List.any_append]
        simp
      have hmm : (R.all.getD k x0) ∈ R.all := by simp [List.getD, show k < R.all.length by omega]
      have Hmem : Hid (decide ((R.all.getD k x0).k = 3) = true → R.lf = true) := fun e => List.any_eq_true.2 ⟨_, hmm, e⟩
      have Hnx : Hid (R.lfK (k + 1) = (R.lfK k || decide ((R.all.getD k x0).k = 3))) := hnx
      generalize (R.all.getD k x0).k = y at *
      have i1 : (0 : Int) ≤ (k : Int) := Int.natCast_nonneg _
      have i2 : (k : Int) < (N : Int) := by omega
      rw [hva] at c6
      clear hnx hmm hva
      by_cases hy : y = 3
      · subst hy
        go_wp2
        go_ret
        exact ⟨by rw [Hmem.out rfl]; rfl, rfl⟩
      · have hy2 : (y == 3) = false := by simp [hy]
        go_wp2
        exact ⟨⟨k + 1, by omega, by go_num, by rw [Hnx.out, Hno.out, decide_eq_false hy]; rfl, by first | rfl | trivial⟩, by simp [intOf]; omega⟩
    · obtain rfl : k = N := by omega
      have hno := Hno.out
      unfold Rf.lfK at hno
      rw [List.take_of_length_le (by omega)] at hno
      have Hf : Hid (R.lf = false) := hno
      clear hno
      go_wp2
      go_ret
      exact ⟨by rw [Hf.out]; rfl, rfl⟩
def Rf.hv (R : Rf) (k : Nat) : Int := if R.lf then 0 else if k = R.s then R.inc else if (R.of k).heard then (R.of k).known else 0
def Rf.ev (R : Rf) (k : Nat) : Int := if k = R.s then R.inc else if (R.of k).heard && (R.of k).both then (R.of k).known else 0
def Rf.sv (R : Rf) (k : Nat) : Bool := decide (k ≠ R.s) && (!(R.of k).heard && decide ((R.of k).known ≠ 0))
def Rf.hears (R : Rf) (k : Nat) : List Int := (List.range k).map R.hv
def Rf.ests (R : Rf) (k : Nat) : List Int := (List.range k).map R.ev
def Rf.sus (R : Rf) (k : Nat) : List Int := ((List.range k).filter R.sv).map fun (q : Nat) => (q : Int)

set_option maxHeartbeats 1000000 in
theorem rhears_any (h : R.Ok w B) (hA : R.all.length ≤ 2513169434917) : Calls Try.prog 46 #[.pointer (some ⟨R.b, 0, none⟩)] w fun e w' => ∃ v, e = .returned v ∧ w'.ownsRow w.heap.size 3 1 v (R.hears R.n).length (ints (R.hears R.n)) ∧ Below w.heap.size w w' := by
  obtain ⟨i0, hi, hz0, hz1, hz2⟩ := info_parts info_i
  have hnum := h.num
  have c0 := h.cells.1
  have Hh : Hid (R.Ok w B) := h
  have HL := left_any h hA
  clear h
  go_enter Try.func46, Try.ntmps46
  go_wp2_with (first | (go_at_call 53; refine HL.mono ?_; rintro e w2 ⟨rfl, rfl⟩) | fail)
  go_loopw [3, 5] (fun v i wr => ∃ k : Nat, k ≤ R.n ∧ i = .int .i64 k ∧ wr.ownsRow w.heap.size 3 1 v (R.hears k).length (ints (R.hears k)) ∧ Below w.heap.size w wr) (fun _ i _ => R.n - (intOf i).toNat)
  case atStart => exact ⟨0, Nat.zero_le _, rfl, ⟨rfl, .inl ⟨rfl, rfl⟩⟩, Below.refl _ _⟩
  case round =>
    obtain ⟨k, hk, rfl, ho, hb⟩ := hrel
    have hR := Hh.out.still hb
    obtain ⟨e0, e1, e2, _⟩ := hR.cells
    by_cases hlt : k < R.n
    · have HOf := of_any hR (k : Int) hA
      have hll : (R.hears k).length ≤ k := by simp [Rf.hears]
      have i1 : (0 : Int) ≤ (k : Int) := Int.natCast_nonneg _
      have i2 : (k : Int) < (R.n : Int) := by omega
      have hsz := hb.size
      have HRw : Hid (R.Ok wr B) := hR
      have HOw : Hid (wr.ownsRow w.heap.size 3 1 u3 (R.hears k).length (ints (R.hears k))) := ho
      have HBw : Hid (Below w.heap.size w wr) := hb
      have hnx : R.hears (k + 1) = R.hears k ++ [R.hv k] := by unfold Rf.hears; rw [List.range_succ, List.map_append]; rfl
      have Hpy : Hid (∀ p, R.of (k : Int) = p → R.hv k = if R.lf then 0 else if k = R.s then R.inc else if p.heard then p.known else 0) := fun p e => by unfold Rf.hv; rw [e]
      generalize hp : R.of (k : Int) = p at *
      have hvv := Hpy.out p rfl
      unfold Py.cs at HOf
      generalize hLN : R.hears k = LN at *
      have Hnx : Hid (R.hears (k + 1) = LN ++ [R.hv k]) := hnx
      clear ho hb hR hnx Hpy hLN
      go_wp2_with (fail)
      refine HOf.mono ?_
      rintro e w2 ⟨rfl, hb2⟩
      generalize hV : w2.alloc (.cells #[.int .i64 p.known, .int .i64 p.last, .int .i64 p.age, .int .i64 p.ticks, .int .i64 p.wrong, .bool p.heard, .bool p.both, .bool p.left] 96) = V
      have hbV : Below wr.heap.size wr V := by rw [← hV]; exact balloc hb2
      have hkV : V.heap[w2.heap.size]? = some (.cells #[.int .i64 p.known, .int .i64 p.last, .int .i64 p.age, .int .i64 p.ticks, .int .i64 p.wrong, .bool p.heard, .bool p.both, .bool p.left] 96 (0, 0)) := by rw [← hV]; exact heap_alloc_new w2 _
      have p0 : V.cell? ⟨w2.heap.size, 0, none⟩ = some (.int .i64 p.known) := blk_cell hkV 0
      have p5 : V.cell? ⟨w2.heap.size, 5, none⟩ = some (.bool p.heard) := blk_cell hkV 5
      have p6 : V.cell? ⟨w2.heap.size, 6, none⟩ = some (.bool p.both) := blk_cell hkV 6
      obtain ⟨f0, f1, f2, _⟩ := (HRw.out.still hbV).cells
      have HO2 : Hid (V.ownsRow w.heap.size 3 1 u3 LN.length (ints LN)) := own_still HOw.out hbV
      have HB2 : Hid (Below w.heap.size w V) := HBw.out.trans (hbV.mono HBw.out.size)
      have hszV : w.heap.size ≤ V.heap.size := HB2.out.size
      clear hb2 hbV hkV e0 e1 e2 HOf HRw HOw HBw hp
      cases hlf : R.lf with
      | true =>
        simp only [hlf, if_true] at hvv
        have hint : Hid (ints (R.hears (k + 1)) = ints LN ++ [.int .i64 (0)] ∧ (R.hears (k + 1)).length = LN.length + 1) := by
          have := Hnx.out
          rw [hvv] at this
          rw [this]
          exact ⟨by simp [ints], by simp⟩
        clear hvv
        generalize hI : ints LN = I at HO2 hint
        go_wp2_with (first | (at_builtin; refine wpList_append_lies _ rfl _ _ 25 rfl w.heap.size 3 i0 (.int .i64 0) 1 8 Try.underlying25 hi hz0 hz1 hz2 rfl (by omega) u3 LN.length I rfl (World.ownsRow.alloc HO2.out _) _ 1 1 _ rfl rfl (World.news_of_block (heap_alloc_new _ _)) (by simp [Value.oneCell']) (by omega) (by unfold maxLen; omega) (by omega) (by simp; omega) _ rfl ?_; intro g3 cap3 w3 hown3 hgrow3 hat3 hlt3) | fail)
        go_roundw
        case rel =>
          refine ⟨k + 1, by omega, by go_num, by rw [hint.out.1, hint.out.2]; simpa using hown3, ?_⟩
          exact (balloc HB2.out).grown hgrow3 (by simp; omega) (fun q hq => (World.ownsRow.lt HO2.out q hq).1)
        case measure => simp [intOf]; omega
      | false =>
        simp only [hlf, if_false, Bool.false_eq_true] at hvv
        by_cases hs : k = R.s
        · rw [if_pos hs] at hvv
          have hsi : ((k : Int) == (R.s : Int)) = true := by simp; omega
          clear hs
          have hint : Hid (ints (R.hears (k + 1)) = ints LN ++ [.int .i64 (R.inc)] ∧ (R.hears (k + 1)).length = LN.length + 1) := by
            have := Hnx.out
            rw [hvv] at this
            rw [this]
            exact ⟨by simp [ints], by simp⟩
          clear hvv
          generalize hI : ints LN = I at HO2 hint
          go_wp2_with (first | (at_builtin; refine wpList_append_lies _ rfl _ _ 25 rfl w.heap.size 3 i0 (.int .i64 0) 1 8 Try.underlying25 hi hz0 hz1 hz2 rfl (by omega) u3 LN.length I rfl (World.ownsRow.alloc HO2.out _) _ 1 1 _ rfl rfl (World.news_of_block (heap_alloc_new _ _)) (by simp [Value.oneCell']) (by omega) (by unfold maxLen; omega) (by omega) (by simp; omega) _ rfl ?_; intro g3 cap3 w3 hown3 hgrow3 hat3 hlt3) | fail)
          go_roundw
          case rel =>
            refine ⟨k + 1, by omega, by go_num, by rw [hint.out.1, hint.out.2]; simpa using hown3, ?_⟩
            exact (balloc HB2.out).grown hgrow3 (by simp; omega) (fun q hq => (World.ownsRow.lt HO2.out q hq).1)
          case measure => simp [intOf]; omega
        · rw [if_neg hs] at hvv
          have hsi : ((k : Int) == (R.s : Int)) = false := by simp; omega
          clear hs
          rcases Bool.eq_false_or_eq_true (p.heard) with hh | hh
          · skip
            rw [hh] at hvv p5
            clear hh
            simp only [if_true] at hvv
            have hint : Hid (ints (R.hears (k + 1)) = ints LN ++ [.int .i64 (p.known)] ∧ (R.hears (k + 1)).length = LN.length + 1) := by
              have := Hnx.out
              rw [hvv] at this
              rw [this]
              exact ⟨by simp [ints], by simp⟩
            clear hvv
            generalize hI : ints LN = I at HO2 hint
            go_wp2_with (first | (at_builtin; refine wpList_append_lies _ rfl _ _ 25 rfl w.heap.size 3 i0 (.int .i64 0) 1 8 Try.underlying25 hi hz0 hz1 hz2 rfl (by omega) u3 LN.length I rfl (World.ownsRow.alloc HO2.out _) _ 1 1 _ rfl rfl (World.news_of_block (heap_alloc_new _ _)) (by simp [Value.oneCell']) (by omega) (by unfold maxLen; omega) (by omega) (by simp; omega) _ rfl ?_; intro g3 cap3 w3 hown3 hgrow3 hat3 hlt3) | fail)
            go_roundw
            case rel =>
              refine ⟨k + 1, by omega, by go_num, by rw [hint.out.1, hint.out.2]; simpa using hown3, ?_⟩
              exact (balloc HB2.out).grown hgrow3 (by simp; omega) (fun q hq => (World.ownsRow.lt HO2.out q hq).1)
            case measure => simp [intOf]; omega
          · skip
            rw [hh] at hvv p5
            clear hh
            simp only [if_false, Bool.false_eq_true] at hvv
            have hint : Hid (ints (R.hears (k + 1)) = ints LN ++ [.int .i64 (0)] ∧ (R.hears (k + 1)).length = LN.length + 1) := by
              have := Hnx.out
              rw [hvv] at this
              rw [this]
              exact ⟨by simp [ints], by simp⟩
            clear hvv
            generalize hI : ints LN = I at HO2 hint
            go_wp2_with (first | (at_builtin; refine wpList_append_lies _ rfl _ _ 25 rfl w.heap.size 3 i0 (.int .i64 0) 1 8 Try.underlying25 hi hz0 hz1 hz2 rfl (by omega) u3 LN.length I rfl (World.ownsRow.alloc HO2.out _) _ 1 1 _ rfl rfl (World.news_of_block (heap_alloc_new _ _)) (by simp [Value.oneCell']) (by omega) (by unfold maxLen; omega) (by omega) (by simp; omega) _ rfl ?_; intro g3 cap3 w3 hown3 hgrow3 hat3 hlt3) | fail)
            go_roundw
            case rel =>
              refine ⟨k + 1, by omega, by go_num, by rw [hint.out.1, hint.out.2]; simpa using hown3, ?_⟩
              exact (balloc HB2.out).grown hgrow3 (by simp; omega) (fun q hq => (World.ownsRow.lt HO2.out q hq).1)
            case measure => simp [intOf]; omega
    · obtain rfl : k = R.n := by omega
      clear hR
      go_wp2
      go_ret
      exact ⟨_, rfl, ho, hb⟩
end
end Go.Proofs.Ytfbollifegngjaa.Dt
