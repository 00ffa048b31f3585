import Derived.Test.YtfbollifegngjaaWh
namespace Go.Proofs.Ytfbollifegngjaa.Dt
open Go.RowKit
set_option linter.unusedVariables false
set_option maxRecDepth 100000
set_option linter.unusedSimpArgs false
section
variable {R R' : Rf} {w w' W V : World} {B m : Nat}

set_option maxHeartbeats 400000 in
theorem rwrong_any (h : R.Ok w B) (hA : R.all.length ≤ 2513169434917) (q : Int) : Calls Try.prog 40 #[.pointer (some ⟨R.b, 0, none⟩), .int .i64 q] w fun e w' => e = .returned (.int .i64 (if R.okQ q then (R.of q).wrong else 0)) ∧ Below w.heap.size w w' := by
  have HO := rother_any h q
  rw [show decide (0 ≤ q ∧ q < R.n ∧ q ≠ R.s) = R.okQ q from rfl] at HO
  have HOf := of_any h q hA
  generalize R.of q = p at *
  unfold Py.cs at HOf
  clear h
  cases hk : R.okQ q with
  | false =>
    rw [hk] at HO
    simp only [if_false, Bool.false_eq_true]
    go_enter Try.func40, Try.ntmps40
    go_wp2_with (first | (go_at_call 50; refine HO.mono ?_; rintro e w' ⟨rfl, rfl⟩) | fail)
    go_ret
    exact ⟨rfl, Below.refl _ _⟩
  | true =>
    rw [hk] at HO
    simp only [if_true]
    go_enter Try.func40, Try.ntmps40
    go_wp2_with (first | (go_at_call 50; refine HO.mono ?_; rintro e w' ⟨rfl, rfl⟩) | (go_at_call 51; refine HOf.mono ?_; rintro e w2 ⟨rfl, hb2⟩) | fail)
    go_ret
    exact ⟨rfl, balloc hb2⟩

set_option maxHeartbeats 400000 in
theorem rtimeout_any (h : R.Ok w B) (hA : R.all.length ≤ 2513169434917) (q : Int) : Calls Try.prog 38 #[.pointer (some ⟨R.b, 0, none⟩), .int .i64 q] w fun e w' => e = .returned (.int .i64 (if R.okQ q then (R.of q).ticks else 0)) ∧ Below w.heap.size w w' := by
  have HO := rother_any h q
  rw [show decide (0 ≤ q ∧ q < R.n ∧ q ≠ R.s) = R.okQ q from rfl] at HO
  have HOf := of_any h q hA
  generalize R.of q = p at *
  unfold Py.cs at HOf
  clear h
  cases hk : R.okQ q with
  | false =>
    rw [hk] at HO
    simp only [if_false, Bool.false_eq_true]
    go_enter Try.func38, Try.ntmps38
    go_wp2_with (first | (go_at_call 50; refine HO.mono ?_; rintro e w' ⟨rfl, rfl⟩) | fail)
    go_ret
    exact ⟨rfl, Below.refl _ _⟩
  | true =>
    rw [hk] at HO
    simp only [if_true]
    go_enter Try.func38, Try.ntmps38
    go_wp2_with (first | (go_at_call 50; refine HO.mono ?_; rintro e w' ⟨rfl, rfl⟩) | (go_at_call 51; refine HOf.mono ?_; rintro e w2 ⟨rfl, hb2⟩) | fail)
    go_ret
    exact ⟨rfl, balloc hb2⟩

set_option maxHeartbeats 400000 in
theorem rknown_any (h : R.Ok w B) (hA : R.all.length ≤ 2513169434917) (q : Int) : Calls Try.prog 36 #[.pointer (some ⟨R.b, 0, none⟩), .int .i64 q] w fun e w' => e = .returned (.int .i64 (if R.okQ q then (R.of q).known else if q = R.s then R.inc else 0)) ∧ Below w.heap.size w w' := by
  have HO := rother_any h q
  rw [show decide (0 ≤ q ∧ q < R.n ∧ q ≠ R.s) = R.okQ q from rfl] at HO
  have HOf := of_any h q hA
  obtain ⟨c0, c1, c2, _⟩ := h.cells
  generalize R.of q = p at *
  unfold Py.cs at HOf
  clear h
  cases hk : R.okQ q with
  | false =>
    rw [hk] at HO
    simp only [if_false, Bool.false_eq_true]
    by_cases hs : q = R.s
    · rw [if_pos hs]
      subst hs
      go_enter Try.func36, Try.ntmps36
      go_wp2_with (first | (go_at_call 50; refine HO.mono ?_; rintro e w' ⟨rfl, rfl⟩) | fail)
      go_ret
      exact ⟨rfl, Below.refl _ _⟩
    · rw [if_neg hs]
      have hsi : (q == (R.s : Int)) = false := by simp [hs]
      go_enter Try.func36, Try.ntmps36
      go_wp2_with (first | (go_at_call 50; refine HO.mono ?_; rintro e w' ⟨rfl, rfl⟩) | fail)
      go_ret
      exact ⟨rfl, Below.refl _ _⟩
  | true =>
    rw [hk] at HO
    simp only [if_true]
    go_enter Try.func36, Try.ntmps36
    go_wp2_with (first | (go_at_call 50; refine HO.mono ?_; rintro e w' ⟨rfl, rfl⟩) | (go_at_call 51; refine HOf.mono ?_; rintro e w2 ⟨rfl, hb2⟩) | fail)
    go_ret
    exact ⟨rfl, balloc hb2⟩
theorem own_slice0 {v : Value} {t e n : Nat} {xs : List Value} (h : w.ownsRow B t e v n xs) : ∃ a c, v = .slice a n c := by
  rcases h.2 with ⟨h1, h2⟩ | ⟨g, cap, cur, hv, _⟩
  · exact ⟨none, 0, by rw [h1, h2]⟩
  · exact ⟨_, _, hv⟩
theorem tkK_next (R : Rf) (k : Nat) (hk : k < R.all.length) : R.tkK (k + 1) = R.tkK k + (if (R.all.getD k x0).k = 1 then 1 else 0) := by
  unfold Rf.tkK
  have e2 : R.all[k]? = some (R.all.getD k x0) := by simp [List.getD, hk]
  rw [List.take_add_one, e2, List.filter_append, List.length_append]
  congr 1
  by_cases h : (R.all.getD k x0).k = 1
  · simp only [Option.toList, List.filter_cons, List.filter_nil, h, decide_true, if_true]; rfl
  · simp only [Option.toList, List.filter_cons, List.filter_nil, h, decide_false, if_false, Bool.false_eq_true]; rfl
theorem tkK_le (R : Rf) (k : Nat) : R.tkK k ≤ k := by
  unfold Rf.tkK
  exact Nat.le_trans (List.length_filter_le _ _) (by simp; omega)
set_option maxHeartbeats 1000000 in
theorem rbeat_any (h : R.Ok w B) (hA : R.all.length ≤ 2513169434917) : Calls Try.prog 45 #[.pointer (some ⟨R.b, 0, none⟩)] w fun e w' => ∃ v, e = .returned (.agg #[.int .i64 (R.tk : Int), v]) ∧ w'.ownsRow w.heap.size 3 1 v (R.hears R.n).length (ints (R.hears R.n)) ∧ Below w.heap.size w w' := by
  generalize hW : w.alloc (.cells #[.int .i64 0, .slice none 0 0] 38) = W
  have hbW : Below w.heap.size w W := by rw [← hW]; exact balloc (Below.refl _ w)
  have hblk : W.heap[w.heap.size]? = some (.cells #[.int .i64 0, .slice none 0 0] 38 (0, 0)) := by rw [← hW]; exact heap_alloc_new w _
  have hR := h.still hbW
  have HH := rhears_any hR hA
  have c6 := hR.cells.2.2.2.2.2.2
  have HR : Hid (R.Ok W B) := hR
  have Hb : Hid (Below w.heap.size w W) := hbW
  have Hk : Hid (W.heap[w.heap.size]? = some (.cells #[.int .i64 0, .slice none 0 0] 38 (0, 0))) := hblk
  have hws : w.heap.size < W.heap.size := lt_heap hblk
  clear h hbW hblk hR
  go_enter Try.func45, Try.ntmps45
  go_wp2
  generalize hN : R.all.length = N at *
  go_loopw [3, 4] (fun v i wr => ∃ k : Nat, k ≤ N ∧ i = .int .i64 k ∧ v = .int .i64 (R.tkK k : Int) ∧ wr = W) (fun _ i _ => N - (intOf i).toNat)
  case atStart => exact ⟨0, Nat.zero_le _, rfl, rfl, rfl⟩
  case round =>
    obtain ⟨k, hk, rfl, rfl, rfl⟩ := hrel
    by_cases hlt : k < N
    · obtain ⟨g, hva, v0, _⟩ := HR.out.at (k := k) (by omega)
      have hnx := tkK_next R k (by omega)
      have hle := tkK_le R k
      have Hnx : Hid (R.tkK (k + 1) = R.tkK k + (if (R.all.getD k x0).k = 1 then 1 else 0)) := hnx
      generalize (R.all.getD k x0).k = y at *
      generalize R.tkK k = tk at *
      have i1 : (0 : Int) ≤ (k : Int) := Int.natCast_nonneg _
      have i2 : (k : Int) < (N : Int) := by omega
      rw [hva] at c6
      clear hnx hva
      by_cases hy : y = 1
      · subst hy
        have hwt : IntKind.i64.wrap ((tk : Int) + 1) = (tk : Int) + 1 := wrap_id (by omega) (by omega)
        go_wp2
        exact ⟨⟨k + 1, by omega, by go_num, by rw [Hnx.out, if_pos rfl]; simp, by first | rfl | trivial⟩, by simp [intOf]; omega⟩
      · have hy2 : (y == 1) = false := by simp [hy]
        go_wp2
        exact ⟨⟨k + 1, by omega, by go_num, by rw [Hnx.out, if_neg hy]; simp, by first | rfl | trivial⟩, by simp [intOf]; omega⟩
    · obtain rfl : k = N := by omega
      have htk : R.tkK k = R.tk := by unfold Rf.tkK Rf.tk; rw [List.take_of_length_le (by omega)]
      rw [htk]
      have hdd : decide ((k : Int) < (k : Int)) = false := decide_eq_false (by omega)
      generalize hTK : R.tk = tk
      go_wp2_with (fail)
      refine HH.mono ?_
      rintro e w2 ⟨v, rfl, ho, hb2⟩
      obtain ⟨av, cv, hv⟩ := own_slice0 ho
      subst hv
      have hk2 := (hb2.block _ (lt_heap Hk.out)).trans Hk.out
      have q0 := blk_cell hk2 0
      have q1 := blk_cell hk2 1
      have z0 := frozen_of_row w2 _ 0 _ _ hk2
      have z1 := frozen_of_row w2 _ 1 _ _ hk2
      have Hk2 : Hid (w2.heap[w.heap.size]? = some (.cells #[.int .i64 0, .slice none 0 0] 38 (0, 0))) := hk2
      have Ho : Hid (w2.ownsRow wr.heap.size 3 1 (.slice av (R.hears R.n).length cv) (R.hears R.n).length (ints (R.hears R.n))) := ho
      have Hb2 : Hid (Below wr.heap.size wr w2) := hb2
      clear hk2 ho hb2
      go_wp2
      have b1 := bset (bset (bstep Hb.out Hb2.out) (Nat.le_refl _) 0 (.int .i64 (tk : Int))) (Nat.le_refl _) 1 (.slice av (R.hears R.n).length cv)
      have b2 : ((w2.setCell ⟨w.heap.size, 0, none⟩ (.int .i64 (tk : Int))).setCell ⟨w.heap.size, 1, none⟩ (.slice av (R.hears R.n).length cv)).heap[w.heap.size]? = some (.cells #[.int .i64 (tk : Int), .slice av (R.hears R.n).length cv] 38 (0, 0)) := blk_set (blk_set (cs' := #[.int .i64 (tk : Int), .slice none 0 0]) Hk2.out rfl) rfl
      have r0 := blk_cell b2 0
      have r1 := blk_cell b2 1
      have ho2 : ((w2.setCell ⟨w.heap.size, 0, none⟩ (.int .i64 (tk : Int))).setCell ⟨w.heap.size, 1, none⟩ (.slice av (R.hears R.n).length cv)).ownsRow wr.heap.size 3 1 (.slice av (R.hears R.n).length cv) (R.hears R.n).length (ints (R.hears R.n)) := (kset (P := fun j => j = w.heap.size) _ _ _ _ rfl).owns ((kset (P := fun j => j = w.heap.size) _ _ _ _ rfl).owns Ho.out (fun k hk e => by have := (World.ownsRow.lt Ho.out k hk).1; omega)) (fun k hk e => by have := (World.ownsRow.lt Ho.out k hk).1; omega)
      generalize ((w2.setCell ⟨w.heap.size, 0, none⟩ (.int .i64 (tk : Int))).setCell ⟨w.heap.size, 1, none⟩ (.slice av (R.hears R.n).length cv)) = Z at *
      exact bodyPost_ret (v := .agg #[.int .i64 (tk : Int), .slice av (R.hears R.n).length cv]) (by simp [results, Try.results45, go_sem, r0, r1]) rfl ⟨_, by rw [hTK], own_lower ho2 (by omega), b1⟩
end
end Go.Proofs.Ytfbollifegngjaa.Dt
