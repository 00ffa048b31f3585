import Derived.Test.YtfbollifegngjaaWo
namespace Go.Proofs.Ytfbollifegngjaa.Dt
open Go.RowKit
set_option linter.unusedVariables false
set_option maxRecDepth 100000
set_option linter.unusedSimpArgs false
section
variable {D D' : De} {R R' : Rf} {w w' W V : World} {B m : Nat}
theorem pref_eql (w : World) (a : Option Addr) : (binOp .eql 49 (.pointer a) (.pointer none)).run Try.prog w = .ok (.bool a.isNone) w := by
  cases a <;> rfl
set_option maxHeartbeats 1000000 in
theorem made_no (n s inc base step lim : Int) (oa : Option Addr) (on oc : Nat) (hno : newOk n s inc base step lim = false) : Calls Try.prog 15 #[.agg (rc n s inc base step lim oa on oc)] w fun e w' => e = .returned (.tuple #[.pointer none, .pointer none, .bool true]) ∧ Below w.heap.size w w' := by
  generalize hW : w.alloc (.cells (rc n s inc base step lim oa on oc) 31) = W
  have hbW : Below w.heap.size w W := by rw [← hW]; exact balloc (Below.refl _ w)
  have hblk : W.heap[w.heap.size]? = some (.cells (rc n s inc base step lim oa on oc) 31 (0, 0)) := by rw [← hW]; exact heap_alloc_new w _
  obtain ⟨c0, c1, c2, c3, c4, c5, c6⟩ := run_cells hblk
  have HR := rnew_no (w := W) n s inc base step lim hno
  have HD := new_no (w := W) n s inc base step lim hno
  have Hb : Hid (Below w.heap.size w W) := hbW
  unfold rc at hW ⊢
  clear hbW hblk hno
  go_enter Try.func15, Try.ntmps15
  go_wp2_with (first
    | (go_at_call 19; refine HR.mono ?_; rintro e w1 ⟨rfl, rfl⟩)
    | (go_at_call 20; refine HD.mono ?_; rintro e w1 ⟨rfl, rfl⟩)
    | (go_at_call 21; refine (num_any _).mono ?_; rintro e w1 ⟨rfl, rfl⟩)
    | fail)
  refine bodyPost_ret (v := .tuple #[.pointer none, .pointer none, .bool true]) (by simp [results, Try.results15, go_sem]) rfl ⟨rfl, Hb.out⟩
def rf0 (b n s : Nat) (inc base step lim : Int) : Rf := ⟨b, n, s, inc, base, step, lim, [], none, 0⟩
set_option maxHeartbeats 1000000 in
theorem made_ok (n s : Nat) (inc base step lim : Int) (oa : Option Addr) (on oc : Nat) (hok : newOk n s inc base step lim = true) : Calls Try.prog 15 #[.agg (rc n s inc base step lim oa on oc)] w fun e w' => ∃ D R, e = .returned (.tuple #[.pointer (some ⟨D.b, 0, none⟩), .pointer (some ⟨R.b, 0, none⟩), .bool true]) ∧ Below w.heap.size w w' ∧ Du D R w' w.heap.size 0 := by
  generalize hW : w.alloc (.cells (rc n s inc base step lim oa on oc) 31) = W
  have hbW : Below w.heap.size w W := by rw [← hW]; exact balloc (Below.refl _ w)
  have hblk : W.heap[w.heap.size]? = some (.cells (rc n s inc base step lim oa on oc) 31 (0, 0)) := by rw [← hW]; exact heap_alloc_new w _
  obtain ⟨c0, c1, c2, c3, c4, c5, c6⟩ := run_cells hblk
  have HD := new_ok (w := W) n s inc base step lim hok
  have HR : Hid (∀ w1, Calls Try.prog 19 #[.int .i64 n, .int .i64 s, .int .i64 inc, .int .i64 base, .int .i64 step, .int .i64 lim] w1 fun e w' => e = .returned (.tuple #[.pointer (some ⟨w1.heap.size, 0, none⟩), .int .i64 0]) ∧ Below w1.heap.size w1 w' ∧ w'.heap[w1.heap.size]? = some (.cells #[.int .i64 (n : Int), .int .i64 (s : Int), .int .i64 inc, .int .i64 base, .int .i64 step, .int .i64 lim, .slice none 0 0] 88 (0, 0))) := fun w1 => rnew_ok n s inc base step lim hok
  have Hb : Hid (Below w.heap.size w W) := hbW
  have Hblk : Hid (W.heap[w.heap.size]? = some (.cells (rc n s inc base step lim oa on oc) 31 (0, 0))) := hblk
  have hk := hok
  unfold newOk at hk
  simp only [Bool.and_eq_true] at hk
  obtain ⟨b1, b2, b3, b4, b5, b6⟩ := hk
  have a1 := of_decide_eq_true b1
  have a2 := of_decide_eq_true b2
  have a3 := of_decide_eq_true b3
  have a4 := of_decide_eq_true b4
  have a5 := of_decide_eq_true b5
  have a6 := of_decide_eq_true b6
  have Hnum : Hid (1 ≤ n ∧ n ≤ 16 ∧ s < n ∧ 1 ≤ inc ∧ inc ≤ 4611686018427387904 ∧ 1 ≤ base ∧ base ≤ lim ∧ 1 ≤ step ∧ step ≤ 64 ∧ lim ≤ 64) := ⟨by omega, by omega, by omega, a3.1, a3.2, a5.1, a5.2, a6.1, a6.2, a4.2⟩
  unfold rc at hW ⊢
  clear hbW hblk hok b1 b2 b3 b4 b5 b6 a1 a2 a3 a4 a5 a6
  go_enter Try.func15, Try.ntmps15
  go_wp2_with (fail)
  refine HD.mono ?_
  rintro e w1 ⟨rfl, hb1, bo, bt, hD⟩
  have B1 : Hid (Below W.heap.size W w1) := hb1
  have HDk : Hid ((newDe W n s inc base step lim bo bt).Ok w1 W.heap.size 0) := hD
  obtain ⟨d0, d1, d2, d3, d4, d5, d6⟩ := run_cells ((hb1.block _ (lt_heap Hblk.out)).trans Hblk.out)
  clear hb1 hD HD
  go_wp2_with (fail)
  refine (HR.out _).mono ?_
  rintro e w2 ⟨rfl, hb2, hr2⟩
  have B2 : Hid (Below W.heap.size W w2) := bstep B1.out hb2
  have hDu : Du (newDe W n s inc base step lim bo bt) (rf0 w1.heap.size n s inc base step lim) w2 w.heap.size 0 := by
    have hs1 := B1.out.size
    have hsw := Hb.out.size
    refine ⟨(HDk.out.still hb2).lower (by omega), ⟨hr2, ⟨rfl, .inl ⟨rfl, rfl⟩⟩, by show w.heap.size ≤ w1.heap.size; omega, Hnum.out⟩, fun j hj e => ?_, ⟨rfl, rfl, rfl, rfl, rfl, fun q hq => rfl, rfl, rfl⟩, Nat.le_refl _⟩
    have h1 := HDk.out.ltOwn hj
    rcases e with e | e
    · have : j = w1.heap.size := e
      omega
    · simp [rf0, Value.ownBlock] at e
  have HDu : Hid (Du (newDe W n s inc base step lim bo bt) (rf0 w1.heap.size n s inc base step lim) w2 w.heap.size 0) := hDu
  clear hDu hb2 hr2
  go_wp2_with (first | (go_at_call 21; refine (num_any _).mono ?_; rintro e w5 ⟨rfl, rfl⟩) | fail)
  exact bodyPost_ret (v := .tuple #[.pointer (some ⟨W.heap.size + 1, 0, none⟩), .pointer (some ⟨w1.heap.size, 0, none⟩), .bool true]) (by simp [results, Try.results15, go_sem]) rfl ⟨_, _, rfl, bstep Hb.out B2.out, HDu.out⟩
end
end Go.Proofs.Ytfbollifegngjaa.Dt
