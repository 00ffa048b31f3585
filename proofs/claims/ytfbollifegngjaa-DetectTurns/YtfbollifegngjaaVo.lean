import Derived.Test.YtfbollifegngjaaVn
namespace Go.Proofs.Ytfbollifegngjaa.Dt
open Go.RowKit
set_option linter.unusedVariables false
set_option maxRecDepth 100000
set_option linter.unusedSimpArgs false
section
variable {D D' : De} {w w' W V : World} {B m : Nat}
def rc (n s inc base step lim : Int) (oa : Option Addr) (on oc : Nat) : Array Value := #[.int .i64 n, .int .i64 s, .int .i64 inc, .int .i64 base, .int .i64 step, .int .i64 lim, .slice oa on oc]
theorem pdet_eql (w : World) (a : Option Addr) : (binOp .eql 26 (.pointer a) (.pointer none)).run Try.prog w = .ok (.bool a.isNone) w := by
  cases a <;> rfl
theorem run_cells {k : Nat} {n s inc base step lim : Int} {oa : Option Addr} {on oc : Nat} (h : W.heap[k]? = some (.cells (rc n s inc base step lim oa on oc) 31 (0, 0))) : W.cell? ⟨k, 0, none⟩ = some (.int .i64 n) ∧ W.cell? ⟨k, 1, none⟩ = some (.int .i64 s) ∧ W.cell? ⟨k, 2, none⟩ = some (.int .i64 inc) ∧ W.cell? ⟨k, 3, none⟩ = some (.int .i64 base) ∧ W.cell? ⟨k, 4, none⟩ = some (.int .i64 step) ∧ W.cell? ⟨k, 5, none⟩ = some (.int .i64 lim) ∧ W.cell? ⟨k, 6, none⟩ = some (.slice oa on oc) :=
  ⟨blk_cell h 0, blk_cell h 1, blk_cell h 2, blk_cell h 3, blk_cell h 4, blk_cell h 5, blk_cell h 6⟩
set_option maxHeartbeats 1000000 in
theorem began_no (n s inc base step lim : Int) (oa : Option Addr) (on oc : Nat) (hno : newOk n s inc base step lim = false) : Calls Try.prog 5 #[.agg (rc n s inc base step lim oa on oc)] w fun e w' => e = .returned (.tuple #[.pointer none, .bool true]) ∧ Below w.heap.size w w' := by
  generalize hW : w.alloc (.cells (rc n s inc base step lim oa on oc) 31) = W
  have hbW : Below w.heap.size w W := by rw [← hW]; exact balloc (Below.refl _ w)
  have hblk : W.heap[w.heap.size]? = some (.cells (rc n s inc base step lim oa on oc) 31 (0, 0)) := by rw [← hW]; exact heap_alloc_new w _
  obtain ⟨c0, c1, c2, c3, c4, c5, c6⟩ := run_cells hblk
  have HR := rnew_no (w := W) n s inc base step lim hno
  have HD := new_no (w := W) n s inc base step lim hno
  have Hb : Hid (Below w.heap.size w W) := hbW
  unfold rc at hW ⊢
  clear hbW hblk hno
  go_enter Try.func5, Try.ntmps5
  go_wp2_with (first
    | (go_at_call 19; refine HR.mono ?_; rintro e w1 ⟨rfl, rfl⟩)
    | (go_at_call 20; refine HD.mono ?_; rintro e w1 ⟨rfl, rfl⟩)
    | (go_at_call 21; refine (num_any _).mono ?_; rintro e w1 ⟨rfl, rfl⟩)
    | fail)
  go_ret2
  exact ⟨rfl, Hb.out⟩
set_option maxHeartbeats 1000000 in
theorem began_new (n s : Nat) (inc base step lim : Int) (oa : Option Addr) (oc : Nat) (hok : newOk n s inc base step lim = true) : Calls Try.prog 5 #[.agg (rc n s inc base step lim oa 0 oc)] w fun e w' => ∃ D : De, e = .returned (.tuple #[.pointer (some ⟨D.b, 0, none⟩), .bool true]) ∧ Below w.heap.size w w' ∧ D.Ok w' w.heap.size 0 ∧ D.n = n ∧ D.self = s ∧ D.inc = inc ∧ D.step = step ∧ D.limit = lim ∧ D.left = false ∧ D.tick = 0 ∧ D.pe = fun _ => pe0 base := by
  generalize hW : w.alloc (.cells (rc n s inc base step lim oa 0 oc) 31) = W
  have hbW : Below w.heap.size w W := by rw [← hW]; exact balloc (Below.refl _ w)
  have hblk : W.heap[w.heap.size]? = some (.cells (rc n s inc base step lim oa 0 oc) 31 (0, 0)) := by rw [← hW]; exact heap_alloc_new w _
  obtain ⟨c0, c1, c2, c3, c4, c5, c6⟩ := run_cells hblk
  have HR := rnew_ok (w := W) n s inc base step lim hok
  have HD : Hid (∀ w1, Calls Try.prog 20 #[.int .i64 n, .int .i64 s, .int .i64 inc, .int .i64 base, .int .i64 step, .int .i64 lim] w1 fun e w' => e = .returned (.tuple #[.pointer (some ⟨w1.heap.size + 1, 0, none⟩), .int .i64 0]) ∧ Below w1.heap.size w1 w' ∧ ∃ bo bt, (newDe w1 n s inc base step lim bo bt).Ok w' w1.heap.size 0) := fun w1 => new_ok n s inc base step lim hok
  have Hb : Hid (Below w.heap.size w W) := hbW
  have Hblk : Hid (W.heap[w.heap.size]? = some (.cells (rc n s inc base step lim oa 0 oc) 31 (0, 0))) := hblk
  unfold rc at hW ⊢
  clear hbW hblk hok
  go_enter Try.func5, Try.ntmps5
  go_wp2_with (first
    | (go_at_call 19; refine HR.mono ?_; rintro e w1 ⟨rfl, hb1, -⟩; have R1 : Hid (Below W.heap.size W w1) := hb1; obtain ⟨d0, d1, d2, d3, d4, d5, d6⟩ := run_cells ((hb1.block _ (lt_heap Hblk.out)).trans Hblk.out); clear hb1)
    | (go_at_call 20; refine (HD.out _).mono ?_; rintro e w2 ⟨rfl, hb2, bo, bt, hD⟩; have R2 : Hid (Below W.heap.size W w2) := (bstep R1.out hb2); have HDk : Hid ((newDe w1 n s inc base step lim bo bt).Ok w2 w1.heap.size 0) := hD; have hsz : Hid (w.heap.size ≤ w1.heap.size) := (bstep Hb.out R1.out).size; obtain ⟨e0, e1, e2, e3, e4, e5, e6⟩ := run_cells ((R2.out.block _ (lt_heap Hblk.out)).trans Hblk.out); clear hb2 hD)
    | (go_at_call 21; refine (num_any _).mono ?_; rintro e w5 ⟨rfl, rfl⟩)
    | fail)
  refine wp_loop_rounds 1 ?_
  rw [rounds_succ]
  go_wp2
  go_ret2
  exact ⟨_, rfl, bstep Hb.out R2.out, HDk.out.lower hsz.out, rfl, rfl, rfl, rfl, rfl, rfl, rfl, rfl⟩
theorem Dtep.low (s : Dtep w w' D D' B m) (h : D.Ok w B m) (hB : B ≤ w.heap.size) : Below B w w' := s.kept.below hB (fun k hk ho => by have := h.geOwn ho; omega)
structure Se (D : De) (n s : Nat) (inc step lim : Int) (b q : Nat) (p : Pe) : Prop where
  n : D.n = n
  s : D.self = s
  inc : D.inc = inc
  step : D.step = step
  lim : D.limit = lim
  left : D.left = false
  b : D.b = b
  p : D.pe q = p
theorem getD_map_range {n q : Nat} (f : Nat → Int) (h : q < n) : ((List.range n).map f).getD q 0 = f q := by simp [List.getD, h]
section
variable {n s b q : Nat} {inc step lim : Int} {p : Pe}
theorem Se.is (h : Se D n s inc step lim b q p) (hq : q < n) (hs : q ≠ s) : D.is q := ⟨by rw [h.n]; exact hq, by rw [h.s]; exact hs⟩
theorem Se.tick (h : Se D n s inc step lim b q p) (hq : q < n) (hs : q ≠ s) : Se D.ticked n s inc step lim b q p.tick := by
  refine ⟨h.n, h.s, h.inc, h.step, h.lim, h.left, h.b, ?_⟩
  show (if q < D.n ∧ q ≠ D.self then Pe.tick (D.pe q) else D.pe q) = p.tick
  rw [if_pos (show q < D.n ∧ q ≠ D.self from h.is hq hs), h.p]
theorem Se.hears (h : Se D n s inc step lim b q p) (hq : q < n) (hs : q ≠ s) : atI D.hears q = if p.heard then p.known else 0 := by
  unfold atI De.hears
  rw [lst_len, h.n, if_neg (by omega), Int.toNat_natCast]
  unfold De.lst
  rw [getD_map_range _ (by rw [h.n]; exact hq), h.s, if_neg hs, h.p]
  rfl
theorem Se.ests (h : Se D n s inc step lim b q p) (hq : q < n) (hs : q ≠ s) : atI D.ests q = if p.heard && p.both then p.known else 0 := by
  unfold atI De.ests
  rw [lst_len, h.n, if_neg (by omega), Int.toNat_natCast]
  unfold De.lst
  rw [getD_map_range _ (by rw [h.n]; exact hq), h.s, if_neg hs, h.p]
  rfl
theorem Se.isI (h : Se D n s inc step lim b q p) (hq : q < n) (hs : q ≠ s) : D.isI q = true := by
  unfold De.isI
  exact decide_eq_true ⟨by omega, by rw [h.n]; omega, by rw [h.s]; omega⟩
theorem Se.wrong (h : Se D n s inc step lim b q p) (hq : q < n) (hs : q ≠ s) : D.wrong q = p.wrong := by
  unfold De.wrong
  rw [h.isI hq hs, if_pos rfl, Int.toNat_natCast, h.p]
theorem Se.timeout (h : Se D n s inc step lim b q p) (hq : q < n) (hs : q ≠ s) : D.timeout q = p.ticks := by
  unfold De.timeout
  rw [h.isI hq hs, if_pos rfl, Int.toNat_natCast, h.p]
theorem Se.known (h : Se D n s inc step lim b q p) (hq : q < n) (hs : q ≠ s) : D.known q = p.known := by
  unfold De.known
  rw [if_neg (by rw [h.s]; omega), h.isI hq hs, if_pos rfl, Int.toNat_natCast, h.p]
theorem fits_hea (h : Se D n s inc step lim b q p) (t x : Int) (ht : 0 ≤ t ∧ t ≤ 4611686018427387904) (hx : 0 ≤ x ∧ x ≤ 4611686018427387904) : D.fits t (heaI n s x) = true := by
  unfold De.fits
  rw [heaI_len, h.n, decide_eq_true rfl, show inR t = true from decide_eq_true ht]
  simp only [Bool.true_and, List.all_eq_true]
  intro y hy
  unfold heaI at hy
  rcases List.mem_or_eq_of_mem_set hy with h1 | h1
  · rw [List.eq_of_mem_replicate h1]; rfl
  · rw [h1]; exact decide_eq_true hx
theorem Se.herr (h : Se D n s inc step lim b q p) (hq : q < n) (hs : q ≠ s) (i t x : Int) (hi : 1 ≤ i ∧ i ≤ 4611686018427387904) (ht : 0 ≤ t ∧ t ≤ 4611686018427387904) (hx : 0 ≤ x ∧ x ≤ 4611686018427387904) : D.herr q i t (heaI n s x) = if i < p.known then 50 else if i = p.known ∧ t ≤ p.last then 51 else 0 := by
  unfold De.herr De.okArg
  rw [h.isI hq hs, fits_hea h t x ht hx, show inR1 i = true from decide_eq_true hi, Int.toNat_natCast, h.p]
  rfl
theorem Se.after (h : Se D n s inc step lim b q p) (hsn : s < n) (i t x : Int) (he : D.herr q i t (heaI n s x) = 0) : Se (D.after q i t (heaI n s x)) n s inc step lim b q { (if i = p.known ∧ p.heard = false then { p with wrong := p.wrong + 1, ticks := min lim (p.ticks + step) } else p) with known := i, last := t, age := 0, heard := true, both := decide (x = inc) } := by
  unfold De.after
  rw [if_pos he, Int.toNat_natCast]
  refine ⟨h.n, h.s, h.inc, h.step, h.lim, h.left, h.b, ?_⟩
  rw [set_at]
  unfold De.taken De.blame Pe.got Pe.grown
  rw [h.p, h.left, h.s, heaI_at hsn, h.inc, h.lim, h.step]
  simp only [and_true]
  split <;> rfl
theorem Se.same (h : Se D n s inc step lim b q p) (i t x : Int) (he : D.herr q i t (heaI n s x) ≠ 0) : D.after q i t (heaI n s x) = D := by
  unfold De.after
  rw [if_neg he]
end
end
end Go.Proofs.Ytfbollifegngjaa.Dt
