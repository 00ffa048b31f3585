import Derived.Test.YthogcanfinjfdaaMg
namespace Go.Proofs.Ythogcanfinjfdaa.Et
open Go.RowKit Go.Maps
set_option linter.unusedVariables false
set_option linter.unusedSimpArgs false
set_option maxRecDepth 100000
section
variable {R R' : Rn} {w w' W : World} {B : Nat}
theorem rPost_of (p q : Int) (ao : Option Addr) (n c : Nat) (x f : Int) (S : World → Prop) (HC : Calls Try.prog 89 #[.pointer (some ⟨R.b, 0, none⟩), .int .i64 p, .int .i64 q, .slice ao n c, .bool true] w fun e w' => e = .returned (.tuple #[.int .i64 x, .int .i64 f]) ∧ S w') : Calls Try.prog 81 #[.pointer (some ⟨R.b, 0, none⟩), .int .i64 p, .int .i64 q, .slice ao n c] w fun e w' => e = .returned (.tuple #[.int .i64 x, .int .i64 f]) ∧ S w' := by
  go_enter Try.func81, Try.ntmps81
  go_wp2_with (first | (go_at_call 89; refine HC.mono ?_; rintro e w1 ⟨rfl, hS⟩) | fail)
  go_ret2
  exact ⟨rfl, hS⟩

set_option maxHeartbeats 400000 in
theorem rdp_drop (h : R.Ok w B) (hB : B ≤ w.heap.size) (hA : R.all.length ≤ 2199023255551) (v : Ev) (i : Nat) (hi : i < R.all.length) (hk : v.k = 12)  : Calls Try.prog 95 #[.pointer (some ⟨R.b, 0, none⟩), .agg v.cs, .int .i64 i] w fun e w' => e = .returned (.int .i64 0) ∧ Rtep w w' R { R with all := R.all.set i { (R.all.getD i p0) with gone := true } } B := by
  generalize hW : w.alloc (.cells v.cs 41) = W
  have hbW : Below w.heap.size w W := by rw [← hW]; exact balloc (Below.refl _ w)
  have hblk : W.heap[w.heap.size]? = some (.cells v.cs 41 (0, 0)) := by rw [← hW]; exact heap_alloc_new w _
  have hWs : W.heap.size = w.heap.size + 1 := by rw [← hW]; simp
  obtain ⟨g, hva, xz, x0, x1, x2, x3, x4, x5⟩ := (h.still hbW).prow hi
  have c5 := (h.still hbW).c563
  rw [hva] at c5
  generalize hRR : ({ R with all := R.all.set i { (R.all.getD i p0) with gone := true } } : Rn) = RN
  have HS : Hid (∀ V, Below w.heap.size w V → Rtep w (V.setCell ⟨g, i * 6 + 5, none⟩ (.bool true)) R RN B) := fun V hV => by rw [← hRR]; exact Rtep.pre hV (Rtep.gone (h.still hV) i hi g hva true)
  generalize (R.all.getD i p0).gone = GO at *
  generalize hF : (R.all.getD i p0).f = F at *
  generalize hQ : W.alloc (.cells #[.int .i64 F.id, .int .i64 F.src, .int .i64 F.dst, .int .i64 F.due, .slice F.a F.n F.c] 48) = Q
  have hbQ : Below w.heap.size w Q := by rw [← hQ]; exact balloc hbW
  obtain ⟨n0, n1, n2, n3, n4⟩ := fl_cells (show Q.heap[W.heap.size]? = some (.cells #[.int .i64 F.id, .int .i64 F.src, .int .i64 F.dst, .int .i64 F.due, .slice F.a F.n F.c] 48 (0, 0)) by rw [← hQ]; exact heap_alloc_new W _)
  obtain ⟨e0, e1, e2, e3, e4, e5⟩ := ev_cells (show Q.heap[w.heap.size]? = some (.cells v.cs 41 (0, 0)) by rw [← hQ]; exact blk_alloc hblk)
  rw [hk] at e0
  have d5 := (h.still hbQ).c563
  rw [hva] at d5
  have HR : Hid (R.Ok Q B) := h.still hbQ
  have HbQ : Hid (Below w.heap.size w Q) := hbQ
  have i1 : (0 : Int) ≤ (i : Int) := Int.natCast_nonneg _
  have i2 : (i : Int) < (R.all.length : Int) := by omega
  unfold Ev.cs at hW ⊢
  rw [hk] at hW ⊢
  obtain ⟨g', hva', yz, y0, y1, y2, y3, y4, y5⟩ := HR.out.prow hi
  obtain rfl : g = g' := by rw [hva] at hva'; simpa using hva'
  rw [hF] at y0 y1 y2 y3 y4
  clear h hbW hblk hbQ xz hva'
  go_enter Try.func95, Try.ntmps95
  have z5 := yz (i * 6 + 5)
  clear yz
  go_wp2
  first
    | (go_ret; exact ⟨rfl, HS.out _ HbQ.out⟩)
   
end
end Go.Proofs.Ythogcanfinjfdaa.Et
namespace Go.Proofs.Ythogcanfinjfdaa.Et
open Go.RowKit Go.Maps
set_option linter.unusedVariables false
set_option linter.unusedSimpArgs false
set_option maxRecDepth 100000
section
variable {R R' : Rn} {w w' W : World} {B : Nat}
set_option maxHeartbeats 400000 in
theorem rdp_full (h : R.Ok w B) (hB : B ≤ w.heap.size) (hA : R.all.length ≤ 2199023255551) (v : Ev) (i : Nat) (hi : i < R.all.length) (hk : v.k = 13) (hl : R.room ≤ (live R).length) : Calls Try.prog 95 #[.pointer (some ⟨R.b, 0, none⟩), .agg v.cs, .int .i64 i] w fun e w' => e = .returned (.int .i64 31) ∧ Below w.heap.size w w' := by
  generalize hW : w.alloc (.cells v.cs 41) = W
  have hbW : Below w.heap.size w W := by rw [← hW]; exact balloc (Below.refl _ w)
  have hblk : W.heap[w.heap.size]? = some (.cells v.cs 41 (0, 0)) := by rw [← hW]; exact heap_alloc_new w _
  have hWs : W.heap.size = w.heap.size + 1 := by rw [← hW]; simp
  obtain ⟨g, hva, xz, x0, x1, x2, x3, x4, x5⟩ := (h.still hbW).prow hi
  have c5 := (h.still hbW).c563
  rw [hva] at c5

  generalize hF : (R.all.getD i p0).f = F at *
  generalize hQ : W.alloc (.cells #[.int .i64 F.id, .int .i64 F.src, .int .i64 F.dst, .int .i64 F.due, .slice F.a F.n F.c] 48) = Q
  have hbQ : Below w.heap.size w Q := by rw [← hQ]; exact balloc hbW
  obtain ⟨n0, n1, n2, n3, n4⟩ := fl_cells (show Q.heap[W.heap.size]? = some (.cells #[.int .i64 F.id, .int .i64 F.src, .int .i64 F.dst, .int .i64 F.due, .slice F.a F.n F.c] 48 (0, 0)) by rw [← hQ]; exact heap_alloc_new W _)
  obtain ⟨k0, k1, k2, k3, k4⟩ := fl_cells (show Q.heap[w.heap.size + 1]? = some (.cells #[.int .i64 F.id, .int .i64 F.src, .int .i64 F.dst, .int .i64 F.due, .slice F.a F.n F.c] 48 (0, 0)) by rw [← hWs, ← hQ]; exact heap_alloc_new W _)
  obtain ⟨e0, e1, e2, e3, e4, e5⟩ := ev_cells (show Q.heap[w.heap.size]? = some (.cells v.cs 41 (0, 0)) by rw [← hQ]; exact blk_alloc hblk)
  rw [hk] at e0
  have d5 := (h.still hbQ).c563
  rw [hva] at d5
  have HR : Hid (R.Ok Q B) := h.still hbQ
  have HbQ : Hid (Below w.heap.size w Q) := hbQ
  have i1 : (0 : Int) ≤ (i : Int) := Int.natCast_nonneg _
  have i2 : (i : Int) < (R.all.length : Int) := by omega
  unfold Ev.cs at hW ⊢
  rw [hk] at hW ⊢
  obtain ⟨g', hva', yz, y0, y1, y2, y3, y4, y5⟩ := HR.out.prow hi
  obtain rfl : g = g' := by rw [hva] at hva'; simpa using hva'
  rw [hF] at y0 y1 y2 y3 y4
  clear h hbW hblk hbQ xz hva'
  go_enter Try.func95, Try.ntmps95
  have HW := way_is HR.out (by omega)
  generalize (live R).length = N at HW hl
  go_wp2_with (first | (go_at_call 92; refine HW.mono ?_; rintro e w1 ⟨a, c, rfl, ho, hb⟩; have t1 := (HR.out.still hb).c1) | fail)
  all_goals (go_ret; exact ⟨rfl, bstep HbQ.out hb⟩)

set_option maxHeartbeats 400000 in
theorem rdp_dup (h : R.Ok w B) (hB : B ≤ w.heap.size) (hA : R.all.length ≤ 2199023255551) (v : Ev) (i : Nat) (hi : i < R.all.length) (hk : v.k = 13) (hl : (live R).length < R.room) (hfn : (R.all.getD i p0).f.n ≤ 40000) : Calls Try.prog 95 #[.pointer (some ⟨R.b, 0, none⟩), .agg v.cs, .int .i64 i] w fun e w' => e = .returned (.int .i64 0) ∧ ∃ g a va vc, Rtep w w' R { R with va := va, vc := vc, all := R.all ++ [⟨⟨R.all.length + 1, (R.all.getD i p0).f.src, (R.all.getD i p0).f.dst, (R.all.getD i p0).f.due, a, (R.all.getD i p0).f.n, g, (R.all.getD i p0).f.bs⟩, false⟩] } B := by
  generalize hW : w.alloc (.cells v.cs 41) = W
  have hbW : Below w.heap.size w W := by rw [← hW]; exact balloc (Below.refl _ w)
  have hblk : W.heap[w.heap.size]? = some (.cells v.cs 41 (0, 0)) := by rw [← hW]; exact heap_alloc_new w _
  have hWs : W.heap.size = w.heap.size + 1 := by rw [← hW]; simp
  obtain ⟨g, hva, xz, x0, x1, x2, x3, x4, x5⟩ := (h.still hbW).prow hi
  have c5 := (h.still hbW).c563
  rw [hva] at c5
  have hpth := h.pth _ (pmem_getD hi)
  have hbyt := h.byt _ (pmem_getD hi)
  have HN : Hid (∀ w1, Below w.heap.size w w1 → Calls Try.prog 96 #[.pointer (some ⟨R.b, 0, none⟩), .int .i64 (R.all.getD i p0).f.src, .int .i64 (R.all.getD i p0).f.dst, .int .i64 (R.all.getD i p0).f.due, .slice (R.all.getD i p0).f.a (R.all.getD i p0).f.n (R.all.getD i p0).f.c] w1 fun e w' => e = .returned (.int .i64 (R.all.length + 1)) ∧ ∃ g a va vc, Rtep w w' R { R with va := va, vc := vc, all := R.all ++ [⟨⟨R.all.length + 1, (R.all.getD i p0).f.src, (R.all.getD i p0).f.dst, (R.all.getD i p0).f.due, a, (R.all.getD i p0).f.n, g, (R.all.getD i p0).f.bs⟩, false⟩] } B) := fun w1 hb => (put_any (h.still hb) (Nat.le_trans hB hb.size) _ _ _ _ _ _ _ (hbyt.rd.still hb) hfn hA hpth).mono fun e w2 ⟨x1, g, a, va, vc, x2⟩ => ⟨x1, g, a, va, vc, Rtep.pre hb x2⟩
  clear hbyt hpth
  generalize hF : (R.all.getD i p0).f = F at *
  generalize hQ : W.alloc (.cells #[.int .i64 F.id, .int .i64 F.src, .int .i64 F.dst, .int .i64 F.due, .slice F.a F.n F.c] 48) = Q
  have hbQ : Below w.heap.size w Q := by rw [← hQ]; exact balloc hbW
  obtain ⟨n0, n1, n2, n3, n4⟩ := fl_cells (show Q.heap[W.heap.size]? = some (.cells #[.int .i64 F.id, .int .i64 F.src, .int .i64 F.dst, .int .i64 F.due, .slice F.a F.n F.c] 48 (0, 0)) by rw [← hQ]; exact heap_alloc_new W _)
  obtain ⟨k0, k1, k2, k3, k4⟩ := fl_cells (show Q.heap[w.heap.size + 1]? = some (.cells #[.int .i64 F.id, .int .i64 F.src, .int .i64 F.dst, .int .i64 F.due, .slice F.a F.n F.c] 48 (0, 0)) by rw [← hWs, ← hQ]; exact heap_alloc_new W _)
  obtain ⟨e0, e1, e2, e3, e4, e5⟩ := ev_cells (show Q.heap[w.heap.size]? = some (.cells v.cs 41 (0, 0)) by rw [← hQ]; exact blk_alloc hblk)
  rw [hk] at e0
  have d5 := (h.still hbQ).c563
  rw [hva] at d5
  have HR : Hid (R.Ok Q B) := h.still hbQ
  have HbQ : Hid (Below w.heap.size w Q) := hbQ
  have i1 : (0 : Int) ≤ (i : Int) := Int.natCast_nonneg _
  have i2 : (i : Int) < (R.all.length : Int) := by omega
  unfold Ev.cs at hW ⊢
  rw [hk] at hW ⊢
  obtain ⟨g', hva', yz, y0, y1, y2, y3, y4, y5⟩ := HR.out.prow hi
  obtain rfl : g = g' := by rw [hva] at hva'; simpa using hva'
  rw [hF] at y0 y1 y2 y3 y4
  clear h hbW hblk hbQ xz hva'
  go_enter Try.func95, Try.ntmps95
  have HW := way_is HR.out (by omega)
  have HFQ : Hid (Q.heap[w.heap.size + 1]? = some (.cells #[.int .i64 F.id, .int .i64 F.src, .int .i64 F.dst, .int .i64 F.due, .slice F.a F.n F.c] 48 (0, 0))) := by show Q.heap[w.heap.size + 1]? = _; rw [← hWs, ← hQ]; exact heap_alloc_new W _
  generalize (live R).length = N at HW hl
  go_wp2_with (first | (go_at_call 92; refine HW.mono ?_; rintro e w1 ⟨a, c, rfl, ho, hb⟩; have t1 := (HR.out.still hb).c1; have R1 : Hid (Below w.heap.size w w1) := (bstep HbQ.out hb); obtain ⟨m0, m1, m2, m3, m4⟩ := fl_cells (show w1.heap[w.heap.size + 1]? = some (.cells #[.int .i64 F.id, .int .i64 F.src, .int .i64 F.dst, .int .i64 F.due, .slice F.a F.n F.c] 48 (0, 0)) from (hb.block _ (lt_heap HFQ.out)).trans HFQ.out)) | (go_at_call 96; refine (HN.out _ (by repeat (first | exact R1.out | apply Below.drew | apply balloc))).mono ?_; rintro e w2 ⟨rfl, g2, a2, va2, vc2, hst⟩) | fail)
  first
    | (go_ret; exact ⟨rfl, g2, a2, va2, vc2, hst⟩)
    | (go_region_law (go_simp; go_at_call 96; refine (HN.out _ (by repeat (first | exact R1.out | apply Below.drew | apply balloc))).mono ?_; rintro e w2 ⟨rfl, g2, a2, va2, vc2, hst⟩); all_goals (go_wp2; go_ret; exact ⟨rfl, g2, a2, va2, vc2, hst⟩))
   

set_option maxHeartbeats 400000 in
theorem rdp_hno (h : R.Ok w B) (hB : B ≤ w.heap.size) (hA : R.all.length ≤ 2199023255551) (v : Ev) (i : Nat) (hi : i < R.all.length) (hk : v.k = 15) (hx : v.n < 1 ∨ 16 < v.n) : Calls Try.prog 95 #[.pointer (some ⟨R.b, 0, none⟩), .agg v.cs, .int .i64 i] w fun e w' => e = .returned (.int .i64 1) ∧ Below w.heap.size w w' := by
  generalize hW : w.alloc (.cells v.cs 41) = W
  have hbW : Below w.heap.size w W := by rw [← hW]; exact balloc (Below.refl _ w)
  have hblk : W.heap[w.heap.size]? = some (.cells v.cs 41 (0, 0)) := by rw [← hW]; exact heap_alloc_new w _
  have hWs : W.heap.size = w.heap.size + 1 := by rw [← hW]; simp
  obtain ⟨g, hva, xz, x0, x1, x2, x3, x4, x5⟩ := (h.still hbW).prow hi
  have c5 := (h.still hbW).c563
  rw [hva] at c5

  generalize hF : (R.all.getD i p0).f = F at *
  generalize hQ : W.alloc (.cells #[.int .i64 F.id, .int .i64 F.src, .int .i64 F.dst, .int .i64 F.due, .slice F.a F.n F.c] 48) = Q
  have hbQ : Below w.heap.size w Q := by rw [← hQ]; exact balloc hbW
  obtain ⟨n0, n1, n2, n3, n4⟩ := fl_cells (show Q.heap[W.heap.size]? = some (.cells #[.int .i64 F.id, .int .i64 F.src, .int .i64 F.dst, .int .i64 F.due, .slice F.a F.n F.c] 48 (0, 0)) by rw [← hQ]; exact heap_alloc_new W _)
  obtain ⟨k0, k1, k2, k3, k4⟩ := fl_cells (show Q.heap[w.heap.size + 1]? = some (.cells #[.int .i64 F.id, .int .i64 F.src, .int .i64 F.dst, .int .i64 F.due, .slice F.a F.n F.c] 48 (0, 0)) by rw [← hWs, ← hQ]; exact heap_alloc_new W _)
  obtain ⟨e0, e1, e2, e3, e4, e5⟩ := ev_cells (show Q.heap[w.heap.size]? = some (.cells v.cs 41 (0, 0)) by rw [← hQ]; exact blk_alloc hblk)
  rw [hk] at e0
  have d5 := (h.still hbQ).c563
  rw [hva] at d5
  have HR : Hid (R.Ok Q B) := h.still hbQ
  have HbQ : Hid (Below w.heap.size w Q) := hbQ
  have i1 : (0 : Int) ≤ (i : Int) := Int.natCast_nonneg _
  have i2 : (i : Int) < (R.all.length : Int) := by omega
  unfold Ev.cs at hW ⊢
  rw [hk] at hW ⊢
  obtain ⟨g', hva', yz, y0, y1, y2, y3, y4, y5⟩ := HR.out.prow hi
  obtain rfl : g = g' := by rw [hva] at hva'; simpa using hva'
  rw [hF] at y0 y1 y2 y3 y4
  clear h hbW hblk hbQ xz hva'
  go_enter Try.func95, Try.ntmps95
  go_wp2
  all_goals first | (exfalso; omega) | (go_ret; exact ⟨rfl, HbQ.out⟩)

set_option maxHeartbeats 400000 in
theorem rdp_hold (h : R.Ok w B) (hB : B ≤ w.heap.size) (hA : R.all.length ≤ 2199023255551) (v : Ev) (i : Nat) (hi : i < R.all.length) (hk : v.k = 15) (h1 : 1 ≤ v.n) (h2 : v.n ≤ 16) : Calls Try.prog 95 #[.pointer (some ⟨R.b, 0, none⟩), .agg v.cs, .int .i64 i] w fun e w' => e = .returned (.int .i64 0) ∧ Rtep w w' R { R with all := R.all.set i { (R.all.getD i p0) with f := { (R.all.getD i p0).f with due := wrap64 ((R.all.getD i p0).f.due + v.n) } } } B := by
  generalize hW : w.alloc (.cells v.cs 41) = W
  have hbW : Below w.heap.size w W := by rw [← hW]; exact balloc (Below.refl _ w)
  have hblk : W.heap[w.heap.size]? = some (.cells v.cs 41 (0, 0)) := by rw [← hW]; exact heap_alloc_new w _
  have hWs : W.heap.size = w.heap.size + 1 := by rw [← hW]; simp
  obtain ⟨g, hva, xz, x0, x1, x2, x3, x4, x5⟩ := (h.still hbW).prow hi
  have c5 := (h.still hbW).c563
  rw [hva] at c5
  generalize hRR : ({ R with all := R.all.set i { (R.all.getD i p0) with f := { (R.all.getD i p0).f with due := wrap64 ((R.all.getD i p0).f.due + v.n) } } } : Rn) = RN
  have HS : Hid (∀ V, Below w.heap.size w V → Rtep w (V.setCell ⟨g, i * 6 + 3, none⟩ (.int .i64 (wrap64 ((R.all.getD i p0).f.due + v.n)))) R RN B) := fun V hV => by rw [← hRR]; exact Rtep.pre hV (Rtep.due (h.still hV) i hi g hva _)
  generalize hF : (R.all.getD i p0).f = F at *
  generalize hQ : W.alloc (.cells #[.int .i64 F.id, .int .i64 F.src, .int .i64 F.dst, .int .i64 F.due, .slice F.a F.n F.c] 48) = Q
  have hbQ : Below w.heap.size w Q := by rw [← hQ]; exact balloc hbW
  obtain ⟨n0, n1, n2, n3, n4⟩ := fl_cells (show Q.heap[W.heap.size]? = some (.cells #[.int .i64 F.id, .int .i64 F.src, .int .i64 F.dst, .int .i64 F.due, .slice F.a F.n F.c] 48 (0, 0)) by rw [← hQ]; exact heap_alloc_new W _)
  obtain ⟨k0, k1, k2, k3, k4⟩ := fl_cells (show Q.heap[w.heap.size + 1]? = some (.cells #[.int .i64 F.id, .int .i64 F.src, .int .i64 F.dst, .int .i64 F.due, .slice F.a F.n F.c] 48 (0, 0)) by rw [← hWs, ← hQ]; exact heap_alloc_new W _)
  obtain ⟨e0, e1, e2, e3, e4, e5⟩ := ev_cells (show Q.heap[w.heap.size]? = some (.cells v.cs 41 (0, 0)) by rw [← hQ]; exact blk_alloc hblk)
  rw [hk] at e0
  have d5 := (h.still hbQ).c563
  rw [hva] at d5
  have HR : Hid (R.Ok Q B) := h.still hbQ
  have HbQ : Hid (Below w.heap.size w Q) := hbQ
  have i1 : (0 : Int) ≤ (i : Int) := Int.natCast_nonneg _
  have i2 : (i : Int) < (R.all.length : Int) := by omega
  unfold Ev.cs at hW ⊢
  rw [hk] at hW ⊢
  obtain ⟨g', hva', yz, y0, y1, y2, y3, y4, y5⟩ := HR.out.prow hi
  obtain rfl : g = g' := by rw [hva] at hva'; simpa using hva'
  rw [hF] at y0 y1 y2 y3 y4
  clear h hbW hblk hbQ xz hva'
  go_enter Try.func95, Try.ntmps95
  have z3 := yz (i * 6 + 3)
  clear yz
  go_wp2
  have HS2 : Hid (Rtep w (Q.setCell ⟨g, i * 6 + 3, none⟩ (.int .i64 (IntKind.i64.wrap (F.due + v.n)))).drew R RN B) := by
    have := HS.out Q HbQ.out
    rw [wrap_eq] at this
    exact Rtep.post this (Below.refl _ _).drew
  go_region_law (fail)
  all_goals (go_wp2; go_ret; exact ⟨rfl, HS2.out⟩)
end
end Go.Proofs.Ythogcanfinjfdaa.Et
namespace Go.Proofs.Ythogcanfinjfdaa.Et
open Go.RowKit Go.Maps
set_option linter.unusedVariables false
set_option linter.unusedSimpArgs false
set_option maxRecDepth 100000
section
variable {R R' : Rn} {w w' W : World} {B : Nat}
theorem pkCells_same (fs : List Px) (k : Nat) (hk : k < fs.length) (p' : Px) (h : p'.cs = (fs.getD k p0).cs) : pkCells (fs.set k p') = pkCells fs := by
  induction fs generalizing k with
  | nil => simp at hk
  | cons f fs ih =>
    cases k with
    | zero =>
      simp at h
      simp [pkCells, h]
    | succ k =>
      have := ih k (by simpa using hk) (by simpa using h)
      simp only [pkCells, List.set_cons_succ, List.flatMap_cons] at this ⊢
      rw [this]

theorem Rtep.bit (h : R.Ok w B) (k : Nat) (hk : k < R.all.length) (g : Nat) (hg : (R.all.getD k p0).f.a = some ⟨g, 0, none⟩) (i : Nat) (x : Int) (hx : 0 ≤ x ∧ x ≤ 255) : Rtep w (w.setCell ⟨g, i, none⟩ (.int .u8 x)) R { R with all := R.all.set k { (R.all.getD k p0) with f := { (R.all.getD k p0).f with bs := (R.all.getD k p0).f.bs.set i x } } } B := by
  obtain ⟨cs, hblk⟩ := h.blk
  have hm := pmem_getD hk
  have hgo : (R.all.getD k p0).f.v.ownBlock = some g := by unfold Fx.v; rw [hg]; rfl
  have hgr := h.byt_ne hm hgo
  have k1 : Kept w (w.setCell ⟨g, i, none⟩ (.int .u8 x)) (fun j => j = g) := kset w g _ _ rfl
  generalize hp' : ({ (R.all.getD k p0) with f := { (R.all.getD k p0).f with bs := (R.all.getD k p0).f.bs.set i x } } : Px) = p'
  have hcs : p'.cs = (R.all.getD k p0).cs := by rw [← hp']; rfl
  have hv : p'.f.v = (R.all.getD k p0).f.v := by rw [← hp']; rfl
  have hs : p'.f.src = (R.all.getD k p0).f.src := by rw [← hp']
  have hd : p'.f.dst = (R.all.getD k p0).f.dst := by rw [← hp']
  have hmp : ((R.all.set k p').map Px.f).map Fx.v = (R.all.map Px.f).map Fx.v := by
    rw [List.map_set]
    exact set_map (by simpa using hk) (by rw [pgetD_f hk]; exact hv)
  have hrow : w.ownsRow B 5 1 (.slice (some ⟨g, 0, none⟩) (R.all.getD k p0).f.n (R.all.getD k p0).f.c) (R.all.getD k p0).f.n ((R.all.getD k p0).f.bs.map (Value.int .u8)) := by
    have := (h.byt _ hm).1
    unfold Fx.v at this
    rw [hg] at this
    exact this
  have hst := (World.ownsRow.stored hrow i (.int .u8 x)).1
  rw [← List.map_set] at hst
  have hby : p'.f.byt (w.setCell ⟨g, i, none⟩ (.int .u8 x)) B := by
    rw [← hp']
    refine ⟨?_, fun j => ?_⟩
    · unfold Fx.v
      rw [hg]
      exact hst
    · have h2 := (h.byt _ hm).2 j
      simp only [List.getD, List.getElem?_set] at h2 ⊢
      split
      · split
        · exact hx
        · simp
      · exact h2
  refine ⟨⟨⟨cs, ?_⟩, ?_, ?_, ?_, h.ge, h.n16, ?_⟩, ?_, ?_⟩
  · have := hblk.keep k1 (fun e => hgr.1 e.symm)
    exact ⟨this.blk, this.sz, this.c0, this.c1, this.c2, this.up, this.inc, this.tick, this.shut, this.slow, by simp only [List.length_set]; exact this.c563⟩
  · simp only [List.length_set]
    rw [pkCells_same R.all k hk p' hcs]
    exact k1.owns h.row (fun j hj e => hgr.2 (by rw [← e]; exact hj))
  · intro f hf
    obtain ⟨j, hj, rfl⟩ := List.getElem_of_mem hf
    rw [List.length_set] at hj
    rw [List.getElem_set]
    split
    · exact hby
    · rename_i hne
      refine (h.byt _ (List.getElem_mem hj)).keep k1 (fun q hq e => ?_)
      subst e
      have hpw := List.pairwise_iff_getElem.1 h.apt
      have e1 : (R.all.getD k p0) = R.all[k] := by simp [List.getD, hk]
      rw [e1] at hgo
      rcases Nat.lt_or_gt_of_ne hne with hlt | hlt
      · exact (hpw k j (by simpa using hk) (by simpa using hj) hlt) q (by simpa using hgo) (by simpa using hq)
      · exact (hpw j k (by simpa using hj) (by simpa using hk) hlt) q (by simpa using hq) (by simpa using hgo)
  · exact apt_same hmp h.apt
  · intro f hf
    rcases pmem_set hf with rfl | hf
    · rw [hs, hd]; exact h.pth _ hm
    · exact h.pth f hf
  · exact k1.mono (fun j _ e => .inr (.inr ⟨_, hm, by rw [e]; exact hgo⟩))
  · intro q hq
    left
    rcases hq with e | e | ⟨x, hx, e⟩
    · exact .inl e
    · exact .inr (.inl (by simpa using e))
    · rcases pmem_set hx with rfl | hx
      · exact .inr (.inr ⟨_, hm, by rw [← hv]; exact e⟩)
      · exact .inr (.inr ⟨x, hx, e⟩)
end
end Go.Proofs.Ythogcanfinjfdaa.Et
namespace Go.Proofs.Ythogcanfinjfdaa.Et
open Go.RowKit Go.Maps
set_option linter.unusedVariables false
set_option linter.unusedSimpArgs false
set_option maxRecDepth 100000
section
variable {R R' : Rn} {w w' W : World} {B : Nat}
set_option maxHeartbeats 400000 in
theorem rdp_fneg (h : R.Ok w B) (hB : B ≤ w.heap.size) (hA : R.all.length ≤ 2199023255551) (v : Ev) (i : Nat) (hi : i < R.all.length) (hk : v.k = 16) (hx : v.n < 0) : Calls Try.prog 95 #[.pointer (some ⟨R.b, 0, none⟩), .agg v.cs, .int .i64 i] w fun e w' => e = .returned (.int .i64 1) ∧ Below w.heap.size w w' := by
  generalize hW : w.alloc (.cells v.cs 41) = W
  have hbW : Below w.heap.size w W := by rw [← hW]; exact balloc (Below.refl _ w)
  have hblk : W.heap[w.heap.size]? = some (.cells v.cs 41 (0, 0)) := by rw [← hW]; exact heap_alloc_new w _
  have hWs : W.heap.size = w.heap.size + 1 := by rw [← hW]; simp
  obtain ⟨g, hva, xz, x0, x1, x2, x3, x4, x5⟩ := (h.still hbW).prow hi
  have c5 := (h.still hbW).c563
  rw [hva] at c5

  generalize hF : (R.all.getD i p0).f = F at *
  generalize hQ : W.alloc (.cells #[.int .i64 F.id, .int .i64 F.src, .int .i64 F.dst, .int .i64 F.due, .slice F.a F.n F.c] 48) = Q
  have hbQ : Below w.heap.size w Q := by rw [← hQ]; exact balloc hbW
  obtain ⟨n0, n1, n2, n3, n4⟩ := fl_cells (show Q.heap[W.heap.size]? = some (.cells #[.int .i64 F.id, .int .i64 F.src, .int .i64 F.dst, .int .i64 F.due, .slice F.a F.n F.c] 48 (0, 0)) by rw [← hQ]; exact heap_alloc_new W _)
  obtain ⟨k0, k1, k2, k3, k4⟩ := fl_cells (show Q.heap[w.heap.size + 1]? = some (.cells #[.int .i64 F.id, .int .i64 F.src, .int .i64 F.dst, .int .i64 F.due, .slice F.a F.n F.c] 48 (0, 0)) by rw [← hWs, ← hQ]; exact heap_alloc_new W _)
  obtain ⟨e0, e1, e2, e3, e4, e5⟩ := ev_cells (show Q.heap[w.heap.size]? = some (.cells v.cs 41 (0, 0)) by rw [← hQ]; exact blk_alloc hblk)
  rw [hk] at e0
  have d5 := (h.still hbQ).c563
  rw [hva] at d5
  have HR : Hid (R.Ok Q B) := h.still hbQ
  have HbQ : Hid (Below w.heap.size w Q) := hbQ
  have i1 : (0 : Int) ≤ (i : Int) := Int.natCast_nonneg _
  have i2 : (i : Int) < (R.all.length : Int) := by omega
  unfold Ev.cs at hW ⊢
  rw [hk] at hW ⊢
  obtain ⟨g', hva', yz, y0, y1, y2, y3, y4, y5⟩ := HR.out.prow hi
  obtain rfl : g = g' := by rw [hva] at hva'; simpa using hva'
  rw [hF] at y0 y1 y2 y3 y4
  clear h hbW hblk hbQ xz hva'
  go_enter Try.func95, Try.ntmps95
  go_wp2
  all_goals first | (exfalso; omega) | (go_ret; exact ⟨rfl, HbQ.out⟩)

set_option maxHeartbeats 400000 in
theorem rdp_ffar (h : R.Ok w B) (hB : B ≤ w.heap.size) (hA : R.all.length ≤ 2199023255551) (v : Ev) (i : Nat) (hi : i < R.all.length) (hk : v.k = 16) (x : Nat) (hvx : v.n = x) (hx : (R.all.getD i p0).f.n ≤ x / 8) (h63 : (x : Int) ≤ 9223372036854775807) : Calls Try.prog 95 #[.pointer (some ⟨R.b, 0, none⟩), .agg v.cs, .int .i64 i] w fun e w' => e = .returned (.int .i64 1) ∧ Below w.heap.size w w' := by
  generalize hW : w.alloc (.cells v.cs 41) = W
  have hbW : Below w.heap.size w W := by rw [← hW]; exact balloc (Below.refl _ w)
  have hblk : W.heap[w.heap.size]? = some (.cells v.cs 41 (0, 0)) := by rw [← hW]; exact heap_alloc_new w _
  have hWs : W.heap.size = w.heap.size + 1 := by rw [← hW]; simp
  obtain ⟨g, hva, xz, x0, x1, x2, x3, x4, x5⟩ := (h.still hbW).prow hi
  have c5 := (h.still hbW).c563
  rw [hva] at c5

  generalize hF : (R.all.getD i p0).f = F at *
  generalize hQ : W.alloc (.cells #[.int .i64 F.id, .int .i64 F.src, .int .i64 F.dst, .int .i64 F.due, .slice F.a F.n F.c] 48) = Q
  have hbQ : Below w.heap.size w Q := by rw [← hQ]; exact balloc hbW
  obtain ⟨n0, n1, n2, n3, n4⟩ := fl_cells (show Q.heap[W.heap.size]? = some (.cells #[.int .i64 F.id, .int .i64 F.src, .int .i64 F.dst, .int .i64 F.due, .slice F.a F.n F.c] 48 (0, 0)) by rw [← hQ]; exact heap_alloc_new W _)
  obtain ⟨k0, k1, k2, k3, k4⟩ := fl_cells (show Q.heap[w.heap.size + 1]? = some (.cells #[.int .i64 F.id, .int .i64 F.src, .int .i64 F.dst, .int .i64 F.due, .slice F.a F.n F.c] 48 (0, 0)) by rw [← hWs, ← hQ]; exact heap_alloc_new W _)
  obtain ⟨e0, e1, e2, e3, e4, e5⟩ := ev_cells (show Q.heap[w.heap.size]? = some (.cells v.cs 41 (0, 0)) by rw [← hQ]; exact blk_alloc hblk)
  rw [hk] at e0
  have d5 := (h.still hbQ).c563
  rw [hva] at d5
  have HR : Hid (R.Ok Q B) := h.still hbQ
  have HbQ : Hid (Below w.heap.size w Q) := hbQ
  have i1 : (0 : Int) ≤ (i : Int) := Int.natCast_nonneg _
  have i2 : (i : Int) < (R.all.length : Int) := by omega
  unfold Ev.cs at hW ⊢
  rw [hk] at hW ⊢
  rw [hvx] at hW e3 ⊢
  clear hvx
  obtain ⟨g', hva', yz, y0, y1, y2, y3, y4, y5⟩ := HR.out.prow hi
  obtain rfl : g = g' := by rw [hva] at hva'; simpa using hva'
  rw [hF] at y0 y1 y2 y3 y4
  clear h hbW hblk hbQ xz hva'
  go_enter Try.func95, Try.ntmps95
  have b0 : (0 : Int) ≤ (x : Int) / 8 := by omega
  have b1 : (x : Int) / 8 ≤ 9223372036854775807 := by omega
  have b2 : (F.n : Int) ≤ (x : Int) / 8 := by omega
  go_wp2
  all_goals first | (exfalso; omega) | (go_ret; exact ⟨rfl, HbQ.out⟩)

end
end Go.Proofs.Ythogcanfinjfdaa.Et
namespace Go.Proofs.Ythogcanfinjfdaa.Et
open Go.RowKit Go.Maps
set_option linter.unusedVariables false
set_option linter.unusedSimpArgs false
set_option maxRecDepth 100000
def ng (p : Px) : Bool := !p.gone
def pd (p : Px) : Fd := p.f.d
theorem liveN_at (R : Rn) : ∀ n k, k < (liveN R n).length → liveN R ((liveN R n).getD k 0) = (liveN R n).take k ∧ (liveN R n).getD k 0 < n ∧ (R.all.getD ((liveN R n).getD k 0) p0).gone = false
  | 0, k, h => by simp [liveN] at h
  | n + 1, k, h => by
    rw [liveN_next] at h ⊢
    cases hg : (R.all.getD n p0).gone with
    | true =>
      rw [hg] at h
      simp only [if_true, List.append_nil] at h ⊢
      obtain ⟨a, b, c⟩ := liveN_at R n k h
      exact ⟨a, by omega, c⟩
    | false =>
      rw [hg] at h
      simp only [Bool.false_eq_true, if_false, List.length_append, List.length_cons, List.length_nil] at h ⊢
      by_cases hk : k < (liveN R n).length
      · obtain ⟨a, b, c⟩ := liveN_at R n k hk
        have e : (liveN R n ++ [n]).getD k 0 = (liveN R n).getD k 0 := by simp [List.getD, List.getElem?_append_left hk]
        rw [e, List.take_append_of_le_length (by omega)]
        exact ⟨a, by omega, c⟩
      · obtain rfl : k = (liveN R n).length := by omega
        have e : (liveN R n ++ [n]).getD (liveN R n).length 0 = n := by simp [List.getD]
        rw [e]
        exact ⟨by simp, by omega, hg⟩
theorem ptake_next {ps : List Px} {k : Nat} (hk : k < ps.length) : ps.take (k + 1) = ps.take k ++ [ps.getD k p0] := by
  rw [List.take_succ_eq_append_getElem hk]
  simp [List.getD, List.getElem?_eq_getElem hk]
theorem liveN_map (R : Rn) : ∀ k, k ≤ R.all.length → (liveN R k).map (fun i => R.all.getD i p0) = (R.all.take k).filter ng
  | 0, _ => by simp [liveN]
  | k + 1, h => by
    rw [liveN_next, List.map_append, liveN_map R k (by omega), ptake_next (by omega), List.filter_append]
    cases hg : (R.all.getD k p0).gone with
    | true => simp only [if_true, List.map_nil, List.filter_cons, List.filter_nil, ng, hg, Bool.not_true, Bool.false_eq_true, if_false]
    | false => simp only [Bool.false_eq_true, if_false, List.map_cons, List.map_nil, List.filter_cons, List.filter_nil, ng, hg, Bool.not_false, if_true]
theorem live_map (R : Rn) : (live R).map (fun i => R.all.getD i p0) = R.all.filter ng := by
  have := liveN_map R R.all.length (Nat.le_refl _)
  rw [List.take_length] at this
  exact this
theorem live_len (R : Rn) : (live R).length = (R.all.filter ng).length := by rw [← live_map, List.length_map]
theorem live_split (R : Rn) (k : Nat) (hk : k < (live R).length) : ∃ A p C, R.all = A ++ p :: C ∧ A.length = (live R).getD k 0 ∧ p.gone = false ∧ (A.filter ng).length = k ∧ R.all.getD ((live R).getD k 0) p0 = p := by
  obtain ⟨h1, h2, h3⟩ := liveN_at R R.all.length k hk
  change liveN R ((live R).getD k 0) = (live R).take k at h1
  change (live R).getD k 0 < R.all.length at h2
  change (R.all.getD ((live R).getD k 0) p0).gone = false at h3
  generalize (live R).getD k 0 = i at h1 h2 h3
  refine ⟨R.all.take i, R.all.getD i p0, R.all.drop (i + 1), ?_, by simp; omega, h3, ?_, rfl⟩
  · have e : R.all.getD i p0 = R.all[i] := by simp [List.getD, List.getElem?_eq_getElem h2]
    rw [e, List.getElem_cons_drop]
    exact (List.take_append_drop i R.all).symm
  · have := liveN_map R i (by omega)
    rw [← this, List.length_map, h1, List.length_take]
    omega

structure Sim (E : En) (R : Rn) (K : Nat) : Prop where
  nn : R.nn = E.nn
  room : R.room = E.room
  r1 : 1 ≤ E.room ∧ E.room ≤ 20000
  now : R.now = E.clock
  last : E.last = R.all.length
  len : R.all.length ≤ K
  nod : ∀ p, p < E.nn → R.up p = E.up p ∧ R.inc p = E.inc p ∧ R.tick p = E.tick p
  pat : ∀ p q, p < E.nn → q < E.nn → p ≠ q → R.shut p q = E.cut p q ∧ R.slow p q = E.dl p q
  fs : E.fs.map Fx.d = (R.all.filter ng).map pd
  szE : ∀ f ∈ E.fs, f.n ≤ 40000
  szR : ∀ p ∈ R.all, p.f.n ≤ 40000
  few : (E.fs.length : Int) ≤ E.room

structure Duo (E : En) (R : Rn) (w : World) (B K : Nat) : Prop where
  e : E.Ok w B (256 * K)
  r : R.Ok w B
  d : ∀ j, E.own j → ¬ R.own j
  s : Sim E R K
  hB : B ≤ w.heap.size
structure Dtep (w w' : World) (E E' : En) (R R' : Rn) (B K : Nat) : Prop where
  duo : Duo E' R' w' B (K + 1)
  kept : Kept w w' (fun j => E.own j ∨ R.own j)
  own : ∀ j, (E'.own j ∨ R'.own j) → (E.own j ∨ R.own j) ∨ w.heap.size ≤ j
  eb : E'.b = E.b
  rb : R'.b = R.b

section
variable {E E' : En} {R R' : Rn} {w w' w1 w2 w3 : World} {B K m : Nat}
theorem Sim.lvl (s : Sim E R K) : (live R).length = E.fs.length := by
  rw [live_len, ← List.length_map (f := pd), ← s.fs, List.length_map]
theorem Duo.still (h : Duo E R w B K) (hb : Below w.heap.size w w') : Duo E R w' B K := ⟨h.e.still hb, h.r.still hb, h.d, h.s, Nat.le_trans h.hB hb.size⟩
theorem Duo.rAt (h : Duo E R w B K) (s : Step w w1 E E' B m) : R.Ok w1 B := h.r.keep s.kept (fun j hj e => h.d j e hj)
theorem Sim.mono {K' : Nat} (s : Sim E R K) (h : K ≤ K') : Sim E R K' := ⟨s.nn, s.room, s.r1, s.now, s.last, Nat.le_trans s.len h, s.nod, s.pat, s.fs, s.szE, s.szR, s.few⟩
theorem Duo.done (h : Duo E R w B K) (s : Step w w1 E E' B m) (t : Rtep w1 w2 R R' B) (hs : Sim E' R' (K + 1) ∧ E'.b = E.b ∧ R'.b = R.b) (hm : m ≤ 256 * (K + 1)) : Dtep w w2 E E' R R' B K := by
  have hlt : ∀ j, R.own j → j < w.heap.size := fun j hj => h.r.ltOwn hj
  have hle : ∀ j, E.own j → j < w.heap.size := fun j hj => h.e.ltOwn hj
  have hlw : w.heap.size ≤ w1.heap.size := s.kept.size
  have hd1 : ∀ j, E'.own j → ¬ R.own j := fun j hj e => by
    rcases s.own j hj with h1 | h1
    · exact h.d j h1 e
    · have := hlt j e; omega
  refine ⟨⟨(s.ok.keep t.kept hd1).mono hm, t.ok, ?_, hs.1, Nat.le_trans h.hB (Nat.le_trans hlw t.kept.size)⟩, ?_, ?_, hs.2.1, hs.2.2⟩
  · intro j hj e
    rcases t.own j e with h1 | h1
    · exact hd1 j hj h1
    · have := s.ok.ltOwn hj; omega
  · refine (s.kept.mono (Q := fun j => E.own j ∨ R.own j) (fun j _ e => Or.inl e)).step (t.kept.mono (Q := fun j => E.own j ∨ R.own j) (fun j _ e => Or.inr e)) (fun j hj => ?_)
    rcases hj with e | e
    · exact .inl (.inl e)
    · exact .inl (.inr e)
  · intro j hj
    rcases hj with e | e
    · rcases s.own j e with h1 | h1
      · exact .inl (.inl h1)
      · exact .inr h1
    · rcases t.own j e with h1 | h1
      · exact .inl (.inr h1)
      · exact .inr (by omega)
theorem Dtep.pre {W : World} (hb : Below w.heap.size w W) (s : Dtep W w' E E' R R' B K) : Dtep w w' E E' R R' B K :=
  ⟨s.duo, (Kept.ofBelow hb _).trans s.kept, fun j hj => (s.own j hj).elim (fun hh => Or.inl hh) (fun hh => Or.inr (Nat.le_trans hb.size hh)), s.eb, s.rb⟩
theorem Dtep.post {W : World} (s : Dtep w W E E' R R' B K) (hb : Below W.heap.size W w') : Dtep w w' E E' R R' B K :=
  ⟨s.duo.still hb, s.kept.trans (Kept.ofBelow hb _), s.own, s.eb, s.rb⟩
theorem Dtep.after {P : Nat → Prop} (s : Dtep w w1 E E' R R' B K) (k : Kept w1 w2 P) (hP : ∀ j, P j → w.heap.size ≤ j ∧ ¬ E'.own j ∧ ¬ R'.own j) : Dtep w w2 E E' R R' B K :=
  ⟨⟨s.duo.e.keep k (fun j hj e => (hP j e).2.1 hj), s.duo.r.keep k (fun j hj e => (hP j e).2.2 hj), s.duo.d, s.duo.s, Nat.le_trans s.duo.hB k.size⟩, s.kept.step k (fun j hj => Or.inr (hP j hj).1), s.own, s.eb, s.rb⟩
end
end Go.Proofs.Ythogcanfinjfdaa.Et
namespace Go.Proofs.Ythogcanfinjfdaa.Et
open Go.RowKit Go.Maps
set_option linter.unusedVariables false
set_option linter.unusedSimpArgs false
set_option maxRecDepth 100000
section
variable {E E' : En} {R R' : Rn} {w w' w1 w2 w3 : World} {B K m : Nat}
theorem Sim.nodes (s : Sim E R K) (up up' : Nat → Bool) (inc inc' tick tick' : Nat → Int) (h : ∀ p, p < E.nn → up' p = up p ∧ inc' p = inc p ∧ tick' p = tick p) : Sim { E with up := up, inc := inc, tick := tick } { R with up := up', inc := inc', tick := tick' } (K + 1) :=
  ⟨s.nn, s.room, s.r1, s.now, s.last, Nat.le_succ_of_le s.len, h, s.pat, s.fs, s.szE, s.szR, s.few⟩
theorem Sim.paths (s : Sim E R K) (cut shut : Nat → Nat → Bool) (dl slow : Nat → Nat → Int) (h : ∀ p q, p < E.nn → q < E.nn → p ≠ q → shut p q = cut p q ∧ slow p q = dl p q) : Sim { E with cut := cut, dl := dl } { R with shut := shut, slow := slow } (K + 1) :=
  ⟨s.nn, s.room, s.r1, s.now, s.last, Nat.le_succ_of_le s.len, s.nod, h, s.fs, s.szE, s.szR, s.few⟩
theorem upd1_eq {α : Type} {f g : Nat → α} {k p : Nat} {x : α} (h : f p = g p) : upd1 f k x p = upd1 g k x p := by simp only [upd1]; rw [h]
theorem upd2_eq {α : Type} {f g : Nat → Nat → α} {a b p q : Nat} {x : α} (h : f p q = g p q) : upd2 f a b x p q = upd2 g a b x p q := by simp only [upd2]; rw [h]
theorem Sim.tick (s : Sim E R K) (k : Nat) (hk : k < E.nn) : Sim { E with tick := upd1 E.tick k (wrap64 (E.tick k + 1)) } { R with tick := upd1 R.tick k (wrap64 (R.tick k + 1)) } (K + 1) := by
  rw [(s.nod k hk).2.2]
  exact s.nodes E.up R.up E.inc R.inc _ _ (fun p hp => ⟨(s.nod p hp).1, (s.nod p hp).2.1, upd1_eq (s.nod p hp).2.2⟩)
theorem Sim.crash (s : Sim E R K) (k : Nat) : Sim { E with up := upd1 E.up k false } { R with up := upd1 R.up k false } (K + 1) :=
  s.nodes _ _ E.inc R.inc E.tick R.tick (fun p hp => ⟨upd1_eq (s.nod p hp).1, (s.nod p hp).2.1, (s.nod p hp).2.2⟩)
theorem Sim.restart (s : Sim E R K) (k : Nat) (hk : k < E.nn) : Sim { E with up := upd1 E.up k true, inc := upd1 E.inc k (wrap64 (E.inc k + 1)), tick := upd1 E.tick k 0 } { R with up := upd1 R.up k true, inc := upd1 R.inc k (wrap64 (R.inc k + 1)), tick := upd1 R.tick k 0 } (K + 1) := by
  rw [(s.nod k hk).2.1]
  exact s.nodes _ _ _ _ _ _ (fun p hp => ⟨upd1_eq (s.nod p hp).1, upd1_eq (s.nod p hp).2.1, upd1_eq (s.nod p hp).2.2⟩)
theorem Sim.cutting (s : Sim E R K) (a b : Nat) (x : Bool) : Sim { E with cut := upd2 E.cut a b x } { R with shut := upd2 R.shut a b x } (K + 1) :=
  s.paths _ _ E.dl R.slow (fun p q hp hq hpq => ⟨upd2_eq (s.pat p q hp hq hpq).1, (s.pat p q hp hq hpq).2⟩)
theorem Sim.slowing (s : Sim E R K) (a b : Nat) (x : Int) : Sim { E with dl := upd2 E.dl a b x } { R with slow := upd2 R.slow a b x } (K + 1) :=
  s.paths E.cut R.shut _ _ (fun p q hp hq hpq => ⟨(s.pat p q hp hq hpq).1, upd2_eq (s.pat p q hp hq hpq).2⟩)
theorem Sim.splits (s : Sim E R K) (xs : List Int) : Sim { E with cut := spl E.cut xs E.nn E.nn 0 } { R with shut := rspl R.shut xs R.nn R.nn 0 } (K + 1) :=
  s.paths _ _ E.dl R.slow (fun p q hp hq hpq => ⟨by
    simp only [spl, rspl, s.nn]
    rw [if_pos ⟨.inl hp, hq⟩, if_pos ⟨.inl hp, hq, hpq⟩], (s.pat p q hp hq hpq).2⟩)
theorem Sim.same (s : Sim E R K) : Sim E R (K + 1) := s.mono (Nat.le_succ _)

theorem Sim.nxt (s : Sim E R K) (hK : K ≤ 2199023255551) : wN E = (R.all.length : Int) + 1 := by
  have := s.len
  unfold wN
  rw [s.last, wrap_eq]
  exact wrap_id (by omega) (by omega)
theorem Sim.add (s : Sim E R K) (hK : K ≤ 2199023255551) (f : Fx) (p : Px) (hg : p.gone = false) (hd : f.d = p.f.d) (h1 : f.n ≤ 40000) (h2 : p.f.n ≤ 40000) (hl : (E.fs.length : Int) < E.room) (a a' : Option Addr) (c c' : Nat) : Sim (added E f a c) { R with va := a', vc := c', all := R.all ++ [p] } (K + 1) := by
  refine ⟨s.nn, s.room, s.r1, s.now, ?_, ?_, s.nod, s.pat, ?_, ?_, ?_, ?_⟩
  · show wN E = _
    rw [s.nxt hK]; simp
  · have := s.len; simp; omega
  · show (E.fs ++ [f]).map Fx.d = _
    rw [List.map_append, List.filter_append, List.map_append, s.fs]
    simp [List.filter_cons, ng, hg, pd, hd]
  · intro x hx
    rcases List.mem_append.1 hx with hx | hx
    · exact s.szE x hx
    · obtain rfl := List.mem_singleton.1 hx; exact h1
  · intro x hx
    rcases List.mem_append.1 hx with hx | hx
    · exact s.szR x hx
    · obtain rfl := List.mem_singleton.1 hx; exact h2
  · show ((E.fs ++ [f]).length : Int) ≤ E.room
    simp; omega
theorem set_mid {α : Type} (A : List α) (p q : α) (C : List α) : (A ++ p :: C).set A.length q = A ++ q :: C := by
  rw [List.set_append_right _ _ (Nat.le_refl _)]; simp
theorem Sim.split (s : Sim E R K) (k : Nat) (hk : k < E.fs.length) : ∃ A p C FA f FC, R.all = A ++ p :: C ∧ A.length = (live R).getD k 0 ∧ p.gone = false ∧ R.all.getD ((live R).getD k 0) p0 = p ∧ E.fs = FA ++ f :: FC ∧ FA.length = k ∧ E.fs.getD k f0 = f ∧ f.d = p.f.d ∧ FA.map Fx.d = (A.filter ng).map pd ∧ FC.map Fx.d = (C.filter ng).map pd := by
  obtain ⟨A, p, C, h1, h2, h3, h4, h5⟩ := live_split R k (by rw [s.lvl]; exact hk)
  have hf := s.fs
  rw [h1, List.filter_append, List.filter_cons, if_pos (by simp [ng, h3]), List.map_append, List.map_cons] at hf
  obtain ⟨FA, F2, e1, e2, e3⟩ := List.map_eq_append_iff.1 hf
  obtain ⟨f, FC, e4, e5, e6⟩ := List.map_eq_cons_iff.1 e3
  subst e4
  have hl : FA.length = k := by rw [← List.length_map (f := Fx.d), e2, List.length_map, h4]
  refine ⟨A, p, C, FA, f, FC, h1, h2, h3, h5, e1, hl, ?_, e5, e2, e6⟩
  rw [e1, ← hl]
  simp [List.getD]
theorem Sim.at (s : Sim E R K) (k : Nat) (hk : k < E.fs.length) : (E.fs.getD k f0).d = (R.all.getD ((live R).getD k 0) p0).f.d ∧ (live R).getD k 0 < R.all.length := by
  obtain ⟨A, p, C, FA, f, FC, h1, h2, h3, h4, h5, h6, h7, h8, h9, h10⟩ := s.split k hk
  rw [h7, h4]
  refine ⟨h8, ?_⟩
  rw [← h2, h1]
  simp
theorem mem_eraseIdx {l : List Fx} {k : Nat} {x : Fx} (h : x ∈ l.eraseIdx k) : x ∈ l := List.mem_of_mem_eraseIdx h
theorem Sim.erase (s : Sim E R K) (k : Nat) (hk : k < E.fs.length) (a : Option Addr) (c : Nat) : Sim { E with va := a, vc := c, fs := E.fs.eraseIdx k } { R with all := R.all.set ((live R).getD k 0) { (R.all.getD ((live R).getD k 0) p0) with gone := true } } (K + 1) := by
  obtain ⟨A, p, C, FA, f, FC, h1, h2, h3, h4, h5, h6, h7, h8, h9, h10⟩ := s.split k hk
  refine ⟨s.nn, s.room, s.r1, s.now, ?_, ?_, s.nod, s.pat, ?_, ?_, ?_, ?_⟩
  · show E.last = _
    rw [s.last]; simp
  · have := s.len; simp; omega
  · show (E.fs.eraseIdx k).map Fx.d = _
    rw [h4, ← h2, h1, set_mid, h5, ← h6, List.eraseIdx_append_of_length_le (Nat.le_refl _)]
    simp [List.filter_append, List.filter_cons, ng, h9, h10]

  · exact fun x hx => s.szE x (mem_eraseIdx hx)
  · intro x hx
    rcases pmem_set hx with rfl | hx
    · exact (s.szR (R.all.getD ((live R).getD k 0) p0) (pmem_getD (s.at k hk).2) :)
    · exact s.szR x hx
  · have := s.few
    show ((E.fs.eraseIdx k).length : Int) ≤ E.room
    rw [List.length_eraseIdx]; split <;> omega
theorem Sim.put (s : Sim E R K) (k : Nat) (hk : k < E.fs.length) (f' : Fx) (p' : Px) (hg : p'.gone = false) (hd : f'.d = p'.f.d) (h1' : f'.n ≤ 40000) (h2' : p'.f.n ≤ 40000) : Sim { E with fs := E.fs.set k f' } { R with all := R.all.set ((live R).getD k 0) p' } (K + 1) := by
  obtain ⟨A, p, C, FA, f, FC, h1, h2, h3, h4, h5, h6, h7, h8, h9, h10⟩ := s.split k hk
  refine ⟨s.nn, s.room, s.r1, s.now, ?_, ?_, s.nod, s.pat, ?_, ?_, ?_, ?_⟩
  · show E.last = _
    rw [s.last]; simp
  · have := s.len; simp; omega
  · show (E.fs.set k f').map Fx.d = _
    rw [← h2, h1, set_mid, h5, ← h6, set_mid]
    simp only [List.filter_append, List.filter_cons, List.map_append, List.map_cons, h9]
    rw [if_pos (by simp [ng, hg])]
    simp only [List.map_cons, h10, hd, pd]
  · intro x hx
    rcases mem_set hx with rfl | hx
    · exact h1'
    · exact s.szE x hx
  · intro x hx
    rcases pmem_set hx with rfl | hx
    · exact h2'
    · exact s.szR x hx
  · have := s.few
    show ((E.fs.set k f').length : Int) ≤ E.room
    simpa using this
theorem Sim.gone (s : Sim E R K) (k : Nat) (hk : k < E.fs.length) : (R.all.getD ((live R).getD k 0) p0).gone = false := by
  obtain ⟨A, p, C, FA, f, FC, h1, h2, h3, h4, h5, h6, h7, h8, h9, h10⟩ := s.split k hk
  rw [h4]; exact h3
theorem Sim.place (s : Sim E R K) (k : Nat) (hk : k < E.fs.length) : atN R k = ((live R).getD k 0 : Nat) := by
  have := s.lvl
  unfold atN
  rw [if_pos (by omega)]
  simp
theorem Sim.noPlace (s : Sim E R K) (k : Int) (hk : ¬ (0 ≤ k ∧ k < E.fs.length)) : atN R k = -1 := by
  have := s.lvl
  unfold atN
  rw [if_neg (by omega)]

def gnd (c : Int) (p : Px) : Px := if p.gone then p else if p.f.due = c then { p with gone := true } else p
def rcomes (R : Rn) (c : Int) (p : Px) : Bool := !p.gone && (decide (p.f.due = c) && decide (rbar R p.f.src.toNat p.f.dst.toNat = 0))
def dcomes (E : En) (c : Int) (d : Fd) : Bool := decide (d.due = c) && decide (barE E d.src.toNat d.dst.toNat = 0)
theorem gnd_filter (c : Int) : ∀ ps : List Px, ((ps.map (gnd c)).filter ng).map pd = ((ps.filter ng).map pd).filter (fun d => decide (d.due ≠ c))
  | [] => rfl
  | p :: ps => by
    have ih := gnd_filter c ps
    simp only [List.map_cons, List.filter_cons]
    cases hg : p.gone with
    | true => simp [gnd, ng, hg, ih]
    | false =>
      by_cases hd : p.f.due = c
      · simp [gnd, ng, hg, hd, ih, pd, Fx.d]
      · simp [gnd, ng, hg, hd, ih, pd, Fx.d]
theorem rcomes_filter (R : Rn) (c : Int) (q : Fd → Bool) : ∀ ps : List Px, (∀ p ∈ ps, p.gone = false → q (pd p) = (decide (p.f.due = c) && decide (rbar R p.f.src.toNat p.f.dst.toNat = 0))) → (ps.filter (rcomes R c)).map pd = ((ps.filter ng).map pd).filter q
  | [], _ => rfl
  | p :: ps, h => by
    have ih := rcomes_filter R c q ps (fun x hx => h x (List.mem_cons_of_mem _ hx))
    have h0 := h p (List.mem_cons_self ..)
    simp only [List.filter_cons]
    cases hg : p.gone with
    | true => simp [rcomes, ng, hg, ih]
    | false =>
      have h1 := h0 hg
      cases hq : q (pd p) with
      | true => rw [hq] at h1; simp [rcomes, ng, hg, ih, ← h1, hq]
      | false => rw [hq] at h1; simp [rcomes, ng, hg, ih, ← h1, hq]
theorem Sim.bar (s : Sim E R K) {p q : Nat} (hp : p < E.nn) (hq : q < E.nn) (hpq : p ≠ q) : rbar R p q = barE E p q := by
  unfold rbar barE
  rw [(s.pat p q hp hq hpq).1, (s.nod q hq).1]
theorem Sim.clock (s : Sim E R K) : wrap64 (R.now + 1) = ckN E := by rw [s.now]; rfl
theorem Sim.come (s : Sim E R K) (hr : R.Ok w B) : (R.all.filter (rcomes R (ckN E))).map pd = (E.fs.filter (comes E)).map Fx.d := by
  have h1 : (E.fs.filter (comes E)).map Fx.d = (E.fs.map Fx.d).filter (dcomes E (ckN E)) := by
    rw [List.filter_map]; rfl
  rw [h1, s.fs]
  refine rcomes_filter R (ckN E) _ R.all (fun p hp _ => ?_)
  obtain ⟨a, b, ha, hb, hna, hnb, hab⟩ := hr.pth p hp
  rw [s.nn] at hna hnb
  show (decide (p.f.due = ckN E) && decide (barE E p.f.src.toNat p.f.dst.toNat = 0)) = _
  rw [ha, hb, Int.toNat_natCast, Int.toNat_natCast, s.bar hna hnb hab]
theorem gnd_f (c : Int) (p : Px) : (gnd c p).f = p.f := by unfold gnd; split; rfl; split <;> rfl
theorem Sim.round (s : Sim E R K) : Sim { E with clock := ckN E, fs := E.fs.filter (stays E) } { R with now := ckN E, all := R.all.map (gnd (ckN E)) } (K + 1) := by
  refine ⟨s.nn, s.room, s.r1, rfl, ?_, ?_, s.nod, s.pat, ?_, ?_, ?_, ?_⟩
  · show E.last = _
    rw [s.last]; simp
  · have := s.len; simp; omega
  · show (E.fs.filter (stays E)).map Fx.d = _
    have h1 : (E.fs.filter (stays E)).map Fx.d = (E.fs.map Fx.d).filter (fun d => decide (d.due ≠ ckN E)) := by
      rw [List.filter_map]; rfl
    rw [h1, s.fs, gnd_filter]
  · exact fun x hx => s.szE x (List.mem_filter.1 hx).1
  · intro x hx
    obtain ⟨p, hp, rfl⟩ := List.mem_map.1 hx
    rw [gnd_f]; exact s.szR p hp
  · have := s.few
    have h2 := List.length_filter_le (stays E) E.fs
    show ((E.fs.filter (stays E)).length : Int) ≤ E.room
    omega
end
end Go.Proofs.Ythogcanfinjfdaa.Et
