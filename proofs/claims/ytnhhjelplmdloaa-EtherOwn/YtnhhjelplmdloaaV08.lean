import Derived.Test.YtnhhjelplmdloaaV07
namespace Go.Proofs.Ytnhhjelplmdloaa.Et
open Go.RowKit Go.Maps
set_option linter.unusedVariables false
set_option linter.unusedSimpArgs false
set_option maxRecDepth 100000
section
variable {E E' : En} {w w' W w1 : World} {B m : Nat}
set_option maxHeartbeats 400000 in
theorem dp_none (h : E.Ok w B m) (v : Ev) (hno : ¬ (0 ≤ v.a ∧ v.a < E.fs.length)) : Calls Try.prog 52 #[.pointer (some ⟨E.b, 0, none⟩), .agg v.cs] w fun e w' => e = .returned (.int .i64 34) ∧ Below w.heap.size w w' := by
  generalize hW : w.alloc (.cells v.cs 90) = W
  have hbW : Below w.heap.size w W := by rw [← hW]; exact balloc (Below.refl _ w)
  have hblk : W.heap[w.heap.size]? = some (.cells v.cs 90 (0, 0)) := by rw [← hW]; exact heap_alloc_new w _
  obtain ⟨e0, e1, e2, e3, e4, e5⟩ := ev_cells hblk
  have HP := isPlace_any (h.still hbW) v.a
  rw [decide_eq_false hno] at HP
  have Hb : Hid (Below w.heap.size w W) := hbW
  unfold Ev.cs at hW ⊢
  clear h hbW hblk hno
  go_enter Try.func52, Try.ntmps52
  go_wp2_with (first | (go_at_call 42; refine HP.mono ?_; rintro e w1 ⟨rfl, rfl⟩) | fail)
  go_ret
  exact ⟨rfl, Hb.out⟩
set_option maxHeartbeats 400000 in
theorem dp_drop (h : E.Ok w B m) (v : Ev) (k : Nat) (hva : v.a = k) (hkk : k < E.fs.length) (hk : v.k = 12) (hlen : E.fs.length ≤ 20000) : Calls Try.prog 52 #[.pointer (some ⟨E.b, 0, none⟩), .agg v.cs] w fun e w' => e = .returned (.int .i64 0) ∧ ∃ a c, Step w w' E { E with va := a, vc := c, fs := E.fs.eraseIdx k } B m := by
  generalize hW : w.alloc (.cells v.cs 90) = W
  have hbW : Below w.heap.size w W := by rw [← hW]; exact balloc (Below.refl _ w)
  have hblk : W.heap[w.heap.size]? = some (.cells v.cs 90 (0, 0)) := by rw [← hW]; exact heap_alloc_new w _
  obtain ⟨e0, e1, e2, e3, e4, e5⟩ := ev_cells hblk
  have HP := isPlace_any (h.still hbW) v.a
  rw [hva] at e1 HP
  rw [decide_eq_true (by omega)] at HP
  rw [hk] at e0
  obtain ⟨g, hg, u0, u1, u2, u3, u4, uz⟩ := (h.still hbW).flC hkk
  have c6 := (h.still hbW).c6
  rw [hg] at c6
  have i1 : (0 : Int) ≤ (k : Int) := Int.natCast_nonneg _
  have i2 : (k : Int) < (E.fs.length : Int) := by omega
  have HD : Hid (∀ w', Below w.heap.size w w' → Calls Try.prog 43 #[.pointer (some ⟨E.b, 0, none⟩), .int .i64 k] w' fun e w2 => e = .returned (.tuple #[]) ∧ (∃ a c, Step w' w2 E { E with va := a, vc := c, fs := E.fs.eraseIdx k } B m) ∧ Kept w' w2 (fun j => (Value.slice E.va E.fs.length E.vc).ownBlock = some j ∨ j = E.b)) := fun w' hb' => drop_any (h.still hb') k hkk hlen
  clear u0 u1 u2 u3 u4 uz
  have Hb : Hid (Below w.heap.size w W) := hbW
  have Hh : Hid (E.Ok w B m) := h
  unfold Ev.cs at hW ⊢
  rw [hva, hk] at hW ⊢
  clear h hbW hblk
  go_enter Try.func52, Try.ntmps52
  go_wp2_with (first | (go_at_call 42; refine HP.mono ?_; rintro e w1 ⟨rfl, rfl⟩) | fail)
  go_quiet (fail)
  go_wp2_with (first | (go_at_call 43; refine (HD.out _ (by repeat (first | exact Below.refl _ _ | exact Hb.out | apply below_drewN | apply Below.drew | apply balloc))).mono ?_; rintro e w2 ⟨rfl, ⟨av, cv, hs2⟩, _⟩) | fail)
  all_goals first | (go_ret; exact ⟨rfl, av, cv, Step.pre (by repeat (first | exact Below.refl _ _ | exact Hb.out | apply below_drewN | apply Below.drew | apply balloc)) hs2⟩) | exact ⟨rfl, av, cv, Step.pre (by repeat (first | exact Below.refl _ _ | exact Hb.out | apply below_drewN | apply Below.drew | apply balloc)) hs2⟩
set_option maxHeartbeats 400000 in
theorem dp_full (h : E.Ok w B m) (v : Ev) (k : Nat) (hva : v.a = k) (hkk : k < E.fs.length) (hk : v.k = 13) (hl : E.room ≤ E.fs.length) : Calls Try.prog 52 #[.pointer (some ⟨E.b, 0, none⟩), .agg v.cs] w fun e w' => e = .returned (.int .i64 31) ∧ Below w.heap.size w w' := by
  generalize hW : w.alloc (.cells v.cs 90) = W
  have hbW : Below w.heap.size w W := by rw [← hW]; exact balloc (Below.refl _ w)
  have hblk : W.heap[w.heap.size]? = some (.cells v.cs 90 (0, 0)) := by rw [← hW]; exact heap_alloc_new w _
  obtain ⟨e0, e1, e2, e3, e4, e5⟩ := ev_cells hblk
  have HP := isPlace_any (h.still hbW) v.a
  rw [hva] at e1 HP
  rw [decide_eq_true (by omega)] at HP
  rw [hk] at e0
  obtain ⟨g, hg, u0, u1, u2, u3, u4, uz⟩ := (h.still hbW).flC hkk
  have c6 := (h.still hbW).c6
  rw [hg] at c6
  have i1 : (0 : Int) ≤ (k : Int) := Int.natCast_nonneg _
  have i2 : (k : Int) < (E.fs.length : Int) := by omega
  have HD : Hid (∀ w', Below w.heap.size w w' → Calls Try.prog 47 #[.pointer (some ⟨E.b, 0, none⟩), .agg #[.int .i64 (E.fs.getD k f0).id, .int .i64 (E.fs.getD k f0).src, .int .i64 (E.fs.getD k f0).dst, .int .i64 (E.fs.getD k f0).due, .slice (E.fs.getD k f0).a (E.fs.getD k f0).n (E.fs.getD k f0).c]] w' fun e w2 => e = .returned (.tuple #[.int .i64 0, .int .i64 31]) ∧ Below w'.heap.size w' w2) := fun w' hb' => join_no (h.still hb') (E.fs.getD k f0) hl
  generalize (E.fs.getD k f0) = f at HD u0 u1 u2 u3 u4
  clear uz hl
  have Hb : Hid (Below w.heap.size w W) := hbW
  have Hh : Hid (E.Ok w B m) := h
  unfold Ev.cs at hW ⊢
  rw [hva, hk] at hW ⊢
  clear h hbW hblk
  go_enter Try.func52, Try.ntmps52
  go_wp2_with (first | (go_at_call 42; refine HP.mono ?_; rintro e w1 ⟨rfl, rfl⟩) | fail)
  go_quiet (fail)
  go_wp2_with (first | (go_at_call 47; refine (HD.out _ (by repeat (first | exact Below.refl _ _ | exact Hb.out | apply below_drewN | apply Below.drew | apply balloc))).mono ?_; rintro e w2 ⟨rfl, hb2⟩) | fail)
  all_goals first | (go_ret; exact ⟨rfl, bstep (by repeat (first | exact Below.refl _ _ | exact Hb.out | apply below_drewN | apply Below.drew | apply balloc)) hb2⟩) | exact ⟨rfl, bstep (by repeat (first | exact Below.refl _ _ | exact Hb.out | apply below_drewN | apply Below.drew | apply balloc)) hb2⟩
def duped (E : En) (f : Fx) (g : Nat) : Fx := ⟨wN E, f.src, f.dst, f.due, some ⟨g, 0, none⟩, f.n, f.n, f.bs⟩
set_option maxHeartbeats 400000 in
theorem dp_dup (h : E.Ok w B m) (v : Ev) (k : Nat) (hva : v.a = k) (hkk : k < E.fs.length) (hk : v.k = 13) (hB : B ≤ w.heap.size) (hl : E.fs.length < E.room) (hR : E.room ≤ 20000) (hsz : (E.fs.getD k f0).n ≤ 40000) : Calls Try.prog 52 #[.pointer (some ⟨E.b, 0, none⟩), .agg v.cs] w fun e w' => e = .returned (.int .i64 0) ∧ ∃ g a c, Step w w' E (added E (duped E (E.fs.getD k f0) g) a c) B m := by
  generalize hW : w.alloc (.cells v.cs 90) = W
  have hbW : Below w.heap.size w W := by rw [← hW]; exact balloc (Below.refl _ w)
  have hblk : W.heap[w.heap.size]? = some (.cells v.cs 90 (0, 0)) := by rw [← hW]; exact heap_alloc_new w _
  obtain ⟨e0, e1, e2, e3, e4, e5⟩ := ev_cells hblk
  have HP := isPlace_any (h.still hbW) v.a
  rw [hva] at e1 HP
  rw [decide_eq_true (by omega)] at HP
  rw [hk] at e0
  obtain ⟨g, hg, u0, u1, u2, u3, u4, uz⟩ := (h.still hbW).flC hkk
  have c6 := (h.still hbW).c6
  rw [hg] at c6
  have i1 : (0 : Int) ≤ (k : Int) := Int.natCast_nonneg _
  have i2 : (k : Int) < (E.fs.length : Int) := by omega
  have HD : Hid (∀ w', Below w.heap.size w w' → Calls Try.prog 47 #[.pointer (some ⟨E.b, 0, none⟩), .agg #[.int .i64 (E.fs.getD k f0).id, .int .i64 (E.fs.getD k f0).src, .int .i64 (E.fs.getD k f0).dst, .int .i64 (E.fs.getD k f0).due, .slice (E.fs.getD k f0).a (E.fs.getD k f0).n (E.fs.getD k f0).c]] w' fun e w2 => e = .returned (.tuple #[.int .i64 (wN E), .int .i64 0]) ∧ ∃ g a c, Step w' w2 E (added E (duped E (E.fs.getD k f0) g) a c) B m) := fun w' hb' => join_ok (h.still hb') (Nat.le_trans hB hb'.size) (E.fs.getD k f0) ((h.still hb').fls.byt _ (mem_getD hkk)).rd (by omega) (h.pth _ (mem_getD hkk)) hl hR
  generalize (E.fs.getD k f0) = f at HD u0 u1 u2 u3 u4 ⊢
  clear uz hl hR hsz
  have Hb : Hid (Below w.heap.size w W) := hbW
  have Hh : Hid (E.Ok w B m) := h
  unfold Ev.cs at hW ⊢
  rw [hva, hk] at hW ⊢
  clear h hbW hblk
  go_enter Try.func52, Try.ntmps52
  go_wp2_with (first | (go_at_call 42; refine HP.mono ?_; rintro e w1 ⟨rfl, rfl⟩) | fail)
  go_quiet (fail)
  go_wp2_with (first | (go_at_call 47; refine (HD.out _ (by repeat (first | exact Below.refl _ _ | exact Hb.out | apply below_drewN | apply Below.drew | apply balloc))).mono ?_; rintro e w2 ⟨rfl, gv, av, cv, hs2⟩) | fail)
  all_goals first | (go_ret; exact ⟨rfl, gv, av, cv, Step.pre (by repeat (first | exact Below.refl _ _ | exact Hb.out | apply below_drewN | apply Below.drew | apply balloc)) hs2⟩) | exact ⟨rfl, gv, av, cv, Step.pre (by repeat (first | exact Below.refl _ _ | exact Hb.out | apply below_drewN | apply Below.drew | apply balloc)) hs2⟩
set_option maxHeartbeats 400000 in
theorem dp_hno (h : E.Ok w B m) (v : Ev) (k : Nat) (hva : v.a = k) (hkk : k < E.fs.length) (hk : v.k = 15) (hx : v.n < 1 ∨ 16 < v.n) : Calls Try.prog 52 #[.pointer (some ⟨E.b, 0, none⟩), .agg v.cs] w fun e w' => e = .returned (.int .i64 1) ∧ Below w.heap.size w w' := by
  generalize hW : w.alloc (.cells v.cs 90) = W
  have hbW : Below w.heap.size w W := by rw [← hW]; exact balloc (Below.refl _ w)
  have hblk : W.heap[w.heap.size]? = some (.cells v.cs 90 (0, 0)) := by rw [← hW]; exact heap_alloc_new w _
  obtain ⟨e0, e1, e2, e3, e4, e5⟩ := ev_cells hblk
  have HP := isPlace_any (h.still hbW) v.a
  rw [hva] at e1 HP
  rw [decide_eq_true (by omega)] at HP
  rw [hk] at e0
  obtain ⟨g, hg, u0, u1, u2, u3, u4, uz⟩ := (h.still hbW).flC hkk
  have c6 := (h.still hbW).c6
  rw [hg] at c6
  have i1 : (0 : Int) ≤ (k : Int) := Int.natCast_nonneg _
  have i2 : (k : Int) < (E.fs.length : Int) := by omega
  have HD : Hid (∀ w', Calls Try.prog 60 #[.pointer (some ⟨g, k * 5, none⟩), .int .i64 v.n] w' fun e w2 => e = .returned (.int .i64 1) ∧ w' = w2) := fun w' => hold_no g (k * 5) v.n hx
  clear u0 u1 u2 u3 u4 uz hx
  have Hb : Hid (Below w.heap.size w W) := hbW
  have Hh : Hid (E.Ok w B m) := h
  unfold Ev.cs at hW ⊢
  rw [hva, hk] at hW ⊢
  clear h hbW hblk
  go_enter Try.func52, Try.ntmps52
  go_wp2_with (first | (go_at_call 42; refine HP.mono ?_; rintro e w1 ⟨rfl, rfl⟩) | fail)
  go_quiet (fail)
  go_wp2_with (first | (go_at_call 60; refine (HD.out _).mono ?_; rintro e w2 ⟨rfl, rfl⟩) | fail)
  all_goals first | (go_ret; exact ⟨rfl, (by repeat (first | exact Below.refl _ _ | exact Hb.out | apply below_drewN | apply Below.drew | apply balloc))⟩) | exact ⟨rfl, (by repeat (first | exact Below.refl _ _ | exact Hb.out | apply below_drewN | apply Below.drew | apply balloc))⟩
set_option maxHeartbeats 400000 in
theorem dp_hold (h : E.Ok w B m) (v : Ev) (k : Nat) (hva : v.a = k) (hkk : k < E.fs.length) (hk : v.k = 15) (h1 : 1 ≤ v.n) (h2 : v.n ≤ 16) : Calls Try.prog 52 #[.pointer (some ⟨E.b, 0, none⟩), .agg v.cs] w fun e w' => e = .returned (.int .i64 0) ∧ Step w w' E { E with fs := E.fs.set k { (E.fs.getD k f0) with due := wrap64 ((E.fs.getD k f0).due + v.n) } } B m := by
  generalize hW : w.alloc (.cells v.cs 90) = W
  have hbW : Below w.heap.size w W := by rw [← hW]; exact balloc (Below.refl _ w)
  have hblk : W.heap[w.heap.size]? = some (.cells v.cs 90 (0, 0)) := by rw [← hW]; exact heap_alloc_new w _
  obtain ⟨e0, e1, e2, e3, e4, e5⟩ := ev_cells hblk
  have HP := isPlace_any (h.still hbW) v.a
  rw [hva] at e1 HP
  rw [decide_eq_true (by omega)] at HP
  rw [hk] at e0
  obtain ⟨g, hg, u0, u1, u2, u3, u4, uz⟩ := (h.still hbW).flC hkk
  have c6 := (h.still hbW).c6
  rw [hg] at c6
  have i1 : (0 : Int) ≤ (k : Int) := Int.natCast_nonneg _
  have i2 : (k : Int) < (E.fs.length : Int) := by omega
  have HD : Hid (∀ w', Below w.heap.size w w' → Calls Try.prog 60 #[.pointer (some ⟨g, k * 5, none⟩), .int .i64 v.n] w' fun e w2 => e = .returned (.int .i64 0) ∧ Step w w2 E { E with fs := E.fs.set k { (E.fs.getD k f0) with due := wrap64 ((E.fs.getD k f0).due + v.n) } } B m) := fun w' hb' => by
    obtain ⟨g', hg', x0, x1, x2, x3, x4, xz⟩ := (h.still hb').flC hkk
    obtain rfl : g = g' := by rw [hg] at hg'; simpa using hg'
    exact (hold_ok g (k * 5) v.n _ h1 h2 x3 (xz _)).mono fun e w2 ⟨y1, y2⟩ => ⟨y1, by rw [y2]; exact Step.pre hb' (Step.due (h.still hb') k hkk g hg _)⟩
  clear u0 u1 u2 u3 u4 uz h1 h2
  have Hb : Hid (Below w.heap.size w W) := hbW
  have Hh : Hid (E.Ok w B m) := h
  unfold Ev.cs at hW ⊢
  rw [hva, hk] at hW ⊢
  clear h hbW hblk
  go_enter Try.func52, Try.ntmps52
  go_wp2_with (first | (go_at_call 42; refine HP.mono ?_; rintro e w1 ⟨rfl, rfl⟩) | fail)
  go_quiet (fail)
  go_wp2_with (first | (go_at_call 60; refine (HD.out _ (by repeat (first | exact Below.refl _ _ | exact Hb.out | apply below_drewN | apply Below.drew | apply balloc))).mono ?_; rintro e w2 ⟨rfl, hs2⟩) | fail)
  all_goals first | (go_ret; exact ⟨rfl, hs2⟩) | exact ⟨rfl, hs2⟩
set_option maxHeartbeats 400000 in
theorem dp_fno (h : E.Ok w B m) (v : Ev) (k : Nat) (hva : v.a = k) (hkk : k < E.fs.length) (hk : v.k = 16) (hx : v.n < 0 ∨ ((E.fs.getD k f0).n : Int) ≤ v.n / 8) (h63 : v.n ≤ 9223372036854775807) : Calls Try.prog 52 #[.pointer (some ⟨E.b, 0, none⟩), .agg v.cs] w fun e w' => e = .returned (.int .i64 1) ∧ Below w.heap.size w w' := by
  generalize hW : w.alloc (.cells v.cs 90) = W
  have hbW : Below w.heap.size w W := by rw [← hW]; exact balloc (Below.refl _ w)
  have hblk : W.heap[w.heap.size]? = some (.cells v.cs 90 (0, 0)) := by rw [← hW]; exact heap_alloc_new w _
  obtain ⟨e0, e1, e2, e3, e4, e5⟩ := ev_cells hblk
  have HP := isPlace_any (h.still hbW) v.a
  rw [hva] at e1 HP
  rw [decide_eq_true (by omega)] at HP
  rw [hk] at e0
  obtain ⟨g, hg, u0, u1, u2, u3, u4, uz⟩ := (h.still hbW).flC hkk
  have c6 := (h.still hbW).c6
  rw [hg] at c6
  have i1 : (0 : Int) ≤ (k : Int) := Int.natCast_nonneg _
  have i2 : (k : Int) < (E.fs.length : Int) := by omega
  have HD : Hid (∀ w', Below w.heap.size w w' → Calls Try.prog 61 #[.pointer (some ⟨g, k * 5, none⟩), .int .i64 v.n] w' fun e w2 => e = .returned (.int .i64 1) ∧ w' = w2) := fun w' hb' => by
    obtain ⟨g', hg', x0, x1, x2, x3, x4, xz⟩ := (h.still hb').flC hkk
    obtain rfl : g = g' := by rw [hg] at hg'; simpa using hg'
    by_cases hneg : v.n < 0
    · exact flip_neg g (k * 5) v.n hneg
    · obtain ⟨x, hx'⟩ : ∃ x : Nat, v.n = x := ⟨v.n.toNat, by omega⟩
      rw [hx'] at hx h63 ⊢
      exact flip_far g (k * 5) _ _ _ x x4 (by omega) h63
  clear u0 u1 u2 u3 u4 uz hx h63
  have Hb : Hid (Below w.heap.size w W) := hbW
  have Hh : Hid (E.Ok w B m) := h
  unfold Ev.cs at hW ⊢
  rw [hva, hk] at hW ⊢
  clear h hbW hblk
  go_enter Try.func52, Try.ntmps52
  go_wp2_with (first | (go_at_call 42; refine HP.mono ?_; rintro e w1 ⟨rfl, rfl⟩) | fail)
  go_quiet (fail)
  go_wp2_with (first | (go_at_call 61; refine (HD.out _ (by repeat (first | exact Below.refl _ _ | exact Hb.out | apply below_drewN | apply Below.drew | apply balloc))).mono ?_; rintro e w2 ⟨rfl, rfl⟩) | fail)
  all_goals first | (go_ret; exact ⟨rfl, (by repeat (first | exact Below.refl _ _ | exact Hb.out | apply below_drewN | apply Below.drew | apply balloc))⟩) | exact ⟨rfl, (by repeat (first | exact Below.refl _ _ | exact Hb.out | apply below_drewN | apply Below.drew | apply balloc))⟩
theorem own_at {ao : Option Addr} {n c : Nat} {bs : List Int} (h : w.ownsRow B 5 1 (.slice ao n c) n (bs.map (Value.int .u8))) {i : Nat} (hi : i < n) : ∃ g, ao = some ⟨g, 0, none⟩ ∧ w.cell? ⟨g, i, none⟩ = some (.int .u8 (bs.getD i 0)) ∧ w.frozen? ⟨g, i, none⟩ = false := by
  have hl : bs.length = n := by simpa using h.1
  rcases h.2 with ⟨h1, h2⟩ | ⟨g, cap, cur, hv, hB, hg, hnc, hcm, hcs, htk⟩
  · omega
  · simp at hv
    refine ⟨g, hv.1, ?_, frozen_of_row w _ i _ _ hg⟩
    rw [blk_cell hg i]
    have e1 : (cur.toList.take (n * 1))[i]? = (bs.map (Value.int .u8))[i]? := by rw [htk]
    rw [List.getElem?_take_of_lt (by omega)] at e1
    rw [← Array.getElem?_toList, e1]
    simp [List.getD, show i < bs.length by omega]
theorem flipB_range (x : Int) (b : Nat) : 0 ≤ flipB x b ∧ flipB x b ≤ 255 := by
  unfold flipB bits
  simp only [IntKind.wrap, IntKind.bits, IntKind.signed]
  simp
  omega
set_option maxHeartbeats 400000 in
theorem dp_flip (h : E.Ok w B m) (v : Ev) (k : Nat) (hva : v.a = k) (hkk : k < E.fs.length) (hk : v.k = 16) (x : Nat) (hvn : v.n = x) (hx : x / 8 < (E.fs.getD k f0).n) (h63 : (x : Int) ≤ 9223372036854775807) : Calls Try.prog 52 #[.pointer (some ⟨E.b, 0, none⟩), .agg v.cs] w fun e w' => e = .returned (.int .i64 0) ∧ Step w w' E { E with fs := E.fs.set k { (E.fs.getD k f0) with bs := (E.fs.getD k f0).bs.set (x / 8) (flipB ((E.fs.getD k f0).bs.getD (x / 8) 0) (x % 8)) } } B m := by
  generalize hW : w.alloc (.cells v.cs 90) = W
  have hbW : Below w.heap.size w W := by rw [← hW]; exact balloc (Below.refl _ w)
  have hblk : W.heap[w.heap.size]? = some (.cells v.cs 90 (0, 0)) := by rw [← hW]; exact heap_alloc_new w _
  obtain ⟨e0, e1, e2, e3, e4, e5⟩ := ev_cells hblk
  have HP := isPlace_any (h.still hbW) v.a
  rw [hva] at e1 HP
  rw [decide_eq_true (by omega)] at HP
  rw [hk] at e0
  obtain ⟨g, hg, u0, u1, u2, u3, u4, uz⟩ := (h.still hbW).flC hkk
  have c6 := (h.still hbW).c6
  rw [hg] at c6
  have i1 : (0 : Int) ≤ (k : Int) := Int.natCast_nonneg _
  have i2 : (k : Int) < (E.fs.length : Int) := by omega
  rw [hvn] at e3
  have HD : Hid (∀ w', Below w.heap.size w w' → Calls Try.prog 61 #[.pointer (some ⟨g, k * 5, none⟩), .int .i64 x] w' fun e w2 => e = .returned (.int .i64 0) ∧ Step w w2 E { E with fs := E.fs.set k { (E.fs.getD k f0) with bs := (E.fs.getD k f0).bs.set (x / 8) (flipB ((E.fs.getD k f0).bs.getD (x / 8) 0) (x % 8)) } } B m) := fun w' hb' => by
    obtain ⟨g', hg', x0, x1, x2, x3, x4, xz⟩ := (h.still hb').flC hkk
    obtain rfl : g = g' := by rw [hg] at hg'; simpa using hg'
    obtain ⟨gb, hgb, hy, hyf⟩ := own_at ((h.still hb').fls.byt _ (mem_getD hkk)).1 hx
    rw [hgb] at x4
    exact (flip_ok g (k * 5) gb _ _ x _ x4 hx hy hyf h63).mono fun e w2 ⟨y1, y2⟩ => ⟨y1, by rw [y2]; exact Step.pre hb' ((Step.bit (h.still hb') k hkk gb hgb (x / 8) _ (flipB_range _ _)).post ((Below.refl _ _).drew))⟩
  clear u0 u1 u2 u3 u4 uz hx h63
  have Hb : Hid (Below w.heap.size w W) := hbW
  have Hh : Hid (E.Ok w B m) := h
  unfold Ev.cs at hW ⊢
  rw [hva, hk, hvn] at hW ⊢
  clear h hbW hblk
  go_enter Try.func52, Try.ntmps52
  go_wp2_with (first | (go_at_call 42; refine HP.mono ?_; rintro e w1 ⟨rfl, rfl⟩) | fail)
  go_quiet (fail)
  go_wp2_with (first | (go_at_call 61; refine (HD.out _ (by repeat (first | exact Below.refl _ _ | exact Hb.out | apply below_drewN | apply Below.drew | apply balloc))).mono ?_; rintro e w2 ⟨rfl, hs2⟩) | fail)
  all_goals first | (go_ret; exact ⟨rfl, hs2⟩) | exact ⟨rfl, hs2⟩
end
end Go.Proofs.Ytnhhjelplmdloaa.Et
