import Derived.Test.YtnhhjelplmdloaaWb
import Derived.LoopN
namespace Go.Proofs.Ytnhhjelplmdloaa.Et
open Go.RowKit Go.Maps
set_option linter.unusedVariables false
set_option linter.unusedSimpArgs false
set_option maxRecDepth 100000
section
variable {E E' : En} {w w' W w1 : World} {B m : Nat}
set_option maxHeartbeats 400000 in
theorem dp_none (h : E.Ok w B m) (v : Ev) (hno : ¬ (0 ≤ v.a ∧ v.a < E.fs.length)) : Calls Try.prog 52 #[.pointer (some ⟨E.b, 0, none⟩), .agg v.cs] w fun e w' => e = .returned (.int .i64 34) ∧ Below w.heap.size w w' := by
  generalize hW : w.alloc (.cells v.cs 90) = W
  have hbW : Below w.heap.size w W := by rw [← hW]; exact balloc (Below.refl _ w)
  have hblk : W.heap[w.heap.size]? = some (.cells v.cs 90 (0, 0)) := by rw [← hW]; exact heap_alloc_new w _
  obtain ⟨e0, e1, e2, e3, e4, e5⟩ := ev_cells hblk
  have HP := isPlace_any (h.still hbW) v.a
  rw [decide_eq_false hno] at HP
  have Hb : Hid (Below w.heap.size w W) := hbW
  unfold Ev.cs at hW ⊢
  clear h hbW hblk hno
  go_enter Try.func52, Try.ntmps52
  go_wp2_with (first | (go_at_call 42; refine HP.mono ?_; rintro e w1 ⟨rfl, rfl⟩) | fail)
  go_ret
  exact ⟨rfl, Hb.out⟩
set_option maxHeartbeats 400000 in
theorem dp_drop (h : E.Ok w B m) (v : Ev) (k : Nat) (hva : v.a = k) (hkk : k < E.fs.length) (hk : v.k = 12) (hlen : E.fs.length ≤ 20000) : Calls Try.prog 52 #[.pointer (some ⟨E.b, 0, none⟩), .agg v.cs] w fun e w' => e = .returned (.int .i64 0) ∧ ∃ a c, Step w w' E { E with va := a, vc := c, fs := E.fs.eraseIdx k } B m := by
  generalize hW : w.alloc (.cells v.cs 90) = W
  have hbW : Below w.heap.size w W := by rw [← hW]; exact balloc (Below.refl _ w)
  have hblk : W.heap[w.heap.size]? = some (.cells v.cs 90 (0, 0)) := by rw [← hW]; exact heap_alloc_new w _
  obtain ⟨e0, e1, e2, e3, e4, e5⟩ := ev_cells hblk
  have HP := isPlace_any (h.still hbW) v.a
  rw [hva] at e1 HP
  rw [decide_eq_true (by omega)] at HP
  rw [hk] at e0
  obtain ⟨g, hg, u0, u1, u2, u3, u4, uz⟩ := (h.still hbW).flC hkk
  have c6 := (h.still hbW).c6
  rw [hg] at c6
  have i1 : (0 : Int) ≤ (k : Int) := Int.natCast_nonneg _
  have i2 : (k : Int) < (E.fs.length : Int) := by omega
  have HD : Hid (∀ w', Below w.heap.size w w' → Calls Try.prog 43 #[.pointer (some ⟨E.b, 0, none⟩), .int .i64 k] w' fun e w2 => e = .returned (.tuple #[]) ∧ (∃ a c, Step w' w2 E { E with va := a, vc := c, fs := E.fs.eraseIdx k } B m) ∧ Kept w' w2 (fun j => (Value.slice E.va E.fs.length E.vc).ownBlock = some j ∨ j = E.b)) := fun w' hb' => drop_any (h.still hb') k hkk hlen
  clear u0 u1 u2 u3 u4 uz
  have Hb : Hid (Below w.heap.size w W) := hbW
  have Hh : Hid (E.Ok w B m) := h
  unfold Ev.cs at hW ⊢
  rw [hva, hk] at hW ⊢
  clear h hbW hblk
  go_enter Try.func52, Try.ntmps52
  go_wp2_with (first | (go_at_call 42; refine HP.mono ?_; rintro e w1 ⟨rfl, rfl⟩) | fail)
  go_quiet (fail)
  go_wp2_with (first | (go_at_call 43; refine (HD.out _ (by repeat (first | exact Below.refl _ _ | exact Hb.out | apply below_drewN | apply Below.drew | apply balloc))).mono ?_; rintro e w2 ⟨rfl, ⟨av, cv, hs2⟩, _⟩) | fail)
  all_goals first | (go_ret; exact ⟨rfl, av, cv, Step.pre (by repeat (first | exact Below.refl _ _ | exact Hb.out | apply below_drewN | apply Below.drew | apply balloc)) hs2⟩) | exact ⟨rfl, av, cv, Step.pre (by repeat (first | exact Below.refl _ _ | exact Hb.out | apply below_drewN | apply Below.drew | apply balloc)) hs2⟩
set_option maxHeartbeats 400000 in
theorem dp_full (h : E.Ok w B m) (v : Ev) (k : Nat) (hva : v.a = k) (hkk : k < E.fs.length) (hk : v.k = 13) (hl : E.room ≤ E.fs.length) : Calls Try.prog 52 #[.pointer (some ⟨E.b, 0, none⟩), .agg v.cs] w fun e w' => e = .returned (.int .i64 31) ∧ Below w.heap.size w w' := by
  generalize hW : w.alloc (.cells v.cs 90) = W
  have hbW : Below w.heap.size w W := by rw [← hW]; exact balloc (Below.refl _ w)
  have hblk : W.heap[w.heap.size]? = some (.cells v.cs 90 (0, 0)) := by rw [← hW]; exact heap_alloc_new w _
  obtain ⟨e0, e1, e2, e3, e4, e5⟩ := ev_cells hblk
  have HP := isPlace_any (h.still hbW) v.a
  rw [hva] at e1 HP
  rw [decide_eq_true (by omega)] at HP
  rw [hk] at e0
  obtain ⟨g, hg, u0, u1, u2, u3, u4, uz⟩ := (h.still hbW).flC hkk
  have c6 := (h.still hbW).c6
  rw [hg] at c6
  have i1 : (0 : Int) ≤ (k : Int) := Int.natCast_nonneg _
  have i2 : (k : Int) < (E.fs.length : Int) := by omega
  have HD : Hid (∀ w', Below w.heap.size w w' → Calls Try.prog 47 #[.pointer (some ⟨E.b, 0, none⟩), .agg #[.int .i64 (E.fs.getD k f0).id, .int .i64 (E.fs.getD k f0).src, .int .i64 (E.fs.getD k f0).dst, .int .i64 (E.fs.getD k f0).due, .slice (E.fs.getD k f0).a (E.fs.getD k f0).n (E.fs.getD k f0).c]] w' fun e w2 => e = .returned (.tuple #[.int .i64 0, .int .i64 31]) ∧ Below w'.heap.size w' w2) := fun w' hb' => join_no (h.still hb') (E.fs.getD k f0) hl
  generalize (E.fs.getD k f0) = f at HD u0 u1 u2 u3 u4
  clear uz hl
  have Hb : Hid (Below w.heap.size w W) := hbW
  have Hh : Hid (E.Ok w B m) := h
  unfold Ev.cs at hW ⊢
  rw [hva, hk] at hW ⊢
  clear h hbW hblk
  go_enter Try.func52, Try.ntmps52
  go_wp2_with (first | (go_at_call 42; refine HP.mono ?_; rintro e w1 ⟨rfl, rfl⟩) | fail)
  go_quiet (fail)
  go_wp2_with (first | (go_at_call 47; refine (HD.out _ (by repeat (first | exact Below.refl _ _ | exact Hb.out | apply below_drewN | apply Below.drew | apply balloc))).mono ?_; rintro e w2 ⟨rfl, hb2⟩) | fail)
  all_goals first | (go_ret; exact ⟨rfl, bstep (by repeat (first | exact Below.refl _ _ | exact Hb.out | apply below_drewN | apply Below.drew | apply balloc)) hb2⟩) | exact ⟨rfl, bstep (by repeat (first | exact Below.refl _ _ | exact Hb.out | apply below_drewN | apply Below.drew | apply balloc)) hb2⟩
def duped (E : En) (f : Fx) (g : Nat) : Fx := ⟨wN E, f.src, f.dst, f.due, some ⟨g, 0, none⟩, f.n, f.n, f.bs⟩
set_option maxHeartbeats 400000 in
theorem dp_dup (h : E.Ok w B m) (v : Ev) (k : Nat) (hva : v.a = k) (hkk : k < E.fs.length) (hk : v.k = 13) (hB : B ≤ w.heap.size) (hl : E.fs.length < E.room) (hR : E.room ≤ 20000) (hsz : (E.fs.getD k f0).n ≤ 40000) : Calls Try.prog 52 #[.pointer (some ⟨E.b, 0, none⟩), .agg v.cs] w fun e w' => e = .returned (.int .i64 0) ∧ ∃ g a c, Step w w' E (added E (duped E (E.fs.getD k f0) g) a c) B m := by
  generalize hW : w.alloc (.cells v.cs 90) = W
  have hbW : Below w.heap.size w W := by rw [← hW]; exact balloc (Below.refl _ w)
  have hblk : W.heap[w.heap.size]? = some (.cells v.cs 90 (0, 0)) := by rw [← hW]; exact heap_alloc_new w _
  obtain ⟨e0, e1, e2, e3, e4, e5⟩ := ev_cells hblk
  have HP := isPlace_any (h.still hbW) v.a
  rw [hva] at e1 HP
  rw [decide_eq_true (by omega)] at HP
  rw [hk] at e0
  obtain ⟨g, hg, u0, u1, u2, u3, u4, uz⟩ := (h.still hbW).flC hkk
  have c6 := (h.still hbW).c6
  rw [hg] at c6
  have i1 : (0 : Int) ≤ (k : Int) := Int.natCast_nonneg _
  have i2 : (k : Int) < (E.fs.length : Int) := by omega
  have HD : Hid (∀ w', Below w.heap.size w w' → Calls Try.prog 47 #[.pointer (some ⟨E.b, 0, none⟩), .agg #[.int .i64 (E.fs.getD k f0).id, .int .i64 (E.fs.getD k f0).src, .int .i64 (E.fs.getD k f0).dst, .int .i64 (E.fs.getD k f0).due, .slice (E.fs.getD k f0).a (E.fs.getD k f0).n (E.fs.getD k f0).c]] w' fun e w2 => e = .returned (.tuple #[.int .i64 (wN E), .int .i64 0]) ∧ ∃ g a c, Step w' w2 E (added E (duped E (E.fs.getD k f0) g) a c) B m) := fun w' hb' => join_ok (h.still hb') (Nat.le_trans hB hb'.size) (E.fs.getD k f0) ((h.still hb').fls.byt _ (mem_getD hkk)).rd (by omega) (h.pth _ (mem_getD hkk)) hl hR
  generalize (E.fs.getD k f0) = f at HD u0 u1 u2 u3 u4 ⊢
  clear uz hl hR hsz
  have Hb : Hid (Below w.heap.size w W) := hbW
  have Hh : Hid (E.Ok w B m) := h
  unfold Ev.cs at hW ⊢
  rw [hva, hk] at hW ⊢
  clear h hbW hblk
  go_enter Try.func52, Try.ntmps52
  go_wp2_with (first | (go_at_call 42; refine HP.mono ?_; rintro e w1 ⟨rfl, rfl⟩) | fail)
  go_quiet (fail)
  go_wp2_with (first | (go_at_call 47; refine (HD.out _ (by repeat (first | exact Below.refl _ _ | exact Hb.out | apply below_drewN | apply Below.drew | apply balloc))).mono ?_; rintro e w2 ⟨rfl, gv, av, cv, hs2⟩) | fail)
  all_goals first | (go_ret; exact ⟨rfl, gv, av, cv, Step.pre (by repeat (first | exact Below.refl _ _ | exact Hb.out | apply below_drewN | apply Below.drew | apply balloc)) hs2⟩) | exact ⟨rfl, gv, av, cv, Step.pre (by repeat (first | exact Below.refl _ _ | exact Hb.out | apply below_drewN | apply Below.drew | apply balloc)) hs2⟩
set_option maxHeartbeats 400000 in
theorem dp_hno (h : E.Ok w B m) (v : Ev) (k : Nat) (hva : v.a = k) (hkk : k < E.fs.length) (hk : v.k = 15) (hx : v.n < 1 ∨ 16 < v.n) : Calls Try.prog 52 #[.pointer (some ⟨E.b, 0, none⟩), .agg v.cs] w fun e w' => e = .returned (.int .i64 1) ∧ Below w.heap.size w w' := by
  generalize hW : w.alloc (.cells v.cs 90) = W
  have hbW : Below w.heap.size w W := by rw [← hW]; exact balloc (Below.refl _ w)
  have hblk : W.heap[w.heap.size]? = some (.cells v.cs 90 (0, 0)) := by rw [← hW]; exact heap_alloc_new w _
  obtain ⟨e0, e1, e2, e3, e4, e5⟩ := ev_cells hblk
  have HP := isPlace_any (h.still hbW) v.a
  rw [hva] at e1 HP
  rw [decide_eq_true (by omega)] at HP
  rw [hk] at e0
  obtain ⟨g, hg, u0, u1, u2, u3, u4, uz⟩ := (h.still hbW).flC hkk
  have c6 := (h.still hbW).c6
  rw [hg] at c6
  have i1 : (0 : Int) ≤ (k : Int) := Int.natCast_nonneg _
  have i2 : (k : Int) < (E.fs.length : Int) := by omega
  have HD : Hid (∀ w', Calls Try.prog 60 #[.pointer (some ⟨g, k * 5, none⟩), .int .i64 v.n] w' fun e w2 => e = .returned (.int .i64 1) ∧ w' = w2) := fun w' => hold_no g (k * 5) v.n hx
  clear u0 u1 u2 u3 u4 uz hx
  have Hb : Hid (Below w.heap.size w W) := hbW
  have Hh : Hid (E.Ok w B m) := h
  unfold Ev.cs at hW ⊢
  rw [hva, hk] at hW ⊢
  clear h hbW hblk
  go_enter Try.func52, Try.ntmps52
  go_wp2_with (first | (go_at_call 42; refine HP.mono ?_; rintro e w1 ⟨rfl, rfl⟩) | fail)
  go_quiet (fail)
  go_wp2_with (first | (go_at_call 60; refine (HD.out _).mono ?_; rintro e w2 ⟨rfl, rfl⟩) | fail)
  all_goals first | (go_ret; exact ⟨rfl, (by repeat (first | exact Below.refl _ _ | exact Hb.out | apply below_drewN | apply Below.drew | apply balloc))⟩) | exact ⟨rfl, (by repeat (first | exact Below.refl _ _ | exact Hb.out | apply below_drewN | apply Below.drew | apply balloc))⟩
set_option maxHeartbeats 400000 in
theorem dp_hold (h : E.Ok w B m) (v : Ev) (k : Nat) (hva : v.a = k) (hkk : k < E.fs.length) (hk : v.k = 15) (h1 : 1 ≤ v.n) (h2 : v.n ≤ 16) : Calls Try.prog 52 #[.pointer (some ⟨E.b, 0, none⟩), .agg v.cs] w fun e w' => e = .returned (.int .i64 0) ∧ Step w w' E { E with fs := E.fs.set k { (E.fs.getD k f0) with due := wrap64 ((E.fs.getD k f0).due + v.n) } } B m := by
  generalize hW : w.alloc (.cells v.cs 90) = W
  have hbW : Below w.heap.size w W := by rw [← hW]; exact balloc (Below.refl _ w)
  have hblk : W.heap[w.heap.size]? = some (.cells v.cs 90 (0, 0)) := by rw [← hW]; exact heap_alloc_new w _
  obtain ⟨e0, e1, e2, e3, e4, e5⟩ := ev_cells hblk
  have HP := isPlace_any (h.still hbW) v.a
  rw [hva] at e1 HP
  rw [decide_eq_true (by omega)] at HP
  rw [hk] at e0
  obtain ⟨g, hg, u0, u1, u2, u3, u4, uz⟩ := (h.still hbW).flC hkk
  have c6 := (h.still hbW).c6
  rw [hg] at c6
  have i1 : (0 : Int) ≤ (k : Int) := Int.natCast_nonneg _
  have i2 : (k : Int) < (E.fs.length : Int) := by omega
  have HD : Hid (∀ w', Below w.heap.size w w' → Calls Try.prog 60 #[.pointer (some ⟨g, k * 5, none⟩), .int .i64 v.n] w' fun e w2 => e = .returned (.int .i64 0) ∧ Step w w2 E { E with fs := E.fs.set k { (E.fs.getD k f0) with due := wrap64 ((E.fs.getD k f0).due + v.n) } } B m) := fun w' hb' => by
    obtain ⟨g', hg', x0, x1, x2, x3, x4, xz⟩ := (h.still hb').flC hkk
    obtain rfl : g = g' := by rw [hg] at hg'; simpa using hg'
    exact (hold_ok g (k * 5) v.n _ h1 h2 x3 (xz _)).mono fun e w2 ⟨y1, y2⟩ => ⟨y1, by rw [y2]; exact Step.pre hb' (Step.due (h.still hb') k hkk g hg _)⟩
  clear u0 u1 u2 u3 u4 uz h1 h2
  have Hb : Hid (Below w.heap.size w W) := hbW
  have Hh : Hid (E.Ok w B m) := h
  unfold Ev.cs at hW ⊢
  rw [hva, hk] at hW ⊢
  clear h hbW hblk
  go_enter Try.func52, Try.ntmps52
  go_wp2_with (first | (go_at_call 42; refine HP.mono ?_; rintro e w1 ⟨rfl, rfl⟩) | fail)
  go_quiet (fail)
  go_wp2_with (first | (go_at_call 60; refine (HD.out _ (by repeat (first | exact Below.refl _ _ | exact Hb.out | apply below_drewN | apply Below.drew | apply balloc))).mono ?_; rintro e w2 ⟨rfl, hs2⟩) | fail)
  all_goals first | (go_ret; exact ⟨rfl, hs2⟩) | exact ⟨rfl, hs2⟩
set_option maxHeartbeats 400000 in
theorem dp_fno (h : E.Ok w B m) (v : Ev) (k : Nat) (hva : v.a = k) (hkk : k < E.fs.length) (hk : v.k = 16) (hx : v.n < 0 ∨ ((E.fs.getD k f0).n : Int) ≤ v.n / 8) (h63 : v.n ≤ 9223372036854775807) : Calls Try.prog 52 #[.pointer (some ⟨E.b, 0, none⟩), .agg v.cs] w fun e w' => e = .returned (.int .i64 1) ∧ Below w.heap.size w w' := by
  generalize hW : w.alloc (.cells v.cs 90) = W
  have hbW : Below w.heap.size w W := by rw [← hW]; exact balloc (Below.refl _ w)
  have hblk : W.heap[w.heap.size]? = some (.cells v.cs 90 (0, 0)) := by rw [← hW]; exact heap_alloc_new w _
  obtain ⟨e0, e1, e2, e3, e4, e5⟩ := ev_cells hblk
  have HP := isPlace_any (h.still hbW) v.a
  rw [hva] at e1 HP
  rw [decide_eq_true (by omega)] at HP
  rw [hk] at e0
  obtain ⟨g, hg, u0, u1, u2, u3, u4, uz⟩ := (h.still hbW).flC hkk
  have c6 := (h.still hbW).c6
  rw [hg] at c6
  have i1 : (0 : Int) ≤ (k : Int) := Int.natCast_nonneg _
  have i2 : (k : Int) < (E.fs.length : Int) := by omega
  have HD : Hid (∀ w', Below w.heap.size w w' → Calls Try.prog 61 #[.pointer (some ⟨g, k * 5, none⟩), .int .i64 v.n] w' fun e w2 => e = .returned (.int .i64 1) ∧ w' = w2) := fun w' hb' => by
    obtain ⟨g', hg', x0, x1, x2, x3, x4, xz⟩ := (h.still hb').flC hkk
    obtain rfl : g = g' := by rw [hg] at hg'; simpa using hg'
    by_cases hneg : v.n < 0
    · exact flip_neg g (k * 5) v.n hneg
    · obtain ⟨x, hx'⟩ : ∃ x : Nat, v.n = x := ⟨v.n.toNat, by omega⟩
      rw [hx'] at hx h63 ⊢
      exact flip_far g (k * 5) _ _ _ x x4 (by omega) h63
  clear u0 u1 u2 u3 u4 uz hx h63
  have Hb : Hid (Below w.heap.size w W) := hbW
  have Hh : Hid (E.Ok w B m) := h
  unfold Ev.cs at hW ⊢
  rw [hva, hk] at hW ⊢
  clear h hbW hblk
  go_enter Try.func52, Try.ntmps52
  go_wp2_with (first | (go_at_call 42; refine HP.mono ?_; rintro e w1 ⟨rfl, rfl⟩) | fail)
  go_quiet (fail)
  go_wp2_with (first | (go_at_call 61; refine (HD.out _ (by repeat (first | exact Below.refl _ _ | exact Hb.out | apply below_drewN | apply Below.drew | apply balloc))).mono ?_; rintro e w2 ⟨rfl, rfl⟩) | fail)
  all_goals first | (go_ret; exact ⟨rfl, (by repeat (first | exact Below.refl _ _ | exact Hb.out | apply below_drewN | apply Below.drew | apply balloc))⟩) | exact ⟨rfl, (by repeat (first | exact Below.refl _ _ | exact Hb.out | apply below_drewN | apply Below.drew | apply balloc))⟩
theorem own_at {ao : Option Addr} {n c : Nat} {bs : List Int} (h : w.ownsRow B 5 1 (.slice ao n c) n (bs.map (Value.int .u8))) {i : Nat} (hi : i < n) : ∃ g, ao = some ⟨g, 0, none⟩ ∧ w.cell? ⟨g, i, none⟩ = some (.int .u8 (bs.getD i 0)) ∧ w.frozen? ⟨g, i, none⟩ = false := by
  have hl : bs.length = n := by simpa using h.1
  rcases h.2 with ⟨h1, h2⟩ | ⟨g, cap, cur, hv, hB, hg, hnc, hcm, hcs, htk⟩
  · omega
  · simp at hv
    refine ⟨g, hv.1, ?_, frozen_of_row w _ i _ _ hg⟩
    rw [blk_cell hg i]
    have e1 : (cur.toList.take (n * 1))[i]? = (bs.map (Value.int .u8))[i]? := by rw [htk]
    rw [List.getElem?_take_of_lt (by omega)] at e1
    rw [← Array.getElem?_toList, e1]
    simp [List.getD, show i < bs.length by omega]
theorem flipB_range (x : Int) (b : Nat) : 0 ≤ flipB x b ∧ flipB x b ≤ 255 := by
  unfold flipB bits
  simp only [IntKind.wrap, IntKind.bits, IntKind.signed]
  simp
  omega
set_option maxHeartbeats 400000 in
theorem dp_flip (h : E.Ok w B m) (v : Ev) (k : Nat) (hva : v.a = k) (hkk : k < E.fs.length) (hk : v.k = 16) (x : Nat) (hvn : v.n = x) (hx : x / 8 < (E.fs.getD k f0).n) (h63 : (x : Int) ≤ 9223372036854775807) : Calls Try.prog 52 #[.pointer (some ⟨E.b, 0, none⟩), .agg v.cs] w fun e w' => e = .returned (.int .i64 0) ∧ Step w w' E { E with fs := E.fs.set k { (E.fs.getD k f0) with bs := (E.fs.getD k f0).bs.set (x / 8) (flipB ((E.fs.getD k f0).bs.getD (x / 8) 0) (x % 8)) } } B m := by
  generalize hW : w.alloc (.cells v.cs 90) = W
  have hbW : Below w.heap.size w W := by rw [← hW]; exact balloc (Below.refl _ w)
  have hblk : W.heap[w.heap.size]? = some (.cells v.cs 90 (0, 0)) := by rw [← hW]; exact heap_alloc_new w _
  obtain ⟨e0, e1, e2, e3, e4, e5⟩ := ev_cells hblk
  have HP := isPlace_any (h.still hbW) v.a
  rw [hva] at e1 HP
  rw [decide_eq_true (by omega)] at HP
  rw [hk] at e0
  obtain ⟨g, hg, u0, u1, u2, u3, u4, uz⟩ := (h.still hbW).flC hkk
  have c6 := (h.still hbW).c6
  rw [hg] at c6
  have i1 : (0 : Int) ≤ (k : Int) := Int.natCast_nonneg _
  have i2 : (k : Int) < (E.fs.length : Int) := by omega
  rw [hvn] at e3
  have HD : Hid (∀ w', Below w.heap.size w w' → Calls Try.prog 61 #[.pointer (some ⟨g, k * 5, none⟩), .int .i64 x] w' fun e w2 => e = .returned (.int .i64 0) ∧ Step w w2 E { E with fs := E.fs.set k { (E.fs.getD k f0) with bs := (E.fs.getD k f0).bs.set (x / 8) (flipB ((E.fs.getD k f0).bs.getD (x / 8) 0) (x % 8)) } } B m) := fun w' hb' => by
    obtain ⟨g', hg', x0, x1, x2, x3, x4, xz⟩ := (h.still hb').flC hkk
    obtain rfl : g = g' := by rw [hg] at hg'; simpa using hg'
    obtain ⟨gb, hgb, hy, hyf⟩ := own_at ((h.still hb').fls.byt _ (mem_getD hkk)).1 hx
    rw [hgb] at x4
    exact (flip_ok g (k * 5) gb _ _ x _ x4 hx hy hyf h63).mono fun e w2 ⟨y1, y2⟩ => ⟨y1, by rw [y2]; exact Step.pre hb' ((Step.bit (h.still hb') k hkk gb hgb (x / 8) _ (flipB_range _ _)).post ((Below.refl _ _).drew))⟩
  clear u0 u1 u2 u3 u4 uz hx h63
  have Hb : Hid (Below w.heap.size w W) := hbW
  have Hh : Hid (E.Ok w B m) := h
  unfold Ev.cs at hW ⊢
  rw [hva, hk, hvn] at hW ⊢
  clear h hbW hblk
  go_enter Try.func52, Try.ntmps52
  go_wp2_with (first | (go_at_call 42; refine HP.mono ?_; rintro e w1 ⟨rfl, rfl⟩) | fail)
  go_quiet (fail)
  go_wp2_with (first | (go_at_call 61; refine (HD.out _ (by repeat (first | exact Below.refl _ _ | exact Hb.out | apply below_drewN | apply Below.drew | apply balloc))).mono ?_; rintro e w2 ⟨rfl, hs2⟩) | fail)
  all_goals first | (go_ret; exact ⟨rfl, hs2⟩) | exact ⟨rfl, hs2⟩
end
end Go.Proofs.Ytnhhjelplmdloaa.Et
namespace Go.Proofs.Ytnhhjelplmdloaa.Et
open Go.RowKit Go.Maps
set_option linter.unusedVariables false
set_option linter.unusedSimpArgs false
set_option maxRecDepth 100000
section
variable {E E' : En} {w w' W w1 : World} {B m : Nat}
set_option maxHeartbeats 400000 in
theorem do_path (b : Nat) (v : Ev) (hk : v.k = 8 ∨ v.k = 9 ∨ v.k = 10) (R : Ending → World → Prop) (HR : ∀ w', Below w.heap.size w w' → Calls Try.prog 50 #[.pointer (some ⟨b, 0, none⟩), .agg v.cs] w' fun e w2 => (∃ y, e = .returned (.int .i64 y)) ∧ R e w2) : Calls Try.prog 32 #[.pointer (some ⟨b, 0, none⟩), .agg v.cs] w R := by
  generalize hW : w.alloc (.cells v.cs 90) = W
  have hbW : Below w.heap.size w W := by rw [← hW]; exact balloc (Below.refl _ w)
  have hblk : W.heap[w.heap.size]? = some (.cells v.cs 90 (0, 0)) := by rw [← hW]; exact heap_alloc_new w _
  obtain ⟨e0, e1, e2, e3, e4, e5⟩ := ev_cells hblk
  obtain ⟨r0, r1, r2, r3, r4, r5, r6⟩ := ev_rest hblk
  have Hb : Hid (Below w.heap.size w W) := hbW
  unfold Ev.cs at hW ⊢
  have HR : Hid (∀ w', Below w.heap.size w w' → Calls Try.prog 50 #[.pointer (some ⟨b, 0, none⟩), .agg v.cs] w' fun e w2 => (∃ y, e = .returned (.int .i64 y)) ∧ R e w2) := HR
  unfold Ev.cs at HR
  clear hbW hblk
  rcases hk with hk | hk | hk <;>
  · rw [hk] at HR e0 hW ⊢
    go_enter Try.func32, Try.ntmps32
    go_wp2_with (first | (go_at_call 50; refine (HR.out _ (by repeat (first | exact Below.refl _ _ | exact Hb.out | apply below_drewN | apply Below.drew | apply balloc))).mono ?_; rintro e w2 ⟨⟨y, rfl⟩, hR⟩) | fail)
    all_goals first | exact hR | (go_ret; exact hR)
set_option maxHeartbeats 400000 in
theorem do_packet (b : Nat) (v : Ev) (hk : v.k = 12 ∨ v.k = 13 ∨ v.k = 15 ∨ v.k = 16) (R : Ending → World → Prop) (HR : ∀ w', Below w.heap.size w w' → Calls Try.prog 52 #[.pointer (some ⟨b, 0, none⟩), .agg v.cs] w' fun e w2 => (∃ y, e = .returned (.int .i64 y)) ∧ R e w2) : Calls Try.prog 32 #[.pointer (some ⟨b, 0, none⟩), .agg v.cs] w R := by
  generalize hW : w.alloc (.cells v.cs 90) = W
  have hbW : Below w.heap.size w W := by rw [← hW]; exact balloc (Below.refl _ w)
  have hblk : W.heap[w.heap.size]? = some (.cells v.cs 90 (0, 0)) := by rw [← hW]; exact heap_alloc_new w _
  obtain ⟨e0, e1, e2, e3, e4, e5⟩ := ev_cells hblk
  obtain ⟨r0, r1, r2, r3, r4, r5, r6⟩ := ev_rest hblk
  have Hb : Hid (Below w.heap.size w W) := hbW
  unfold Ev.cs at hW ⊢
  have HR : Hid (∀ w', Below w.heap.size w w' → Calls Try.prog 52 #[.pointer (some ⟨b, 0, none⟩), .agg v.cs] w' fun e w2 => (∃ y, e = .returned (.int .i64 y)) ∧ R e w2) := HR
  unfold Ev.cs at HR
  clear hbW hblk
  rcases hk with hk | hk | hk | hk <;>
  · rw [hk] at HR e0 hW ⊢
    go_enter Try.func32, Try.ntmps32
    go_wp2_with (first | (go_at_call 52; refine (HR.out _ (by repeat (first | exact Below.refl _ _ | exact Hb.out | apply below_drewN | apply Below.drew | apply balloc))).mono ?_; rintro e w2 ⟨⟨y, rfl⟩, hR⟩) | fail)
    all_goals first | exact hR | (go_ret; exact hR)
set_option maxHeartbeats 400000 in
theorem do_split (b : Nat) (v : Ev) (hk : v.k = 11) (R : Ending → World → Prop) (HR : ∀ w', Below w.heap.size w w' → Calls Try.prog 51 #[.pointer (some ⟨b, 0, none⟩), .slice v.sa v.sn v.sc] w' fun e w2 => (∃ y, e = .returned (.int .i64 y)) ∧ R e w2) : Calls Try.prog 32 #[.pointer (some ⟨b, 0, none⟩), .agg v.cs] w R := by
  generalize hW : w.alloc (.cells v.cs 90) = W
  have hbW : Below w.heap.size w W := by rw [← hW]; exact balloc (Below.refl _ w)
  have hblk : W.heap[w.heap.size]? = some (.cells v.cs 90 (0, 0)) := by rw [← hW]; exact heap_alloc_new w _
  obtain ⟨e0, e1, e2, e3, e4, e5⟩ := ev_cells hblk
  obtain ⟨r0, r1, r2, r3, r4, r5, r6⟩ := ev_rest hblk
  have Hb : Hid (Below w.heap.size w W) := hbW
  unfold Ev.cs at hW ⊢
  have HR : Hid (∀ w', Below w.heap.size w w' → Calls Try.prog 51 #[.pointer (some ⟨b, 0, none⟩), .slice v.sa v.sn v.sc] w' fun e w2 => (∃ y, e = .returned (.int .i64 y)) ∧ R e w2) := HR
  clear hbW hblk
  · rw [hk] at e0 hW ⊢
    go_enter Try.func32, Try.ntmps32
    go_wp2_with (first | (go_at_call 51; refine (HR.out _ (by repeat (first | exact Below.refl _ _ | exact Hb.out | apply below_drewN | apply Below.drew | apply balloc))).mono ?_; rintro e w2 ⟨⟨y, rfl⟩, hR⟩) | fail)
    all_goals first | exact hR | (go_ret; exact hR)
set_option maxHeartbeats 400000 in
theorem do_inject (b : Nat) (v : Ev) (hk : v.k = 17) (R : Ending → World → Prop) (HR : ∀ w', Below w.heap.size w w' → Calls Try.prog 53 #[.pointer (some ⟨b, 0, none⟩), .agg #[.int .i64 v.a, .int .i64 v.b], .slice v.ba v.bn v.bc] w' fun e w2 => (∃ y, e = .returned (.int .i64 y)) ∧ R e w2) : Calls Try.prog 32 #[.pointer (some ⟨b, 0, none⟩), .agg v.cs] w R := by
  generalize hW : w.alloc (.cells v.cs 90) = W
  have hbW : Below w.heap.size w W := by rw [← hW]; exact balloc (Below.refl _ w)
  have hblk : W.heap[w.heap.size]? = some (.cells v.cs 90 (0, 0)) := by rw [← hW]; exact heap_alloc_new w _
  obtain ⟨e0, e1, e2, e3, e4, e5⟩ := ev_cells hblk
  obtain ⟨r0, r1, r2, r3, r4, r5, r6⟩ := ev_rest hblk
  have Hb : Hid (Below w.heap.size w W) := hbW
  unfold Ev.cs at hW ⊢
  have HR : Hid (∀ w', Below w.heap.size w w' → Calls Try.prog 53 #[.pointer (some ⟨b, 0, none⟩), .agg #[.int .i64 v.a, .int .i64 v.b], .slice v.ba v.bn v.bc] w' fun e w2 => (∃ y, e = .returned (.int .i64 y)) ∧ R e w2) := HR
  clear hbW hblk
  · rw [hk] at e0 hW ⊢
    go_enter Try.func32, Try.ntmps32
    go_wp2_with (first | (go_at_call 53; refine (HR.out _ (by repeat (first | exact Below.refl _ _ | exact Hb.out | apply below_drewN | apply Below.drew | apply balloc))).mono ?_; rintro e w2 ⟨⟨y, rfl⟩, hR⟩) | fail)
    all_goals first | exact hR | (go_ret; exact hR)
def doKind (k : Int) : Bool := decide (8 ≤ k ∧ k ≤ 13) || decide (15 ≤ k ∧ k ≤ 17)
set_option maxHeartbeats 400000 in
theorem do_other (b : Nat) (v : Ev) (hk : doKind v.k = false) : Calls Try.prog 32 #[.pointer (some ⟨b, 0, none⟩), .agg v.cs] w fun e w' => e = .returned (.int .i64 1) ∧ Below w.heap.size w w' := by
  have k1 : v.k ≠ 8 ∧ v.k ≠ 9 ∧ v.k ≠ 10 ∧ v.k ≠ 11 ∧ v.k ≠ 12 ∧ v.k ≠ 13 ∧ v.k ≠ 15 ∧ v.k ≠ 16 ∧ v.k ≠ 17 := by
    simp [doKind] at hk
    omega
  obtain ⟨j1, j2, j3, j4, j5, j6, j7, j8, j9⟩ := k1
  generalize hW : w.alloc (.cells v.cs 90) = W
  have hbW : Below w.heap.size w W := by rw [← hW]; exact balloc (Below.refl _ w)
  have hblk : W.heap[w.heap.size]? = some (.cells v.cs 90 (0, 0)) := by rw [← hW]; exact heap_alloc_new w _
  obtain ⟨e0, e1, e2, e3, e4, e5⟩ := ev_cells hblk
  obtain ⟨r0, r1, r2, r3, r4, r5, r6⟩ := ev_rest hblk
  have Hb : Hid (Below w.heap.size w W) := hbW
  unfold Ev.cs at hW ⊢
  clear hbW hblk hk
  go_enter Try.func32, Try.ntmps32
  go_wp2
  all_goals first | (go_ret; exact ⟨rfl, Hb.out⟩) | (exfalso; omega)
end
end Go.Proofs.Ytnhhjelplmdloaa.Et
namespace Go.Proofs.Ytnhhjelplmdloaa.Et
open Go.RowKit Go.Maps
set_option linter.unusedVariables false
set_option linter.unusedSimpArgs false
set_option maxRecDepth 100000
section
variable {E E' : En} {w w' W w1 : World} {B m : Nat}
theorem getD_set (L : List Fx) (k : Nat) (hk : k < L.length) (f : Fx) : (L.set k f).getD k f0 = f := by simp [List.getD, hk]
theorem fl_put (L : List Fx) (k : Nat) (hk : k < L.length) (f : Fx) : flCells (L.set k f) = (((((flCells L).set (k * 5) (.int .i64 f.id)).set (k * 5 + 1) (.int .i64 f.src)).set (k * 5 + 2) (.int .i64 f.dst)).set (k * 5 + 3) (.int .i64 f.due)).set (k * 5 + 4) (.slice f.a f.n f.c) := by
  have e0 := flCells_set L k hk { (L.getD k f0) with id := f.id } 0 (by omega) (.int .i64 f.id) rfl
  have h1 : k < (L.set k { (L.getD k f0) with id := f.id }).length := by simpa using hk
  have e1 := flCells_set _ k h1 { (L.getD k f0) with id := f.id, src := f.src } 1 (by omega) (.int .i64 f.src) (by rw [getD_set L k hk]; rfl)
  rw [List.set_set] at e1
  have h2 : k < (L.set k { (L.getD k f0) with id := f.id, src := f.src }).length := by simpa using hk
  have e2 := flCells_set _ k h2 { (L.getD k f0) with id := f.id, src := f.src, dst := f.dst } 2 (by omega) (.int .i64 f.dst) (by rw [getD_set L k hk]; rfl)
  rw [List.set_set] at e2
  have h3 : k < (L.set k { (L.getD k f0) with id := f.id, src := f.src, dst := f.dst }).length := by simpa using hk
  have e3 := flCells_set _ k h3 { (L.getD k f0) with id := f.id, src := f.src, dst := f.dst, due := f.due } 3 (by omega) (.int .i64 f.due) (by rw [getD_set L k hk]; rfl)
  rw [List.set_set] at e3
  have h4 : k < (L.set k { (L.getD k f0) with id := f.id, src := f.src, dst := f.dst, due := f.due }).length := by simpa using hk
  have e4 := flCells_set _ k h4 f 4 (by omega) (.slice f.a f.n f.c) (by rw [getD_set L k hk]; rfl)
  rw [List.set_set] at e4
  rw [e4, e3, e2, e1, e0]
  rfl
def put5at (W : World) (g o : Nat) (v0 v1 v2 v3 v4 : Value) : World := ((((W.setCell ⟨g, o, none⟩ v0).setCell ⟨g, o + 1, none⟩ v1).setCell ⟨g, o + 2, none⟩ v2).setCell ⟨g, o + 3, none⟩ v3).setCell ⟨g, o + 4, none⟩ v4
theorem put5at_eq (W : World) (g o : Nat) (v0 v1 v2 v3 v4 : Value) : ((((W.setCell ⟨g, o, none⟩ v0).setCell ⟨g, o + 1, none⟩ v1).setCell ⟨g, o + 2, none⟩ v2).setCell ⟨g, o + 3, none⟩ v3).setCell ⟨g, o + 4, none⟩ v4 = put5at W g o v0 v1 v2 v3 v4 := rfl
theorem row_put {g n c : Nat} {L : List Fx} (h : w.ownsRow B 43 5 (.slice (some ⟨g, 0, none⟩) n c) n (flCells L)) (k : Nat) (hk : k < L.length) (f : Fx) : (put5at w g (k * 5) (.int .i64 f.id) (.int .i64 f.src) (.int .i64 f.dst) (.int .i64 f.due) (.slice f.a f.n f.c)).ownsRow B 43 5 (.slice (some ⟨g, 0, none⟩) n c) n (flCells (L.set k f)) := by
  rw [fl_put L k hk f]
  have s0 := (World.ownsRow.stored h (k * 5) (.int .i64 f.id)).1
  have s1 := (World.ownsRow.stored s0 (k * 5 + 1) (.int .i64 f.src)).1
  have s2 := (World.ownsRow.stored s1 (k * 5 + 2) (.int .i64 f.dst)).1
  have s3 := (World.ownsRow.stored s2 (k * 5 + 3) (.int .i64 f.due)).1
  exact (World.ownsRow.stored s3 (k * 5 + 4) (.slice f.a f.n f.c)).1
theorem put5at_kept (g o : Nat) (v0 v1 v2 v3 v4 : Value) : Kept W (put5at W g o v0 v1 v2 v3 v4) (fun j => j = g) :=
  ((((kset (P := fun j => j = g) W g o v0 rfl).trans (kset _ g _ v1 rfl)).trans (kset _ g _ v2 rfl)).trans (kset _ g _ v3 rfl)).trans (kset _ g _ v4 rfl)
structure Fd where
  id : Int
  src : Int
  dst : Int
  due : Int
  bs : List Int
def Fx.d (f : Fx) : Fd := ⟨f.id, f.src, f.dst, f.due, f.bs⟩
def RdF (w : World) (ao : Option Addr) (n : Nat) (ds : List Fd) : Prop :=
  ∃ fs : List Fx, fs.map Fx.d = ds ∧ fs.length = n ∧ (∀ f ∈ fs, Rd w f.a f.n f.c f.bs) ∧ (n = 0 ∨ ∃ g, ao = some ⟨g, 0, none⟩ ∧ ∀ i, i < n → ∀ j, j < 5 → w.cell? ⟨g, i * 5 + j, none⟩ = (fs.getD i f0).cs[j]?)
theorem row_cells {ao : Option Addr} {n c : Nat} {fs : List Fx} (h : w.ownsRow B 43 5 (.slice ao n c) n (flCells fs)) (hn : fs.length = n) : n = 0 ∨ ∃ g, ao = some ⟨g, 0, none⟩ ∧ ∀ i, i < n → ∀ j, j < 5 → w.cell? ⟨g, i * 5 + j, none⟩ = (fs.getD i f0).cs[j]? := by
  by_cases h0 : n = 0
  · exact .inl h0
  · obtain ⟨g, L, hva, hBg, hg, hL, ht, hnc, hc⟩ := row_list h (by omega)
    refine .inr ⟨g, hva, fun i hi j hj => ?_⟩
    rw [blk_cell hg _, ← flCells_get fs i (by omega) j hj, ← ht]
    simp only [List.getElem?_toArray]
    rw [List.getElem?_take_of_lt (by omega)]
theorem row_at {g n c k : Nat} {L : List Fx} (h : w.ownsRow B 43 5 (.slice (some ⟨g, 0, none⟩) n c) n (flCells L)) (hk : k < L.length) :
    w.cell? ⟨g, k * 5, none⟩ = some (.int .i64 (L.getD k f0).id) ∧ w.cell? ⟨g, k * 5 + 1, none⟩ = some (.int .i64 (L.getD k f0).src) ∧ w.cell? ⟨g, k * 5 + 2, none⟩ = some (.int .i64 (L.getD k f0).dst) ∧ w.cell? ⟨g, k * 5 + 3, none⟩ = some (.int .i64 (L.getD k f0).due) ∧ w.cell? ⟨g, k * 5 + 4, none⟩ = some (.slice (L.getD k f0).a (L.getD k f0).n (L.getD k f0).c) ∧
    w.frozen? ⟨g, k * 5, none⟩ = false ∧ w.frozen? ⟨g, k * 5 + 1, none⟩ = false ∧ w.frozen? ⟨g, k * 5 + 2, none⟩ = false ∧ w.frozen? ⟨g, k * 5 + 3, none⟩ = false ∧ w.frozen? ⟨g, k * 5 + 4, none⟩ = false := by
  have hl : L.length = n := by have := h.1; rw [flCells_len] at this; omega
  rcases row_cells h hl with h0 | ⟨g', hg', hc⟩
  · omega
  · obtain rfl : g = g' := by simpa using hg'
    obtain ⟨g2, L2, hva, _, hg2, _⟩ := row_list h (by omega)
    obtain rfl : g = g2 := by simpa using hva
    exact ⟨hc k (by omega) 0 (by omega), hc k (by omega) 1 (by omega), hc k (by omega) 2 (by omega), hc k (by omega) 3 (by omega), hc k (by omega) 4 (by omega), frozen_of_row w _ _ _ _ hg2, frozen_of_row w _ _ _ _ hg2, frozen_of_row w _ _ _ _ hg2, frozen_of_row w _ _ _ _ hg2, frozen_of_row w _ _ _ _ hg2⟩
theorem made_zero (n : Nat) : (madeCells (Value.agg #[.int .i64 0, .int .i64 0, .int .i64 0, .int .i64 0, .slice none 0 0]).cells (n * 5)).toList = flCells (List.replicate n f0) := by
  apply List.ext_getElem?
  intro i
  by_cases hi : i < n * 5
  · have h1 := flCells_get (List.replicate n f0) (i / 5) (by simp; omega) (i % 5) (Nat.mod_lt _ (by omega))
    rw [show i / 5 * 5 + i % 5 = i by omega] at h1
    rw [h1]
    have h2 : i % 5 < 5 := Nat.mod_lt _ (by omega)
    have e : (List.replicate n f0).getD (i / 5) f0 = f0 := by simp [List.getD, show i / 5 < n by omega]
    rw [e]
    simp only [madeCells, Array.toList_map, Array.toList_range, List.getElem?_map, List.getElem?_range hi, Option.map_some, Value.cells]
    show some ((#[Value.int .i64 0, Value.int .i64 0, Value.int .i64 0, Value.int .i64 0, Value.slice none 0 0])[i % 5]!) = _
    generalize i % 5 = k at h2
    rcases k with _ | _ | _ | _ | _ | k <;> first | rfl | omega
  · rw [List.getElem?_eq_none (by simp [size_madeCells]; omega), List.getElem?_eq_none (by rw [flCells_len]; simp; omega)]
theorem own_ty {B' t t' s s' n n' : Nat} {v v' : Value} {l l' : List Value} (h : w.ownsRow B t s v n l) (h' : w.ownsRow B' t' s' v' n' l') (ht : t ≠ t') {j : Nat} (hj : v.ownBlock = some j) : v'.ownBlock ≠ some j := by
  intro e
  obtain ⟨c1, h1⟩ := row_ty h hj
  obtain ⟨c2, h2⟩ := row_ty h' e
  rw [h1] at h2
  simp at h2
  exact ht h2.2
set_option maxHeartbeats 400000 in
theorem flights_any (h : E.Ok w B m) (hlen : E.fs.length ≤ 20000) (hsz : ∀ f ∈ E.fs, f.n ≤ 40000) : Calls Try.prog 15 #[.pointer (some ⟨E.b, 0, none⟩)] w fun e w' => ∃ a, e = .returned (.slice a E.fs.length E.fs.length) ∧ RdF w' a E.fs.length (E.fs.map Fx.d) ∧ Below w.heap.size w w' := by
  obtain ⟨i0, hi, hz0, hz1, hz2⟩ := info_parts info_fl
  have c6 := h.c6
  have Hh : Hid (E.Ok w B m) := h
  clear h
  go_enter Try.func15, Try.ntmps15
  go_wp2_with (first
    | (at_make; refine wpList_make_full _ rfl _ _ 39 rfl w.heap.size 43 i0 (.agg #[.int .i64 0, .int .i64 0, .int .i64 0, .int .i64 0, .slice none 0 0]) 5 Try.underlying39 hi hz0 hz1 .i64 .i64 _ _ E.fs.length rfl rfl rfl rfl ?b2 ?b3 (Nat.le_refl _) ?_)
    | fail)
  case b2 => rw [hz2]; omega
  case b3 => unfold maxLen; omega
  intro w1 hown hgrow
  have HB1 : Hid (Below w.heap.size w w1) := (Below.refl _ w).grown hgrow (Nat.le_refl _) (fun k hk => by cases hk)
  have HO1 : Hid (w1.ownsRow w.heap.size 43 5 (.slice (some ⟨w.heap.size, 0, none⟩) E.fs.length E.fs.length) E.fs.length (flCells (List.replicate E.fs.length f0))) := by rw [← made_zero]; exact hown
  have c61 := (Hh.out.still HB1.out).c6
  clear hown hgrow
  go_wp2
  have HL : Hid (∀ f ∈ E.fs, f.n ≤ 40000) := hsz
  clear hsz c6
  generalize hN : E.fs.length = N at *
  go_loopw [17] (fun i wr => ∃ (k : Nat) (L : List Fx), k ≤ N ∧ i = .int .i64 k ∧ L.length = N ∧ wr.ownsRow w.heap.size 43 5 (.slice (some ⟨w.heap.size, 0, none⟩) N N) N (flCells L) ∧ (∀ j, j < k → (L.getD j f0).d = (E.fs.getD j f0).d ∧ (L.getD j f0).byt wr w.heap.size) ∧ Below w.heap.size w wr) (fun i _ => N - (intOf i).toNat)
  case atStart => exact ⟨0, List.replicate N f0, Nat.zero_le _, rfl, by simp, HO1.out, fun j hj => by omega, HB1.out⟩
  case round =>
    obtain ⟨k, L, hk, rfl, hL, hrow, hall, hbel⟩ := hrel
    have HR : Hid (wr.ownsRow w.heap.size 43 5 (.slice (some ⟨w.heap.size, 0, none⟩) N N) N (flCells L)) := hrow
    have HA : Hid (∀ j, j < k → (L.getD j f0).d = (E.fs.getD j f0).d ∧ (L.getD j f0).byt wr w.heap.size) := hall
    have HB : Hid (Below w.heap.size w wr) := hbel
    clear hrow hall hbel
    by_cases hlt : k < N
    · have hE := Hh.out.still HB.out
      obtain ⟨g, hg, u0, u1, u2, u3, u4, uz⟩ := hE.flC (k := k) (by omega)
      have hfm : E.fs.getD k f0 ∈ E.fs := mem_getD (by omega)
      have hfb := hE.fls.byt _ hfm
      have hfn := HL.out _ hfm
      generalize hf : E.fs.getD k f0 = f at u0 u1 u2 u3 u4 hfb hfn
      have HC : Hid (∀ w', Below wr.heap.size wr w' → Calls Try.prog 36 #[.agg #[.int .i64 f.id, .int .i64 f.src, .int .i64 f.dst, .int .i64 f.due, .slice f.a f.n f.c]] w' fun e w2 => ∃ g, e = .returned (.agg #[.int .i64 f.id, .int .i64 f.src, .int .i64 f.dst, .int .i64 f.due, .slice (some ⟨g, 0, none⟩) f.n f.n]) ∧ w2.ownsRow w'.heap.size 5 1 (.slice (some ⟨g, 0, none⟩) f.n f.n) f.n (f.bs.map (Value.int .u8)) ∧ Below w'.heap.size w' w2) := fun w' hb => copyFlight_any f.id f.src f.dst f.due f.a f.n f.c f.bs (hfb.rd.still hb) (by omega)
      have hrr := hfb.2
      have i1 : (0 : Int) ≤ (k : Int) := Int.natCast_nonneg _
      have i2 : (k : Int) < (N : Int) := by omega
      have hwz : w.heap.size ≤ wr.heap.size := HB.out.size
      rw [hg]
      clear hE hfb hfm uz hfn
      go_wp2_with (first
        | (go_at_call 36; refine (HC.out _ (by repeat (first | exact Below.refl _ _ | apply Below.drew | apply balloc))).mono ?_; rintro e w2 ⟨gb, rfl, ho, hb2⟩; have B2 : Hid (Below wr.heap.size wr w2) := (bstepA (Below.refl _ wr) hb2); have HR2 : Hid (w2.ownsRow w.heap.size 43 5 (.slice (some ⟨w.heap.size, 0, none⟩) N N) N (flCells L)) := own_still HR.out B2.out; have Ho : Hid (w2.ownsRow w.heap.size 5 1 (.slice (some ⟨gb, 0, none⟩) f.n f.n) f.n (f.bs.map (Value.int .u8))) := (own_lower ho (by simp; omega)); obtain ⟨x0, x1, x2, x3, x4, y0, y1, y2, y3, y4⟩ := row_at HR2.out (show k < L.length by omega); clear ho hb2)
        | fail)
      rw [put5at_eq]
      have kp : Kept w2 (put5at w2 w.heap.size (k * 5) (.int .i64 f.id) (.int .i64 f.src) (.int .i64 f.dst) (.int .i64 f.due) (.slice (some ⟨gb, 0, none⟩) f.n f.n)) (fun j => j = w.heap.size) := put5at_kept _ _ _ _ _ _ _
      refine ⟨⟨k + 1, L.set k ⟨f.id, f.src, f.dst, f.due, some ⟨gb, 0, none⟩, f.n, f.n, f.bs⟩, by omega, by go_num, by simpa using hL, row_put HR2.out k (by omega) ⟨f.id, f.src, f.dst, f.due, some ⟨gb, 0, none⟩, f.n, f.n, f.bs⟩, ?_, ?_⟩, ?_⟩
      · intro j hj
        by_cases e : j = k
        · subst e
          rw [getD_set L j (by omega), hf]
          refine ⟨rfl, kp.owns Ho.out (fun q hq e => ?_), hrr⟩
          exact own_ty Ho.out HR2.out (by decide) hq (by rw [e]; rfl)
        · have e2 : (L.set k ⟨f.id, f.src, f.dst, f.due, some ⟨gb, 0, none⟩, f.n, f.n, f.bs⟩).getD j f0 = L.getD j f0 := by
            simp [List.getD, List.getElem?_set, show ¬ k = j by omega]
          rw [e2]
          obtain ⟨a1, a2⟩ := HA.out j (by omega)
          have a3 := a2.keep (Kept.ofBelow B2.out (fun _ => False)) (fun _ _ => id)
          exact ⟨a1, a3.keep kp (fun q hq e => own_ty a3.1 HR2.out (by decide) hq (by rw [e]; rfl))⟩
      · exact (HB.out.trans (B2.out.mono HB.out.size)).trans (kp.below (by have := B2.out.size; omega) (fun j hj e => by omega))
      · simp [intOf]; omega
    · obtain rfl : k = N := by omega
      go_wp2
      go_ret
      rw [hN]
      refine ⟨_, rfl, ⟨L, ?_, hL, ?_, row_cells HR.out hL⟩, HB.out⟩
      · apply List.ext_getElem
        · simp [hL, hN]
        · intro i h1 h2
          have hi : i < k := by simpa [hL] using h1
          have := (HA.out i hi).1
          simp only [List.getElem_map]
          simpa [List.getD, List.getElem?_eq_getElem (show i < L.length by omega), List.getElem?_eq_getElem (show i < E.fs.length by omega)] using this
      · intro x hx
        obtain ⟨i, hi, rfl⟩ := List.getElem_of_mem hx
        have := (HA.out i (by omega)).2.rd
        simpa [List.getD, List.getElem?_eq_getElem hi] using this
end
end Go.Proofs.Ytnhhjelplmdloaa.Et
namespace Go.Proofs.Ytnhhjelplmdloaa.Et
open Go.RowKit Go.Maps
set_option linter.unusedVariables false
set_option linter.unusedSimpArgs false
set_option maxRecDepth 100000
structure En.Ko (E : En) (w : World) (m : Nat) : Prop where
  blk : w.heap[E.b]? = some (.cells E.cs 76 (0, 0))
  nod : NodAt w E.bn E.nn E.up E.inc E.tick
  cut : Cut w E.bc m E.cut
  del : Del w E.bd m E.dl
  n16 : 1 ≤ E.nn ∧ E.nn ≤ 16
section
variable {E E' : En} {w w' W w1 : World} {B m : Nat}
theorem En.Ok.ko (h : E.Ok w B m) : E.Ko w m := ⟨h.blk, h.nod, h.cut, h.del, h.n16⟩
def En.core (E : En) (j : Nat) : Prop := j = E.b ∨ j = E.bn ∨ j = E.bc ∨ j = E.bd
theorem En.Ko.keep {P : Nat → Prop} (h : E.Ko w m) (k : Kept w w' P) (hp : ∀ j, E.core j → ¬ P j) : E.Ko w' m :=
  ⟨k.obj h.blk (hp _ (.inl rfl)), h.nod.keep k (hp _ (.inr (.inl rfl))), h.cut.keep k (hp _ (.inr (.inr (.inl rfl)))), h.del.keep k (hp _ (.inr (.inr (.inr rfl)))), h.n16⟩
theorem En.Ko.still (h : E.Ko w m) (hb : Below w.heap.size w w') : E.Ko w' m := h.keep (Kept.ofBelow hb (fun _ => False)) (fun _ _ => id)
theorem En.Ko.c (h : E.Ko w m) (i : Nat) {v : Value} (hv : E.cs[i]? = some v) : w.cell? ⟨E.b, i, none⟩ = some v := (blk_cell h.blk i).trans hv
theorem En.Ko.c0 (h : E.Ko w m) : w.cell? ⟨E.b, 0, none⟩ = some (.int .i64 E.clock) := h.c 0 rfl
theorem En.Ko.c1 (h : E.Ko w m) : w.cell? ⟨E.b, 1, none⟩ = some (.slice (some ⟨E.bn, 0, none⟩) E.nn E.nn) := h.c 1 rfl
theorem En.Ko.c2 (h : E.Ko w m) : w.cell? ⟨E.b, 2, none⟩ = some (.map (some E.bc)) := h.c 2 rfl
theorem En.Ko.c6 (h : E.Ko w m) : w.cell? ⟨E.b, 6, none⟩ = some (.slice E.va E.fs.length E.vc) := h.c 6 rfl
theorem En.Ko.fz (h : E.Ko w m) (i : Nat) : w.frozen? ⟨E.b, i, none⟩ = false := frozen_of_row w _ i _ _ h.blk
theorem En.Ko.nodC (h : E.Ko w m) {p : Nat} (hp : p < E.nn) : w.cell? ⟨E.bn, p * 3, none⟩ = some (.bool (E.up p)) ∧ w.cell? ⟨E.bn, p * 3 + 1, none⟩ = some (.int .i64 (E.inc p)) ∧ w.cell? ⟨E.bn, p * 3 + 2, none⟩ = some (.int .i64 (E.tick p)) := by
  obtain ⟨cs, h1, h2, h3⟩ := h.nod
  exact ⟨(blk_cell h1 _).trans (h3 p hp).1, (blk_cell h1 _).trans (h3 p hp).2.1, (blk_cell h1 _).trans (h3 p hp).2.2⟩
set_option maxHeartbeats 400000 in
theorem isCut_ko (h : E.Ko w m) (p q : Nat) (hp : p < 16) (hq : q < 16) : Calls Try.prog 46 #[.pointer (some ⟨E.b, 0, none⟩), .agg #[.int .i64 p, .int .i64 q]] w fun e w' => e = .returned (.bool (E.cut p q)) ∧ Below w.heap.size w w' := by
  generalize hW : w.alloc (.cells #[.int .i64 p, .int .i64 q] 80) = W
  have hbW : Below w.heap.size w W := by rw [← hW]; exact (Below.refl _ w).alloc (Nat.le_refl _) _
  have h1 := h.still hbW
  obtain ⟨D, hown, hD⟩ := h1.cut
  have hk := kl_some p q hp hq
  unfold pv at hk
  rw [← hD p q hp hq]
  have hS : ∀ w', Below W.heap.size W w' → w'.cell? ⟨E.b, 2, none⟩ = some (.map (some E.bc)) ∧ w'.cell? ⟨w.heap.size, 0, none⟩ = some (.int .i64 p) ∧ w'.cell? ⟨w.heap.size, 1, none⟩ = some (.int .i64 q) ∧ (Instr.lookup 73 (.map (some E.bc)) (.agg #[.int .i64 p, .int .i64 q]) true).run Try.prog w' = .ok (.tuple #[.agg #[], .bool (Maps.has D (klP Try.prog p q))]) w' ∧ Below W.heap.size W w' := by
    intro w' hb
    refine ⟨(h1.still hb).c2, ?_, ?_, ?_, hb⟩
    · subst hW; exact new_cells hb 0 rfl
    · subst hW; exact new_cells hb 1 rfl
    · obtain ⟨v, ps, hrun, hv⟩ := ((Kept.ofBelow hb (fun _ => False)).map hown id).look_ok law Try.underlying73 (zeroU _) (zd := .agg []) (zp := []) unitElem_mk hk
      obtain ⟨rfl, _⟩ := unitElem_inv hv
      exact hrun
  have hs0 := hS W (Below.refl _ _)
  have hb0 : Hid (Below w.heap.size w W) := hbW
  clear h h1 hD hown hbW
  go_enter Try.func46, Try.ntmps46
  go_wp2
  go_region_held3 (fun w' => w'.cell? ⟨E.b, 2, none⟩ = some (.map (some E.bc)) ∧ w'.cell? ⟨w.heap.size, 0, none⟩ = some (.int .i64 p) ∧ w'.cell? ⟨w.heap.size, 1, none⟩ = some (.int .i64 q) ∧ (Instr.lookup 73 (.map (some E.bc)) (.agg #[.int .i64 p, .int .i64 q]) true).run Try.prog w' = .ok (.tuple #[.agg #[], .bool (Maps.has D (klP Try.prog p q))]) w' ∧ Below W.heap.size W w')
    (first | (go_split_ands; apply hS; repeat (first | assumption | apply Below.drew | apply balloc))) (fail)
  all_goals (go_wp2; go_ret; rename_i hHeld; exact ⟨rfl, bstep hb0.out hHeld.2.2.2.2⟩)
theorem isCut_isko (h : E.Ko w m) {p q : Nat} (hp : p < 16) (hq : q < 16) {c : Bool} (hc : E.cut p q = c) : ∀ w', Below w.heap.size w w' → Calls Try.prog 46 #[.pointer (some ⟨E.b, 0, none⟩), .agg #[.int .i64 p, .int .i64 q]] w' fun e w2 => e = .returned (.bool c) ∧ Below w'.heap.size w' w2 :=
  fun w' hb => (isCut_ko (h.still hb) p q hp hq).mono fun e w2 ⟨h1, h2⟩ => ⟨by rw [h1, hc], h2⟩
set_option maxHeartbeats 1000000 in
theorem barrier_ko (h : E.Ko w m) (f : Fx) (p q : Nat) (h1 : f.src = p) (h2 : f.dst = q) (hp : p < E.nn) (hq : q < E.nn) : Calls Try.prog 27 #[.pointer (some ⟨E.b, 0, none⟩), .agg f.cs] w fun e w' => e = .returned (.int .i64 (barE E p q)) ∧ Below w.heap.size w w' := by
  have hn := h.n16
  have HPa := fun w => pathOf_any (w := w) f
  rw [h1, h2] at HPa
  unfold Fx.cs at HPa ⊢
  rw [h1, h2] at HPa ⊢
  generalize hW : w.alloc (.cells #[.int .i64 f.id, .int .i64 p, .int .i64 q, .int .i64 f.due, .slice f.a f.n f.c] 43) = W
  have hbW : Below w.heap.size w W := by rw [← hW]; exact balloc (Below.refl _ w)
  have hblk : W.heap[w.heap.size]? = some (.cells #[.int .i64 f.id, .int .i64 p, .int .i64 q, .int .i64 f.due, .slice f.a f.n f.c] 43 (0, 0)) := by rw [← hW]; exact heap_alloc_new w _
  obtain ⟨e0, e1, e2, e3, e4⟩ := fl_cells hblk
  have HPa : Hid (∀ w, Calls Try.prog 49 #[.agg #[.int .i64 f.id, .int .i64 p, .int .i64 q, .int .i64 f.due, .slice f.a f.n f.c]] w fun e w' => e = .returned (.agg #[.int .i64 p, .int .i64 q]) ∧ Below w.heap.size w w') := HPa
  generalize hc : E.cut p q = c
  have HC : Hid (∀ w', Below w.heap.size w w' → Calls Try.prog 46 #[.pointer (some ⟨E.b, 0, none⟩), .agg #[.int .i64 p, .int .i64 q]] w' fun e w2 => e = .returned (.bool c) ∧ Below w'.heap.size w' w2) := isCut_isko h (by omega) (by omega) hc
  have Hh : Hid (E.Ko w m) := h
  have Hb : Hid (Below w.heap.size w W) := hbW
  have i1 : (0 : Int) ≤ (q : Int) := Int.natCast_nonneg _
  have i2 : (q : Int) < (E.nn : Int) := by omega
  unfold barE
  rw [hc]
  generalize hu : E.up q = u
  clear h hbW hblk
  cases c <;> cases u <;>
  · go_enter Try.func27, Try.ntmps27
    go_wp2_with (first
      | (go_at_call 49; refine (HPa.out _).mono ?_; rintro e w1 ⟨rfl, hb1⟩; have r1 : Hid (Below w.heap.size w w1) := bstep Hb.out hb1; have k1 := below_at hb1 e1; have k2 := below_at hb1 e2; clear hb1)
      | (go_at_call 46; refine (HC.out _ r1.out).mono ?_; rintro e w2 ⟨rfl, hb2⟩; have r2 : Hid (Below w.heap.size w w2) := bstep r1.out hb2; have m2 := below_at hb2 k2; have c1 := (Hh.out.still r2.out).c1; have d0 := ((Hh.out.still r2.out).nodC hq).1; rw [hu] at d0; clear hb2)
      | fail)
    first
      | (go_ret; exact ⟨rfl, r2.out⟩)
      | (go_quiet (fail); go_wp2; go_ret; exact ⟨rfl, below_drewN r2.out _⟩)
end
end Go.Proofs.Ytnhhjelplmdloaa.Et
namespace Go.Proofs.Ytnhhjelplmdloaa.Et
open Go.RowKit Go.Maps
set_option linter.unusedVariables false
set_option linter.unusedSimpArgs false
set_option maxRecDepth 100000
def ckN (E : En) : Int := wrap64 (E.clock + 1)
def stays (E : En) (f : Fx) : Bool := decide (f.due ≠ ckN E)
def comes (E : En) (f : Fx) : Bool := decide (f.due = ckN E) && decide (barE E f.src.toNat f.dst.toNat = 0)
def lefts (E : En) (k : Nat) : List Fx := (E.fs.take k).filter (stays E)
def arrs (E : En) (k : Nat) : List Fx := (E.fs.take k).filter (comes E)
theorem take_next {fs : List Fx} {k : Nat} (hk : k < fs.length) : fs.take (k + 1) = fs.take k ++ [fs.getD k f0] := by
  rw [List.take_succ_eq_append_getElem hk]
  simp [List.getD, List.getElem?_eq_getElem hk]
theorem lefts_next {E : En} {k : Nat} (hk : k < E.fs.length) : lefts E (k + 1) = lefts E k ++ (if stays E (E.fs.getD k f0) then [E.fs.getD k f0] else []) := by
  unfold lefts
  rw [take_next hk, List.filter_append]
  congr 1
  simp [List.filter_cons]
theorem arrs_next {E : En} {k : Nat} (hk : k < E.fs.length) : arrs E (k + 1) = arrs E k ++ (if comes E (E.fs.getD k f0) then [E.fs.getD k f0] else []) := by
  unfold arrs
  rw [take_next hk, List.filter_append]
  congr 1
  simp [List.filter_cons]
theorem lefts_le (E : En) (k : Nat) : (lefts E k).length ≤ k := by
  unfold lefts
  exact Nat.le_trans (List.length_filter_le _ _) (by simp; omega)
theorem arrs_le (E : En) (k : Nat) : (arrs E k).length ≤ k := by
  unfold arrs
  exact Nat.le_trans (List.length_filter_le _ _) (by simp; omega)
structure RI (w wr : World) (E : En) (B m g k : Nat) (L : List Value) (av : Value) : Prop where
  ko : En.Ko { E with clock := ckN E } wr m
  blk : wr.heap[g]? = some (.cells L.toArray 43 (0, 0))
  len : L.length = E.vc * 5
  tk : L.take ((lefts E k).length * 5) = flCells (lefts E k)
  rest : ∀ j, k * 5 ≤ j → j < E.fs.length * 5 → L[j]? = (flCells E.fs)[j]?
  byt : ∀ f ∈ E.fs, f.byt wr B
  arr : wr.ownsRow w.heap.size 43 5 av (arrs E k).length (flCells (arrs E k))
  kept : Kept w wr (fun j => j = g ∨ j = E.b)
section
variable {E E' : En} {w w' W w1 wr wr' : World} {B m g k : Nat} {L : List Value} {av : Value}
theorem RI.still (h : RI w wr E B m g k L av) (hb : Below wr.heap.size wr wr') : RI w wr' E B m g k L av :=
  ⟨h.ko.still hb, (hb.block _ (lt_heap h.blk)).trans h.blk, h.len, h.tk, h.rest, fun f hf => (h.byt f hf).keep (Kept.ofBelow hb (fun _ => False)) (fun _ _ => id), own_still h.arr hb, h.kept.trans (Kept.ofBelow hb _)⟩
theorem RI.core (h : RI w wr E B m g k L av) : ∀ j, En.core { E with clock := ckN E } j → ¬ j = g := by
  intro j hj e
  subst e
  have hb := h.blk
  rcases hj with e | e | e | e
  · have := h.ko.blk; rw [← e, hb] at this; simp at this
  · obtain ⟨cs, h1, _⟩ := h.ko.nod; rw [← e, hb] at h1; simp at h1
  · obtain ⟨es, cl, h1⟩ := h.ko.cut.obj; rw [← e, hb] at h1; simp at h1
  · obtain ⟨es, cl, h1⟩ := h.ko.del.obj; rw [← e, hb] at h1; simp at h1
theorem RI.push (h : RI w wr E B m g k L av) (hk : k < E.fs.length) (hN : E.fs.length ≤ E.vc) (hg : g < w.heap.size) (hs : stays E (E.fs.getD k f0) = true) :
    RI w (wr.setCells g (0 + (lefts E k).length * 5) (E.fs.getD k f0).cs.toList) E B m g (k + 1) (splice L (0 + (lefts E k).length * 5) (E.fs.getD k f0).cs.toList) av := by
  have hll := lefts_le E k
  have hc5 : (E.fs.getD k f0).cs.toList.length = 5 := rfl
  have hL := h.len
  have hfit : 0 + (lefts E k).length * 5 + (E.fs.getD k f0).cs.toList.length ≤ L.length := by rw [hc5, hL]; omega
  have kp := kept_setCells (g := g) (E.fs.getD k f0).cs.toList (0 + (lefts E k).length * 5) wr
  have hcm : comes E (E.fs.getD k f0) = false := by
    unfold stays at hs
    unfold comes
    simp at hs
    simp [hs]
  refine ⟨h.ko.keep kp h.core, heap_setCells _ _ wr L h.blk hfit, ?_, ?_, ?_, ?_, ?_, h.kept.trans (kp.mono (fun _ _ e => .inl e))⟩
  · rw [length_splice _ _ _ hfit, hL]
  · rw [lefts_next hk, hs]
    simp only [if_true, List.length_append, List.length_cons, List.length_nil]
    unfold splice
    have e0 : L.take (0 + (lefts E k).length * 5) = flCells (lefts E k) := by rw [Nat.zero_add]; exact h.tk
    rw [e0, ← List.append_assoc, List.take_append_of_le_length (by simp only [List.length_append, flCells_len, hc5]; omega), List.take_of_length_le (by simp only [List.length_append, flCells_len, hc5]; omega), flCells_app]
    simp [flCells]
  · intro j hj hj2
    rw [← h.rest j (by omega) hj2]
    unfold splice
    have h1 : (L.take (0 + (lefts E k).length * 5)).length = (lefts E k).length * 5 := by rw [List.length_take]; omega
    rw [List.getElem?_append_right (by rw [h1]; omega), h1, List.getElem?_append_right (by rw [hc5]; omega), hc5, List.getElem?_drop]
    congr 1
    omega
  · intro f hf
    exact (h.byt f hf).keep kp (fun j hj e => by
      obtain ⟨cur, hc⟩ := row_ty (h.byt f hf).1 hj
      rw [e, h.blk] at hc
      simp at hc)
  · rw [arrs_next hk, hcm]
    simp only [Bool.false_eq_true, if_false, List.append_nil]
    exact kp.owns h.arr (fun j hj e => by have := (World.ownsRow.lt h.arr j hj).1; omega)
theorem RI.skip (h : RI w wr E B m g k L av) (hk : k < E.fs.length) (hs : stays E (E.fs.getD k f0) = false) (hc : comes E (E.fs.getD k f0) = false) : RI w wr E B m g (k + 1) L av := by
  have e1 : lefts E (k + 1) = lefts E k := by rw [lefts_next hk, hs]; simp
  have e2 : arrs E (k + 1) = arrs E k := by rw [arrs_next hk, hc]; simp
  exact ⟨h.ko, h.blk, h.len, by rw [e1]; exact h.tk, fun j hj => h.rest j (by omega), h.byt, by rw [e2]; exact h.arr, h.kept⟩
theorem RI.come {av' : Value} (h : RI w wr E B m g k L av) (hk : k < E.fs.length) (hg : g < w.heap.size) (hbw : E.b < w.heap.size) (hlt : ∀ j, En.core { E with clock := ckN E } j → j < w.heap.size) (hbl : ∀ f ∈ E.fs, ∀ j, f.v.ownBlock = some j → j < w.heap.size) (hs : stays E (E.fs.getD k f0) = false) (hc : comes E (E.fs.getD k f0) = true) (hown : wr'.ownsRow w.heap.size 43 5 av' ((arrs E k).length + 1) (flCells (arrs E k) ++ (E.fs.getD k f0).cs.toList)) (hgrow : wr.grownBy wr' av.ownBlock) :
    RI w wr' E B m g (k + 1) L av' := by
  have e1 : lefts E (k + 1) = lefts E k := by rw [lefts_next hk, hs]; simp
  have e2 : arrs E (k + 1) = arrs E k ++ [E.fs.getD k f0] := by rw [arrs_next hk, hc]; simp
  have kp := Kept.ofGrown hgrow
  have hav : ∀ j, av.ownBlock = some j → w.heap.size ≤ j := fun j hj => (World.ownsRow.lt h.arr j hj).1
  have hno : ∀ j, j < w.heap.size → ¬ some j = av.ownBlock := fun j hj e => by have := hav j e.symm; omega
  refine ⟨h.ko.keep kp (fun j hj => hno j (hlt j hj)), kp.obj h.blk (hno g hg), h.len, by rw [e1]; exact h.tk, fun j hj => h.rest j (by omega), fun f hf => (h.byt f hf).keep kp (fun j hj => hno j (hbl f hf j hj)), ?_, h.kept.step kp (fun j hj => .inr (hav j hj.symm))⟩
  rw [e2, flCells_app]
  simp only [List.length_append, List.length_cons, List.length_nil]
  simpa [flCells] using hown
theorem RI.at (h : RI w wr E B m g k L av) (hk : k < E.fs.length) : wr.cell? ⟨g, k * 5, none⟩ = some (.int .i64 (E.fs.getD k f0).id) ∧ wr.cell? ⟨g, k * 5 + 1, none⟩ = some (.int .i64 (E.fs.getD k f0).src) ∧ wr.cell? ⟨g, k * 5 + 2, none⟩ = some (.int .i64 (E.fs.getD k f0).dst) ∧ wr.cell? ⟨g, k * 5 + 3, none⟩ = some (.int .i64 (E.fs.getD k f0).due) ∧ wr.cell? ⟨g, k * 5 + 4, none⟩ = some (.slice (E.fs.getD k f0).a (E.fs.getD k f0).n (E.fs.getD k f0).c) := by
  have hx : ∀ j, j < 5 → wr.cell? ⟨g, k * 5 + j, none⟩ = (E.fs.getD k f0).cs[j]? := by
    intro j hj
    rw [blk_cell h.blk _, ← flCells_get E.fs k hk j hj, ← h.rest _ (by omega) (by omega)]
    simp
  exact ⟨hx 0 (by omega), hx 1 (by omega), hx 2 (by omega), hx 3 (by omega), hx 4 (by omega)⟩
theorem RI.olds (h : RI w wr E B m g k L av) : ∀ j u, (flCells (lefts E k))[j]? = some u → wr.cell? ⟨g, 0 + j, none⟩ = some u := by
  intro j u hu
  have hj := (List.getElem?_eq_some_iff.1 hu).1
  rw [flCells_len] at hj
  rw [blk_cell h.blk _, Nat.zero_add]
  simp only [List.getElem?_toArray]
  rw [← hu, ← h.tk, List.getElem?_take_of_lt hj]
theorem RI.spare (h : RI w wr E B m g k L av) (hk : k < E.fs.length) (hN : E.fs.length ≤ E.vc) : ∀ j, j < (E.fs.getD k f0).cs.toList.length → (wr.cell? ⟨g, 0 + (lefts E k).length * 5 + j, none⟩).isSome = true ∧ wr.frozen? ⟨g, 0 + (lefts E k).length * 5 + j, none⟩ = false := by
  intro j hj
  have hc5 : (E.fs.getD k f0).cs.toList.length = 5 := rfl
  rw [hc5] at hj
  have := lefts_le E k
  have hl := h.len
  refine ⟨?_, frozen_of_row wr _ _ _ _ h.blk⟩
  rw [blk_cell h.blk _]
  simp only [List.getElem?_toArray]
  rw [List.getElem?_eq_getElem (by omega)]
  rfl
theorem lefts_sub (E : En) (k : Nat) : (lefts E k).Sublist E.fs := (List.filter_sublist).trans (List.take_sublist _ _)
theorem arrs_sub (E : En) (k : Nat) : (arrs E k).Sublist E.fs := (List.filter_sublist).trans (List.take_sublist _ _)
theorem RI.last {WC : World} {L' : List Value} (h0 : E.Ok w B m) (h : RI w wr E B m g k L av) (hva : (Value.slice E.va E.fs.length E.vc).ownBlock = some g) (hBg : B ≤ g) (hvc : E.vc ≤ maxLen) (hfk : (lefts E k).length ≤ E.vc) (kc : Kept wr WC (fun j => j = g)) (hg : WC.heap[g]? = some (.cells L'.toArray 43 (0, 0))) (hl : L'.length = E.vc * 5) (ht : L'.take ((lefts E k).length * 5) = flCells (lefts E k)) :
    Step w (WC.setCell ⟨E.b, 6, none⟩ (.slice (some ⟨g, 0, none⟩) (lefts E k).length E.vc)) E { E with clock := ckN E, va := some ⟨g, 0, none⟩, fs := lefts E k } B m ∧
    (∃ a n c, av = .slice a n c ∧ RdF (WC.setCell ⟨E.b, 6, none⟩ (.slice (some ⟨g, 0, none⟩) (lefts E k).length E.vc)) a n ((arrs E k).map Fx.d) ∧ n = (arrs E k).length) := by
  have hgr := h0.row_ne hva
  have hko := h.ko.keep kc h.core
  have ks : Kept WC (WC.setCell ⟨E.b, 6, none⟩ (.slice (some ⟨g, 0, none⟩) (lefts E k).length E.vc)) (fun j => j = E.b) := kset WC E.b 6 _ rfl
  have k4 : Kept w (WC.setCell ⟨E.b, 6, none⟩ (.slice (some ⟨g, 0, none⟩) (lefts E k).length E.vc)) (fun j => j = g ∨ j = E.b) := (h.kept.trans (kc.mono (fun _ _ e => .inl e))).trans (ks.mono (fun _ _ e => .inr e))
  have kr : Kept wr (WC.setCell ⟨E.b, 6, none⟩ (.slice (some ⟨g, 0, none⟩) (lefts E k).length E.vc)) (fun j => j = g ∨ j = E.b) := (kc.mono (fun _ _ e => .inl e)).trans (ks.mono (fun _ _ e => .inr e))
  have hsub := lefts_sub E k
  have hbyt : ∀ f ∈ E.fs, f.byt (WC.setCell ⟨E.b, 6, none⟩ (.slice (some ⟨g, 0, none⟩) (lefts E k).length E.vc)) B := fun f hf => (h.byt f hf).keep kr (fun j hj e => by
    rcases e with e | e
    · exact (h0.byt_ne hf hj).2.2.2.2 (by rw [e]; exact hva)
    · exact (h0.byt_ne hf hj).1 e)
  refine ⟨⟨⟨?_, ?_, ?_, ?_, ⟨?_, ?_, ?_⟩, h0.ge, h0.ne, h0.n16, ?_, h0.dly⟩, ?_, ?_⟩, ?_⟩
  · have := blk_set (i := 6) (v := .slice (some ⟨g, 0, none⟩) (lefts E k).length E.vc) hko.blk rfl
    rw [this]
    simp [En.cs]
  · exact hko.nod.keep ks (fun e => h0.b_bn e.symm)
  · exact hko.cut.keep ks (fun e => h0.b_bc e.symm)
  · exact hko.del.keep ks (fun e => h0.b_bd e.symm)
  · exact own_set (list_row hBg hg hl ht hfk hvc) (by simp [Value.ownBlock]; exact hgr.1)
  · exact fun f hf => hbyt f (hsub.subset hf)
  · exact h0.fls.apt.sublist hsub
  · exact fun f hf => h0.pth f (hsub.subset hf)
  · exact k4.mono (fun j _ e => e.elim (fun e => .inr (.inr (.inr (.inr (.inl (by rw [e]; exact hva)))))) (fun e => .inl e))
  · intro j hj
    left
    rcases hj with e | e | e | e | e | ⟨x, hx, e⟩
    · exact .inl e
    · exact .inr (.inl e)
    · exact .inr (.inr (.inl e))
    · exact .inr (.inr (.inr (.inl e)))
    · simp [Value.ownBlock] at e
      exact .inr (.inr (.inr (.inr (.inl (by rw [hva, e])))))
    · exact .inr (.inr (.inr (.inr (.inr ⟨x, hsub.subset hx, e⟩))))
  · have hg0 : g < w.heap.size := by
      obtain ⟨cur, hc⟩ := row_ty h0.fls.row hva
      exact lt_heap hc
    have hb0 := lt_heap h0.blk
    have ho := kr.owns h.arr (fun j hj e => by
      have := (World.ownsRow.lt h.arr j hj).1
      rcases e with e | e <;> omega)
    obtain ⟨a, c, hav⟩ : ∃ a c, av = Value.slice a (arrs E k).length c := by
      rcases h.arr.2 with ⟨h3, h4⟩ | ⟨g', cap, cur, hv, _⟩
      · exact ⟨none, 0, by rw [h4]; exact h3⟩
      · exact ⟨_, _, hv⟩
    subst hav
    exact ⟨a, _, c, rfl, ⟨arrs E k, rfl, rfl, fun f hf => (hbyt f ((arrs_sub E k).subset hf)).rd, row_cells ho rfl⟩, rfl⟩
theorem cs_one (f : Fx) : ∀ u ∈ f.cs.toList, u.oneCell' = true := by
  intro u hu
  simp [Fx.cs] at hu
  rcases hu with rfl | rfl | rfl | rfl | rfl <;> rfl
end
end Go.Proofs.Ytnhhjelplmdloaa.Et
namespace Go.Proofs.Ytnhhjelplmdloaa.Et
open Go.RowKit Go.Maps
set_option linter.unusedVariables false
set_option linter.unusedSimpArgs false
set_option maxRecDepth 100000
section
variable {E E' : En} {w w' W w1 : World} {B m : Nat}
set_option maxHeartbeats 1000000 in
theorem round_cons (h : E.Ok w B m) (hB : B ≤ w.heap.size) (hpos : 0 < E.fs.length) (hlen : E.fs.length ≤ 20000) : Calls Try.prog 9 #[.pointer (some ⟨E.b, 0, none⟩)] w fun e w' => ∃ a n c, e = .returned (.slice a n c) ∧ RdF w' a n ((E.fs.filter (comes E)).map Fx.d) ∧ Step w w' E { E with clock := ckN E, fs := E.fs.filter (stays E) } B m := by
  obtain ⟨i0, hi, hz0, hz1, hz2⟩ := info_parts info_fl
  obtain ⟨g, L0, hva, hBg, hg, hL, ht, hn, hc⟩ := h.shape hpos
  have hgw : g < w.heap.size := lt_heap hg
  have hbw : E.b < w.heap.size := lt_heap h.blk
  have hvo : (Value.slice E.va E.fs.length E.vc).ownBlock = some g := by rw [hva]; rfl
  have hgb := (h.row_ne hvo).1
  have c0 := h.c0
  have c6 := h.c6
  rw [hva] at c6
  have z0 := h.fz 0
  have hcap : (0 : Int) ≤ (E.vc : Int) := Int.natCast_nonneg _
  have H0 : Hid (RI w (w.setCell ⟨E.b, 0, none⟩ (.int .i64 (ckN E))) E B m g 0 L0 (.slice none 0 0)) := by
    have h1 := h.setB (E' := { E with clock := ckN E }) 0 (.int .i64 (ckN E)) rfl rfl
    have kp := kset (P := fun j => j = E.b) w E.b 0 (.int .i64 (ckN E)) rfl
    refine ⟨h1.ko, kp.obj hg hgb, hL, by simp [lefts, flCells], ?_, fun f hf => h1.fls.byt f hf, ⟨by simp [arrs, flCells], .inl ⟨rfl, by simp [arrs]⟩⟩, kp.mono (fun _ _ e => .inr e)⟩
    intro j _ hj
    rw [← ht, List.getElem?_take_of_lt hj]
  have Hpth : Hid (∀ f ∈ E.fs, ∃ p q : Nat, f.src = p ∧ f.dst = q ∧ p < E.nn ∧ q < E.nn ∧ p ≠ q) := h.pth
  have Hco : Hid (∀ j, En.core { E with clock := ckN E } j → j < w.heap.size) := fun j hj => h.ltOwn (by rcases hj with e | e | e | e; exact .inl e; exact .inr (.inl e); exact .inr (.inr (.inl e)); exact .inr (.inr (.inr (.inl e))))
  have Hbl : Hid (∀ f ∈ E.fs, ∀ j, f.v.ownBlock = some j → j < w.heap.size) := fun f hf j hj => h.ltOwn (.inr (.inr (.inr (.inr (.inr ⟨f, hf, hj⟩)))))
  have Hh : Hid (E.Ok w B m) := h
  clear h hg hL ht
  go_enter Try.func9, Try.ntmps9
  go_wp2
  have hck : wrap64 (E.clock + 1) = ckN E := rfl
  rw [hck]
  generalize hcN : ckN E = cN at H0 ⊢
  generalize hN : E.fs.length = N at *
  go_loopw [3, 4, 24] (fun av lv i wr => ∃ (k : Nat) (L : List Value), k ≤ N ∧ i = .int .i64 k ∧ lv = .slice (some ⟨g, 0, none⟩) (lefts E k).length E.vc ∧ RI w wr E B m g k L av) (fun _ _ i _ => N - (intOf i).toNat)
  case atStart => exact ⟨0, L0, Nat.zero_le _, rfl, rfl, by rw [← hcN] at H0 ⊢; exact H0.out⟩
  case round =>
    obtain ⟨k, L, hk, rfl, rfl, hri⟩ := hrel
    by_cases hlt : k < N
    · obtain ⟨x0, x1, x2, x3, x4⟩ := hri.at (by omega)
      have hfm : E.fs.getD k f0 ∈ E.fs := mem_getD (by omega)
      obtain ⟨p, q, hsp, hdq, hp, hq, hpq⟩ := Hpth.out _ hfm
      have hk0 : wr.cell? ⟨E.b, 0, none⟩ = some (.int .i64 cN) := by rw [← hcN]; exact hri.ko.c0
      have i1 : (0 : Int) ≤ (k : Int) := Int.natCast_nonneg _
      have i2 : (k : Int) < (N : Int) := by omega
      have hll := lefts_le E k
      have hal := arrs_le E k
      have HRI : Hid (RI w wr E B m g k L u3) := hri
      have Hst : Hid (stays E (E.fs.getD k f0) = decide ((E.fs.getD k f0).due ≠ cN)) := by rw [← hcN]; rfl
      have Hcm : Hid (comes E (E.fs.getD k f0) = (decide ((E.fs.getD k f0).due = cN) && decide (barE E p q = 0))) := by rw [← hcN]; unfold comes; rw [hsp, hdq]; rfl
      have Hf : Hid (E.fs.getD k f0 = E.fs.getD k f0) := rfl
      have HBa : Hid (∀ w', Below wr.heap.size wr w' → Calls Try.prog 27 #[.pointer (some ⟨E.b, 0, none⟩), .agg (E.fs.getD k f0).cs] w' fun e w2 => e = .returned (.int .i64 (barE E p q)) ∧ Below w'.heap.size w' w2) := fun w' hb' => barrier_ko (E := { E with clock := ckN E }) (hri.ko.still hb') (E.fs.getD k f0) p q hsp hdq hp hq
      have Hpush : Hid (∀ X, Below wr.heap.size wr X → (E.fs.getD k f0).due ≠ cN → RI w (X.setCells g (0 + (lefts E k).length * 5) (E.fs.getD k f0).cs.toList) E B m g (k + 1) (splice L (0 + (lefts E k).length * 5) (E.fs.getD k f0).cs.toList) u3 ∧ (lefts E (k + 1)).length = (lefts E k).length + 1) := by
        intro X hX hd
        have hs : stays E (E.fs.getD k f0) = true := Hst.out.trans (decide_eq_true hd)
        exact ⟨RI.push (hri.still hX) (by omega) (by omega) hgw hs, by rw [lefts_next (by omega), hs]; simp⟩
      have Holds : Hid (∀ X, Below wr.heap.size wr X → ∀ j u, (flCells (lefts E k))[j]? = some u → X.cell? ⟨g, 0 + j, none⟩ = some u) := fun X hX => (hri.still hX).olds
      have Hspare : Hid (∀ X, Below wr.heap.size wr X → ∀ j, j < (E.fs.getD k f0).cs.toList.length → (X.cell? ⟨g, 0 + (lefts E k).length * 5 + j, none⟩).isSome = true ∧ X.frozen? ⟨g, 0 + (lefts E k).length * 5 + j, none⟩ = false) := fun X hX => (hri.still hX).spare (by omega) (by omega)
      have Hskip : Hid (∀ X, Below wr.heap.size wr X → (E.fs.getD k f0).due = cN → barE E p q ≠ 0 → RI w X E B m g (k + 1) L u3 ∧ (lefts E (k + 1)).length = (lefts E k).length) := by
        intro X hX hd hb
        have hs : stays E (E.fs.getD k f0) = false := Hst.out.trans (decide_eq_false (fun x => x hd))
        have hc : comes E (E.fs.getD k f0) = false := Hcm.out.trans (by rw [decide_eq_false hb, Bool.and_false])
        exact ⟨(hri.still hX).skip (by omega) hs hc, by rw [lefts_next (by omega), hs]; simp⟩
      have Hcome : Hid (∀ X X' av', Below wr.heap.size wr X → (E.fs.getD k f0).due = cN → barE E p q = 0 → X'.ownsRow w.heap.size 43 5 av' ((arrs E k).length + 1) (flCells (arrs E k) ++ (E.fs.getD k f0).cs.toList) → X.grownBy X' u3.ownBlock → RI w X' E B m g (k + 1) L av' ∧ (lefts E (k + 1)).length = (lefts E k).length) := by
        intro X X' av' hX hd hb ho hgr
        have hs : stays E (E.fs.getD k f0) = false := Hst.out.trans (decide_eq_false (fun x => x hd))
        have hc : comes E (E.fs.getD k f0) = true := Hcm.out.trans (by rw [decide_eq_true hd, decide_eq_true hb]; rfl)
        exact ⟨RI.come (hri.still hX) (by omega) hgw hbw Hco.out Hbl.out hs hc ho hgr, by rw [lefts_next (by omega), hs]; simp⟩
      have Harr : Hid (∀ X, Below wr.heap.size wr X → X.ownsRow w.heap.size 43 5 u3 (arrs E k).length (flCells (arrs E k))) := fun X hX => own_still hri.arr hX
      have hwz : w.heap.size ≤ wr.heap.size := hri.kept.size
      generalize E.fs.getD k f0 = f at *
      generalize barE E p q = bE at *
      generalize lefts E k = LL at *
      generalize arrs E k = AA at *
      unfold Fx.cs at HBa
      rw [hsp, hdq] at HBa
      rw [hsp] at x1
      rw [hdq] at x2
      clear hri hfm Hf
      generalize hW1 : wr.alloc (.cells #[.int .i64 f.id, .int .i64 p, .int .i64 q, .int .i64 f.due, .slice f.a f.n f.c] 43) = W1
      have HB1 : Hid (Below wr.heap.size wr W1) := by rw [← hW1]; exact balloc (Below.refl _ wr)
      have hblk1 : W1.heap[wr.heap.size]? = some (.cells #[.int .i64 f.id, .int .i64 p, .int .i64 q, .int .i64 f.due, .slice f.a f.n f.c] 43 (0, 0)) := by rw [← hW1]; exact heap_alloc_new wr _
      obtain ⟨e0, e1, e2, e3, e4⟩ := fl_cells hblk1
      have k01 := below_at HB1.out hk0
      have hcs : f.cs.toList = [.int .i64 f.id, .int .i64 p, .int .i64 q, .int .i64 f.due, .slice f.a f.n f.c] := by unfold Fx.cs; rw [hsp, hdq]
      have HF1 : Hid (W1.heap[wr.heap.size]? = some (.cells #[.int .i64 f.id, .int .i64 p, .int .i64 q, .int .i64 f.due, .slice f.a f.n f.c] 43 (0, 0))) := hblk1
      rw [hcs] at Hpush Hspare Hcome
      clear hblk1
      by_cases hd : f.due = cN
      · subst hd
        by_cases hbE : bE = 0
        · rw [hbE] at HBa
          go_wp2
          go_quiet (fail)
          go_wp2_with (first
            | (go_at_call 27; refine (HBa.out _ (by repeat (first | exact HB1.out | apply below_drewN | apply Below.drew | apply balloc))).mono ?_; rintro e w2 ⟨rfl, hb2⟩; have HB2 : Hid (Below wr.heap.size wr w2) := (bstep (by repeat (first | exact HB1.out | apply below_drewN | apply Below.drew | apply balloc)) hb2); have m0 := below_at hb2 e0; have m1 := below_at hb2 e1; have m2 := below_at hb2 e2; have m3 := below_at hb2 e3; have m4 := below_at hb2 e4; clear hb2)
            | (at_builtin; refine wpList_append_lies _ rfl _ _ 39 rfl w.heap.size 43 i0 (.agg #[.int .i64 0, .int .i64 0, .int .i64 0, .int .i64 0, .slice none 0 0]) 5 56 Try.underlying39 hi hz0 hz1 hz2 rfl (by omega) u3 AA.length (flCells AA) rfl (Harr.out _ (balloc HB2.out)) _ 1 1 _ rfl rfl (World.news_of_block (heap_alloc_new _ _)) (by simp [Value.oneCell']) (by omega) (by unfold maxLen; omega) (by omega) (by have := HB2.out.size; simp; omega) _ rfl ?_; intro g3 cap3 w3 hown3 hgrow3 hat3 hlt3)
            | fail)
          obtain ⟨hn1, hn2⟩ := Hcome.out _ w3 _ (balloc HB2.out) (by first | rfl | trivial) hbE hown3 hgrow3
          exact ⟨⟨k + 1, _, by omega, by go_num, by rw [hn2], hn1⟩, by simp [intOf]; omega⟩
        · go_wp2
          go_quiet (fail)
          go_wp2_with (first
            | (go_at_call 27; refine (HBa.out _ (by repeat (first | exact HB1.out | apply below_drewN | apply Below.drew | apply balloc))).mono ?_; rintro e w2 ⟨rfl, hb2⟩; have HB2 : Hid (Below wr.heap.size wr w2) := (bstep (by repeat (first | exact HB1.out | apply below_drewN | apply Below.drew | apply balloc)) hb2); clear hb2)
            | fail)
          obtain ⟨hn1, hn2⟩ := Hskip.out w2 HB2.out (by first | rfl | trivial) hbE
          exact ⟨⟨k + 1, _, by omega, by go_num, by rw [hn2], hn1⟩, by simp [intOf]; omega⟩
      · go_wp2
        go_quiet (fail)
        go_wp2_with (first
          | (at_builtin; refine wpList_append_arg _ rfl _ _ 39 rfl 43 i0 (.agg #[.int .i64 0, .int .i64 0, .int .i64 0, .int .i64 0, .slice none 0 0]) 5 56 Try.underlying39 hi hz0 hz1 hz2 rfl (by omega) g 0 LL.length E.vc (flCells LL) rfl (flCells_len LL) (Holds.out _ (by repeat (first | exact HB1.out | apply below_drewN | apply Below.drew | apply balloc))) _ 1 1 _ rfl rfl (World.news_of_block (heap_alloc_new _ _)) (by simp [Value.oneCell']) (fun _ => Hspare.out _ (by repeat (first | exact HB1.out | apply below_drewN | apply Below.drew | apply balloc))) (by unfold maxLen; omega) (by omega) (fun _ => ?_) (fun hx => absurd hx (by omega)))
          | fail)
        obtain ⟨hn1, hn2⟩ := Hpush.out ((W1.drewN nq).alloc (.cells #[.int .i64 f.id, .int .i64 p, .int .i64 q, .int .i64 f.due, .slice f.a f.n f.c] 43)) (by repeat (first | exact HB1.out | apply below_drewN | apply Below.drew | apply balloc)) hd
        rw [Nat.zero_add] at hn1
        exact ⟨⟨k + 1, _, by omega, by go_num, by rw [hn2], hn1⟩, by simp [intOf]; omega⟩
    · obtain rfl : k = N := by omega
      have hll := lefts_le E k
      have hc6 : wr.cell? ⟨E.b, 6, none⟩ = some (.slice (some ⟨g, 0, none⟩) k E.vc) := by
        have := hri.ko.c6
        rw [← hva, ← hN]
        exact this
      have hz6 := hri.ko.fz 6
      have HRI : Hid (RI w wr E B m g k L u3) := hri
      have hlk : lefts E k = E.fs.filter (stays E) := by unfold lefts; rw [List.take_of_length_le (by omega)]
      have hak : arrs E k = E.fs.filter (comes E) := by unfold arrs; rw [List.take_of_length_le (by omega)]
      have hfin : Hid (∀ (WC : World) (L' : List Value), Kept wr WC (fun j => j = g) → WC.heap[g]? = some (.cells L'.toArray 43 (0, 0)) → L'.length = E.vc * 5 → L'.take ((lefts E k).length * 5) = flCells (lefts E k) → ∃ a n c, u3 = .slice a n c ∧ RdF (WC.setCell ⟨E.b, 6, none⟩ (.slice (some ⟨g, 0, none⟩) (lefts E k).length E.vc)) a n ((E.fs.filter (comes E)).map Fx.d) ∧ Step w (WC.setCell ⟨E.b, 6, none⟩ (.slice (some ⟨g, 0, none⟩) (lefts E k).length E.vc)) E { E with clock := ckN E, fs := E.fs.filter (stays E) } B m) := by
        intro WC L' k1 k2 k3 k4
        obtain ⟨r1, a, n, c, r2, r3, _⟩ := RI.last Hh.out hri (by rw [hN]; exact hvo) hBg hc (by omega) k1 k2 k3 k4
        rw [hak] at r3
        rw [← hva, hlk] at r1
        rw [hlk] at r3 ⊢
        exact ⟨a, n, c, r2, r3, by rw [← hva]; exact r1⟩
      have hcel : Hid (∀ WC : World, Kept wr WC (fun j => j = g) → WC.cell? ⟨E.b, 6, none⟩ = some (.slice (some ⟨g, 0, none⟩) k E.vc) ∧ WC.frozen? ⟨E.b, 6, none⟩ = false) := by
        intro WC k1
        have := hri.ko.keep k1 hri.core
        refine ⟨?_, this.fz 6⟩
        have h6 := this.c6
        rw [← hva, ← hN]
        exact h6
      have hL := hri.len
      have hblk := hri.blk
      have htk := hri.tk
      by_cases hvp : E.vc = (lefts E k).length
      · have hcl : (Builtin.clear_ #[39] 0 #[.slice (some ⟨g, 0, none⟩) (k - (lefts E k).length) 0]).run Try.prog wr = .ok (.tuple #[]) wr := by
          have h1 := run_clearF wr 0 g 0 (k - (lefts E k).length) 0 (fun j hj => by omega) (fun j hj => by omega)
          have e : (Builtin.zeroCells (Value.agg #[.int .i64 0, .int .i64 0, .int .i64 0, .int .i64 0, .slice none 0 0]).cells (k - (lefts E k).length)).toList = [] := List.eq_nil_of_length_eq_zero (by rw [zc_len]; omega)
          rw [e] at h1
          exact h1
        have hdone := hfin.out wr L (Kept.refl _ _) hblk hL htk
        have HDn : Hid (∃ a n c, u3 = .slice a n c ∧ RdF (wr.setCell ⟨E.b, 6, none⟩ (.slice (some ⟨g, 0, none⟩) (lefts E k).length E.vc)) a n ((E.fs.filter (comes E)).map Fx.d) ∧ Step w (wr.setCell ⟨E.b, 6, none⟩ (.slice (some ⟨g, 0, none⟩) (lefts E k).length E.vc)) E { E with clock := ckN E, fs := E.fs.filter (stays E) } B m) := hdone
        clear hdone hfin hblk hL htk hlk hak
        generalize hp : (lefts E k).length = p at *
        have i1 : (0 : Int) ≤ (p : Int) := Int.natCast_nonneg _
        have i2 : (p : Int) ≤ (k : Int) := by omega
        have i3 : (k : Int) ≤ (E.vc : Int) := by omega
        clear hri
        go_wp2
        obtain ⟨a, n, c, r1, r2, r3⟩ := HDn.out
        go_ret
        rw [hvp] at r2
        exact ⟨a, n, ⟨c, by rw [← r1]; rfl⟩, r2, by simpa only [hva, hvp, hcN] using r3⟩
      · have hb5 : ∀ j, j < (k - (lefts E k).length) * 5 → (wr.cell? ⟨g, (lefts E k).length * 5 + j, none⟩).isSome = true := fun j hj => by
          rw [blk_cell hblk _]
          simp only [List.getElem?_toArray]
          rw [List.getElem?_eq_getElem (by omega)]
          rfl
        have hcl := run_clearF wr 0 g ((lefts E k).length * 5) (k - (lefts E k).length) (E.vc - (lefts E k).length) hb5 (fun j hj => frozen_of_row wr _ _ _ _ hblk)
        have hzl := zc_len (k - (lefts E k).length)
        generalize hzs : (Builtin.zeroCells (Value.agg #[.int .i64 0, .int .i64 0, .int .i64 0, .int .i64 0, .slice none 0 0]).cells (k - (lefts E k).length)).toList = zs at hcl hzl
        have hfit : (lefts E k).length * 5 + zs.length ≤ L.length := by omega
        have hdone := hfin.out (wr.setCells g ((lefts E k).length * 5) zs) (splice L ((lefts E k).length * 5) zs) (kept_setCells _ _ _) (heap_setCells _ _ wr L hblk hfit) (by rw [length_splice _ _ _ hfit, hL]) (by rw [splice_take _ _ _ (by omega)]; exact htk)
        obtain ⟨t6, tz⟩ := hcel.out (wr.setCells g ((lefts E k).length * 5) zs) (kept_setCells _ _ _)
        generalize hWC : wr.setCells g ((lefts E k).length * 5) zs = WC at hdone hcl t6 tz
        have HDn : Hid (∃ a n c, u3 = .slice a n c ∧ RdF (WC.setCell ⟨E.b, 6, none⟩ (.slice (some ⟨g, 0, none⟩) (lefts E k).length E.vc)) a n ((E.fs.filter (comes E)).map Fx.d) ∧ Step w (WC.setCell ⟨E.b, 6, none⟩ (.slice (some ⟨g, 0, none⟩) (lefts E k).length E.vc)) E { E with clock := ckN E, fs := E.fs.filter (stays E) } B m) := hdone
        clear hdone hfin hblk hL htk hlk hak hb5 hzs hfit hWC
        generalize hp : (lefts E k).length = p at *
        have i1 : (0 : Int) ≤ (p : Int) := Int.natCast_nonneg _
        have i2 : (p : Int) ≤ (k : Int) := by omega
        have i3 : (k : Int) ≤ (E.vc : Int) := by omega
        clear hri
        go_wp2
        obtain ⟨a, n, c, r1, r2, r3⟩ := HDn.out
        go_ret
        exact ⟨a, n, ⟨c, by rw [← r1]; rfl⟩, r2, by simpa only [hva, hcN] using r3⟩
set_option maxHeartbeats 400000 in
theorem round_nil (h : E.Ok w B m) (hno : E.fs = []) : Calls Try.prog 9 #[.pointer (some ⟨E.b, 0, none⟩)] w fun e w' => ∃ a n c, e = .returned (.slice a n c) ∧ RdF w' a n ((E.fs.filter (comes E)).map Fx.d) ∧ Step w w' E { E with clock := ckN E, fs := E.fs.filter (stays E) } B m := by
  have c0 := h.c0
  have c6 := h.c6
  have z0 := h.fz 0
  have z6 := h.fz 6
  have hl : E.fs.length = 0 := by rw [hno]; rfl
  rw [hl] at c6
  have hres : Hid (Step w ((w.setCell ⟨E.b, 0, none⟩ (.int .i64 (ckN E))).setCell ⟨E.b, 6, none⟩ (.slice E.va 0 E.vc)) E { E with clock := ckN E } B m) := by
    have s1 : Step w (w.setCell ⟨E.b, 0, none⟩ (.int .i64 (ckN E))) E { E with clock := ckN E } B m := ⟨h.setB 0 _ rfl rfl, kset _ _ _ _ (.inl rfl), fun j hj => .inl hj⟩
    have s2 : Step (w.setCell ⟨E.b, 0, none⟩ (.int .i64 (ckN E))) ((w.setCell ⟨E.b, 0, none⟩ (.int .i64 (ckN E))).setCell ⟨E.b, 6, none⟩ (.slice E.va 0 E.vc)) { E with clock := ckN E } { E with clock := ckN E } B m := ⟨s1.ok.setB (E' := { E with clock := ckN E }) 6 _ (by simp [En.cs, hl]) rfl, kset _ _ _ _ (.inl rfl), fun j hj => .inl hj⟩
    exact s1.trans s2
  have hfs : E.fs.filter (stays E) = E.fs := by rw [hno]; rfl
  rw [hfs]
  rw [hno]
  have hck : wrap64 (E.clock + 1) = ckN E := rfl
  generalize ckN E = cN at *
  have hcl : ∀ (W : World) (a : Option Addr) (c : Nat) (ty : TypeId), (Builtin.clear_ #[39] ty #[.slice a 0 c]).run Try.prog W = .ok (.tuple #[]) W := by
    intro W a c ty
    cases a <;> simp [Builtin.clear_, run_underlying Try.underlying39]
  have hrow := h.fls.row
  rw [hl] at hrow
  have hn : E.va = none ∧ E.vc = 0 ∨ ∃ g, E.va = some ⟨g, 0, none⟩ := by
    rcases hrow.2 with ⟨h1, h2⟩ | ⟨g, cap, cur, hv, _⟩
    · simp at h1; exact .inl h1
    · simp at hv; exact .inr ⟨g, hv.1⟩
  clear h hrow
  rcases hn with ⟨hva, hvc⟩ | ⟨g, hva⟩
  · rw [hva, hvc] at c6
    have HR := hres.out
    simp only [hva, hvc, hno] at HR
    clear hres hfs
    go_enter Try.func9, Try.ntmps9
    go_wp2
    refine wp_loop_rounds 1 ?_
    rw [rounds_succ]
    go_wp2
    go_ret
    exact ⟨none, 0, 0, rfl, ⟨[], rfl, rfl, fun f hf => (by cases hf), .inl rfl⟩, by simpa only [hva, hvc] using HR⟩
  · rw [hva] at c6
    have HR := hres.out
    simp only [hva, hno] at HR
    clear hres hfs
    have hcap : (0 : Int) ≤ (E.vc : Int) := Int.natCast_nonneg _
    go_enter Try.func9, Try.ntmps9
    go_wp2
    refine wp_loop_rounds 1 ?_
    rw [rounds_succ]
    go_wp2
    all_goals (go_ret; exact ⟨none, 0, 0, rfl, ⟨[], rfl, rfl, fun f hf => (by cases hf), .inl rfl⟩, by simpa only [hva] using HR⟩)
end
end Go.Proofs.Ytnhhjelplmdloaa.Et
namespace Go.Proofs.Ytnhhjelplmdloaa.Et
open Go.RowKit Go.Maps
set_option linter.unusedVariables false
set_option linter.unusedSimpArgs false
set_option maxRecDepth 100000
section
variable {E E' : En} {w w' W w1 : World} {B m : Nat}
def badNew (n r : Int) : Prop := n < 1 ∨ 16 < n ∨ r < 1 ∨ 20000 < r
set_option maxHeartbeats 400000 in
theorem new_no (n r : Int) (hb : badNew n r) : Calls Try.prog 6 #[.int .i64 n, .int .i64 r] w fun e w' => e = .returned (.tuple #[.pointer none, .int .i64 1]) ∧ w = w' := by
  unfold badNew at hb
  go_enter Try.func6, Try.ntmps6
  go_wp2
  all_goals first | (exfalso; omega) | (go_ret2; exact ⟨rfl, rfl⟩)
theorem info_node : (Try.prog.info? 78).map (fun i => (i.zero, i.size, i.bytes)) = some (some (.agg #[.bool false, .int .i64 0, .int .i64 0]), 3, 24) := by kernel_rfl
def newE (b bn bc bd n : Nat) (r : Int) (k : Nat) : En := ⟨b, bn, bc, bd, n, 0, r, 0, fun i => decide (i < k), fun i => if i < k then 1 else 0, fun _ => 0, fun _ _ => false, fun _ _ => 1, none, 0, []⟩
theorem node_zero (n : Nat) (p : Nat) (hp : p < n) : (madeCells #[.bool false, .int .i64 0, .int .i64 0] (n * 3))[p * 3]? = some (.bool false) ∧ (madeCells #[.bool false, .int .i64 0, .int .i64 0] (n * 3))[p * 3 + 1]? = some (.int .i64 0) ∧ (madeCells #[.bool false, .int .i64 0, .int .i64 0] (n * 3))[p * 3 + 2]? = some (.int .i64 0) := by
  have h0 : p * 3 < n * 3 := by omega
  have h1 : p * 3 + 1 < n * 3 := by omega
  have h2 : p * 3 + 2 < n * 3 := by omega
  unfold madeCells
  simp only [Array.getElem?_map, Array.getElem?_range, h0, h1, h2, if_true, Option.map_some]
  have e0 : p * 3 % 3 = 0 := by omega
  have e1 : (p * 3 + 1) % 3 = 1 := by omega
  have e2 : (p * 3 + 2) % 3 = 2 := by omega
  simp [e0, e1, e2]
theorem new_first {w w1 : World} (n : Nat) (r : Int) (h1 : 1 ≤ n) (h2 : n ≤ 16) (hown : w1.ownsRow w.heap.size 78 3 (.slice (some ⟨w.heap.size, 0, none⟩) n n) n (madeCells #[.bool false, .int .i64 0, .int .i64 0] (n * 3)).toList) (hb : Below w.heap.size w w1) :
    En.Ok (newE (w1.heap.size + 1 + 1) w.heap.size w1.heap.size (w1.heap.size + 1) n r 0) (((w1.alloc (.map #[] 0)).alloc (.map #[] 0)).alloc (.cells #[.int .i64 0, .slice (some ⟨w.heap.size, 0, none⟩) n n, .map (some w1.heap.size), .map (some (w1.heap.size + 1)), .int .i64 r, .int .i64 0, .slice none 0 0] 76)) w.heap.size 0 ∧
    Below w.heap.size w (((w1.alloc (.map #[] 0)).alloc (.map #[] 0)).alloc (.cells #[.int .i64 0, .slice (some ⟨w.heap.size, 0, none⟩) n n, .map (some w1.heap.size), .map (some (w1.heap.size + 1)), .int .i64 r, .int .i64 0, .slice none 0 0] 76)) := by
  have hsz := hb.size
  have hlt : w.heap.size < w1.heap.size := by
    obtain ⟨cur, hc⟩ := row_ty hown (j := w.heap.size) rfl
    exact lt_heap hc
  generalize hX : (Obj.cells #[.int .i64 0, .slice (some ⟨w.heap.size, 0, none⟩) n n, .map (some w1.heap.size), .map (some (w1.heap.size + 1)), .int .i64 r, .int .i64 0, .slice none 0 0] 76) = X
  have hbk : heap_alloc_new ((w1.alloc (.map #[] 0)).alloc (.map #[] 0)) X = heap_alloc_new ((w1.alloc (.map #[] 0)).alloc (.map #[] 0)) X := rfl
  have hB : (((w1.alloc (.map #[] 0)).alloc (.map #[] 0)).alloc X).heap[w1.heap.size + 1 + 1]? = some X := by
    have := heap_alloc_new ((w1.alloc (.map #[] 0)).alloc (.map #[] 0)) X
    simpa using this
  have a1 := World.ownsMap_made (H := Unit) w1 Try.prog 80 unitElem
  have a2 := World.ownsMap_made (H := Unit) (w1.alloc (.map #[] 0)) Try.prog 80 (plainElem Try.prog 3)
  have hs1 : (w1.alloc (.map #[] 0)).heap.size = w1.heap.size + 1 := by simp
  rw [hs1] at a2
  refine ⟨⟨?_, ?_, ?_, ?_, ⟨?_, ?_, ?_⟩, ?_, ?_, ⟨h1, h2⟩, ?_, ?_⟩, balloc (balloc (balloc hb))⟩
  · show (((w1.alloc (.map #[] 0)).alloc (.map #[] 0)).alloc X).heap[w1.heap.size + 1 + 1]? = _
    rw [hB, ← hX]
    rfl
  · rcases hown.2 with ⟨e1, e2⟩ | ⟨g, cap, cur, hv, hg0, hg, hnc, hcm, hcs, htk⟩
    · simp at e1
    · simp at hv
      obtain ⟨rfl, rfl⟩ := hv
      have hcur : cur = madeCells #[.bool false, .int .i64 0, .int .i64 0] (n * 3) := by
        have e3 : cur.toList = (madeCells #[.bool false, .int .i64 0, .int .i64 0] (n * 3)).toList := by
          rw [← htk, List.take_of_length_le (by simp; omega)]
        exact Array.toList_inj.1 e3
      subst hcur
      refine ⟨_, blk_alloc (blk_alloc (blk_alloc hg)), by simp [size_madeCells, newE], fun p hp => ?_⟩
      obtain ⟨z0, z1, z2⟩ := node_zero n p hp
      exact ⟨by rw [z0]; simp [newE], by rw [z1]; simp [newE], z2⟩
  · exact ⟨.map [], (a1.alloc _).alloc _, fun p q _ _ => rfl⟩
  · refine ⟨.map [], a2.alloc _, fun p q _ _ => ⟨rfl, rfl⟩⟩
  · exact ⟨rfl, .inl ⟨rfl, rfl⟩⟩
  · intro f hf; cases hf
  · exact List.Pairwise.nil
  · exact ⟨by show w.heap.size ≤ w1.heap.size + 1 + 1; omega, Nat.le_refl _, by show w.heap.size ≤ w1.heap.size; omega, by show w.heap.size ≤ w1.heap.size + 1; omega⟩
  · show w1.heap.size ≠ w1.heap.size + 1; omega
  · intro f hf; cases hf
  · intro p q _ _; show (1 : Int) ≤ 1 ∧ (1 : Int) ≤ 16; omega
theorem new_next {b bn bc bd n k : Nat} {r : Int} {wr : World} (h : En.Ok (newE b bn bc bd n r k) wr B 0) (hk : k < n) :
    En.Ok (newE b bn bc bd n r (k + 1)) (((wr.setCell ⟨bn, k * 3, none⟩ (.bool true)).setCell ⟨bn, k * 3 + 1, none⟩ (.int .i64 1)).setCell ⟨bn, k * 3 + 2, none⟩ (.int .i64 0)) B 0 := by
  have s1 := Step.nod h ((h.nod.set hk).1 true)
  have s2 := Step.nod s1.ok ((s1.ok.nod.set hk).2.1 1)
  have s3 := Step.nod s2.ok ((s2.ok.nod.set hk).2.2 0)
  have e : newE b bn bc bd n r (k + 1) = { newE b bn bc bd n r k with up := upd1 (newE b bn bc bd n r k).up k true, inc := upd1 (newE b bn bc bd n r k).inc k 1, tick := upd1 (newE b bn bc bd n r k).tick k 0 } := by
    unfold newE upd1
    congr 1
    · funext i
      by_cases hi : i = k
      · subst hi; simp
      · have : (i < k + 1) ↔ (i < k) := by omega
        simp [hi, this]
    · funext i
      by_cases hi : i = k
      · subst hi; simp
      · have : (i < k + 1) ↔ (i < k) := by omega
        simp [hi, this]
    · funext i
      simp
  rw [e]
  exact s3.ok
set_option maxHeartbeats 400000 in
theorem new_ok (n : Nat) (r : Int) (h1 : 1 ≤ n) (h2 : n ≤ 16) (h3 : 1 ≤ r) (h4 : r ≤ 20000) : Calls Try.prog 6 #[.int .i64 n, .int .i64 r] w fun e w' => ∃ b bn bc bd, e = .returned (.tuple #[.pointer (some ⟨b, 0, none⟩), .int .i64 0]) ∧ En.Ok (newE b bn bc bd n r n) w' w.heap.size 0 ∧ Below w.heap.size w w' := by
  have i1 : (1 : Int) ≤ (n : Int) := by omega
  have i2 : (n : Int) ≤ 16 := by omega
  have hmm := @run_makeMap Try.prog
  obtain ⟨i0, hi, hz0, hz1, hz2⟩ := info_parts info_node
  go_enter Try.func6, Try.ntmps6
  go_wp2_with (first
    | (at_make; refine wpList_make_full _ rfl _ _ 72 rfl w.heap.size 78 i0 (.agg #[.bool false, .int .i64 0, .int .i64 0]) 3 Try.underlying72 hi hz0 hz1 .i64 .i64 _ _ n rfl rfl rfl rfl (by rw [hz2]; omega) (by unfold maxLen; omega) (Nat.le_refl _) ?_)
    | fail)
  intro w1 hown hgrow
  obtain ⟨hf1, hf2⟩ := new_first n r h1 h2 hown ((Below.refl _ w).grown hgrow (Nat.le_refl _) (fun k hk => by cases hk))
  generalize hX : ((w1.alloc (.map #[] 0)).alloc (.map #[] 0)).alloc (.cells #[.int .i64 0, .slice (some ⟨w.heap.size, 0, none⟩) n n, .map (some w1.heap.size), .map (some (w1.heap.size + 1)), .int .i64 r, .int .i64 0, .slice none 0 0] 76) = X at hf1 hf2
  have H1 : Hid (En.Ok (newE (w1.heap.size + 1 + 1) w.heap.size w1.heap.size (w1.heap.size + 1) n r 0) X w.heap.size 0) := hf1
  have H2 : Hid (Below w.heap.size w X) := hf2
  have c1 : X.cell? ⟨w1.heap.size + 1 + 1, 1, none⟩ = some (.slice (some ⟨w.heap.size, 0, none⟩) n n) := hf1.c1
  clear hown hgrow hf1 hf2
  go_wp2
  go_loopw [34] (fun i wr => ∃ k : Nat, k ≤ n ∧ i = .int .i64 k ∧ En.Ok (newE (w1.heap.size + 1 + 1) w.heap.size w1.heap.size (w1.heap.size + 1) n r k) wr w.heap.size 0 ∧ Below w.heap.size w wr) (fun i _ => n - (intOf i).toNat)
  case atStart => exact ⟨0, Nat.zero_le _, rfl, H1.out, H2.out⟩
  case round =>
    obtain ⟨k, hk, rfl, hok, hbel⟩ := hrel
    have HK : Hid (En.Ok (newE (w1.heap.size + 1 + 1) w.heap.size w1.heap.size (w1.heap.size + 1) n r k) wr w.heap.size 0) := hok
    have HB : Hid (Below w.heap.size w wr) := hbel
    by_cases hlt : k < n
    · have d1 : wr.cell? ⟨w1.heap.size + 1 + 1, 1, none⟩ = some (.slice (some ⟨w.heap.size, 0, none⟩) n n) := hok.c1
      obtain ⟨e0, e1, e2⟩ := hok.nodC (p := k) hlt
      have e0 : wr.cell? ⟨w.heap.size, k * 3, none⟩ = some (.bool (decide (k < k))) := e0
      have e1 : wr.cell? ⟨w.heap.size, k * 3 + 1, none⟩ = some (.int .i64 (if k < k then 1 else 0)) := e1
      have e2 : wr.cell? ⟨w.heap.size, k * 3 + 2, none⟩ = some (.int .i64 0) := e2
      have f0 : wr.frozen? ⟨w.heap.size, k * 3, none⟩ = false := hok.nodF _
      have f1 : wr.frozen? ⟨w.heap.size, k * 3 + 1, none⟩ = false := hok.nodF _
      have f2 : wr.frozen? ⟨w.heap.size, k * 3 + 2, none⟩ = false := hok.nodF _
      simp only [Nat.lt_irrefl, decide_false, if_false] at e0 e1
      have j1 : (0 : Int) ≤ (k : Int) := Int.natCast_nonneg _
      have j2 : (k : Int) < (n : Int) := by omega
      clear hok hbel
      go_wp2
      go_roundw
      case rel => exact ⟨k + 1, by omega, by go_num, new_next HK.out hlt, bset (bset (bset HB.out (Nat.le_refl _) _ _) (Nat.le_refl _) _ _) (Nat.le_refl _) _ _⟩
      case measure => simp [intOf]; omega
    · obtain rfl : k = n := by omega
      go_wp2
      go_ret2
      exact ⟨_, _, _, _, rfl, HK.out, HB.out⟩
end
end Go.Proofs.Ytnhhjelplmdloaa.Et
