import Derived.Test.YtnhhjelplmdloaaV02
namespace Go.Proofs.Ytnhhjelplmdloaa.Et
open Go.RowKit Go.Maps
set_option linter.unusedVariables false
set_option linter.unusedSimpArgs false
set_option maxRecDepth 100000
section
variable {E E' : En} {w w' W : World} {B m : Nat}
set_option maxHeartbeats 400000 in
theorem canCarry_any (h : E.Ok w B m) (p q : Int) (ao : Option Addr) (n c : Nat) : Calls Try.prog 25 #[.pointer (some ⟨E.b, 0, none⟩), .agg #[.int .i64 p, .int .i64 q], .slice ao n c] w fun e w' => e = .returned (.bool (isP E p q && decide ((n : Int) ≤ 40000))) ∧ Below w.heap.size w w' := by
  generalize hc : isP E p q = c1
  have HP := isPath_is h hc
  have b0 : Below w.heap.size w (w.alloc (.cells #[.int .i64 p, .int .i64 q] 80)) := balloc (Below.refl _ w)
  clear h
  cases c1 with
  | false =>
    go_enter Try.func25, Try.ntmps25
    go_wp2_with (first | (go_at_call 45; refine (HP _ b0).mono ?_; rintro e w1 ⟨rfl, hb1⟩; have r1 := bstep b0 hb1; clear hb1) | fail)
    go_ret
    exact ⟨rfl, r1⟩
  | true =>
    go_enter Try.func25, Try.ntmps25
    go_wp2_with (first | (go_at_call 45; refine (HP _ b0).mono ?_; rintro e w1 ⟨rfl, hb1⟩; have r1 := bstep b0 hb1; clear hb1) | fail)
    all_goals (go_ret; exact ⟨by simp, r1⟩)
set_option maxHeartbeats 400000 in
theorem launch_cut (h : E.Ok w B m) (p q : Nat) (hp : p < 16) (hq : q < 16) (hc : E.cut p q = true) (v : Value) : Calls Try.prog 26 #[.pointer (some ⟨E.b, 0, none⟩), .agg #[.int .i64 p, .int .i64 q], v] w fun e w' => e = .returned (.tuple #[.int .i64 0, .int .i64 30]) ∧ Below w.heap.size w w' := by
  have HP := isCut_is h hp hq hc
  have b0 : Below w.heap.size w (w.alloc (.cells #[.int .i64 p, .int .i64 q] 80)) := balloc (Below.refl _ w)
  clear h
  go_enter Try.func26, Try.ntmps26
  go_wp2_with (first | (go_at_call 46; refine (HP _ b0).mono ?_; rintro e w1 ⟨rfl, hb1⟩; have r1 := bstep b0 hb1; clear hb1) | fail)
  go_ret2
  exact ⟨rfl, r1⟩
set_option maxHeartbeats 4000000 in
theorem launch_go (h : E.Ok w B m) (p q : Nat) (hp : p < 16) (hq : q < 16) (hc : E.cut p q = false) (ao : Option Addr) (n c : Nat) (R : Ending → World → Prop)
    (HJ : ∀ w', Below w.heap.size w w' → Calls Try.prog 47 #[.pointer (some ⟨E.b, 0, none⟩), .agg #[.int .i64 0, .int .i64 p, .int .i64 q, .int .i64 (IntKind.i64.wrap (E.clock + E.dl p q)), .slice ao n c]] w' fun e w2 => (∃ x y, e = .returned (.tuple #[.int .i64 x, .int .i64 y])) ∧ R e w2 ∧ (∀ k i v, w.heap.size ≤ k → w'.cell? ⟨k, i, none⟩ = some v → w2.cell? ⟨k, i, none⟩ = some v) ∧ w2.cell? ⟨E.b, 0, none⟩ = some (.int .i64 E.clock)) :
    Calls Try.prog 26 #[.pointer (some ⟨E.b, 0, none⟩), .agg #[.int .i64 p, .int .i64 q], .slice ao n c] w R := by
  have HP := isCut_is h hp hq hc
  have HD : Hid (∀ w', Below w.heap.size w w' → Calls Try.prog 48 #[.pointer (some ⟨E.b, 0, none⟩), .agg #[.int .i64 p, .int .i64 q]] w' fun e w2 => e = .returned (.int .i64 (E.dl p q)) ∧ Below w'.heap.size w' w2) := delay_is h hp hq
  have b0 : Below w.heap.size w (w.alloc (.cells #[.int .i64 p, .int .i64 q] 80)) := balloc (Below.refl _ w)
  have Hh : Hid (E.Ok w B m) := h
  have hbw : E.b < w.heap.size := lt_heap h.blk
  have HJ' : Hid (∀ w', Below w.heap.size w w' → Calls Try.prog 47 #[.pointer (some ⟨E.b, 0, none⟩), .agg #[.int .i64 0, .int .i64 p, .int .i64 q, .int .i64 (IntKind.i64.wrap (E.clock + E.dl p q)), .slice ao n c]] w' fun e w2 => (∃ x y, e = .returned (.tuple #[.int .i64 x, .int .i64 y])) ∧ R e w2 ∧ (∀ k i v, w.heap.size ≤ k → w'.cell? ⟨k, i, none⟩ = some v → w2.cell? ⟨k, i, none⟩ = some v) ∧ w2.cell? ⟨E.b, 0, none⟩ = some (.int .i64 E.clock)) := HJ
  clear h HJ
  go_enter Try.func26, Try.ntmps26
  go_wp2_with (first | (go_at_call 46; refine (HP _ b0).mono ?_; rintro e w1 ⟨rfl, hb1⟩; have q0 := new_cells hb1 0 (v := .int .i64 p) rfl; have q1 := new_cells hb1 1 (v := .int .i64 q) rfl; have r1 : Hid (Below w.heap.size w w1) := bstep b0 hb1; clear hb1) | fail)
  clear HP b0
  have c0 := (Hh.out.still r1.out).c0
  have hsz1 := r1.out.size
  have hlt1 : w.heap.size < w1.heap.size := World.block_lt_of_cell? w1 _ q0
  go_region_held3 (fun w' => w'.cell? ⟨w.heap.size, 0, none⟩ = some (.int .i64 p) ∧ w'.cell? ⟨w.heap.size, 1, none⟩ = some (.int .i64 q) ∧ w'.cell? ⟨E.b, 0, none⟩ = some (.int .i64 E.clock))
    (first | exact ⟨s0, s1, sc⟩ | exact ⟨p0, p1, pc⟩ | go_keep)
    (first
      | (go_at_call 48; refine (HD.out _ (by first | exact r1.out.drew | exact r1.out)).mono ?_; rintro e w2 ⟨rfl, hb2⟩; have r2 : Hid (Below w.heap.size w w2) := (bstep (by first | exact r1.out.drew | exact r1.out) hb2); have p0 : w2.cell? ⟨w.heap.size, 0, none⟩ = some (.int .i64 p) := ((hb2.cell hlt1).trans q0); have p1 : w2.cell? ⟨w.heap.size, 1, none⟩ = some (.int .i64 q) := ((hb2.cell hlt1).trans q1); have pc : w2.cell? ⟨E.b, 0, none⟩ = some (.int .i64 E.clock) := (Hh.out.still r2.out).c0; clear hb2)
      | (go_at_call 47; refine (HJ'.out _ (by first | exact r2.out | exact r2.out.drew)).mono ?_; rintro e w3 ⟨⟨x, y, rfl⟩, hR, hk, sc⟩; have s0 := hk w.heap.size 0 _ (Nat.le_refl _) (by first | exact p0 | exact p0); have s1 := hk w.heap.size 1 _ (Nat.le_refl _) (by first | exact p1 | exact p1); clear hk))
  all_goals (go_wp2; first | exact hR | (go_ret2; exact hR))
end
end Go.Proofs.Ytnhhjelplmdloaa.Et
namespace Go.Proofs.Ytnhhjelplmdloaa.Et
open Go.RowKit Go.Maps
set_option linter.unusedVariables false
set_option linter.unusedSimpArgs false
set_option maxRecDepth 100000
section
variable {E E' : En} {w w' W : World} {B m : Nat}
theorem below_at {k i : Nat} {v : Value} (hb : Below w.heap.size w w') (hc : w.cell? ⟨k, i, none⟩ = some v) : w'.cell? ⟨k, i, none⟩ = some v := (hb.cell (World.block_lt_of_cell? w _ hc)).trans hc
def nf (E : En) (p q : Nat) (n : Nat) (bs : List Int) (g : Nat) : Fx := ⟨wN E, p, q, IntKind.i64.wrap (E.clock + E.dl p q), some ⟨g, 0, none⟩, n, n, bs⟩
def added (E : En) (f : Fx) (a : Option Addr) (c : Nat) : En := { E with last := wN E, va := a, vc := c, fs := E.fs ++ [f] }
theorem launch_full (h : E.Ok w B m) (p q : Nat) (hp : p < 16) (hq : q < 16) (hc : E.cut p q = false) (ao : Option Addr) (n c : Nat) (hl : E.room ≤ E.fs.length) :
    Calls Try.prog 26 #[.pointer (some ⟨E.b, 0, none⟩), .agg #[.int .i64 p, .int .i64 q], .slice ao n c] w fun e w' => e = .returned (.tuple #[.int .i64 0, .int .i64 31]) ∧ Below w.heap.size w w' :=
  launch_go h p q hp hq hc ao n c _ fun w' hb => (join_no (h.still hb) ⟨0, p, q, IntKind.i64.wrap (E.clock + E.dl p q), ao, n, c, []⟩ hl).mono fun e w2 ⟨h1, h2⟩ => ⟨⟨0, 31, h1⟩, ⟨h1, bstep hb h2⟩, fun k i v _ hc => below_at h2 hc, ((h.still hb).still h2).c0⟩
theorem launch_ok (h : E.Ok w B m) (hB : B ≤ w.heap.size) (p q : Nat) (hp : p < E.nn) (hq : q < E.nn) (hpq : p ≠ q) (hc : E.cut p q = false) (ao : Option Addr) (n c : Nat) (bs : List Int) (hr : Rd w ao n c bs) (hlen : n ≤ 140737488355328) (hl : E.fs.length < E.room) (hR : E.room ≤ 20000) :
    Calls Try.prog 26 #[.pointer (some ⟨E.b, 0, none⟩), .agg #[.int .i64 p, .int .i64 q], .slice ao n c] w fun e w' => e = .returned (.tuple #[.int .i64 (wN E), .int .i64 0]) ∧ ∃ g a c, Step w w' E (added E (nf E p q n bs g) a c) B m :=
  launch_go h p q (by have := h.n16; omega) (by have := h.n16; omega) hc ao n c _ fun w' hb => (join_ok (h.still hb) (Nat.le_trans hB hb.size) ⟨0, p, q, IntKind.i64.wrap (E.clock + E.dl p q), ao, n, c, bs⟩ (hr.still hb) hlen ⟨p, q, rfl, rfl, hp, hq, hpq⟩ hl hR).mono fun e w2 ⟨h1, g, a, c', hs⟩ => ⟨⟨_, _, h1⟩, ⟨h1, g, a, c', Step.pre hb hs⟩, fun k i v hk hc => hs.cell (fun ho => by have := h.ltOwn ho; omega) hc, hs.ok.c0⟩
set_option maxHeartbeats 1000000 in
theorem post_arg (h : E.Ok w B m) (p q : Int) (ao : Option Addr) (n c : Nat) (hno : (isP E p q && decide ((n : Int) ≤ 40000)) = false) : Calls Try.prog 7 #[.pointer (some ⟨E.b, 0, none⟩), .int .i64 p, .int .i64 q, .slice ao n c] w fun e w' => e = .returned (.tuple #[.int .i64 0, .int .i64 1]) ∧ Below w.heap.size w w' := by
  have b0 : Below w.heap.size w (w.alloc (.cells #[.int .i64 p, .int .i64 q] 80)) := balloc (Below.refl _ w)
  have HC := canCarry_any (h.still b0) p q ao n c
  rw [hno] at HC
  clear h
  go_enter Try.func7, Try.ntmps7
  go_wp2_with (first | (go_at_call 25; refine HC.mono ?_; rintro e w1 ⟨rfl, hb1⟩; have r1 : Hid (Below w.heap.size w w1) := bstep b0 hb1; clear hb1) | fail)
  go_ret2
  exact ⟨rfl, r1.out⟩
set_option maxHeartbeats 1000000 in
theorem post_down (h : E.Ok w B m) (p : Nat) (q : Int) (ao : Option Addr) (n c : Nat) (hp : p < E.nn) (hno : (isP E p q && decide ((n : Int) ≤ 40000)) = true) (hu : E.up p = false) : Calls Try.prog 7 #[.pointer (some ⟨E.b, 0, none⟩), .int .i64 p, .int .i64 q, .slice ao n c] w fun e w' => e = .returned (.tuple #[.int .i64 0, .int .i64 32]) ∧ Below w.heap.size w w' := by
  have b0 : Below w.heap.size w (w.alloc (.cells #[.int .i64 p, .int .i64 q] 80)) := balloc (Below.refl _ w)
  have HC := canCarry_any (h.still b0) p q ao n c
  rw [hno] at HC
  have Hh : Hid (E.Ok w B m) := h
  have hn := h.n16
  clear h
  go_enter Try.func7, Try.ntmps7
  go_wp2_with (first | (go_at_call 25; refine HC.mono ?_; rintro e w1 ⟨rfl, hb1⟩; have r1 : Hid (Below w.heap.size w w1) := bstep b0 hb1; have c1 := (Hh.out.still r1.out).c1; have d0 := ((Hh.out.still r1.out).nodC hp).1; rw [hu] at d0; clear hb1) | fail)
  go_ret2
  exact ⟨rfl, r1.out⟩
set_option maxHeartbeats 1000000 in
theorem post_go (h : E.Ok w B m) (p : Nat) (q : Int) (ao : Option Addr) (n c : Nat) (hp : p < E.nn) (hno : (isP E p q && decide ((n : Int) ≤ 40000)) = true) (hu : E.up p = true) (R : Ending → World → Prop)
    (HL : ∀ w', Below w.heap.size w w' → Calls Try.prog 26 #[.pointer (some ⟨E.b, 0, none⟩), .agg #[.int .i64 p, .int .i64 q], .slice ao n c] w' fun e w2 => (∃ x y, e = .returned (.tuple #[.int .i64 x, .int .i64 y])) ∧ R e w2) :
    Calls Try.prog 7 #[.pointer (some ⟨E.b, 0, none⟩), .int .i64 p, .int .i64 q, .slice ao n c] w R := by
  have b0 : Below w.heap.size w (w.alloc (.cells #[.int .i64 p, .int .i64 q] 80)) := balloc (Below.refl _ w)
  have HC := canCarry_any (h.still b0) p q ao n c
  rw [hno] at HC
  have Hh : Hid (E.Ok w B m) := h
  have hn := h.n16
  clear h
  go_enter Try.func7, Try.ntmps7
  go_wp2_with (first | (go_at_call 25; refine HC.mono ?_; rintro e w1 ⟨rfl, hb1⟩; have q0 := new_cells hb1 0 (v := .int .i64 p) rfl; have q1 := new_cells hb1 1 (v := .int .i64 q) rfl; have r1 : Hid (Below w.heap.size w w1) := bstep b0 hb1; have c1 := (Hh.out.still r1.out).c1; have d0 := ((Hh.out.still r1.out).nodC hp).1; rw [hu] at d0; clear hb1) | (go_at_call 26; refine (HL _ r1.out).mono ?_; rintro e w2 ⟨⟨x, y, rfl⟩, hR⟩) | fail)
  all_goals first | exact hR | (go_ret2; exact hR)
set_option maxHeartbeats 1000000 in
theorem inject_arg (h : E.Ok w B m) (p q : Int) (ao : Option Addr) (n c : Nat) (hno : (isP E p q && decide ((n : Int) ≤ 40000)) = false) : Calls Try.prog 53 #[.pointer (some ⟨E.b, 0, none⟩), .agg #[.int .i64 p, .int .i64 q], .slice ao n c] w fun e w' => e = .returned (.int .i64 1) ∧ Below w.heap.size w w' := by
  have b0 : Below w.heap.size w (w.alloc (.cells #[.int .i64 p, .int .i64 q] 80)) := balloc (Below.refl _ w)
  have HC := canCarry_any (h.still b0) p q ao n c
  rw [hno] at HC
  clear h
  go_enter Try.func53, Try.ntmps53
  go_wp2_with (first | (go_at_call 25; refine HC.mono ?_; rintro e w1 ⟨rfl, hb1⟩; have r1 : Hid (Below w.heap.size w w1) := bstep b0 hb1; clear hb1) | fail)
  go_ret
  exact ⟨rfl, r1.out⟩
set_option maxHeartbeats 1000000 in
theorem inject_go (h : E.Ok w B m) (p q : Int) (ao : Option Addr) (n c : Nat) (hno : (isP E p q && decide ((n : Int) ≤ 40000)) = true) (R : Int → World → Prop)
    (HL : ∀ w', Below w.heap.size w w' → Calls Try.prog 26 #[.pointer (some ⟨E.b, 0, none⟩), .agg #[.int .i64 p, .int .i64 q], .slice ao n c] w' fun e w2 => ∃ x y, e = .returned (.tuple #[.int .i64 x, .int .i64 y]) ∧ R y w2) :
    Calls Try.prog 53 #[.pointer (some ⟨E.b, 0, none⟩), .agg #[.int .i64 p, .int .i64 q], .slice ao n c] w fun e w' => ∃ y, e = .returned (.int .i64 y) ∧ R y w' := by
  have b0 : Below w.heap.size w (w.alloc (.cells #[.int .i64 p, .int .i64 q] 80)) := balloc (Below.refl _ w)
  have HC := canCarry_any (h.still b0) p q ao n c
  rw [hno] at HC
  clear h
  go_enter Try.func53, Try.ntmps53
  go_wp2_with (first | (go_at_call 25; refine HC.mono ?_; rintro e w1 ⟨rfl, hb1⟩; have q0 := new_cells hb1 0 (v := .int .i64 p) rfl; have q1 := new_cells hb1 1 (v := .int .i64 q) rfl; have r1 : Hid (Below w.heap.size w w1) := bstep b0 hb1; clear hb1) | (go_at_call 26; refine (HL _ r1.out).mono ?_; rintro e w2 ⟨x, y, rfl, hR⟩) | fail)
  all_goals first | exact ⟨_, rfl, hR⟩ | (go_ret; exact ⟨_, rfl, hR⟩)
end
end Go.Proofs.Ytnhhjelplmdloaa.Et
