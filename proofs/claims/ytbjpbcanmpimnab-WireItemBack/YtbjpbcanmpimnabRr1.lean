import Derived.Test.YtbjpbcanmpimnabRdr
import Derived.Test.YtbjpbcanmpimnabRefTake
import Derived.Test.YtbjpbcanmpimnabItem6
namespace Go.Proofs.Ytbjpbcanmpimnab.Lo
open Go.RowKit Bk
set_option linter.unusedVariables false

def RRb (w : World) (rb : Nat) (ao : Option Addr) (n c : Nat) (a x : Int) : Prop := w.heap[rb]? = some (.cells #[.slice ao n c, .int .i64 a, .int .i64 x] 105 (0, 0))

theorem rtake_eq (ao : Option Addr) (len cap : Nat) (bs : List Int) (w : World) (hr : Rd w ao len cap bs) (hlen : len ≤ 140737488355328) (a x y z : Int) (h : Wm.tk bs a = (x, y, z)) :
    Calls Try.prog 100 #[.slice ao len cap, .int .i64 a] w fun e w' => e = .returned (.tuple #[.int .i64 x, .int .i64 y, .int .i64 z]) ∧ w = w' := by
  have := Wk.rtake_any ao len cap bs w (toWk hr) hlen a
  rw [h] at this
  exact this

theorem inR_ge {v lo hi : Int} (h : inR v lo hi = true) : ¬ v < lo ∧ ¬ hi < v := by
  unfold inR at h
  simp at h
  omega
theorem inR_not {v lo hi : Int} (h : inR v lo hi = false) : v < lo ∨ (¬ v < lo ∧ hi < v) := by
  unfold inR at h
  simp at h
  omega

set_option maxRecDepth 100000 in
set_option maxHeartbeats 1000000 in
theorem rnum_ok (rb n c : Nat) (ao : Option Addr) (bs : List Int) (a m : Nat) (lo hi v : Int) (w : World) (hb : RRb w rb ao n c a 0) (hr : Rd w ao n c bs) (hlen : n ≤ 140737488355328) (h : cnt bs a lo hi = .ok (v, m)) :
    Calls Try.prog 60 #[.pointer (some ⟨rb, 0, none⟩), .int .i64 lo, .int .i64 hi] w fun e w' => e = .returned (.int .i64 v) ∧ RRb w' rb ao n c m 0 ∧ Kept w w' (fun j => j = rb) := by
  obtain ⟨h1, h2, _⟩ := cnt_ok h
  obtain ⟨g1, g2⟩ := inR_ge h2
  have c0 : w.cell? ⟨rb, 0, none⟩ = some (.slice ao n c) := cell_of_row w rb 0 _ _ _ hb
  have c1 : w.cell? ⟨rb, 1, none⟩ = some (.int .i64 a) := cell_of_row w rb 1 _ _ _ hb
  have c2 : w.cell? ⟨rb, 2, none⟩ = some (.int .i64 0) := cell_of_row w rb 2 _ _ _ hb
  have hfz : w.frozen? ⟨rb, 1, none⟩ = false := frozen_of_row w rb 1 _ 105 hb
  have HR : Hid (Rd w ao n c bs) := hr
  have H1 : Hid (Wm.tk bs a = (v, (m : Int), 0)) := h1
  have HF : Hid (RRb (w.setCell ⟨rb, 1, none⟩ (.int .i64 m)) rb ao n c m 0 ∧ Kept w (w.setCell ⟨rb, 1, none⟩ (.int .i64 m)) (fun j => j = rb)) :=
    ⟨heap_setCell_same w rb 1 _ 105 _ hb, ⟨rfl, rfl, rfl, by simp, fun j hj hq => Below.heap_setCell w ⟨rb, 1, none⟩ _ j hq⟩⟩
  clear hr h1 h hb h2
  go_enter Try.func60, Try.ntmps60
  go_wp2_with fail
  go_region_held3 (fun w' => w'.cell? ⟨rb, 0, none⟩ = some (.slice ao n c) ∧ w'.cell? ⟨rb, 1, none⟩ = some (.int .i64 a)) (go_keep)
    ((go_at_call 100; refine (rtake_eq ao n c bs _ (by exact HR.out) hlen a v m 0 H1.out).mono ?_; rintro e w' ⟨rfl, rfl⟩))
  go_wp2_with fail
  go_ret
  exact ⟨rfl, HF.out.1, HF.out.2.drew⟩

theorem rset2 (rb n c : Nat) (ao : Option Addr) (a x : Int) (w : World) (hb : RRb w rb ao n c a 0) : w.frozen? ⟨rb, 2, none⟩ = false ∧ RRb (w.setCell ⟨rb, 2, none⟩ (.int .i64 x)) rb ao n c a x ∧ Kept w (w.setCell ⟨rb, 2, none⟩ (.int .i64 x)) (fun j => j = rb) :=
  ⟨frozen_of_row w rb 2 _ 105 hb, heap_setCell_same w rb 2 _ 105 _ hb, ⟨rfl, rfl, rfl, by simp, fun j hj hq => Below.heap_setCell w ⟨rb, 2, none⟩ _ j hq⟩⟩

theorem rset1 (rb n c : Nat) (ao : Option Addr) (a m x : Int) (w : World) (hb : RRb w rb ao n c a x) : w.frozen? ⟨rb, 1, none⟩ = false ∧ RRb (w.setCell ⟨rb, 1, none⟩ (.int .i64 m)) rb ao n c m x ∧ Kept w (w.setCell ⟨rb, 1, none⟩ (.int .i64 m)) (fun j => j = rb) :=
  ⟨frozen_of_row w rb 1 _ 105 hb, heap_setCell_same w rb 1 _ 105 _ hb, ⟨rfl, rfl, rfl, by simp, fun j hj hq => Below.heap_setCell w ⟨rb, 1, none⟩ _ j hq⟩⟩

set_option maxRecDepth 100000 in
set_option maxHeartbeats 1000000 in
theorem rnum_err (rb n c : Nat) (ao : Option Addr) (bs : List Int) (a : Nat) (lo hi x : Int) (w : World) (hb : RRb w rb ao n c a 0) (hr : Rd w ao n c bs) (hlen : n ≤ 140737488355328) (h : cnt bs a lo hi = .error x) :
    Calls Try.prog 60 #[.pointer (some ⟨rb, 0, none⟩), .int .i64 lo, .int .i64 hi] w fun e w' => e = .returned (.int .i64 0) ∧ (∃ a', RRb w' rb ao n c a' x) ∧ Kept w w' (fun j => j = rb) := by
  have c0 : w.cell? ⟨rb, 0, none⟩ = some (.slice ao n c) := cell_of_row w rb 0 _ _ _ hb
  have c1 : w.cell? ⟨rb, 1, none⟩ = some (.int .i64 a) := cell_of_row w rb 1 _ _ _ hb
  have c2 : w.cell? ⟨rb, 2, none⟩ = some (.int .i64 0) := cell_of_row w rb 2 _ _ _ hb
  have HR : Hid (Rd w ao n c bs) := hr
  rcases cnt_err h with ⟨v, nx, h1, h2⟩ | ⟨v, nx, h1, h2, rfl⟩
  · obtain ⟨hfz, hq1, hq2⟩ := rset2 rb n c ao a x w hb
    have H1 : Hid (Wm.tk bs a = (v, nx, x)) := h1
    have HF : Hid (RRb (w.setCell ⟨rb, 2, none⟩ (.int .i64 x)) rb ao n c a x ∧ Kept w (w.setCell ⟨rb, 2, none⟩ (.int .i64 x)) (fun j => j = rb)) := ⟨hq1, hq2⟩
    clear hr h1 h hb hq1 hq2
    go_enter Try.func60, Try.ntmps60
    go_wp2_with fail
    go_region_held3 (fun w' => w'.cell? ⟨rb, 0, none⟩ = some (.slice ao n c) ∧ w'.cell? ⟨rb, 1, none⟩ = some (.int .i64 a)) (go_keep)
      ((go_at_call 100; refine (rtake_eq ao n c bs _ (by exact HR.out) hlen a v nx x H1.out).mono ?_; rintro e w' ⟨rfl, rfl⟩))
    go_wp2_with fail
    go_ret
    exact ⟨rfl, ⟨_, HF.out.1⟩, HF.out.2.drew⟩
  · obtain ⟨hfz, hq1, hq2⟩ := rset1 rb n c ao a nx 0 w hb
    obtain ⟨hfz2, hq3, hq4⟩ := rset2 rb n c ao nx 16 _ hq1
    have H1 : Hid (Wm.tk bs a = (v, nx, 0)) := h1
    have HF : Hid (RRb ((w.setCell ⟨rb, 1, none⟩ (.int .i64 nx)).setCell ⟨rb, 2, none⟩ (.int .i64 16)) rb ao n c nx 16 ∧ Kept w ((w.setCell ⟨rb, 1, none⟩ (.int .i64 nx)).setCell ⟨rb, 2, none⟩ (.int .i64 16)) (fun j => j = rb)) := ⟨hq3, hq2.trans hq4⟩
    have e1 : (decide (v < lo) || decide (hi < v)) = true := by rcases inR_not h2 with h | ⟨_, h⟩ <;> simp [h]
    have hc := inR_not h2
    clear hr h1 h hb hq1 hq2 hq3 hq4 h2
    rcases hc with hc | ⟨hc, hc'⟩
    all_goals
      go_enter Try.func60, Try.ntmps60
      go_wp2_with fail
      go_region_held3 (fun w' => w'.cell? ⟨rb, 0, none⟩ = some (.slice ao n c) ∧ w'.cell? ⟨rb, 1, none⟩ = some (.int .i64 a)) (go_keep)
        ((go_at_call 100; refine (rtake_eq ao n c bs _ (by exact HR.out) hlen a v nx 0 H1.out).mono ?_; rintro e w' ⟨rfl, rfl⟩))
      go_wp2_with fail
      go_ret
      exact ⟨rfl, ⟨_, HF.out.1⟩, HF.out.2.drew⟩

set_option maxRecDepth 100000 in
theorem rnum_stuck (rb n c : Nat) (ao : Option Addr) (a lo hi x : Int) (w : World) (hb : RRb w rb ao n c a x) (hx : x ≠ 0) :
    Calls Try.prog 60 #[.pointer (some ⟨rb, 0, none⟩), .int .i64 lo, .int .i64 hi] w fun e w' => e = .returned (.int .i64 0) ∧ w = w' := by
  have c2 : w.cell? ⟨rb, 2, none⟩ = some (.int .i64 x) := cell_of_row w rb 2 _ _ _ hb
  have hx' : (x != 0) = true := by simpa using hx
  clear hb
  go_enter Try.func60, Try.ntmps60
  go_wp2_with fail
  go_ret
  exact ⟨rfl, rfl⟩

end Go.Proofs.Ytbjpbcanmpimnab.Lo
