import Derived.Test.YtbjpbcanmpimnabDec
import Derived.Deep.RegionHeld3
namespace Go.Proofs.Ytbjpbcanmpimnab.Lo
open Go.RowKit Bk
set_option linter.unusedVariables false

theorem toWk {w : World} {ao : Option Addr} {len cap : Nat} {bs : List Int} (h : Rd w ao len cap bs) : Wk.Rd w ao len bs := ⟨h.1, h.2.2.1, h.2.2.2⟩

theorem take_eq (ao : Option Addr) (len cap : Nat) (bs : List Int) (w : World) (hr : Rd w ao len cap bs) (hlen : len ≤ 140737488355328) (a x y z : Int) (h : Wm.tk bs a = (x, y, z)) :
    Calls Try.prog 103 #[.slice ao len cap, .int .i64 a] w fun e w' => e = .returned (.tuple #[.int .i64 x, .int .i64 y, .int .i64 z]) ∧ w = w' := by
  have := Wk.take_any ao len cap bs w (toWk hr) hlen a
  rw [h] at this
  exact this

def boom (x : Int) : Ending := .panicked [{ v := .iface 30 (.int .i64 x), recovered := false }]

def Rb (w : World) (rb : Nat) (ao : Option Addr) (n c : Nat) (a : Int) : Prop := w.heap[rb]? = some (.cells #[.slice ao n c, .int .i64 a] 114 (0, 0))

set_option maxRecDepth 100000 in
set_option maxHeartbeats 1000000 in
theorem count_ok (rb n c : Nat) (ao : Option Addr) (bs : List Int) (a m : Nat) (lo hi v : Int) (w : World) (hb : Rb w rb ao n c a) (hr : Rd w ao n c bs) (hlen : n ≤ 140737488355328) (h : cnt bs a lo hi = .ok (v, m)) :
    Calls Try.prog 69 #[.pointer (some ⟨rb, 0, none⟩), .int .i64 lo, .int .i64 hi] w fun e w' => e = .returned (.int .i64 v) ∧ Rb w' rb ao n c m ∧ Kept w w' (fun j => j = rb) := by
  obtain ⟨h1, h2, _⟩ := cnt_ok h
  have c0 : w.cell? ⟨rb, 0, none⟩ = some (.slice ao n c) := cell_of_row w rb 0 _ _ _ hb
  have c1 : w.cell? ⟨rb, 1, none⟩ = some (.int .i64 a) := cell_of_row w rb 1 _ _ _ hb
  have hfz : w.frozen? ⟨rb, 1, none⟩ = false := frozen_of_row w rb 1 _ 114 hb
  have HR : Hid (Rd w ao n c bs) := hr
  have H1 : Hid (Wm.tk bs a = (v, (m : Int), 0)) := h1
  have HF : Hid (Rb (w.setCell ⟨rb, 1, none⟩ (.int .i64 m)) rb ao n c m ∧ Kept w (w.setCell ⟨rb, 1, none⟩ (.int .i64 m)) (fun j => j = rb)) :=
    ⟨heap_setCell_same w rb 1 _ 114 _ hb, ⟨rfl, rfl, rfl, by simp, fun j hj hq => Below.heap_setCell w ⟨rb, 1, none⟩ _ j hq⟩⟩
  clear hr h1 h hb
  go_enter Try.func69, Try.ntmps69
  go_wp2_with fail
  go_region_held3 (fun w' => w'.cell? ⟨rb, 0, none⟩ = some (.slice ao n c) ∧ w'.cell? ⟨rb, 1, none⟩ = some (.int .i64 a)) (go_keep)
    ((go_at_call 103; refine (take_eq ao n c bs _ (by exact HR.out) hlen a v m 0 H1.out).mono ?_; rintro e w' ⟨rfl, rfl⟩))
  go_wp2_with (first
    | (go_at_call 64; refine (within_any _ _ _ _).mono ?_; rintro e w' ⟨rfl, rfl⟩)
    | fail)
  go_ret
  exact ⟨rfl, HF.out.1, HF.out.2.drew⟩

set_option maxRecDepth 100000 in
set_option maxHeartbeats 1000000 in
theorem count_err (rb n c : Nat) (ao : Option Addr) (bs : List Int) (a : Nat) (lo hi x : Int) (w : World) (hb : Rb w rb ao n c a) (hr : Rd w ao n c bs) (hlen : n ≤ 140737488355328) (h : cnt bs a lo hi = .error x) :
    Calls Try.prog 69 #[.pointer (some ⟨rb, 0, none⟩), .int .i64 lo, .int .i64 hi] w fun e w' => e = boom x ∧ Kept w w' (fun j => j = rb) := by
  have c0 : w.cell? ⟨rb, 0, none⟩ = some (.slice ao n c) := cell_of_row w rb 0 _ _ _ hb
  have c1 : w.cell? ⟨rb, 1, none⟩ = some (.int .i64 a) := cell_of_row w rb 1 _ _ _ hb
  have HR : Hid (Rd w ao n c bs) := hr
  clear hr hb
  rcases cnt_err h with ⟨v, nx, h1, h2⟩ | ⟨v, nx, h1, h2, rfl⟩
  · have H1 : Hid (Wm.tk bs a = (v, nx, x)) := h1
    have h2' : (x != 0) = true := by simpa using h2
    clear h1 h h2
    go_enter Try.func69, Try.ntmps69
    go_wp2_with fail
    go_region_held3 (fun w' => w'.cell? ⟨rb, 0, none⟩ = some (.slice ao n c) ∧ w'.cell? ⟨rb, 1, none⟩ = some (.int .i64 a)) (go_keep)
      ((go_at_call 103; refine (take_eq ao n c bs _ (by exact HR.out) hlen a v nx x H1.out).mono ?_; rintro e w' ⟨rfl, rfl⟩))
    go_wp2_with fail
    exact ⟨rfl, rfl, (Kept.refl _ _).drew⟩
  · have H1 : Hid (Wm.tk bs a = (v, nx, 0)) := h1
    clear h1 h
    go_enter Try.func69, Try.ntmps69
    go_wp2_with fail
    go_region_held3 (fun w' => w'.cell? ⟨rb, 0, none⟩ = some (.slice ao n c) ∧ w'.cell? ⟨rb, 1, none⟩ = some (.int .i64 a)) (go_keep)
      ((go_at_call 103; refine (take_eq ao n c bs _ (by exact HR.out) hlen a v nx 0 H1.out).mono ?_; rintro e w' ⟨rfl, rfl⟩))
    go_wp2_with (first
      | (go_at_call 64; refine (within_any _ _ _ _).mono ?_; rintro e w' ⟨rfl, rfl⟩)
      | fail)
    exact ⟨rfl, rfl, (Kept.refl _ _).drew⟩

end Go.Proofs.Ytbjpbcanmpimnab.Lo
