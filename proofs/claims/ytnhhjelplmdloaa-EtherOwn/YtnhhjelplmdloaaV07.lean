import Derived.Test.YtnhhjelplmdloaaV06
namespace Go.Proofs.Ytnhhjelplmdloaa.Et
open Go.RowKit Go.Maps
set_option linter.unusedVariables false
set_option linter.unusedSimpArgs false
set_option maxRecDepth 100000
structure Ev where
  k : Int
  a : Int
  b : Int
  n : Int
  ba : Option Addr
  bn : Nat
  bc : Nat
  sa : Option Addr
  sn : Nat
  sc : Nat
def Ev.cs (v : Ev) : Array Value := #[.int .i64 v.k, .int .i64 v.a, .int .i64 v.b, .int .i64 v.n, .slice v.ba v.bn v.bc, .int .i64 0, .int .i64 0, .int .i64 0, .int .i64 0, .string ByteArray.empty, .string ByteArray.empty, .string ByteArray.empty, .slice v.sa v.sn v.sc]
theorem ev_cells {w : World} {t : TypeId} {k : Nat} {v : Ev} (h : w.heap[k]? = some (.cells v.cs t (0, 0))) : w.cell? ⟨k, 0, none⟩ = some (.int .i64 v.k) ∧ w.cell? ⟨k, 1, none⟩ = some (.int .i64 v.a) ∧ w.cell? ⟨k, 2, none⟩ = some (.int .i64 v.b) ∧ w.cell? ⟨k, 3, none⟩ = some (.int .i64 v.n) ∧ w.cell? ⟨k, 4, none⟩ = some (.slice v.ba v.bn v.bc) ∧ w.cell? ⟨k, 12, none⟩ = some (.slice v.sa v.sn v.sc) :=
  ⟨blk_cell h 0, blk_cell h 1, blk_cell h 2, blk_cell h 3, blk_cell h 4, blk_cell h 12⟩
theorem ev_rest {w : World} {t : TypeId} {k : Nat} {v : Ev} (h : w.heap[k]? = some (.cells v.cs t (0, 0))) : w.cell? ⟨k, 5, none⟩ = some (.int .i64 0) ∧ w.cell? ⟨k, 6, none⟩ = some (.int .i64 0) ∧ w.cell? ⟨k, 7, none⟩ = some (.int .i64 0) ∧ w.cell? ⟨k, 8, none⟩ = some (.int .i64 0) ∧ w.cell? ⟨k, 9, none⟩ = some (.string ByteArray.empty) ∧ w.cell? ⟨k, 10, none⟩ = some (.string ByteArray.empty) ∧ w.cell? ⟨k, 11, none⟩ = some (.string ByteArray.empty) :=
  ⟨blk_cell h 5, blk_cell h 6, blk_cell h 7, blk_cell h 8, blk_cell h 9, blk_cell h 10, blk_cell h 11⟩
section
variable {E E' : En} {w w' W w1 : World} {B m : Nat}
theorem new_old {k i : Nat} {v : Value} {o : Obj} (hc : W.cell? ⟨k, i, none⟩ = some v) : (W.alloc o).cell? ⟨k, i, none⟩ = some v := below_at ((Below.refl _ W).alloc (Nat.le_refl _) o) hc
set_option maxHeartbeats 400000 in
theorem doPath_no (h : E.Ok w B m) (v : Ev) (hp : isP E v.a v.b = false) : Calls Try.prog 50 #[.pointer (some ⟨E.b, 0, none⟩), .agg v.cs] w fun e w' => e = .returned (.int .i64 1) ∧ Below w.heap.size w w' := by
  generalize hW : w.alloc (.cells v.cs 90) = W
  have hbW : Below w.heap.size w W := by rw [← hW]; exact balloc (Below.refl _ w)
  have hblk : W.heap[w.heap.size]? = some (.cells v.cs 90 (0, 0)) := by rw [← hW]; exact heap_alloc_new w _
  obtain ⟨e0, e1, e2, e3, e4, e5⟩ := ev_cells hblk
  have HP : Hid (∀ w', Below w.heap.size w w' → Calls Try.prog 45 #[.pointer (some ⟨E.b, 0, none⟩), .agg #[.int .i64 v.a, .int .i64 v.b]] w' fun e w2 => e = .returned (.bool false) ∧ Below w'.heap.size w' w2) := isPath_is h hp
  have Hb : Hid (Below w.heap.size w W) := hbW
  unfold Ev.cs at hW ⊢
  clear h hbW hblk
  go_enter Try.func50, Try.ntmps50
  go_wp2_with (first | (go_at_call 45; refine (HP.out _ (by repeat (first | exact Hb.out | apply Below.drew | apply balloc))).mono ?_; rintro e w1 ⟨rfl, hb1⟩) | fail)
  go_ret
  exact ⟨rfl, bstep (balloc Hb.out) hb1⟩
theorem path_pre (h : E.Ok w B m) {a b : Nat} (ha : a < E.nn) (hb : b < E.nn) (hne : a ≠ b) : ∀ w', Below w.heap.size w w' → Calls Try.prog 45 #[.pointer (some ⟨E.b, 0, none⟩), .agg #[.int .i64 a, .int .i64 b]] w' fun e w2 => e = .returned (.bool true) ∧ Below w'.heap.size w' w2 := isPath_is h (isP_nat ha hb hne)
set_option maxHeartbeats 400000 in
theorem doPath_open (h : E.Ok w B m) (v : Ev) (a b : Nat) (hva : v.a = a) (hvb : v.b = b) (ha : a < E.nn) (hb : b < E.nn) (hne : a ≠ b) (hk : v.k ≠ 10) (hm : m < maxLen) : Calls Try.prog 50 #[.pointer (some ⟨E.b, 0, none⟩), .agg v.cs] w fun e w' => e = .returned (.int .i64 0) ∧ Step w w' E { E with cut := upd2 E.cut a b (!(v.k == 9)) } B (m + 1) := by
  have hn := h.n16
  generalize hW : w.alloc (.cells v.cs 90) = W
  have hbW : Below w.heap.size w W := by rw [← hW]; exact balloc (Below.refl _ w)
  have hblk : W.heap[w.heap.size]? = some (.cells v.cs 90 (0, 0)) := by rw [← hW]; exact heap_alloc_new w _
  obtain ⟨e0, e1, e2, e3, e4, e5⟩ := ev_cells hblk
  rw [hva] at e1
  rw [hvb] at e2
  have HP : Hid (∀ w', Below w.heap.size w w' → Calls Try.prog 45 #[.pointer (some ⟨E.b, 0, none⟩), .agg #[.int .i64 a, .int .i64 b]] w' fun e w2 => e = .returned (.bool true) ∧ Below w'.heap.size w' w2) := path_pre h ha hb hne
  have HO : Hid (∀ w' o, Below w.heap.size w w' → Calls Try.prog 59 #[.pointer (some ⟨E.b, 0, none⟩), .agg #[.int .i64 a, .int .i64 b], .bool o] w' fun e w2 => e = .returned (.tuple #[]) ∧ Step w' w2 E { E with cut := upd2 E.cut a b (!o) } B (m + 1)) := fun w' o hb' => setOpen_any (h.still hb') a b (by omega) (by omega) o hm
  have Hb : Hid (Below w.heap.size w W) := hbW
  unfold Ev.cs at hW ⊢
  rw [hva, hvb] at hW ⊢
  clear h hbW hblk
  go_enter Try.func50, Try.ntmps50
  go_wp2_with (first
    | (go_at_call 45; refine (HP.out _ (by repeat (first | exact Hb.out | apply Below.drew | apply balloc))).mono ?_; rintro e w1 ⟨rfl, hb1⟩; have R1 : Hid (Below w.heap.size w w1) := (bstep (balloc Hb.out) hb1); have f0 := below_at hb1 (new_old e0); have q0 := new_cells hb1 0 (v := .int .i64 a) rfl; have q1 := new_cells hb1 1 (v := .int .i64 b) rfl; clear hb1)
    | (go_at_call 59; refine (HO.out _ _ R1.out).mono ?_; rintro e w2 ⟨rfl, hs2⟩)
    | fail)
  go_ret
  exact ⟨rfl, Step.pre R1.out hs2⟩
set_option maxHeartbeats 400000 in
theorem doPath_dno (h : E.Ok w B m) (v : Ev) (a b : Nat) (hva : v.a = a) (hvb : v.b = b) (ha : a < E.nn) (hb : b < E.nn) (hne : a ≠ b) (hk : v.k = 10) (hx : v.n < 1 ∨ 16 < v.n) : Calls Try.prog 50 #[.pointer (some ⟨E.b, 0, none⟩), .agg v.cs] w fun e w' => e = .returned (.int .i64 1) ∧ Below w.heap.size w w' := by
  have hn := h.n16
  generalize hW : w.alloc (.cells v.cs 90) = W
  have hbW : Below w.heap.size w W := by rw [← hW]; exact balloc (Below.refl _ w)
  have hblk : W.heap[w.heap.size]? = some (.cells v.cs 90 (0, 0)) := by rw [← hW]; exact heap_alloc_new w _
  obtain ⟨e0, e1, e2, e3, e4, e5⟩ := ev_cells hblk
  rw [hva] at e1
  rw [hvb] at e2
  rw [hk] at e0
  have HP : Hid (∀ w', Below w.heap.size w w' → Calls Try.prog 45 #[.pointer (some ⟨E.b, 0, none⟩), .agg #[.int .i64 a, .int .i64 b]] w' fun e w2 => e = .returned (.bool true) ∧ Below w'.heap.size w' w2) := path_pre h ha hb hne
  have HO : Hid (∀ w', Below w.heap.size w w' → Calls Try.prog 58 #[.pointer (some ⟨E.b, 0, none⟩), .agg #[.int .i64 a, .int .i64 b], .int .i64 v.n] w' fun e w2 => e = .returned (.int .i64 1) ∧ Below w'.heap.size w' w2) := fun w' hb' => setDelay_no (h.still hb') a b v.n hx
  have Hb : Hid (Below w.heap.size w W) := hbW
  unfold Ev.cs at hW ⊢
  rw [hva, hvb, hk] at hW ⊢
  clear h hbW hblk hx
  go_enter Try.func50, Try.ntmps50
  go_wp2_with (first
    | (go_at_call 45; refine (HP.out _ (by repeat (first | exact Hb.out | apply Below.drew | apply balloc))).mono ?_; rintro e w1 ⟨rfl, hb1⟩; have R1 : Hid (Below w.heap.size w w1) := (bstep (balloc Hb.out) hb1); have f0 := below_at hb1 (new_old e0); have f3 := below_at hb1 (new_old e3); have q0 := new_cells hb1 0 (v := .int .i64 a) rfl; have q1 := new_cells hb1 1 (v := .int .i64 b) rfl; clear hb1)
    | (go_at_call 58; refine (HO.out _ R1.out).mono ?_; rintro e w2 ⟨rfl, hs2⟩)
    | fail)
  all_goals first | (go_ret; exact ⟨rfl, bstep R1.out hs2⟩) | exact ⟨rfl, bstep R1.out hs2⟩
set_option maxHeartbeats 400000 in
theorem doPath_dly (h : E.Ok w B m) (v : Ev) (a b : Nat) (hva : v.a = a) (hvb : v.b = b) (ha : a < E.nn) (hb : b < E.nn) (hne : a ≠ b) (hk : v.k = 10) (h1 : 1 ≤ v.n) (h2 : v.n ≤ 16) (hm : m < maxLen) : Calls Try.prog 50 #[.pointer (some ⟨E.b, 0, none⟩), .agg v.cs] w fun e w' => e = .returned (.int .i64 0) ∧ Step w w' E { E with dl := upd2 E.dl a b v.n } B (m + 1) := by
  have hn := h.n16
  generalize hW : w.alloc (.cells v.cs 90) = W
  have hbW : Below w.heap.size w W := by rw [← hW]; exact balloc (Below.refl _ w)
  have hblk : W.heap[w.heap.size]? = some (.cells v.cs 90 (0, 0)) := by rw [← hW]; exact heap_alloc_new w _
  obtain ⟨e0, e1, e2, e3, e4, e5⟩ := ev_cells hblk
  rw [hva] at e1
  rw [hvb] at e2
  rw [hk] at e0
  have HP : Hid (∀ w', Below w.heap.size w w' → Calls Try.prog 45 #[.pointer (some ⟨E.b, 0, none⟩), .agg #[.int .i64 a, .int .i64 b]] w' fun e w2 => e = .returned (.bool true) ∧ Below w'.heap.size w' w2) := path_pre h ha hb hne
  have HO : Hid (∀ w', Below w.heap.size w w' → Calls Try.prog 58 #[.pointer (some ⟨E.b, 0, none⟩), .agg #[.int .i64 a, .int .i64 b], .int .i64 v.n] w' fun e w2 => e = .returned (.int .i64 0) ∧ Step w' w2 E { E with dl := upd2 E.dl a b v.n } B (m + 1)) := fun w' hb' => setDelay_ok (h.still hb') a b (by omega) (by omega) v.n h1 h2 hm
  have Hb : Hid (Below w.heap.size w W) := hbW
  unfold Ev.cs at hW ⊢
  rw [hva, hvb, hk] at hW ⊢
  clear h hbW hblk h1 h2
  go_enter Try.func50, Try.ntmps50
  go_wp2_with (first
    | (go_at_call 45; refine (HP.out _ (by repeat (first | exact Hb.out | apply Below.drew | apply balloc))).mono ?_; rintro e w1 ⟨rfl, hb1⟩; have R1 : Hid (Below w.heap.size w w1) := (bstep (balloc Hb.out) hb1); have f0 := below_at hb1 (new_old e0); have f3 := below_at hb1 (new_old e3); have q0 := new_cells hb1 0 (v := .int .i64 a) rfl; have q1 := new_cells hb1 1 (v := .int .i64 b) rfl; clear hb1)
    | (go_at_call 58; refine (HO.out _ R1.out).mono ?_; rintro e w2 ⟨rfl, hs2⟩)
    | fail)
  all_goals first | (go_ret; exact ⟨rfl, Step.pre R1.out hs2⟩) | exact ⟨rfl, Step.pre R1.out hs2⟩
end
end Go.Proofs.Ytnhhjelplmdloaa.Et
