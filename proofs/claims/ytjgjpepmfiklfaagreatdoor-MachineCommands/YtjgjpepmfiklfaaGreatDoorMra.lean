import Derived.Test.YtjgjpepmfiklfaaGreatDoorRefTake
import Derived.Test.YtjgjpepmfiklfaaGreatDoorTake
import Derived.Test.YtjgjpepmfiklfaaGreatDoorBook
import Derived.BigQuiet
import Derived.Deep.QuietTactic
import Derived.Deep.RegionHeld3
namespace Go.Proofs.YtjgjpepmfiklfaaGreatDoor.Lo
open Go.RowKit Bk
set_option linter.unusedVariables false
def inR (v lo hi : Int) : Bool := decide (lo ≤ v) && decide (v ≤ hi)
theorem toWk {w : World} {ao : Option Addr} {len cap : Nat} {bs : List Int} (h : Rd w ao len cap bs) : Wk.Rd w ao len bs := ⟨h.1, h.2.2.1, h.2.2.2⟩
theorem bstep {w0 w w' : World} (h : Below w0.heap.size w0 w) (hb : Below w.heap.size w w') : Below w0.heap.size w0 w' := h.trans (hb.mono h.size)
theorem tkGo_ok (bs : List Int) (a : Nat) : ∀ (k i : Nat) (u v nx : Int), 0 ≤ u → Wm.tkGo bs a k i u = (v, nx, 0) → ∃ m : Nat, nx = m ∧ m ≤ bs.length ∧ a < m ∧ 0 ≤ v ∧ v ≤ 4611686018427387904 := by
  intro k
  induction k with
  | zero => intro i u v nx hu h; simp [Wm.tkGo] at h
  | succ k ih =>
    intro i u v nx hu h
    rw [Wm.tkGo] at h
    have hp := Wm.pow_pos i
    have hnn : 0 ≤ u + bs.getD (a + i) 0 % 128 * 128 ^ i := by
      have : 0 ≤ bs.getD (a + i) 0 % 128 * 128 ^ i := Int.mul_nonneg (by omega) (Int.le_of_lt hp)
      omega
    split at h
    · rename_i hlt
      split at h
      · exact ih (i + 1) _ v nx hnn h
      · split at h
        · simp at h
        · rename_i hbad
          simp only [Prod.mk.injEq, and_true] at h
          obtain ⟨rfl, rfl⟩ := h
          refine ⟨a + i + 1, rfl, by omega, by omega, hnn, ?_⟩
          unfold Wm.maxCount at hbad
          omega
    · simp at h

theorem tk_ok {bs : List Int} {a : Nat} {v nx : Int} (h : Wm.tk bs a = (v, nx, 0)) : ∃ m : Nat, nx = m ∧ m ≤ bs.length ∧ a < m ∧ 0 ≤ v ∧ v ≤ 4611686018427387904 := by
  unfold Wm.tk at h
  split at h
  · simp at h
  · exact tkGo_ok bs a 9 0 0 v nx (by decide) (by simpa using h)

def cnt (bs : List Int) (a : Nat) (lo hi : Int) : Except Int (Int × Nat) :=
  if (Wm.tk bs a).2.2 ≠ 0 then .error (Wm.tk bs a).2.2 else if inR (Wm.tk bs a).1 lo hi then .ok ((Wm.tk bs a).1, (Wm.tk bs a).2.1.toNat) else .error 16

theorem cnt_ok {bs : List Int} {a m : Nat} {lo hi v : Int} (h : cnt bs a lo hi = .ok (v, m)) : Wm.tk bs a = (v, (m : Int), 0) ∧ inR v lo hi = true ∧ m ≤ bs.length ∧ a < m ∧ 0 ≤ v ∧ v ≤ 4611686018427387904 := by
  unfold cnt at h
  obtain ⟨x, y, z, ht⟩ : ∃ x y z, Wm.tk bs a = (x, y, z) := ⟨_, _, _, rfl⟩
  rw [ht] at h ⊢
  simp only at h
  split at h
  · simp at h
  · rename_i hz
    simp only [ne_eq, Classical.not_not] at hz
    subst hz
    split at h
    · rename_i hr
      simp only [Except.ok.injEq, Prod.mk.injEq] at h
      obtain ⟨rfl, rfl⟩ := h
      obtain ⟨m, rfl, h1, h2, h3, h4⟩ := tk_ok ht
      exact ⟨by simp, hr, by simpa using h1, by simpa using h2, h3, h4⟩
    · simp at h

theorem cnt_err {bs : List Int} {a : Nat} {lo hi x : Int} (h : cnt bs a lo hi = .error x) : (∃ v nx, Wm.tk bs a = (v, nx, x) ∧ x ≠ 0) ∨ (∃ v nx, Wm.tk bs a = (v, nx, 0) ∧ inR v lo hi = false ∧ x = 16) := by
  unfold cnt at h
  obtain ⟨x', y, z, ht⟩ : ∃ x y z, Wm.tk bs a = (x, y, z) := ⟨_, _, _, rfl⟩
  rw [ht] at h ⊢
  simp only at h
  split at h
  · rename_i hz
    simp only [Except.error.injEq] at h
    subst h
    exact .inl ⟨x', y, rfl, hz⟩
  · rename_i hz
    simp only [ne_eq, Classical.not_not] at hz
    subst hz
    split at h
    · simp at h
    · rename_i hr
      simp only [Except.error.injEq] at h
      exact .inr ⟨x', y, rfl, by simpa using hr, h.symm⟩

theorem cnt_nz {bs : List Int} {a : Nat} {lo hi x : Int} (h : cnt bs a lo hi = .error x) : x ≠ 0 := by
  rcases cnt_err h with ⟨_, _, _, h⟩ | ⟨_, _, _, _, rfl⟩
  · exact h
  · decide

def RRb (w : World) (rb : Nat) (ao : Option Addr) (n c : Nat) (a x : Int) : Prop := w.heap[rb]? = some (.cells #[.slice ao n c, .int .i64 a, .int .i64 x] 71 (0, 0))

theorem rtake_eq (ao : Option Addr) (len cap : Nat) (bs : List Int) (w : World) (hr : Rd w ao len cap bs) (hlen : len ≤ 140737488355328) (a x y z : Int) (h : Wm.tk bs a = (x, y, z)) :
    Calls Tryz.prog 63 #[.slice ao len cap, .int .i64 a] w fun e w' => e = .returned (.tuple #[.int .i64 x, .int .i64 y, .int .i64 z]) ∧ w = w' := by
  have := Wk.rtake_any ao len cap bs w (toWk hr) hlen a
  rw [h] at this
  exact this

theorem inR_ge {v lo hi : Int} (h : inR v lo hi = true) : ¬ v < lo ∧ ¬ hi < v := by
  unfold inR at h
  simp at h
  omega
theorem inR_not {v lo hi : Int} (h : inR v lo hi = false) : v < lo ∨ (¬ v < lo ∧ hi < v) := by
  unfold inR at h
  simp at h
  omega

set_option maxRecDepth 100000 in
set_option maxHeartbeats 1000000 in
theorem rnum_ok (rb n c : Nat) (ao : Option Addr) (bs : List Int) (a m : Nat) (lo hi v : Int) (w : World) (hb : RRb w rb ao n c a 0) (hr : Rd w ao n c bs) (hlen : n ≤ 140737488355328) (h : cnt bs a lo hi = .ok (v, m)) :
    Calls Tryz.prog 34 #[.pointer (some ⟨rb, 0, none⟩), .int .i64 lo, .int .i64 hi] w fun e w' => e = .returned (.int .i64 v) ∧ RRb w' rb ao n c m 0 ∧ Kept w w' (fun j => j = rb) := by
  obtain ⟨h1, h2, _⟩ := cnt_ok h
  obtain ⟨g1, g2⟩ := inR_ge h2
  have c0 : w.cell? ⟨rb, 0, none⟩ = some (.slice ao n c) := cell_of_row w rb 0 _ _ _ hb
  have c1 : w.cell? ⟨rb, 1, none⟩ = some (.int .i64 a) := cell_of_row w rb 1 _ _ _ hb
  have c2 : w.cell? ⟨rb, 2, none⟩ = some (.int .i64 0) := cell_of_row w rb 2 _ _ _ hb
  have hfz : w.frozen? ⟨rb, 1, none⟩ = false := frozen_of_row w rb 1 _ 71 hb
  have HR : Hid (Rd w ao n c bs) := hr
  have H1 : Hid (Wm.tk bs a = (v, (m : Int), 0)) := h1
  have HF : Hid (RRb (w.setCell ⟨rb, 1, none⟩ (.int .i64 m)) rb ao n c m 0 ∧ Kept w (w.setCell ⟨rb, 1, none⟩ (.int .i64 m)) (fun j => j = rb)) :=
    ⟨heap_setCell_same w rb 1 _ 71 _ hb, ⟨rfl, rfl, rfl, by simp, fun j hj hq => Below.heap_setCell w ⟨rb, 1, none⟩ _ j hq⟩⟩
  clear hr h1 h hb h2
  go_enter Tryz.func34, Tryz.ntmps34
  go_wp2_with fail
  go_region_held3 (fun w' => w'.cell? ⟨rb, 0, none⟩ = some (.slice ao n c) ∧ w'.cell? ⟨rb, 1, none⟩ = some (.int .i64 a)) (go_keep)
    ((go_at_call 63; refine (rtake_eq ao n c bs _ (by exact HR.out) hlen a v m 0 H1.out).mono ?_; rintro e w' ⟨rfl, rfl⟩))
  go_wp2_with fail
  go_ret
  exact ⟨rfl, HF.out.1, HF.out.2.drew⟩

theorem rset2 (rb n c : Nat) (ao : Option Addr) (a x : Int) (w : World) (hb : RRb w rb ao n c a 0) : w.frozen? ⟨rb, 2, none⟩ = false ∧ RRb (w.setCell ⟨rb, 2, none⟩ (.int .i64 x)) rb ao n c a x ∧ Kept w (w.setCell ⟨rb, 2, none⟩ (.int .i64 x)) (fun j => j = rb) :=
  ⟨frozen_of_row w rb 2 _ 71 hb, heap_setCell_same w rb 2 _ 71 _ hb, ⟨rfl, rfl, rfl, by simp, fun j hj hq => Below.heap_setCell w ⟨rb, 2, none⟩ _ j hq⟩⟩

theorem rset1 (rb n c : Nat) (ao : Option Addr) (a m x : Int) (w : World) (hb : RRb w rb ao n c a x) : w.frozen? ⟨rb, 1, none⟩ = false ∧ RRb (w.setCell ⟨rb, 1, none⟩ (.int .i64 m)) rb ao n c m x ∧ Kept w (w.setCell ⟨rb, 1, none⟩ (.int .i64 m)) (fun j => j = rb) :=
  ⟨frozen_of_row w rb 1 _ 71 hb, heap_setCell_same w rb 1 _ 71 _ hb, ⟨rfl, rfl, rfl, by simp, fun j hj hq => Below.heap_setCell w ⟨rb, 1, none⟩ _ j hq⟩⟩

set_option maxRecDepth 100000 in
set_option maxHeartbeats 1000000 in
theorem rnum_err (rb n c : Nat) (ao : Option Addr) (bs : List Int) (a : Nat) (lo hi x : Int) (w : World) (hb : RRb w rb ao n c a 0) (hr : Rd w ao n c bs) (hlen : n ≤ 140737488355328) (h : cnt bs a lo hi = .error x) :
    Calls Tryz.prog 34 #[.pointer (some ⟨rb, 0, none⟩), .int .i64 lo, .int .i64 hi] w fun e w' => e = .returned (.int .i64 0) ∧ (∃ a', RRb w' rb ao n c a' x) ∧ Kept w w' (fun j => j = rb) := by
  have c0 : w.cell? ⟨rb, 0, none⟩ = some (.slice ao n c) := cell_of_row w rb 0 _ _ _ hb
  have c1 : w.cell? ⟨rb, 1, none⟩ = some (.int .i64 a) := cell_of_row w rb 1 _ _ _ hb
  have c2 : w.cell? ⟨rb, 2, none⟩ = some (.int .i64 0) := cell_of_row w rb 2 _ _ _ hb
  have HR : Hid (Rd w ao n c bs) := hr
  rcases cnt_err h with ⟨v, nx, h1, h2⟩ | ⟨v, nx, h1, h2, rfl⟩
  · obtain ⟨hfz, hq1, hq2⟩ := rset2 rb n c ao a x w hb
    have H1 : Hid (Wm.tk bs a = (v, nx, x)) := h1
    have HF : Hid (RRb (w.setCell ⟨rb, 2, none⟩ (.int .i64 x)) rb ao n c a x ∧ Kept w (w.setCell ⟨rb, 2, none⟩ (.int .i64 x)) (fun j => j = rb)) := ⟨hq1, hq2⟩
    clear hr h1 h hb hq1 hq2
    go_enter Tryz.func34, Tryz.ntmps34
    go_wp2_with fail
    go_region_held3 (fun w' => w'.cell? ⟨rb, 0, none⟩ = some (.slice ao n c) ∧ w'.cell? ⟨rb, 1, none⟩ = some (.int .i64 a)) (go_keep)
      ((go_at_call 63; refine (rtake_eq ao n c bs _ (by exact HR.out) hlen a v nx x H1.out).mono ?_; rintro e w' ⟨rfl, rfl⟩))
    go_wp2_with fail
    go_ret
    exact ⟨rfl, ⟨_, HF.out.1⟩, HF.out.2.drew⟩
  · obtain ⟨hfz, hq1, hq2⟩ := rset1 rb n c ao a nx 0 w hb
    obtain ⟨hfz2, hq3, hq4⟩ := rset2 rb n c ao nx 16 _ hq1
    have H1 : Hid (Wm.tk bs a = (v, nx, 0)) := h1
    have HF : Hid (RRb ((w.setCell ⟨rb, 1, none⟩ (.int .i64 nx)).setCell ⟨rb, 2, none⟩ (.int .i64 16)) rb ao n c nx 16 ∧ Kept w ((w.setCell ⟨rb, 1, none⟩ (.int .i64 nx)).setCell ⟨rb, 2, none⟩ (.int .i64 16)) (fun j => j = rb)) := ⟨hq3, hq2.trans hq4⟩
    have e1 : (decide (v < lo) || decide (hi < v)) = true := by rcases inR_not h2 with h | ⟨_, h⟩ <;> simp [h]
    have hc := inR_not h2
    clear hr h1 h hb hq1 hq2 hq3 hq4 h2
    rcases hc with hc | ⟨hc, hc'⟩
    all_goals
      go_enter Tryz.func34, Tryz.ntmps34
      go_wp2_with fail
      go_region_held3 (fun w' => w'.cell? ⟨rb, 0, none⟩ = some (.slice ao n c) ∧ w'.cell? ⟨rb, 1, none⟩ = some (.int .i64 a)) (go_keep)
        ((go_at_call 63; refine (rtake_eq ao n c bs _ (by exact HR.out) hlen a v nx 0 H1.out).mono ?_; rintro e w' ⟨rfl, rfl⟩))
      go_wp2_with fail
      go_ret
      exact ⟨rfl, ⟨_, HF.out.1⟩, HF.out.2.drew⟩

set_option maxRecDepth 100000 in
theorem rnum_stuck (rb n c : Nat) (ao : Option Addr) (a lo hi x : Int) (w : World) (hb : RRb w rb ao n c a x) (hx : x ≠ 0) :
    Calls Tryz.prog 34 #[.pointer (some ⟨rb, 0, none⟩), .int .i64 lo, .int .i64 hi] w fun e w' => e = .returned (.int .i64 0) ∧ w = w' := by
  have c2 : w.cell? ⟨rb, 2, none⟩ = some (.int .i64 x) := cell_of_row w rb 2 _ _ _ hb
  have hx' : (x != 0) = true := by simpa using hx
  clear hb
  go_enter Tryz.func34, Tryz.ntmps34
  go_wp2_with fail
  go_ret
  exact ⟨rfl, rfl⟩


theorem rd_sub {w : World} {b off n c a k : Nat} {bs : List Int} (h : Rd w (some ⟨b, off, none⟩) n c bs) (hf : a + k ≤ n) (hnc : n ≤ c) : Rd w (if c = a then some ⟨b, off, none⟩ else some ⟨b, off + a, none⟩) k (c - a) ((bs.drop a).take k) := by
  obtain ⟨h1, h2, h3, h4⟩ := h
  refine ⟨by rw [List.length_take, List.length_drop]; omega, ?_, ?_, ?_⟩
  · intro e; split at e <;> cases e
  · by_cases h0 : k = 0
    · exact .inl h0
    · refine .inr ⟨b, off + a, if_neg (by omega), fun i hi => ?_⟩
      rcases h3 with h3 | ⟨b', off', e, hc⟩
      · omega
      · simp only [Option.some.injEq, Addr.mk.injEq, and_true] at e
        obtain ⟨rfl, rfl⟩ := e
        have := hc (a + i) (by omega)
        rw [← Nat.add_assoc] at this
        rw [this]
        simp [List.getD, List.getElem?_drop, hi]
  · intro i
    by_cases hi : i < k
    · have := h4 (a + i)
      simpa [List.getD, List.getElem?_take, List.getElem?_drop, hi] using this
    · have e : ((bs.drop a).take k).getD i 0 = 0 := by simp [List.getD, List.getElem?_take, hi]
      rw [e]; omega

set_option maxRecDepth 100000 in
set_option maxHeartbeats 1000000 in
theorem rbytes_ok (w0 : World) (rb n c : Nat) (ao : Option Addr) (bs : List Int) (a a4 : Nat) (k lo hi : Int) (w : World) (hb : RRb w rb ao n c a 0) (hr0 : Rd w0 ao n c bs) (hw : Below w0.heap.size w0 w) (hrb : w0.heap.size ≤ rb) (hlen : n ≤ 140737488355328) (hnc : n ≤ c) (h : cnt bs a lo hi = .ok (k, a4)) (hfit : a4 + k.toNat ≤ bs.length) :
    Calls Tryz.prog 64 #[.pointer (some ⟨rb, 0, none⟩), .int .i64 lo, .int .i64 hi] w fun e w' => ∃ v, e = .returned v ∧ Own w' w.heap.size v ((bs.drop a4).take k.toNat) ∧ RRb w' rb ao n c ((a4 + k.toNat : Nat) : Int) 0 ∧ Kept w w' (fun j => j = rb) := by
  have HR : Hid (Rd w0 ao n c bs) := hr0
  have HW : Hid (Below w0.heap.size w0 w) := hw
  have HB : Hid (RRb w rb ao n c a 0) := hb
  have H : Hid (cnt bs a lo hi = .ok (k, a4)) := h
  obtain ⟨-, -, hm, hlt4, hk0, hk1⟩ := cnt_ok h
  obtain ⟨kn, rfl⟩ : ∃ kn : Nat, k = kn := ⟨k.toNat, by omega⟩
  simp only [Int.toNat_natCast] at hfit ⊢
  have hln := hr0.1
  rw [hln] at hfit hm
  have hwz := hw.size
  clear hr0 hw hb h
  obtain ⟨b, off, rfl⟩ : ∃ b off, ao = some ⟨b, off, none⟩ := by
    rcases HR.out.2.2.1 with h0 | ⟨b, off, rfl, _⟩
    · omega
    · exact ⟨b, off, rfl⟩
  go_enter Tryz.func64, Tryz.ntmps64
  go_wp2_with fail
  refine (rnum_ok rb n c _ bs a a4 lo hi kn _ HB.out (HR.out.below HW.out) (by omega) H.out).mono ?_
  rintro e w1 ⟨rfl, hb1, hk⟩
  have HB1 : Hid (RRb w1 rb (some ⟨b, off, none⟩) n c a4 0) := hb1
  have HK1 : Hid (Kept w w1 (fun j => j = rb)) := hk
  have HW1 : Hid (Below w0.heap.size w0 w1) := HW.out.trans (hk.below hwz (fun j hj e => by omega))
  have c0 : w1.cell? ⟨rb, 0, none⟩ = some (.slice (some ⟨b, off, none⟩) n c) := cell_of_row w1 rb 0 _ _ _ hb1
  have c1 : w1.cell? ⟨rb, 1, none⟩ = some (.int .i64 a4) := cell_of_row w1 rb 1 _ _ _ hb1
  have c2 : w1.cell? ⟨rb, 2, none⟩ = some (.int .i64 0) := cell_of_row w1 rb 2 _ _ _ hb1
  have z1 := hk.size
  clear hb1 hk
  have hge : ¬ ((n : Int) < (a4 : Int) + (kn : Int)) := by omega
  go_wp2_with fail
  go_quiet (fail)
  go_wp2_with fail
  have hrbl : rb < w1.heap.size := lt_heap HB1.out
  have i1 : (0 : Int) ≤ (a4 : Int) := by omega
  have i2 : (a4 : Int) ≤ (a4 : Int) + (kn : Int) := by omega
  have i3 : (a4 : Int) + (kn : Int) ≤ (c : Int) := by omega
  have i4 : (0 : Int) ≤ (a4 : Int) + (kn : Int) := by omega
  have i5 : IntKind.i64.wrap ((a4 : Int) + (kn : Int)) = (a4 : Int) + (kn : Int) := by rw [IntKind.wrap_i64]; omega
  have i6 : ((a4 : Int) + (kn : Int)).toNat - a4 = kn := by omega
  obtain ⟨sp, hsp⟩ : ∃ sp, (if c = a4 then some (⟨b, off, none⟩ : Addr) else some ⟨b, off + a4, none⟩) = sp := ⟨_, rfl⟩
  have HS : Hid (∀ q, Rd (w1.drewN q) sp kn (c - a4) ((bs.drop a4).take kn)) := fun q => by rw [← hsp]; exact rd_sub (HR.out.below (below_drewN HW1.out _)) hfit hnc
  go_region_held3 (fun w' => w'.cell? ⟨rb, 0, none⟩ = some (.slice (some ⟨b, off, none⟩) n c) ∧ w'.cell? ⟨rb, 1, none⟩ = some (.int .i64 a4)) (go_keep)
    ((go_at_call 9; refine (copied_any sp kn (c - a4) ((bs.drop a4).take kn) _ (by exact HS.out _) (by omega)).mono ?_; rintro e w2 ⟨v, rfl, ho, hb2⟩; have f0 : w2.cell? ⟨rb, 0, none⟩ = some (.slice (some ⟨b, off, none⟩) n c) := (hb2.cell hrbl).trans c0; have f1 : w2.cell? ⟨rb, 1, none⟩ = some (.int .i64 a4) := (hb2.cell hrbl).trans c1))
  have HB2 : RRb w2 rb (some ⟨b, off, none⟩) n c a4 0 := (hb2.block rb hrbl).trans HB1.out
  obtain ⟨hfz, hq1, hq2⟩ := rset1 rb n c (some ⟨b, off, none⟩) a4 ((a4 : Int) + (kn : Int)) 0 w2 HB2
  have HF : Hid (Own (w2.setCell ⟨rb, 1, none⟩ (.int .i64 ((a4 : Int) + (kn : Int)))) w.heap.size v ((bs.drop a4).take kn) ∧ RRb (w2.setCell ⟨rb, 1, none⟩ (.int .i64 ((a4 : Int) + (kn : Int)))) rb (some ⟨b, off, none⟩) n c ((a4 + kn : Nat) : Int) 0 ∧ Kept w (w2.setCell ⟨rb, 1, none⟩ (.int .i64 ((a4 : Int) + (kn : Int)))) (fun j => j = rb)) := by
    refine ⟨?_, ?_, (HK1.out.trans (Kept.ofBelow (bstep (below_drewN (Below.refl _ _) _) hb2) _)).trans hq2⟩
    · have h : Own w2 w1.heap.size v ((bs.drop a4).take kn) := ho
      have h' : Own (w2.setCell ⟨rb, 1, none⟩ (.int .i64 ((a4 : Int) + (kn : Int)))) w1.heap.size v ((bs.drop a4).take kn) := hq2.owns h (fun j hj e => by have := (h.lt j hj).1; omega)
      exact h'.mono z1
    · rw [Int.natCast_add]; exact hq1
  clear HB2 hq1 hq2 ho hb2
  go_wp2_with fail
  go_ret
  exact ⟨_, rfl, HF.out⟩

set_option maxRecDepth 100000 in
set_option maxHeartbeats 1000000 in
theorem rbytes_short (rb n c : Nat) (ao : Option Addr) (bs : List Int) (a a4 : Nat) (k lo hi : Int) (w : World) (hb : RRb w rb ao n c a 0) (hr : Rd w ao n c bs) (hlen : n ≤ 140737488355328) (h : cnt bs a lo hi = .ok (k, a4)) (hfit : ¬ a4 + k.toNat ≤ bs.length) :
    Calls Tryz.prog 64 #[.pointer (some ⟨rb, 0, none⟩), .int .i64 lo, .int .i64 hi] w fun e w' => e = .returned (.slice none 0 0) ∧ (∃ a', RRb w' rb ao n c a' 10) ∧ Kept w w' (fun j => j = rb) := by
  have HR : Hid (Rd w ao n c bs ∧ RRb w rb ao n c a 0 ∧ cnt bs a lo hi = .ok (k, a4)) := ⟨hr, hb, h⟩
  obtain ⟨-, -, hm, hlt4, hk0, hk1⟩ := cnt_ok h
  obtain ⟨kn, rfl⟩ : ∃ kn : Nat, k = kn := ⟨k.toNat, by omega⟩
  simp only [Int.toNat_natCast] at hfit ⊢
  have hln := hr.1
  rw [hln] at hfit hm
  clear hr hb h
  go_enter Tryz.func64, Tryz.ntmps64
  go_wp2_with fail
  refine (rnum_ok rb n c _ bs a a4 lo hi kn _ HR.out.2.1 HR.out.1 (by omega) HR.out.2.2).mono ?_
  rintro e w1 ⟨rfl, hb1, hk⟩
  have c0 : w1.cell? ⟨rb, 0, none⟩ = some (.slice ao n c) := cell_of_row w1 rb 0 _ _ _ hb1
  have c1 : w1.cell? ⟨rb, 1, none⟩ = some (.int .i64 a4) := cell_of_row w1 rb 1 _ _ _ hb1
  have c2 : w1.cell? ⟨rb, 2, none⟩ = some (.int .i64 0) := cell_of_row w1 rb 2 _ _ _ hb1
  obtain ⟨hfz, hq1, hq2⟩ := rset2 rb n c ao a4 10 w1 hb1
  have HF : Hid (∀ q, RRb ((w1.drewN q).setCell ⟨rb, 2, none⟩ (.int .i64 10)) rb ao n c a4 10 ∧ Kept w ((w1.drewN q).setCell ⟨rb, 2, none⟩ (.int .i64 10)) (fun j => j = rb)) := fun q => by
    obtain ⟨-, h1, h2⟩ := rset2 rb n c ao a4 10 (w1.drewN q) hb1
    exact ⟨h1, (hk.trans (Kept.ofBelow (below_drewN (Below.refl _ _) _) _)).trans h2⟩
  clear hb1 hk hq1 hq2
  have hge : ((n : Int) < (a4 : Int) + (kn : Int)) := by omega
  go_wp2_with fail
  go_quiet (fail)
  go_wp2_with fail
  go_ret
  exact ⟨rfl, ⟨_, (HF.out _).1⟩, (HF.out _).2⟩

set_option maxRecDepth 100000 in
set_option maxHeartbeats 1000000 in
theorem rbytes_err (rb n c : Nat) (ao : Option Addr) (bs : List Int) (a : Nat) (lo hi x : Int) (w : World) (hb : RRb w rb ao n c a 0) (hr : Rd w ao n c bs) (hlen : n ≤ 140737488355328) (h : cnt bs a lo hi = .error x) :
    Calls Tryz.prog 64 #[.pointer (some ⟨rb, 0, none⟩), .int .i64 lo, .int .i64 hi] w fun e w' => e = .returned (.slice none 0 0) ∧ (∃ a', RRb w' rb ao n c a' x) ∧ Kept w w' (fun j => j = rb) := by
  have HR : Hid (Rd w ao n c bs ∧ RRb w rb ao n c a 0 ∧ cnt bs a lo hi = .error x) := ⟨hr, hb, h⟩
  have hx : (x != 0) = true := by have := cnt_nz h; simpa using this
  clear hr hb h
  go_enter Tryz.func64, Tryz.ntmps64
  go_wp2_with fail
  refine (rnum_err rb n c _ bs a lo hi x _ HR.out.2.1 HR.out.1 (by omega) HR.out.2.2).mono ?_
  rintro e w1 ⟨rfl, ⟨a', hb1⟩, hk⟩
  have c2 : w1.cell? ⟨rb, 2, none⟩ = some (.int .i64 x) := cell_of_row w1 rb 2 _ _ _ hb1
  have HF : Hid (RRb w1 rb ao n c a' x ∧ Kept w w1 (fun j => j = rb)) := ⟨hb1, hk⟩
  clear hb1 hk
  go_wp2_with fail
  go_ret
  exact ⟨rfl, ⟨_, HF.out.1⟩, HF.out.2⟩

set_option maxRecDepth 100000 in
theorem rbytes_stuck (rb n c : Nat) (ao : Option Addr) (a lo hi x : Int) (w : World) (hb : RRb w rb ao n c a x) (hx : x ≠ 0) :
    Calls Tryz.prog 64 #[.pointer (some ⟨rb, 0, none⟩), .int .i64 lo, .int .i64 hi] w fun e w' => e = .returned (.slice none 0 0) ∧ w = w' := by
  have HR : Hid (RRb w rb ao n c a x) := hb
  have c2 : w.cell? ⟨rb, 2, none⟩ = some (.int .i64 x) := cell_of_row w rb 2 _ _ _ hb
  have hx' : (x != 0) = true := by simpa using hx
  clear hb
  go_enter Tryz.func64, Tryz.ntmps64
  go_wp2_with fail
  refine (rnum_stuck rb n c ao a lo hi x w HR.out hx).mono ?_
  rintro e w1 ⟨rfl, rfl⟩
  go_wp2_with fail
  go_ret
  exact ⟨rfl, rfl⟩

set_option maxRecDepth 100000 in
theorem rend_ok (rb n c : Nat) (ao : Option Addr) (a : Nat) (w : World) (hb : RRb w rb ao n c a 0) (h : a = n) :
    Calls Tryz.prog 36 #[.pointer (some ⟨rb, 0, none⟩)] w fun e w' => e = .returned (.tuple #[]) ∧ RRb w' rb ao n c a 0 ∧ Kept w w' (fun j => j = rb) := by
  subst h
  have c0 : w.cell? ⟨rb, 0, none⟩ = some (.slice ao a c) := cell_of_row w rb 0 _ _ _ hb
  have c1 : w.cell? ⟨rb, 1, none⟩ = some (.int .i64 a) := cell_of_row w rb 1 _ _ _ hb
  have c2 : w.cell? ⟨rb, 2, none⟩ = some (.int .i64 0) := cell_of_row w rb 2 _ _ _ hb
  have HB : Hid (RRb w rb ao a c a 0) := hb
  clear hb
  go_enter Tryz.func36, Tryz.ntmps36
  go_wp2_with fail
  go_quiet (fail)
  go_wp2_with fail
  go_end0
  exact ⟨rfl, HB.out, Kept.ofBelow (below_drewN (Below.refl _ _) _) _⟩

set_option maxRecDepth 100000 in
theorem rend_tail (rb n c : Nat) (ao : Option Addr) (a : Nat) (w : World) (hb : RRb w rb ao n c a 0) (h : a ≠ n) :
    Calls Tryz.prog 36 #[.pointer (some ⟨rb, 0, none⟩)] w fun e w' => e = .returned (.tuple #[]) ∧ (∃ a', RRb w' rb ao n c a' 15) ∧ Kept w w' (fun j => j = rb) := by
  have h' : ((a : Int) != (n : Int)) = true := by simp; omega
  have c0 : w.cell? ⟨rb, 0, none⟩ = some (.slice ao n c) := cell_of_row w rb 0 _ _ _ hb
  have c1 : w.cell? ⟨rb, 1, none⟩ = some (.int .i64 a) := cell_of_row w rb 1 _ _ _ hb
  have c2 : w.cell? ⟨rb, 2, none⟩ = some (.int .i64 0) := cell_of_row w rb 2 _ _ _ hb
  have HF : Hid (∀ q, RRb ((w.drewN q).setCell ⟨rb, 2, none⟩ (.int .i64 15)) rb ao n c a 15 ∧ Kept w ((w.drewN q).setCell ⟨rb, 2, none⟩ (.int .i64 15)) (fun j => j = rb)) := fun q => by
    obtain ⟨-, h1, h2⟩ := rset2 rb n c ao a 15 (w.drewN q) hb
    exact ⟨h1, (Kept.ofBelow (below_drewN (Below.refl _ _) _) _).trans h2⟩
  have hfz := (rset2 rb n c ao a 15 w hb).1
  clear hb
  go_enter Tryz.func36, Tryz.ntmps36
  go_wp2_with fail
  go_quiet (fail)
  go_wp2_with fail
  go_end0
  exact ⟨rfl, ⟨_, (HF.out _).1⟩, (HF.out _).2⟩

set_option maxRecDepth 100000 in
theorem rend_stuck (rb n c : Nat) (ao : Option Addr) (a x : Int) (w : World) (hb : RRb w rb ao n c a x) (hx : x ≠ 0) :
    Calls Tryz.prog 36 #[.pointer (some ⟨rb, 0, none⟩)] w fun e w' => e = .returned (.tuple #[]) ∧ RRb w' rb ao n c a x ∧ Kept w w' (fun j => j = rb) := by
  have hx' : (x == 0) = false := by simpa using hx
  have c0 : w.cell? ⟨rb, 0, none⟩ = some (.slice ao n c) := cell_of_row w rb 0 _ _ _ hb
  have c1 : w.cell? ⟨rb, 1, none⟩ = some (.int .i64 a) := cell_of_row w rb 1 _ _ _ hb
  have c2 : w.cell? ⟨rb, 2, none⟩ = some (.int .i64 x) := cell_of_row w rb 2 _ _ _ hb
  have HB : Hid (RRb w rb ao n c a x) := hb
  clear hb
  go_enter Tryz.func36, Tryz.ntmps36
  go_wp2_with fail
  go_quiet (fail)
  go_wp2_with fail
  go_end0
  exact ⟨rfl, HB.out, Kept.ofBelow (below_drewN (Below.refl _ _) _) _⟩


end Go.Proofs.YtjgjpepmfiklfaaGreatDoor.Lo
