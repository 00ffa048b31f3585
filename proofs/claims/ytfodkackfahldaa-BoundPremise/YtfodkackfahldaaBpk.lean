import Derived.Test.YtfodkackfahldaaBph
namespace Go.Proofs.Ytfodkackfahldaa.Lo
open Go.RowKit
set_option linter.unusedVariables false
set_option linter.unusedSimpArgs false

theorem Sd.on {w w' : World} {B n c : Nat} {ao : Option Addr} {xs : List Int} (h : Sd w B ao n c xs) (hb : Below B w w') : Sd w' B ao n c xs := by
  refine ⟨⟨h.1.1, h.1.2.1, ?_⟩, h.2⟩
  by_cases e : n = 0
  · exact Or.inl e
  · exact Or.inr (h.at_ hb (j := 0) (by omega))
def haL (f : Nat → Int) (N : Nat) (xs : List Int) : Nat → Int := if siB (f 0) xs then spG f N xs (N * 16) else f
set_option maxRecDepth 100000 in
set_option maxHeartbeats 4000000 in
theorem happen_sp (b B : Nat) (f : Nat → Int) (N : Nat) (a q n : Int) (v4 v5 v6 v7 v8 v9 v10 v11 : Value) (ao : Option Addr) (sn sc : Nat) (xs : List Int) (w : World) (h : Nb w b f) (hB : B ≤ b) (hN : f 0 = (N : Int)) (n1 : 1 ≤ N) (n2 : N ≤ 16) (hP : ∀ j, 17 ≤ j → j < 273 → -16 ≤ f j ∧ f j ≤ 16) (hs : Sd w B ao sn sc xs) (hsn : sn ≤ 140737488355328) : Calls Try.prog 25 #[.pointer (some ⟨b, 0, none⟩), .agg #[.int .i64 11, .int .i64 a, .int .i64 q, .int .i64 n, v4, v5, v6, v7, v8, v9, v10, v11, .slice ao sn sc]] w fun e w' => e = .returned (.tuple #[]) ∧ Nb w' b (haL f N xs) ∧ Below B w w' := by
  have hlt := h.lt
  have HB : Hid (Below w.heap.size w (w.alloc (.cells #[.int .i64 11, .int .i64 a, .int .i64 q, .int .i64 n, v4, v5, v6, v7, v8, v9, v10, v11, .slice ao sn sc] 36))) := bsp _ _ _
  have hkk := heap_new w #[.int .i64 11, .int .i64 a, .int .i64 q, .int .i64 n, v4, v5, v6, v7, v8, v9, v10, v11, .slice ao sn sc] 36
  generalize hW : w.alloc (.cells #[.int .i64 11, .int .i64 a, .int .i64 q, .int .i64 n, v4, v5, v6, v7, v8, v9, v10, v11, .slice ao sn sc] 36) = W at *
  have c0 : W.cell? ⟨w.heap.size, 0, none⟩ = some (.int .i64 11) := blk_cell hkk 0
  have c1 : W.cell? ⟨w.heap.size, 1, none⟩ = some (.int .i64 a) := blk_cell hkk 1
  have c2 : W.cell? ⟨w.heap.size, 2, none⟩ = some (.int .i64 q) := blk_cell hkk 2
  have c3 : W.cell? ⟨w.heap.size, 3, none⟩ = some (.int .i64 n) := blk_cell hkk 3
  have c4 : W.cell? ⟨w.heap.size, 4, none⟩ = some v4 := blk_cell hkk 4
  have c5 : W.cell? ⟨w.heap.size, 5, none⟩ = some v5 := blk_cell hkk 5
  have c6 : W.cell? ⟨w.heap.size, 6, none⟩ = some v6 := blk_cell hkk 6
  have c7 : W.cell? ⟨w.heap.size, 7, none⟩ = some v7 := blk_cell hkk 7
  have c8 : W.cell? ⟨w.heap.size, 8, none⟩ = some v8 := blk_cell hkk 8
  have c9 : W.cell? ⟨w.heap.size, 9, none⟩ = some v9 := blk_cell hkk 9
  have c10 : W.cell? ⟨w.heap.size, 10, none⟩ = some v10 := blk_cell hkk 10
  have c11 : W.cell? ⟨w.heap.size, 11, none⟩ = some v11 := blk_cell hkk 11
  have c12 : W.cell? ⟨w.heap.size, 12, none⟩ = some (.slice ao sn sc) := blk_cell hkk 12
  have hNW : Nb W b f := h.on HB.out
  have HNW : Hid (Nb W b f) := hNW
  have HBW : Hid (Below B w W) := HB.out.mono (by omega)
  have hSW : Sd W B ao sn sc xs := hs.on HBW.out
  have H1 : Hid (Calls Try.prog 47 #[.pointer (some ⟨b, 0, none⟩), .slice ao sn sc] W fun e w' => e = .returned (.bool (siB (f 0) xs)) ∧ Below W.heap.size W w') := areSides_any b f ao sn sc xs W hNW (by omega) hSW.1 hsn
  have hwl : b < W.heap.size := hNW.lt
  have HW6 : Hid (∀ w', Below W.heap.size W w' → w'.cell? ⟨w.heap.size, 12, none⟩ = some (.slice ao sn sc)) := (show ∀ w', _ from fun w' hb => (hb.cell (p := ⟨w.heap.size, 12, none⟩) (World.block_lt_of_cell? W ⟨w.heap.size, 12, none⟩ c12)).trans c12)
  unfold haL
  generalize hbn : siB (f 0) xs = bn at *
  cases bn
  · clear hkk h hs hSW hP hN hNW c1 c2 c3 c4 c5 c6 c7 c8 c9 c10 c11 hbn n1 n2 hsn
    go_enter Try.func25, Try.ntmps25
    go_wp2_with (first | (go_at_call 47; refine H1.out.mono ?_; rintro e w' ⟨rfl, hb1⟩; have HZ : Hid (Nb w' b f ∧ Below B w w') := (show _ ∧ _ from ⟨HNW.out.on hb1, HBW.out.trans (hb1.mono (by omega))⟩); clear hb1) | fail)
    (first | go_end0 | ((try simp only [Exit.inBlock, Exit.then]); refine bodyPost_ret (results_none rfl _ _ _) rfl ?_))
    exact ⟨rfl, HZ.out.1, HZ.out.2⟩
  · have hsN : sn = N := by
      have h1 := hs.1.1
      unfold siB at hbn
      simp only [Bool.and_eq_true, decide_eq_true_eq] at hbn
      omega
    subst hsN
    have H2 : Hid (∀ w', Below W.heap.size W w' → Calls Try.prog 48 #[.pointer (some ⟨b, 0, none⟩), .slice ao sn sc] w' fun e w'' => e = .returned (.tuple #[]) ∧ Nb w'' b (spG f sn xs (sn * 16)) ∧ Below B w w'') := (show ∀ w', _ from fun w' hb => (split_any b B f sn ao sc xs w' (hNW.on hb) hB hN n1 n2 hP (hSW.on (hb.mono (by omega)))).mono fun _ _ h => ⟨h.1, h.2.1, (HBW.out.trans (hb.mono (by omega))).trans h.2.2⟩)
    clear hkk h hs hSW hP hN hbn hNW c1 c2 c3 c4 c5 c6 c7 c8 c9 c10 c11 n1 n2 hsn
    go_enter Try.func25, Try.ntmps25
    go_wp2_with (first
      | (go_at_call 47; refine H1.out.mono ?_; rintro e w' ⟨rfl, hb1⟩; have HZ : Hid (Below W.heap.size W w') := hb1; have c16 := HW6.out w' hb1; clear hb1)
      | (go_at_call 48; refine (H2.out _ HZ.out).mono ?_; rintro e w'' ⟨rfl, hz1, hz2⟩; have HY : Hid (Nb w'' b (spG f sn xs (sn * 16)) ∧ Below B w w'') := (show _ ∧ _ from ⟨hz1, hz2⟩); clear hz1 hz2)
      | fail)
    (first | go_end0 | ((try simp only [Exit.inBlock, Exit.then]); refine bodyPost_ret (results_none rfl _ _ _) rfl ?_))
    exact ⟨rfl, HY.out.1, HY.out.2⟩
end Go.Proofs.Ytfodkackfahldaa.Lo
