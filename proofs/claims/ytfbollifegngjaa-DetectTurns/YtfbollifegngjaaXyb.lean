import Derived.Test.YtfbollifegngjaaXy
namespace Go.Proofs.Ytfbollifegngjaa.Dt
open Go.RowKit
set_option linter.unusedVariables false
set_option maxRecDepth 100000
set_option linter.unusedSimpArgs false
section
variable {D D' : De} {R R' : Rf} {w w' W V : World} {B m : Nat}
section
variable {hb : Nat} {vg vw vr : Value} {E K : List El} {X : Nat → List Int}
set_option maxHeartbeats 800000 in
theorem held_b (z : Hz w B hb m D R vg vw vr E K X) (hm : m ≤ 1000000) (hE : E.length ≤ 9000) (o : Opx) (h4a : 4 ≤ o.k) (h4b : o.k ≤ 7) (hro : ∀ w', Below B w w' → RdI w' o.ha o.hn o.hs) (hn43 : o.hn ≤ 17592186043904) : Calls Try.prog 16 #[.pointer (some ⟨hb, 0, none⟩), .pointer (some ⟨D.b, 0, none⟩), .pointer (some ⟨R.b, 0, none⟩), .agg o.cs] w fun e w' => e = .returned (.bool true) ∧ Hzo w w' B hb (m + 1) D R vg vw vr E K 2 := by
  generalize hW : w.alloc (.cells o.cs 58) = W
  have hbW : Below w.heap.size w W := by rw [← hW]; exact balloc (Below.refl _ w)
  have hblk : W.heap[w.heap.size]? = some (.cells o.cs 58 (0, 0)) := by rw [← hW]; exact heap_alloc_new w _
  have y0 : W.cell? ⟨w.heap.size, 0, none⟩ = some (.int .i64 o.k) := blk_cell hblk 0
  have y1 : W.cell? ⟨w.heap.size, 1, none⟩ = some (.int .i64 o.q) := blk_cell hblk 1
  have y2 : W.cell? ⟨w.heap.size, 2, none⟩ = some (.int .i64 o.inc) := blk_cell hblk 2
  have y3 : W.cell? ⟨w.heap.size, 3, none⟩ = some (.int .i64 o.t) := blk_cell hblk 3
  have y4 : W.cell? ⟨w.heap.size, 4, none⟩ = some (.slice o.ha o.hn o.hc) := blk_cell hblk 4
  have Hblk : Hid (W.heap[w.heap.size]? = some (.cells o.cs 58 (0, 0))) := hblk
  have hwl := lt_heap hblk
  have Hb : Hid (Below w.heap.size w W) := hbW
  have hBw : B ≤ w.heap.size := z.du.hB
  have LW : Hid (Below B w W) := hbW.mono hBw
  have HZ : Hid (Hz W B hb m D R vg vw vr E K X) := z.still hbW
  have Hro : Hid (∀ w', Below B W w' → RdI w' o.ha o.hn o.hs) := fun w' hb => hro w' (LW.out.trans hb)
  have hno : Hid (¬ (D.own w.heap.size ∨ R.own w.heap.size)) := fun e => by rcases e with e | e; (have := z.du.d.ltOwn e; omega); (have := z.du.r.ltOwn e; omega)
  have hnh : Hid (¬ hown hb vg vw vr E K w.heap.size) := fun e => by have := z.h.lt e; omega
  clear hbW hblk z hro
  have h2 : ¬ o.k = 2 := by omega
  have n4 : ¬ o.k < 4 := by omega
  have n7 : ¬ 7 < o.k := by omega
  have HLs : Hid (∀ w' vg' vw' E' K' X', Hz w' B hb m D R vg' vw' vr E' K' X' → Calls Try.prog 32 #[.pointer (some ⟨D.b, 0, none⟩), .pointer (some ⟨R.b, 0, none⟩), .int .i64 o.k] w' fun e w2 => Lis w' w2 e) := fun w' _ _ _ _ _ z' => listed_any z'.du (by omega) o.k h4a h4b
  have HK0 : Hid (Hk W W B hb m D R vg vw vr E K 0) := ⟨vg, vw, E, K, X, HZ.out, Kept.refl _ _, fun j hj => .inl hj, Nat.le_refl _⟩
  obtain ⟨kd, hkd⟩ : ∃ kd, o.k = kd := ⟨_, rfl⟩
  unfold Opx.cs at hW ⊢
  rw [hkd] at h2 n4 n7 HLs y0 hW ⊢
  clear h4a h4b Hro hkd Hblk
  go_enter Try.func16, Try.ntmps16
  go_wp2_with (fail)
  go_loopw [9, 10, 11, 12] (fun i _ _ _ wr => ∃ k : Nat, k ≤ 2 ∧ i = .int .i64 (k : Int) ∧ Hid (Hk W wr B hb m D R vg vw vr E K k)) (fun i _ _ _ _ => 2 - (intOf i).toNat)
  case atStart => exact ⟨0, Nat.zero_le _, rfl, HK0.out⟩
  case round =>
  obtain ⟨k, hk, rfl, HI⟩ := hrel
  clear HK0
  by_cases hlt : k < 2
  · have j2 : (k : Int) < 2 := by omega
    obtain ⟨vg', vw', E', K', X', z', k', s', l'⟩ := HI.out
    have Z' : Hid (Hz wr B hb m D R vg' vw' vr E' K' X') := z'
    have K1 : Hid (Kept W wr (hown hb vg vw vr E K)) := k'
    have S1 : Hid (∀ j, hown hb vg' vw' vr E' K' j → hown hb vg vw vr E K j ∨ W.heap.size ≤ j) := s'
    have t0 : wr.cell? ⟨w.heap.size, 0, none⟩ = some (.int .i64 kd) := cell_keepX k' hnh.out y0
    have HL := HLs.out wr _ _ _ _ _ z'
    have hBr : B ≤ wr.heap.size := z'.du.hB
    clear z' k' s' HI
    go_wp2_with (fail)
    refine HL.mono ?_
    rintro e w1 ⟨v1, v2, rfl, ⟨a1, a2, n, c1, c2, ys, rfl, rfl, r1, r2, h17⟩, ⟨xs, hrow, h16⟩, hb1⟩
    have HSm := same_any (c1 := c1) (c2 := c2) r1 r2 (by omega)
    have HRow : Hid (w1.ownsRow wr.heap.size 3 1 (.slice a1 n c1) xs.length (ints xs)) := hrow
    have B1 : Hid (Below wr.heap.size wr w1) := hb1
    clear r1 r2 hrow hb1 HL
    go_wp2_with (fail)
    refine HSm.mono ?_
    rintro e w2 ⟨rfl, hb2⟩
    have B2 : Hid (Below wr.heap.size wr w2) := bstep B1.out hb2
    have HRow2 : Hid (w2.ownsRow wr.heap.size 3 1 (El.v ⟨a1, n, c1⟩) xs.length (ints xs)) := own_still HRow.out hb2
    have HKe := keep_h (Z'.out.h.still B2.out) ⟨a1, n, c1⟩ xs (own_lower HRow2.out hBr) h16 (fun j hj e => by
      have q1 := (World.ownsRow.lt HRow2.out j hj).1
      have q2 := Z'.out.h.lt e
      omega) (by omega)
    clear hb2 HSm HRow B1
    go_wp2_with (fail)
    refine HKe.mono ?_
    rintro e w3 ⟨rfl, vg2, vw2, y, hh, hkk, hss⟩
    have HN : Hid (Hk W w3 B hb m D R vg vw vr E K (k + 1)) := Hk.next Z'.out K1.out S1.out l' B2.out hh hkk hss (fun j hj => (World.ownsRow.lt HRow2.out j hj).1) (by simp)
    clear hh hkk hss HKe
    go_wp2_with (fail)
    exact ⟨⟨k + 1, by omega, by go_num, HN.out⟩, by simp [intOf]; omega⟩
  · obtain rfl : k = 2 := by omega
    have HF : Hid (Hzo w wr B hb (m + 1) D R vg vw vr E K 2) := (HI.out.done (by omega)).pre Hb.out
    clear HI
    go_wp2_with (fail)
    go_ret
    exact ⟨rfl, HF.out⟩
end
end
end Go.Proofs.Ytfbollifegngjaa.Dt
