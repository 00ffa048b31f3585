import Derived.Test.YtfbollifegngjaaXy
namespace Go.Proofs.Ytfbollifegngjaa.Dt
open Go.RowKit
set_option linter.unusedVariables false
set_option maxRecDepth 100000
set_option linter.unusedSimpArgs false
section
variable {D D' : De} {R R' : Rf} {w w' W V : World} {B m : Nat}
section
variable {hb : Nat} {vg vw vr : Value} {E K : List El} {X : Nat → List Int}
set_option maxHeartbeats 800000 in
theorem held_a (z : Hz w B hb m D R vg vw vr E K X) (hm : m ≤ 1000000) (hE : E.length ≤ 9000) (o : Opx) (h2 : o.k = 2) (hro : ∀ w', Below B w w' → RdI w' o.ha o.hn o.hs) (hn43 : o.hn ≤ 17592186043904) : Calls Try.prog 16 #[.pointer (some ⟨hb, 0, none⟩), .pointer (some ⟨D.b, 0, none⟩), .pointer (some ⟨R.b, 0, none⟩), .agg o.cs] w fun e w' => e = .returned (.bool true) ∧ Hzo w w' B hb (m + 1) D R vg vw vr E K 2 := by
  generalize hW : w.alloc (.cells o.cs 58) = W
  have hbW : Below w.heap.size w W := by rw [← hW]; exact balloc (Below.refl _ w)
  have hblk : W.heap[w.heap.size]? = some (.cells o.cs 58 (0, 0)) := by rw [← hW]; exact heap_alloc_new w _
  have y0 : W.cell? ⟨w.heap.size, 0, none⟩ = some (.int .i64 o.k) := blk_cell hblk 0
  have y1 : W.cell? ⟨w.heap.size, 1, none⟩ = some (.int .i64 o.q) := blk_cell hblk 1
  have y2 : W.cell? ⟨w.heap.size, 2, none⟩ = some (.int .i64 o.inc) := blk_cell hblk 2
  have y3 : W.cell? ⟨w.heap.size, 3, none⟩ = some (.int .i64 o.t) := blk_cell hblk 3
  have y4 : W.cell? ⟨w.heap.size, 4, none⟩ = some (.slice o.ha o.hn o.hc) := blk_cell hblk 4
  have Hblk : Hid (W.heap[w.heap.size]? = some (.cells o.cs 58 (0, 0))) := hblk
  have hwl := lt_heap hblk
  have Hb : Hid (Below w.heap.size w W) := hbW
  have hBw : B ≤ w.heap.size := z.du.hB
  have LW : Hid (Below B w W) := hbW.mono hBw
  have HZ : Hid (Hz W B hb m D R vg vw vr E K X) := z.still hbW
  have Hro : Hid (∀ w', Below B W w' → RdI w' o.ha o.hn o.hs) := fun w' hb => hro w' (LW.out.trans hb)
  have hno : Hid (¬ (D.own w.heap.size ∨ R.own w.heap.size)) := fun e => by rcases e with e | e; (have := z.du.d.ltOwn e; omega); (have := z.du.r.ltOwn e; omega)
  have hnh : Hid (¬ hown hb vg vw vr E K w.heap.size) := fun e => by have := z.h.lt e; omega
  clear hbW hblk z hro
  skip
  have HL := lends_h HZ.out (by omega) o Hro.out hn43
  unfold Opx.cs at hW HL ⊢
  rw [h2] at hW y0 HL ⊢
  clear h2
  clear Hro
  go_enter Try.func16, Try.ntmps16
  go_wp2_with (fail)
  refine HL.mono ?_
  rintro e w1 ⟨rfl, hz⟩
  have HZ1 : Hid (Hzo w w1 B hb (m + 1) D R vg vw vr E K 2) := (hz.pre Hb.out).more (by omega)
  clear hz HL
  go_wp2_with (fail)
  go_ret
  exact ⟨rfl, HZ1.out⟩
end
end
end Go.Proofs.Ytfbollifegngjaa.Dt
