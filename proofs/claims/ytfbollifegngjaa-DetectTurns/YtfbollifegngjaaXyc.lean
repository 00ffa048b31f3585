import Derived.Test.YtfbollifegngjaaXy
namespace Go.Proofs.Ytfbollifegngjaa.Dt
open Go.RowKit
set_option linter.unusedVariables false
set_option maxRecDepth 100000
set_option linter.unusedSimpArgs false
section
variable {D D' : De} {R R' : Rf} {w w' W V : World} {B m : Nat}
section
variable {hb : Nat} {vg vw vr : Value} {E K : List El} {X : Nat → List Int}
set_option maxHeartbeats 800000 in
theorem held_c (z : Hz w B hb m D R vg vw vr E K X) (hm : m ≤ 1000000) (hE : E.length ≤ 9000) (o : Opx) (h2 : ¬ o.k = 2) (hk : o.k < 4 ∨ 7 < o.k) (hro : ∀ w', Below B w w' → RdI w' o.ha o.hn o.hs) (hn43 : o.hn ≤ 17592186043904) : Calls Try.prog 16 #[.pointer (some ⟨hb, 0, none⟩), .pointer (some ⟨D.b, 0, none⟩), .pointer (some ⟨R.b, 0, none⟩), .agg o.cs] w fun e w' => e = .returned (.bool true) ∧ Hzo w w' B hb (m + 1) D R vg vw vr E K 2 := by
  generalize hW : w.alloc (.cells o.cs 58) = W
  have hbW : Below w.heap.size w W := by rw [← hW]; exact balloc (Below.refl _ w)
  have hblk : W.heap[w.heap.size]? = some (.cells o.cs 58 (0, 0)) := by rw [← hW]; exact heap_alloc_new w _
  have y0 : W.cell? ⟨w.heap.size, 0, none⟩ = some (.int .i64 o.k) := blk_cell hblk 0
  have y1 : W.cell? ⟨w.heap.size, 1, none⟩ = some (.int .i64 o.q) := blk_cell hblk 1
  have y2 : W.cell? ⟨w.heap.size, 2, none⟩ = some (.int .i64 o.inc) := blk_cell hblk 2
  have y3 : W.cell? ⟨w.heap.size, 3, none⟩ = some (.int .i64 o.t) := blk_cell hblk 3
  have y4 : W.cell? ⟨w.heap.size, 4, none⟩ = some (.slice o.ha o.hn o.hc) := blk_cell hblk 4
  have Hblk : Hid (W.heap[w.heap.size]? = some (.cells o.cs 58 (0, 0))) := hblk
  have hwl := lt_heap hblk
  have Hb : Hid (Below w.heap.size w W) := hbW
  have hBw : B ≤ w.heap.size := z.du.hB
  have LW : Hid (Below B w W) := hbW.mono hBw
  have HZ : Hid (Hz W B hb m D R vg vw vr E K X) := z.still hbW
  have Hro : Hid (∀ w', Below B W w' → RdI w' o.ha o.hn o.hs) := fun w' hb => hro w' (LW.out.trans hb)
  have hno : Hid (¬ (D.own w.heap.size ∨ R.own w.heap.size)) := fun e => by rcases e with e | e; (have := z.du.d.ltOwn e; omega); (have := z.du.r.ltOwn e; omega)
  have hnh : Hid (¬ hown hb vg vw vr E K w.heap.size) := fun e => by have := z.h.lt e; omega
  clear hbW hblk z hro
  have HDo := does_any HZ.out.du (by omega) o Hro.out hn43
  have HTe0 : Hid (∀ w4 D4 R4, Dq W w4 D D4 R R4 B (m + 1) → Calls Try.prog 31 #[.pointer (some ⟨D.b, 0, none⟩), .pointer (some ⟨R.b, 0, none⟩), .agg o.cs] w4 fun e w' => e = .returned (.bool true) ∧ Below w4.heap.size w4 w') := fun w4 D4 R4 q4 => by
    have := tells_any q4.du (by omega) o
    rw [q4.db, q4.rb] at this
    exact this
  unfold Opx.cs at hW HDo HTe0 ⊢
  obtain ⟨kd, hkd⟩ : ∃ kd, o.k = kd := ⟨_, rfl⟩
  have Hkd : Hid (o.k = kd) := hkd
  rw [hkd] at h2 hk y0 hW HDo HTe0 ⊢
  clear Hro hkd
  rcases hk with hk | hk
  · go_enter Try.func16, Try.ntmps16
    go_wp2_with (fail)
    refine HDo.mono ?_
    rintro e w4 ⟨rfl, D4, R4, q4⟩
    have hk4 := q4.kept.obj Hblk.out hno.out
    have u0 : w4.cell? ⟨w.heap.size, 0, none⟩ = some (.int .i64 kd) := (blk_cell hk4 0).trans (by rw [← Hkd.out]; rfl)
    have u1 : w4.cell? ⟨w.heap.size, 1, none⟩ = some (.int .i64 o.q) := blk_cell hk4 1
    have u2 : w4.cell? ⟨w.heap.size, 2, none⟩ = some (.int .i64 o.inc) := blk_cell hk4 2
    have u3 : w4.cell? ⟨w.heap.size, 3, none⟩ = some (.int .i64 o.t) := blk_cell hk4 3
    have u4 : w4.cell? ⟨w.heap.size, 4, none⟩ = some (.slice o.ha o.hn o.hc) := blk_cell hk4 4
    have HTe := HTe0.out w4 D4 R4 q4
    have HF0 : Hid (Hzo w w4 B hb (m + 1) D R vg vw vr E K 2) := (HZ.out.dq q4).pre Hb.out
    clear q4 hk4 HDo
    go_wp2_with (fail)
    refine HTe.mono ?_
    rintro e w5 ⟨rfl, hb5⟩
    have HF : Hid (Hzo w w5 B hb (m + 1) D R vg vw vr E K 2) := HF0.out.post hb5
    clear hb5 HTe HF0
    go_wp2_with (fail)
    go_ret
    exact ⟨rfl, HF.out⟩
  · have n4 : ¬ kd < 4 := by omega
    go_enter Try.func16, Try.ntmps16
    go_wp2_with (fail)
    refine HDo.mono ?_
    rintro e w4 ⟨rfl, D4, R4, q4⟩
    have hk4 := q4.kept.obj Hblk.out hno.out
    have u0 : w4.cell? ⟨w.heap.size, 0, none⟩ = some (.int .i64 kd) := (blk_cell hk4 0).trans (by rw [← Hkd.out]; rfl)
    have u1 : w4.cell? ⟨w.heap.size, 1, none⟩ = some (.int .i64 o.q) := blk_cell hk4 1
    have u2 : w4.cell? ⟨w.heap.size, 2, none⟩ = some (.int .i64 o.inc) := blk_cell hk4 2
    have u3 : w4.cell? ⟨w.heap.size, 3, none⟩ = some (.int .i64 o.t) := blk_cell hk4 3
    have u4 : w4.cell? ⟨w.heap.size, 4, none⟩ = some (.slice o.ha o.hn o.hc) := blk_cell hk4 4
    have HTe := HTe0.out w4 D4 R4 q4
    have HF0 : Hid (Hzo w w4 B hb (m + 1) D R vg vw vr E K 2) := (HZ.out.dq q4).pre Hb.out
    clear q4 hk4 HDo
    go_wp2_with (fail)
    refine HTe.mono ?_
    rintro e w5 ⟨rfl, hb5⟩
    have HF : Hid (Hzo w w5 B hb (m + 1) D R vg vw vr E K 2) := HF0.out.post hb5
    clear hb5 HTe HF0
    go_wp2_with (fail)
    go_ret
    exact ⟨rfl, HF.out⟩
end
end
end Go.Proofs.Ytfbollifegngjaa.Dt
