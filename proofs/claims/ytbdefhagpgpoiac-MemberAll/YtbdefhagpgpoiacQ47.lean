import Derived.Test.YtbdefhagpgpoiacQ00
import Derived.Test.YtbdefhagpgpoiacQ45
import Derived.Test.YtbdefhagpgpoiacQ46
import Derived.Test.YtbdefhagpgpoiacQ38
import Derived.Test.YtbdefhagpgpoiacQ30
import Derived.Test.YtbdefhagpgpoiacQ27
import Derived.WalkKit
import Derived.ProofKit
import Derived.OpenShut
import Derived.ShutString
import Derived.ChangeOld
import Derived.Below
import Derived.Deep.Slices
import Derived.SizedLaws
namespace Go.Proofs.Ytbdefhagpgpoiac.Mb
open Go.RowKit
set_option linter.unusedVariables false
set_option maxRecDepth 100000
set_option linter.unusedSimpArgs false
section
variable {A A' : Ag} {w w' W : World} {B m : Nat} {T : Int} {R R' : Rg}
set_option maxHeartbeats 4000000 in
theorem plays_6 (D : Duo A R B m w) (hm : m ≤ 925904528653) (o : Opx) (hk : o.kind = 6) : Calls Try.prog 8 #[.pointer (some ⟨A.b, 0, none⟩), .pointer (some ⟨R.b, 0, none⟩), .agg o.cs] w fun e w' => Ply A R B m w e w' := by
  generalize hW1 : w.alloc (.cells o.cs 42) = W1
  have b1 : Below w.heap.size w W1 := hW1 ▸ balloc (Below.refl _ _)
  have k1 : W1.heap[w.heap.size]? = some (.cells o.cs 42 (0, 0)) := by rw [← hW1]; exact heap_alloc_new w _
  have x0 : W1.cell? ⟨w.heap.size, 0, none⟩ = some (.int .i64 o.kind) := blk_cell k1 0
  have D1 := D.still b1
  have HD1 : Hid (Duo A R B m W1) := D1
  have HB1 : Hid (Below w.heap.size w W1) := b1
  have HBw : Hid (B ≤ w.heap.size) := D.bB
  rw [hk] at x0
  obtain ⟨i0, e0⟩ : ∃ x, R.id.getD 0 0 = x := ⟨_, rfl⟩
  obtain ⟨i1, e1⟩ : ∃ x, R.id.getD 1 0 = x := ⟨_, rfl⟩
  obtain ⟨i2, e2⟩ : ∃ x, R.id.getD 2 0 = x := ⟨_, rfl⟩
  obtain ⟨i3, e3⟩ : ∃ x, R.id.getD 3 0 = x := ⟨_, rfl⟩
  have H1 : Hid (Calls Try.prog 28 #[.pointer (some ⟨A.b, 0, none⟩)] W1 fun e w' => ∃ a c, e = .returned (.agg [.int .i64 i0, .int .i64 i1, .int .i64 i2, .int .i64 i3, .slice a R.k c].toArray) ∧ RdM w' a R.k R.ms ∧ Below W1.heap.size W1 w') := by
    have := D1.view
    rw [e0, e1, e2, e3] at this
    exact this
  have H2 : Hid (∀ W2, Below W1.heap.size W1 W2 → Calls Try.prog 29 #[.pointer (some ⟨R.b, 0, none⟩)] W2 fun e w' => ∃ a c, e = .returned (.agg [.int .i64 i0, .int .i64 i1, .int .i64 i2, .int .i64 i3, .slice a R.k c].toArray) ∧ RdM w' a R.k R.ms ∧ Below W2.heap.size W2 w') := fun W2 hb => by
    have := (D1.still hb).rview
    rw [e0, e1, e2, e3] at this
    exact this
  have hk16 : R.k ≤ 16 := D.r.k16
  have HK : Hid (R.k ≤ 16) := hk16
  generalize o.cs = ocs at *
  generalize R.k = kk at *
  clear D D1 b1 k1 hk e0 e1 e2 e3 hk16
  go_enter Try.func8, Try.ntmps8
  go_wp2_with (fail)
  refine H1.out.mono ?_
  rintro e w2 ⟨a1, c1, rfl, r1, hb2⟩
  have HR1 : Hid (RdM w2 a1 kk R.ms) := r1
  have HB2 : Hid (Below W1.heap.size W1 w2) := hb2
  clear r1 hb2 H1
  go_wp2_with (fail)
  refine (H2.out _ HB2.out).mono ?_
  rintro e w3 ⟨a2, c2, rfl, r2, hb3⟩
  have HV : Hid (Calls Try.prog 24 #[.agg [.int .i64 i0, .int .i64 i1, .int .i64 i2, .int .i64 i3, .slice a1 kk c1].toArray, .agg [.int .i64 i0, .int .i64 i1, .int .i64 i2, .int .i64 i3, .slice a2 kk c2].toArray] w3 fun e w' => e = .returned (.bool true) ∧ Below w3.heap.size w3 w') := views_same i0 i1 i2 i3 (HR1.out.still hb3) r2 HK.out
  have HB3 : Hid (Below W1.heap.size W1 w3) := bstep HB2.out hb3
  clear r2 hb3 H2
  go_wp2_with (fail)
  refine HV.out.mono ?_
  rintro e w4 ⟨rfl, hb4⟩
  have HDz := HD1.out.still (bstep HB3.out hb4)
  have HBz : Hid (Below w.heap.size w w4) := bstep HB1.out (bstep HB3.out hb4)
  have HDz : Hid (Duo A R B m w4) := HDz
  clear hb4 HV
  go_wp2
  go_ret
  exact ⟨A, R, rfl, HDz.out.up, rfl, rfl, HBz.out.mono HBw.out⟩
set_option maxHeartbeats 4000000 in
theorem plays_3 (D : Duo A R B m w) (hm : m ≤ 925904528653) (o : Opx) (hk : o.kind = 3) : Calls Try.prog 8 #[.pointer (some ⟨A.b, 0, none⟩), .pointer (some ⟨R.b, 0, none⟩), .agg o.cs] w fun e w' => Ply A R B m w e w' := by
  generalize hW1 : w.alloc (.cells o.cs 42) = W1
  have b1 : Below w.heap.size w W1 := hW1 ▸ balloc (Below.refl _ _)
  have k1 : W1.heap[w.heap.size]? = some (.cells o.cs 42 (0, 0)) := by rw [← hW1]; exact heap_alloc_new w _
  have x0 : W1.cell? ⟨w.heap.size, 0, none⟩ = some (.int .i64 o.kind) := blk_cell k1 0
  have D1 := D.still b1
  have HD1 : Hid (Duo A R B m W1) := D1
  have HB1 : Hid (Below w.heap.size w W1) := b1
  have HBw : Hid (B ≤ w.heap.size) := D.bB
  rw [hk] at x0
  have H1 : Hid (Calls Try.prog 19 #[.pointer (some ⟨A.b, 0, none⟩)] W1 fun e w' => ∃ p : Pq, e = .returned (.agg [.slice p.sa p.sn p.sc, .int .i64 p.cid, .int .i64 p.rev, .int .i64 p.top, .int .i64 (p.prev[0]?.getD 0), .int .i64 (p.prev[1]?.getD 0), .int .i64 (p.prev[2]?.getD 0), .int .i64 (p.prev[3]?.getD 0), .slice p.va p.vn p.vc].toArray) ∧ p.Rd w' ∧ Ow p R ∧ Below W1.heap.size W1 w') := D1.prop
  have H2 : Hid (∀ W2, Below W1.heap.size W1 W2 → Calls Try.prog 20 #[.pointer (some ⟨R.b, 0, none⟩)] W2 fun e w' => ∃ p : Pq, e = .returned (.agg [.slice p.sa p.sn p.sc, .int .i64 p.cid, .int .i64 p.rev, .int .i64 p.top, .int .i64 (p.prev[0]?.getD 0), .int .i64 (p.prev[1]?.getD 0), .int .i64 (p.prev[2]?.getD 0), .int .i64 (p.prev[3]?.getD 0), .slice p.va p.vn p.vc].toArray) ∧ p.Rd w' ∧ Ow p R ∧ Below W2.heap.size W2 w') := fun W2 hb => (D1.still hb).rprop
  generalize o.cs = ocs at *
  clear D D1 b1 k1 hk
  go_enter Try.func8, Try.ntmps8
  go_wp2_with (fail)
  refine H1.out.mono ?_
  rintro e w2 ⟨p1, rfl, r1, h1, hb2⟩
  generalize hX : w2.alloc (.cells [.slice p1.sa p1.sn p1.sc, .int .i64 p1.cid, .int .i64 p1.rev, .int .i64 p1.top, .int .i64 (p1.prev[0]?.getD 0), .int .i64 (p1.prev[1]?.getD 0), .int .i64 (p1.prev[2]?.getD 0), .int .i64 (p1.prev[3]?.getD 0), .slice p1.va p1.vn p1.vc].toArray 40) = X
  have bX : Below w2.heap.size w2 X := by rw [← hX]; exact balloc (Below.refl _ _)
  have kX : X.heap[w2.heap.size]? = some (.cells [.slice p1.sa p1.sn p1.sc, .int .i64 p1.cid, .int .i64 p1.rev, .int .i64 p1.top, .int .i64 (p1.prev[0]?.getD 0), .int .i64 (p1.prev[1]?.getD 0), .int .i64 (p1.prev[2]?.getD 0), .int .i64 (p1.prev[3]?.getD 0), .slice p1.va p1.vn p1.vc].toArray 40 (0, 0)) := by rw [← hX]; exact heap_alloc_new w2 _
  have HX : Hid (Below W1.heap.size W1 X) := bstep hb2 bX
  have HkX : Hid (X.heap[w2.heap.size]? = some (.cells [.slice p1.sa p1.sn p1.sc, .int .i64 p1.cid, .int .i64 p1.rev, .int .i64 p1.top, .int .i64 (p1.prev[0]?.getD 0), .int .i64 (p1.prev[1]?.getD 0), .int .i64 (p1.prev[2]?.getD 0), .int .i64 (p1.prev[3]?.getD 0), .slice p1.va p1.vn p1.vc].toArray 40 (0, 0))) := kX
  have HR1 : Hid (p1.Rd X) := r1.still bX
  have Ho1 : Hid (Ow p1 R) := h1
  simp only [List.toArray] at hX
  clear r1 hb2 H1 bX kX h1
  go_wp2_with (fail)
  refine (H2.out _ HX.out).mono ?_
  rintro e w3 ⟨p2, rfl, r2, h2, hb3⟩
  generalize hY : w3.alloc (.cells [.slice p2.sa p2.sn p2.sc, .int .i64 p2.cid, .int .i64 p2.rev, .int .i64 p2.top, .int .i64 (p2.prev[0]?.getD 0), .int .i64 (p2.prev[1]?.getD 0), .int .i64 (p2.prev[2]?.getD 0), .int .i64 (p2.prev[3]?.getD 0), .slice p2.va p2.vn p2.vc].toArray 40) = Y
  have bY : Below w3.heap.size w3 Y := by rw [← hY]; exact balloc (Below.refl _ _)
  have kY : Y.heap[w3.heap.size]? = some (.cells [.slice p2.sa p2.sn p2.sc, .int .i64 p2.cid, .int .i64 p2.rev, .int .i64 p2.top, .int .i64 (p2.prev[0]?.getD 0), .int .i64 (p2.prev[1]?.getD 0), .int .i64 (p2.prev[2]?.getD 0), .int .i64 (p2.prev[3]?.getD 0), .slice p2.va p2.vn p2.vc].toArray 40 (0, 0)) := by rw [← hY]; exact heap_alloc_new w3 _
  have bXY := bstep hb3 bY
  have R1 : Hid (Y.rangeAt w2.heap.size 0 [.slice p1.sa p1.sn p1.sc, .int .i64 p1.cid, .int .i64 p1.rev, .int .i64 p1.top, .int .i64 (p1.prev[0]?.getD 0), .int .i64 (p1.prev[1]?.getD 0), .int .i64 (p1.prev[2]?.getD 0), .int .i64 (p1.prev[3]?.getD 0), .slice p1.va p1.vn p1.vc]) := blk_range ((bXY.block _ (lt_heap HkX.out)).trans HkX.out)
  have R2 : Hid (Y.rangeAt w3.heap.size 0 [.slice p2.sa p2.sn p2.sc, .int .i64 p2.cid, .int .i64 p2.rev, .int .i64 p2.top, .int .i64 (p2.prev[0]?.getD 0), .int .i64 (p2.prev[1]?.getD 0), .int .i64 (p2.prev[2]?.getD 0), .int .i64 (p2.prev[3]?.getD 0), .slice p2.va p2.vn p2.vc]) := blk_range kY
  have HP : Hid (Calls Try.prog 21 #[.agg [.slice p1.sa p1.sn p1.sc, .int .i64 p1.cid, .int .i64 p1.rev, .int .i64 p1.top, .int .i64 (p1.prev[0]?.getD 0), .int .i64 (p1.prev[1]?.getD 0), .int .i64 (p1.prev[2]?.getD 0), .int .i64 (p1.prev[3]?.getD 0), .slice p1.va p1.vn p1.vc].toArray, .agg [.slice p2.sa p2.sn p2.sc, .int .i64 p2.cid, .int .i64 p2.rev, .int .i64 p2.top, .int .i64 (p2.prev[0]?.getD 0), .int .i64 (p2.prev[1]?.getD 0), .int .i64 (p2.prev[2]?.getD 0), .int .i64 (p2.prev[3]?.getD 0), .slice p2.va p2.vn p2.vc].toArray] Y fun e w' => e = .returned (.bool true) ∧ Below Y.heap.size Y w') := props_same p1 p2 (HR1.out.still bXY) (r2.still bY) Ho1.out h2
  have HY : Hid (Below W1.heap.size W1 Y) := bstep HX.out bXY
  simp only [List.toArray] at hY
  clear r2 hb3 H2 bY kY bXY h2 HR1 Ho1
  go_wp2_with (first
    | (refine load_mid 40 (.tmp 19) R1.out _ Try.underlying40 rfl (by kernel_rfl) rfl rfl rfl ?_)
    | (refine load_mid 40 (.tmp 20) R2.out _ Try.underlying40 rfl (by kernel_rfl) rfl rfl rfl ?_)
    | fail)
  refine HP.out.mono ?_
  rintro e w4 ⟨rfl, hb4⟩
  have HDz : Hid (Duo A R B m w4) := HD1.out.still (bstep HY.out hb4)
  have HBz : Hid (Below w.heap.size w w4) := bstep HB1.out (bstep HY.out hb4)
  clear hb4 HP
  go_wp2
  go_ret
  exact ⟨A, R, rfl, HDz.out.up, rfl, rfl, HBz.out.mono HBw.out⟩
end
end Go.Proofs.Ytbdefhagpgpoiac.Mb
namespace Go.Proofs.Ytbdefhagpgpoiac.Mb
open Go.RowKit
set_option linter.unusedVariables false
set_option maxRecDepth 100000
set_option linter.unusedSimpArgs false
section
variable {A A' : Ag} {w w' W : World} {B m : Nat} {T : Int} {R R' : Rg}
theorem plays_any (D : Duo A R B m w) (hm : m ≤ 925904528653) (o : Opx) (hz : Opz o B w) : Calls Try.prog 8 #[.pointer (some ⟨A.b, 0, none⟩), .pointer (some ⟨R.b, 0, none⟩), .agg o.cs] w fun e w' => Ply A R B m w e w' := by
  by_cases h1 : o.kind = 1
  · exact plays_1 D hm o hz h1
  by_cases h2 : o.kind = 2
  · exact plays_2 D hm o hz h2
  by_cases h3 : o.kind = 3
  · exact plays_3 D hm o h3
  by_cases h4 : o.kind = 4
  · exact plays_4 D hm o h4
  by_cases h5 : o.kind = 5
  · exact plays_5 D hm o h5
  by_cases h6 : o.kind = 6
  · exact plays_6 D hm o h6
  by_cases h7 : o.kind = 7
  · exact plays_7 D hm o h7
  exact plays_no D hm o ⟨h1, h2, h3, h4, h5, h6, h7⟩
structure Opx.Rz (o : Opx) (w : World) : Prop where
  rd : o.Rd w
  s0 : o.sa = none → o.sc = 0
  sn : o.sn ≤ 17592186043904
  p0 : o.p.sa = none → o.p.sc = 0
  pn : o.p.sn ≤ 17592186043904
  v0 : o.p.va = none → o.p.vc = 0
  vn : o.p.vn ≤ 17592186043904
def RdOz (W : World) (a : Option Addr) (n : Nat) (os : Nat → Opx) : Prop := (n = 0 ∨ ∃ b off, a = some (⟨b, off, none⟩ : Addr) ∧ ∀ i, i < n → ∀ j, j < 13 → W.cell? ⟨b, off + (i * 13 + j), none⟩ = (os i).cs[j]?) ∧ ∀ i, i < n → (os i).Rz W
theorem Rg.Ok.lower {B' : Nat} (h : R.Ok w B) (hB : B' ≤ B) : R.Ok w B' :=
  ⟨h.blk, Nat.le_trans hB h.ge, h.n16, h.il, h.pl, own_lower h.mem hB, h.k16, own_lower h.os hB, own_lower h.ov hB, h.sl, h.vl, own_lower h.row hB, fun x hx => ⟨own_lower (h.el x hx).1 hB, own_lower (h.el x hx).2.1 hB, (h.el x hx).2.2⟩⟩
theorem RdOz.at {a : Option Addr} {n k : Nat} {os : Nat → Opx} (h : RdOz w a n os) (hk : k < n) : ∃ b off, a = some ⟨b, off, none⟩ ∧ w.rangeAt b (off + k * 13) (os k).cs.toList := by
  rcases h.1 with h0 | ⟨b, off, e, hc⟩
  · omega
  · refine ⟨b, off, e, fun j v hv => ?_⟩
    have hj : j < 13 := by
      have : j < (os k).cs.toList.length := (List.getElem?_eq_some_iff.1 hv).1
      simpa [Opx.cs] using this
    have := hc k hk j hj
    rw [Nat.add_assoc, this, ← Array.getElem?_toList]
    exact hv
theorem info_op : (Try.prog.info? 42).map (·.size) = some 13 := by kernel_rfl
end
end Go.Proofs.Ytbdefhagpgpoiac.Mb
namespace Go.Proofs.Ytbdefhagpgpoiac.Mb
open Go.RowKit
set_option linter.unusedVariables false
set_option maxRecDepth 100000
set_option linter.unusedSimpArgs false
section
variable {A A' : Ag} {w w' W : World} {B m : Nat} {T : Int} {R R' : Rg}
set_option maxHeartbeats 4000000 in
theorem walk_no (n s inc fl : Int) (oa : Option Addr) (on oc : Nat) (lo hi E : Int) (HM : ∀ W, Calls Try.prog 5 #[.int .i64 n, .int .i64 s, .int .i64 inc, .int .i64 fl] W fun e w' => e = .returned (.tuple #[.pointer none, .int .i64 E]) ∧ Below W.heap.size W w') (HQ : ∀ W, Calls Try.prog 6 #[.int .i64 n, .int .i64 s, .int .i64 inc, .int .i64 fl] W fun e w' => e = .returned (.tuple #[.pointer none, .int .i64 E]) ∧ W = w') : Calls Try.prog 4 #[.agg #[.int .i64 n, .int .i64 s, .int .i64 inc, .int .i64 fl, .slice oa on oc], .int .i64 lo, .int .i64 hi] w fun e w' => e = .returned (.bool true) ∧ Below w.heap.size w w' := by
  generalize hW1 : w.alloc (.cells #[.int .i64 n, .int .i64 s, .int .i64 inc, .int .i64 fl, .slice oa on oc] 24) = W1
  have b1 : Below w.heap.size w W1 := hW1 ▸ balloc (Below.refl _ _)
  have k1 : W1.heap[w.heap.size]? = some (.cells #[.int .i64 n, .int .i64 s, .int .i64 inc, .int .i64 fl, .slice oa on oc] 24 (0, 0)) := by rw [← hW1]; exact heap_alloc_new w _
  have x0 : W1.cell? ⟨w.heap.size, 0, none⟩ = some (.int .i64 n) := blk_cell k1 0
  have x1 : W1.cell? ⟨w.heap.size, 1, none⟩ = some (.int .i64 s) := blk_cell k1 1
  have x2 : W1.cell? ⟨w.heap.size, 2, none⟩ = some (.int .i64 inc) := blk_cell k1 2
  have x3 : W1.cell? ⟨w.heap.size, 3, none⟩ = some (.int .i64 fl) := blk_cell k1 3
  have HB1 : Hid (Below w.heap.size w W1) := b1
  have H1 : Hid (∀ W, Calls Try.prog 5 #[.int .i64 n, .int .i64 s, .int .i64 inc, .int .i64 fl] W fun e w' => e = .returned (.tuple #[.pointer none, .int .i64 E]) ∧ Below W.heap.size W w') := HM
  have H2 : Hid (∀ W, Calls Try.prog 6 #[.int .i64 n, .int .i64 s, .int .i64 inc, .int .i64 fl] W fun e w' => e = .returned (.tuple #[.pointer none, .int .i64 E]) ∧ W = w') := HQ
  have HN : Hid (∀ Z, Calls Try.prog 7 #[.int .i64 E] Z fun e w' => e = .returned (.int .i64 E) ∧ Z = w') := fun Z => num_any E
  have hbe : (E != E) = false := by simp
  clear b1 k1 HM HQ
  go_enter Try.func4, Try.ntmps4
  go_wp2_with (fail)
  refine (H1.out _).mono ?_
  rintro e w2 ⟨rfl, hb2⟩
  have z0 := below_at hb2 x0
  have z1 := below_at hb2 x1
  have z2 := below_at hb2 x2
  have z3 := below_at hb2 x3
  have HB2 : Hid (Below w.heap.size w w2) := bstep HB1.out hb2
  clear x0 x1 x2 x3 hb2
  go_wp2_with (fail)
  refine (H2.out _).mono ?_
  rintro e w3 ⟨rfl, rfl⟩
  go_wp2_with (fail)
  refine (HN.out _).mono ?_
  rintro e w4 ⟨rfl, rfl⟩
  go_wp2_with (fail)
  refine (HN.out _).mono ?_
  rintro e w5 ⟨rfl, rfl⟩
  go_wp2
  go_ret
  exact ⟨rfl, HB2.out⟩
end
end Go.Proofs.Ytbdefhagpgpoiac.Mb
namespace Go.Proofs.Ytbdefhagpgpoiac.Mb
open Go.RowKit
set_option linter.unusedVariables false
set_option maxRecDepth 100000
set_option linter.unusedSimpArgs false
section
variable {A A' : Ag} {w w' W : World} {B m : Nat} {T : Int} {R R' : Rg}
set_option maxHeartbeats 8000000 in
theorem walk_yes (n s : Nat) (inc fl : Int) (h16 : 1 ≤ n ∧ n ≤ 16 ∧ s < n) (hok : newOk (n : Int) (s : Int) inc fl = true) (hf : fl < 4611686018427387904) {oa : Option Addr} {on oc : Nat} {os : Nat → Opx} (ho : RdOz w oa on os) (hon : on ≤ 925904528653) (lo hi : Int) : Calls Try.prog 4 #[.agg #[.int .i64 (n : Int), .int .i64 (s : Int), .int .i64 inc, .int .i64 fl, .slice oa on oc], .int .i64 lo, .int .i64 hi] w fun e w' => e = .returned (.bool true) ∧ Below w.heap.size w w' := by
  generalize hW1 : w.alloc (.cells #[.int .i64 (n : Int), .int .i64 (s : Int), .int .i64 inc, .int .i64 fl, .slice oa on oc] 24) = W1
  have b1 : Below w.heap.size w W1 := hW1 ▸ balloc (Below.refl _ _)
  have k1 : W1.heap[w.heap.size]? = some (.cells #[.int .i64 (n : Int), .int .i64 (s : Int), .int .i64 inc, .int .i64 fl, .slice oa on oc] 24 (0, 0)) := by rw [← hW1]; exact heap_alloc_new w _
  have x0 : W1.cell? ⟨w.heap.size, 0, none⟩ = some (.int .i64 n) := blk_cell k1 0
  have x1 : W1.cell? ⟨w.heap.size, 1, none⟩ = some (.int .i64 s) := blk_cell k1 1
  have x2 : W1.cell? ⟨w.heap.size, 2, none⟩ = some (.int .i64 inc) := blk_cell k1 2
  have x3 : W1.cell? ⟨w.heap.size, 3, none⟩ = some (.int .i64 fl) := blk_cell k1 3
  have HB1 : Hid (Below w.heap.size w W1) := b1
  have hc := (newOk_iff (n : Int) (s : Int) inc fl).1 hok
  have x4 : W1.cell? ⟨w.heap.size, 4, none⟩ = some (.slice oa on oc) := blk_cell k1 4
  have H1 : Hid (Calls Try.prog 5 #[.int .i64 n, .int .i64 s, .int .i64 inc, .int .i64 fl] W1 fun e w' => e = .returned (.tuple #[.pointer (some ⟨W1.heap.size, 0, none⟩), .int .i64 0]) ∧ (A1 W1.heap.size n s inc fl).Ok w' W1.heap.size 4611686018427387903 ∧ Below W1.heap.size W1 w') := by
    have := new_run (w := W1) (T := 4611686018427387903) n s inc fl h16 hok ⟨hc.2.2.2.1, by omega⟩ (by decide) (by decide)
    have e0 := a0_fine W1.heap.size n s inc fl hf
    rw [e0, if_pos rfl] at this
    have e1 := newA_eq W1.heap.size n s inc fl hf
    unfold newA at e1
    rw [e1] at this
    exact this
  have H2 : Hid (∀ W, Calls Try.prog 6 #[.int .i64 n, .int .i64 s, .int .i64 inc, .int .i64 fl] W fun e w' => ∃ R : Rg, e = .returned (.tuple #[.pointer (some ⟨R.b, 0, none⟩), .int .i64 0]) ∧ R.Ok w' W.heap.size ∧ RNew R n s inc fl ∧ Below W.heap.size W w') := fun W => qnew_yes n s inc fl h16 hok hf
  have HN : Hid (∀ Z, Calls Try.prog 7 #[.int .i64 0] Z fun e w' => e = .returned (.int .i64 0) ∧ Z = w') := fun Z => num_any 0
  have Ho : Hid (RdOz w oa on os) := ho
  have Hk1 : Hid (W1.heap[w.heap.size]? = some (.cells #[.int .i64 (n : Int), .int .i64 (s : Int), .int .i64 inc, .int .i64 fl, .slice oa on oc] 24 (0, 0))) := k1
  have HwB : Hid (w.heap.size < W1.heap.size) := lt_heap k1
  clear b1 k1 ho hok
  go_enter Try.func4, Try.ntmps4
  go_wp2_with (fail)
  refine H1.out.mono ?_
  rintro e w2 ⟨rfl, okA, hb2⟩
  have z0 := below_at hb2 x0
  have z1 := below_at hb2 x1
  have z2 := below_at hb2 x2
  have z3 := below_at hb2 x3
  have HA2 : Hid ((A1 W1.heap.size n s inc fl).Ok w2 W1.heap.size 4611686018427387903) := okA
  have HB2 : Hid (Below W1.heap.size W1 w2) := hb2
  clear x0 x1 x2 x3 hb2 okA H1
  go_wp2_with (fail)
  refine (H2.out _).mono ?_
  rintro e w3 ⟨R, rfl, okR, hnew, hb3⟩
  have HD : Hid (Duo (A1 W1.heap.size n s inc fl) R W1.heap.size 0 w3) := ⟨HA2.out.still hb3, okR.lower HB2.out.size, new_sim h16 hc.2.2.1.1 hc.2.2.2.1 hnew, by rw [hnew.all]; exact Nat.le_refl _, by rw [hnew.rev]; decide⟩
  have HB3 : Hid (Below W1.heap.size W1 w3) := bstep HB2.out hb3
  obtain ⟨rb, hrb⟩ : ∃ b, R.b = b := ⟨_, rfl⟩
  have Hrb : Hid (R.b = rb) := hrb
  have Hx4 : Hid (∀ W, Below W1.heap.size W1 W → W.cell? ⟨w.heap.size, 4, none⟩ = some (.slice oa on oc)) := fun W hb => below_at hb x4
  rw [hrb]
  clear okR hnew hb3 H2 HA2 z0 z1 z2 z3 HB2 hrb x4 hc
  go_wp2_with (fail)
  refine (HN.out _).mono ?_
  rintro e w4 ⟨rfl, rfl⟩
  go_wp2_with (fail)
  refine (HN.out _).mono ?_
  rintro e w5 ⟨rfl, rfl⟩
  go_wp2
  go_loopw [11] (fun i wr => ∃ (k : Nat) (A : Ag) (R : Rg), k ≤ on ∧ i = .int .i64 k ∧ Duo A R W1.heap.size k wr ∧ A.b = W1.heap.size ∧ R.b = rb ∧ Below W1.heap.size W1 wr) (fun i _ => on - (intOf i).toNat)
  case atStart => exact ⟨0, _, R, Nat.zero_le _, rfl, HD.out, rfl, Hrb.out, HB3.out⟩
  case round =>
    obtain ⟨k, A, R2, hk, rfl, hD, hA, hR, hb⟩ := hrel
    have y4 : wr.cell? ⟨w.heap.size, 4, none⟩ = some (.slice oa on oc) := Hx4.out _ hb
    have HBr : Hid (Below W1.heap.size W1 wr) := hb
    have HDr : Hid (Duo A R2 W1.heap.size k wr) := hD
    by_cases hlt : k < on
    · have hbw : Below w.heap.size w wr := bstep HB1.out hb
      obtain ⟨ob, off, hoa, hrg⟩ := Ho.out.at hlt
      have hrg2 : wr.rangeAt ob (off + k * 13) (os k).cs.toList := fun j v hv => below_at hbw (hrg j v hv)
      have hrz := Ho.out.2 k hlt
      have HP := plays_any (A := A) (R := R2) hD (by omega) (os k) ⟨fun w' hb' => hrz.rd.still (hbw.trans (hb'.mono (Nat.le_of_lt HwB.out))), hrz.s0, hrz.sn, hrz.p0, hrz.pn, hrz.v0, hrz.vn⟩
      rw [hA, hR] at HP
      have i1 : (0 : Int) ≤ (k : Int) := Int.natCast_nonneg _
      have i2 : (k : Int) < (on : Int) := by omega
      obtain ⟨C, hC, hCl⟩ : ∃ C : List Value, (os k).cs = C.toArray ∧ C.length = 13 := ⟨(os k).cs.toList, rfl, rfl⟩
      rw [hC] at HP hrg2
      have HRg : Hid (wr.rangeAt ob (off + k * 13) C) := hrg2
      have HCl : Hid (C.length = 13) := hCl
      have HPP : Hid (Calls Try.prog 8 #[.pointer (some ⟨W1.heap.size, 0, none⟩), .pointer (some ⟨rb, 0, none⟩), .agg C.toArray] wr fun e w' => Ply A R2 W1.heap.size k wr e w') := HP
      subst hoa
      have HAB : Hid (A.b = W1.heap.size ∧ R2.b = rb) := ⟨hA, hR⟩
      clear hb hD hA hR hbw hrg hrg2 hrz HP hC hCl
      go_wp2_with (first
        | (refine load_mid 42 (.tmp 67) HRg.out _ Try.underlying42 rfl (by rw [HCl.out]; exact info_op) rfl rfl rfl ?_)
        | fail)
      refine HPP.out.mono ?_
      rintro e w6 ⟨⟨A6, R6, rfl, hD6, hA6, hR6, hb6⟩⟩
      have H6 : Hid (Duo A6 R6 W1.heap.size (k + 1) w6 ∧ A6.b = W1.heap.size ∧ R6.b = rb ∧ Below W1.heap.size W1 w6) := ⟨hD6, hA6.trans HAB.out.1, hR6.trans HAB.out.2, HBr.out.trans hb6⟩
      clear hD6 hA6 hR6 hb6 HPP
      go_wp2
      exact ⟨⟨k + 1, A6, R6, by omega, by go_num, H6.out.1, H6.out.2.1, H6.out.2.2.1, H6.out.2.2.2⟩, by simp [intOf]; omega⟩
    · obtain rfl : k = on := by omega
      clear hb hD hA hR
      go_wp2
      go_ret
      exact ⟨rfl, bstep HB1.out HBr.out⟩
theorem walk_any (v0 v1 inc fl : Int) (oa : Option Addr) (on oc : Nat) (os : Nat → Opx) (hv : -9223372036854775808 ≤ v0 ∧ v0 ≤ 9223372036854775807) (ho : RdOz w oa on os) (hon : on ≤ 925904528653) (lo hi : Int) : Calls Try.prog 4 #[.agg #[.int .i64 v0, .int .i64 v1, .int .i64 inc, .int .i64 fl, .slice oa on oc], .int .i64 lo, .int .i64 hi] w fun e w' => e = .returned (.bool true) ∧ Below w.heap.size w w' := by
  cases hok : newOk v0 v1 inc fl with
  | false => exact walk_no v0 v1 inc fl oa on oc lo hi 1 (fun W => (new_no v0 v1 inc fl hv hok).mono fun e w' ⟨he, hw⟩ => ⟨he, hw ▸ Below.refl _ _⟩) (fun W => qnew_no v0 v1 inc fl hok)
  | true =>
    have hc := (newOk_iff v0 v1 inc fl).1 hok
    obtain ⟨n, rfl⟩ := Int.eq_ofNat_of_zero_le (show 0 ≤ v0 by omega)
    obtain ⟨s, rfl⟩ := Int.eq_ofNat_of_zero_le hc.2.1.1
    have h16 : 1 ≤ n ∧ n ≤ 16 ∧ s < n := by have := hc.2.1.2; omega
    by_cases hf : fl < 4611686018427387904
    · exact walk_yes n s inc fl h16 hok hf ho hon lo hi
    · obtain rfl : fl = 4611686018427387904 := by omega
      refine walk_no n s inc _ oa on oc lo hi 3 (fun W => ?_) (fun W => qnew_spent n s inc _ hok rfl)
      have := new_run (w := W) (T := 4611686018427387904) n s inc 4611686018427387904 h16 hok ⟨by decide, by decide⟩ (by decide) (by decide)
      have e0 : (A0 W.heap.size n s 4611686018427387904).begE (zs.set s inc) = 3 := (begE_no _ _ (by show zs.length = _; simp [zs]) (.inl rfl)).1
      rw [e0] at this
      exact this.mono fun e w' ⟨he, _, hb⟩ => ⟨he, hb⟩
end
end Go.Proofs.Ytbdefhagpgpoiac.Mb
namespace Go.Proofs.Ytbdefhagpgpoiac.Oe
open Go.ChangeShapes Go.WideShapes Go.ChangeAt Go.RowKit Mb
set_option linter.unusedVariables false
set_option linter.unusedSimpArgs false
set_option maxRecDepth 100000
section
variable {H : Type} {enc : TypeId × Value → H} {W : World}
def Wt (d : DataW H) (t : TypeId) : Prop := ∀ m ∈ d.weights Try.prog t, m ≤ reachBytes
theorem struct_parts {t : TypeId} {fs : Array Field} {fuel : Nat} {cs : List Value} {x : DataW H × List MemPlace} (ht : Try.prog.underlying t = some (.struct fs)) (h : DataW.trod enc Try.prog W 0 (fun _ => true) true fuel t cs = some x) (hw : Wt x.1 t) :
    ∃ (xs : List (DataW H × List MemPlace)) (n : Nat), xs.length = fs.size ∧ (∀ (i : Nat) (f : Field), fs[i]? = some f → DataW.trod enc Try.prog W 0 (fun _ => true) true n f.type ((cs.drop f.offset).take (Try.prog.cellsOf f.type)) = xs[i]?) ∧ ∀ (i : Nat) (f : Field) y, fs[i]? = some f → xs[i]? = some y → Wt y.1 f.type := by
  obtain ⟨xs, n, _, hx, _, hl, hF⟩ := DataW.trod_struct ht h
  refine ⟨xs, n, hl, hF, fun i f y hf hy m hm => hw m ?_⟩
  rw [hx]
  simp only [DataW.weights, ht]
  exact DataW.weights_mem_each (j := i) (by rw [List.getElem?_map, Array.getElem?_toList, hf]; rfl) (by rw [List.getElem?_map, hy]; rfl) m hm
def OI (W : World) (a : Option Addr) (n : Nat) (xs : List Int) : Prop := RdI W a n xs ∧ n * 8 ≤ 140737488351232
theorem cI : Try.prog.cellsOf 3 = 1 := by kernel_rfl
theorem cIs : Try.prog.cellsOf 36 = 1 := by kernel_rfl
theorem bI : Try.prog.bytesOf 3 = 8 := by kernel_rfl
theorem open_i {fuel : Nat} {c : Value} {x : DataW H × List MemPlace} (h : DataW.trod enc Try.prog W 0 (fun _ => true) true fuel 3 [c] = some x) : ∃ v : Int, c = .int .i64 v ∧ -9223372036854775808 ≤ v ∧ v ≤ 9223372036854775807 := by
  obtain ⟨v, e, _, hw⟩ := DataW.trod_int Try.underlying3 h
  simp only [List.cons.injEq, and_true] at e
  refine ⟨v, e, ?_⟩
  have h2 : -9223372036854775808 ≤ v ∧ v ≤ 9223372036854775807 := by simpa [Lit.wf, IntKind.min, IntKind.max, IntKind.signed, IntKind.bits] using hw
  exact h2
theorem row_of {k : IntKind} {x : Addr} {l c : Nat} {zs : List Int} (hl : l ≤ c) (hz : zs.length = c) (hcell : ∀ i, i < zs.length → W.cell? (x.add i) = some (.int k (zs.getD i 0))) : l = 0 ∨ ∃ b off, some x = some (⟨b, off, none⟩ : Addr) ∧ ∀ i, i < l → W.cell? ⟨b, off + i, none⟩ = some (.int k ((zs.take l).getD i 0)) := by
  by_cases h0 : l = 0
  · exact .inl h0
  · obtain ⟨b, off, spot⟩ := x
    have hc := hcell 0 (by omega)
    have hspot : spot = none := by simpa [Addr.add] using World.cell?_spot hc
    subst hspot
    refine .inr ⟨b, off, rfl, fun i hi => ?_⟩
    have := hcell i (by omega)
    rw [Addr.add_lit] at this
    rw [this]
    simp [List.getD, hi]
theorem wAll {e : TypeId} : ∀ {l : List (DataW H)} {d : DataW H}, d ∈ l → ∀ m ∈ d.weights Try.prog e, m ∈ DataW.weightsAll Try.prog e l
  | d0 :: l, d, hd, m, hm => by
    simp only [DataW.weightsAll, List.mem_append]
    rcases List.mem_cons.1 hd with rfl | hd
    · exact .inl hm
    · exact .inr (wAll hd m hm)
theorem list4 {α : Type} {l : List α} (h : l.length = 4) : ∃ c0 c1 c2 c3, l = [c0, c1, c2, c3] := by
  match l, h with
  | [c0, c1, c2, c3], _ => exact ⟨c0, c1, c2, c3, rfl⟩
theorem list13 {α : Type} {l : List α} (h : l.length = 13) : ∃ c0 c1 c2 c3 c4 c5 c6 c7 c8 c9 c10 c11 c12, l = [c0, c1, c2, c3, c4, c5, c6, c7, c8, c9, c10, c11, c12] := by
  match l, h with
  | [c0, c1, c2, c3, c4, c5, c6, c7, c8, c9, c10, c11, c12], _ => exact ⟨c0, c1, c2, c3, c4, c5, c6, c7, c8, c9, c10, c11, c12, rfl⟩
theorem list5 {α : Type} {l : List α} (h : l.length = 5) : ∃ c0 c1 c2 c3 c4, l = [c0, c1, c2, c3, c4] := by
  match l, h with
  | [c0, c1, c2, c3, c4], _ => exact ⟨c0, c1, c2, c3, c4, rfl⟩
theorem list6 {α : Type} {l : List α} (h : l.length = 6) : ∃ c0 c1 c2 c3 c4 c5, l = [c0, c1, c2, c3, c4, c5] := by
  match l, h with
  | [c0, c1, c2, c3, c4, c5], _ => exact ⟨c0, c1, c2, c3, c4, c5, rfl⟩
theorem slice_parts {t e : TypeId} {fuel k : Nat} {v : Value} {x : DataW H × List MemPlace} (ht : Try.prog.underlying t = some (.slice e)) (hc : Try.prog.cellsOf e = k) (hk : 0 < k) (h : DataW.trod enc Try.prog W 0 (fun _ => true) true fuel t [v] = some x) (hw : Wt x.1 t) :
    v = .slice none 0 0 ∨ ∃ (ad : Addr) (len cap n : Nat) (D : Nat → DataW H) (Pl : Nat → List MemPlace), v = .slice (some ad) len cap ∧ len * Try.prog.bytesOf e ≤ reachBytes ∧ ∀ i, i < len → Wt (D i) e ∧ ∃ cs', cs'.length = k ∧ (∀ j, j < k → W.cell? (ad.add (i * k + j)) = cs'[j]?) ∧ DataW.trod enc Try.prog W 0 (fun _ => true) true n e cs' = some (D i, Pl i) := by
  rcases Deep.open_slice ht h with ⟨hcs, _⟩ | ⟨a, len, cap, m, n, D, Pl, hcs, _, hl, _, hm, hx, hel⟩
  · simp only [List.cons.injEq, and_true] at hcs
    exact .inl hcs
  · simp only [List.cons.injEq, and_true] at hcs
    simp only [if_true] at hm
    have hx1 : x.1 = .slice ((List.range len).map D) ((List.range (m - len)).map fun j => D (len + j)) := by rw [hx]
    refine .inr ⟨a, len, cap, n, D, Pl, hcs, ?_, fun i hi => ⟨fun w hw' => hw w ?_, ?_⟩⟩
    · have := hw (((((List.range len).map D).length + ((List.range (m - len)).map fun j => D (len + j)).length)) * Try.prog.bytesOf e) (by rw [hx1]; simp [DataW.weights, ht])
      simp only [List.length_map, List.length_range] at this
      refine Nat.le_trans (Nat.mul_le_mul_right _ ?_) this
      omega
    · rw [hx1]
      simp only [DataW.weights, ht, List.mem_cons, List.mem_append]
      exact .inr (.inl (wAll (List.mem_map.2 ⟨i, List.mem_range.2 hi, rfl⟩) w hw'))
    · obtain ⟨cs', h1, h2⟩ := hel i (by omega)
      rw [hc] at h1
      obtain ⟨_, hlen, hcell⟩ := World.cells?_some h1
      refine ⟨cs', hlen, fun j hj => ?_, h2⟩
      have := hcell j (by omega)
      rw [Addr.add_add] at this
      exact this
theorem ad_plain {x : Addr} {v : Value} (h : W.cell? (x.add 0) = some v) : ∃ b off, x = ⟨b, off, none⟩ := by
  obtain ⟨b, off, spot⟩ := x
  have hspot : spot = none := by simpa [Addr.add] using World.cell?_spot h
  subst hspot
  exact ⟨b, off, rfl⟩
theorem cOs : Try.prog.cellsOf 22 = 1 := by kernel_rfl
theorem cO : Try.prog.cellsOf 42 = 13 := by kernel_rfl
theorem bO : Try.prog.bytesOf 42 = 152 := by kernel_rfl
theorem cP : Try.prog.cellsOf 40 = 9 := by kernel_rfl
theorem cID : Try.prog.cellsOf 38 = 4 := by kernel_rfl
theorem cC : Try.prog.cellsOf 24 = 5 := by kernel_rfl
def p0 : Pq := ⟨none, 0, 0, [], 0, 0, 0, [0, 0, 0, 0], none, 0, 0, []⟩
def o0 : Opx := ⟨0, 0, 0, none, 0, 0, [], p0⟩
theorem open_id {n : Nat} {c0 c1 c2 c3 : Value} {x : DataW H × List MemPlace} (h : DataW.trod enc Try.prog W 0 (fun _ => true) true n 38 [c0, c1, c2, c3] = some x) (hw : Wt x.1 38) : ∃ v0 v1 v2 v3 : Int, c0 = .int .i64 v0 ∧ c1 = .int .i64 v1 ∧ c2 = .int .i64 v2 ∧ c3 = .int .i64 v3 := by
  obtain ⟨xs, n', hxl, hF, hWf⟩ := struct_parts Try.underlying38 h hw
  obtain ⟨y0, y1, y2, y3, rfl⟩ := list4 hxl
  have h0 : DataW.trod enc Try.prog W 0 (fun _ => true) true n' 3 [c0] = some y0 := by simpa [cI] using hF 0 _ rfl
  have h1 : DataW.trod enc Try.prog W 0 (fun _ => true) true n' 3 [c1] = some y1 := by simpa [cI] using hF 1 _ rfl
  have h2 : DataW.trod enc Try.prog W 0 (fun _ => true) true n' 3 [c2] = some y2 := by simpa [cI] using hF 2 _ rfl
  have h3 : DataW.trod enc Try.prog W 0 (fun _ => true) true n' 3 [c3] = some y3 := by simpa [cI] using hF 3 _ rfl
  obtain ⟨v0, rfl, _⟩ := open_i h0
  obtain ⟨v1, rfl, _⟩ := open_i h1
  obtain ⟨v2, rfl, _⟩ := open_i h2
  obtain ⟨v3, rfl, _⟩ := open_i h3
  exact ⟨v0, v1, v2, v3, rfl, rfl, rfl, rfl⟩
end
end Go.Proofs.Ytbdefhagpgpoiac.Oe
namespace Go.Proofs.Ytbdefhagpgpoiac.Oe
open Go.ChangeShapes Go.WideShapes Go.ChangeAt Go.RowKit Mb
set_option linter.unusedVariables false
set_option linter.unusedSimpArgs false
set_option maxRecDepth 100000
section
variable {H : Type} {enc : TypeId × Value → H} {W : World}
theorem open_is2 {fuel : Nat} {v : Value} {x : DataW H × List MemPlace} (h : DataW.trod enc Try.prog W 0 (fun _ => true) true fuel 36 [v] = some x) (hw : Wt x.1 36) : ∃ a n c xs, v = .slice a n c ∧ OI W a n xs ∧ (a = none → c = 0) := by
  rcases open_ints Try.underlying36 Try.underlying3 cI h with ⟨hcs, _⟩ | ⟨x, l, c, zs, hcs, _, hl, hm, hz, hx3, hcell, hwz⟩
  · simp only [List.cons.injEq, and_true] at hcs
    subst hcs
    exact ⟨none, 0, 0, [], rfl, ⟨⟨rfl, .inl rfl⟩, by omega⟩, fun _ => rfl⟩
  · simp only [List.cons.injEq, and_true] at hcs
    subst hcs
    simp only [if_true] at hz
    refine ⟨some x, l, c, zs.take l, rfl, ⟨⟨by rw [List.length_take]; omega, row_of hl hz hcell⟩, ?_⟩, fun h => by cases h⟩
    have := hw ((((lits .i64 (zs.take l) : List (DataW H)).length + (lits .i64 (zs.drop l) : List (DataW H)).length) * Try.prog.bytesOf 3)) (by rw [hx3]; simp [DataW.weights, Try.underlying36])
    rw [bI] at this
    simp only [lits, List.length_map, List.length_take, List.length_drop, reachBytes] at this
    omega
theorem open_prop2 {n : Nat} {c0 c1 c2 c3 c4 c5 c6 c7 c8 : Value} {x : DataW H × List MemPlace} (h : DataW.trod enc Try.prog W 0 (fun _ => true) true n 40 [c0, c1, c2, c3, c4, c5, c6, c7, c8] = some x) (hw : Wt x.1 40) : ∃ p : Pq, p.cs = #[c0, c1, c2, c3, c4, c5, c6, c7, c8] ∧ p.Rd W ∧ ((p.sa = none → p.sc = 0) ∧ p.sn ≤ 17592186043904) ∧ ((p.va = none → p.vc = 0) ∧ p.vn ≤ 17592186043904) := by
  obtain ⟨xs, n', hxl, hF, hWf⟩ := struct_parts Try.underlying40 h hw
  obtain ⟨y0, y1, y2, y3, y4, y5, rfl⟩ := list6 hxl
  have h0 : DataW.trod enc Try.prog W 0 (fun _ => true) true n' 36 [c0] = some y0 := by simpa [cI, cIs, cID] using hF 0 _ rfl
  have h1 : DataW.trod enc Try.prog W 0 (fun _ => true) true n' 3 [c1] = some y1 := by simpa [cI, cIs, cID] using hF 1 _ rfl
  have h2 : DataW.trod enc Try.prog W 0 (fun _ => true) true n' 3 [c2] = some y2 := by simpa [cI, cIs, cID] using hF 2 _ rfl
  have h3 : DataW.trod enc Try.prog W 0 (fun _ => true) true n' 3 [c3] = some y3 := by simpa [cI, cIs, cID] using hF 3 _ rfl
  have h4 : DataW.trod enc Try.prog W 0 (fun _ => true) true n' 38 [c4, c5, c6, c7] = some y4 := by simpa [cI, cIs, cID] using hF 4 _ rfl
  have h5 : DataW.trod enc Try.prog W 0 (fun _ => true) true n' 36 [c8] = some y5 := by simpa [cI, cIs, cID] using hF 5 _ rfl
  obtain ⟨a1, m1, k1, z1, rfl, o1, n1⟩ := open_is2 h0 (hWf 0 _ y0 rfl rfl)
  obtain ⟨v1, rfl, _⟩ := open_i h1
  obtain ⟨v2, rfl, _⟩ := open_i h2
  obtain ⟨v3, rfl, _⟩ := open_i h3
  obtain ⟨u0, u1, u2, u3, rfl, rfl, rfl, rfl⟩ := open_id h4 (hWf 4 _ y4 rfl rfl)
  obtain ⟨a2, m2, k2, z2, rfl, o2, n2⟩ := open_is2 h5 (hWf 5 _ y5 rfl rfl)
  have q1 := o1.2
  have q2 := o2.2
  exact ⟨⟨a1, m1, k1, z1, v1, v2, v3, [u0, u1, u2, u3], a2, m2, k2, z2⟩, rfl, ⟨o1.1, o2.1, rfl, by show m1 ≤ _; omega, by show m2 ≤ _; omega⟩, ⟨n1, by show m1 ≤ _; omega⟩, ⟨n2, by show m2 ≤ _; omega⟩⟩
theorem open_ops2 {fuel : Nat} {v : Value} {x : DataW H × List MemPlace} (h : DataW.trod enc Try.prog W 0 (fun _ => true) true fuel 22 [v] = some x) (hw : Wt x.1 22) : ∃ a n c os, v = .slice a n c ∧ RdOz W a n os ∧ n ≤ 925904528653 := by
  rcases slice_parts Try.underlying22 cO (by decide) h hw with rfl | ⟨ad, len, cap, n, D, Pl, rfl, hb, hel⟩
  · exact ⟨none, 0, 0, (fun _ => o0), rfl, ⟨.inl rfl, fun i hi => by omega⟩, by omega⟩
  · rw [bO] at hb
    have each : ∀ i, ∃ o : Opx, i < len → (∀ j, j < 13 → W.cell? (ad.add (i * 13 + j)) = o.cs[j]?) ∧ o.Rz W := by
      intro i
      by_cases hi : i < len
      · obtain ⟨hwD, cs', hl, hcell, htr⟩ := hel i hi
        obtain ⟨c0, c1, c2, c3, c4, c5, c6, c7, c8, c9, c10, c11, c12, rfl⟩ := list13 hl
        obtain ⟨xs, n', hxl, hF, hWf⟩ := struct_parts Try.underlying42 htr hwD
        obtain ⟨y0, y1, y2, y3, y4, rfl⟩ := list5 hxl
        have h0 : DataW.trod enc Try.prog W 0 (fun _ => true) true n' 3 [c0] = some y0 := by simpa [cI, cIs, cP] using hF 0 _ rfl
        have h1 : DataW.trod enc Try.prog W 0 (fun _ => true) true n' 3 [c1] = some y1 := by simpa [cI, cIs, cP] using hF 1 _ rfl
        have h2 : DataW.trod enc Try.prog W 0 (fun _ => true) true n' 3 [c2] = some y2 := by simpa [cI, cIs, cP] using hF 2 _ rfl
        have h3 : DataW.trod enc Try.prog W 0 (fun _ => true) true n' 36 [c3] = some y3 := by simpa [cI, cIs, cP] using hF 3 _ rfl
        have h4 : DataW.trod enc Try.prog W 0 (fun _ => true) true n' 40 [c4, c5, c6, c7, c8, c9, c10, c11, c12] = some y4 := by simpa [cI, cIs, cP] using hF 4 _ rfl
        obtain ⟨v0, rfl, _⟩ := open_i h0
        obtain ⟨v1, rfl, _⟩ := open_i h1
        obtain ⟨v2, rfl, _⟩ := open_i h2
        obtain ⟨a2, m2, k2, zs, rfl, ho2, hn2⟩ := open_is2 h3 (hWf 3 _ y3 rfl rfl)
        obtain ⟨p, hpc, hpr, hz1, hz2⟩ := open_prop2 h4 (hWf 4 _ y4 rfl rfl)
        have hm2 := ho2.2
        refine ⟨⟨v0, v1, v2, a2, m2, k2, zs, p⟩, fun _ => ⟨fun j hj => ?_, ⟨⟨ho2.1, by show m2 ≤ _; omega, hpr⟩, hn2, by show m2 ≤ _; omega, hz1.1, hz1.2, hz2.1, hz2.2⟩⟩⟩
        rw [hcell j hj]
        have e : (⟨v0, v1, v2, a2, m2, k2, zs, p⟩ : Opx).cs = #[.int .i64 v0, .int .i64 v1, .int .i64 v2, .slice a2 m2 k2] ++ p.cs := rfl
        rw [e, hpc]
        simp
      · exact ⟨o0, fun h => absurd h hi⟩
    obtain ⟨f, hf⟩ := Classical.axiomOfChoice each
    refine ⟨some ad, len, cap, f, rfl, ⟨?_, fun i hi => (hf i hi).2⟩, by unfold reachBytes at hb; omega⟩
    by_cases h0 : len = 0
    · exact .inl h0
    · obtain ⟨b, off, rfl⟩ := ad_plain (v := .int .i64 (f 0).kind) (by have h9 := (hf 0 (by omega)).1 0 (by decide); simp only [Nat.zero_mul, Nat.zero_add] at h9; exact h9)
      refine .inr ⟨b, off, rfl, fun i hi j hj => ?_⟩
      have := (hf i hi).1 j hj
      rw [Addr.add_lit] at this
      exact this
theorem open_case2 {base : Nat} {v : Value} {d : DataW H} {p : List MemPlace} (hok : Value.okWide Try.prog W .any base 24 v) (h : DataW.Trod enc Try.prog W 0 (fun _ => true) true 24 v d p) (hw : Wt d 24) : ∃ v0 v1 v2 v3 oa on oc os, v = .agg #[.int .i64 v0, .int .i64 v1, .int .i64 v2, .int .i64 v3, .slice oa on oc] ∧ RdOz W oa on os ∧ on ≤ 925904528653 ∧ (-9223372036854775808 ≤ v0 ∧ v0 ≤ 9223372036854775807) := by
  obtain ⟨cs, rfl, hsz⟩ := okWide_struct Try.underlying24 hok
  rw [cC] at hsz
  obtain ⟨c0, c1, c2, c3, c4, hcs⟩ := list5 (show cs.toList.length = 5 by simpa using hsz)
  obtain rfl : cs = #[c0, c1, c2, c3, c4] := by
    apply Array.ext'
    rw [hcs]
  obtain ⟨fuel, hf⟩ := h
  obtain ⟨xs, n, hxl, hF, hWf⟩ := struct_parts Try.underlying24 hf hw
  obtain ⟨y0, y1, y2, y3, y4, rfl⟩ := list5 hxl
  have h0 : DataW.trod enc Try.prog W 0 (fun _ => true) true n 3 [c0] = some y0 := by simpa [Value.cells, cI, cOs] using hF 0 _ rfl
  have h1 : DataW.trod enc Try.prog W 0 (fun _ => true) true n 3 [c1] = some y1 := by simpa [Value.cells, cI, cOs] using hF 1 _ rfl
  have h2 : DataW.trod enc Try.prog W 0 (fun _ => true) true n 3 [c2] = some y2 := by simpa [Value.cells, cI, cOs] using hF 2 _ rfl
  have h3 : DataW.trod enc Try.prog W 0 (fun _ => true) true n 3 [c3] = some y3 := by simpa [Value.cells, cI, cOs] using hF 3 _ rfl
  have h4 : DataW.trod enc Try.prog W 0 (fun _ => true) true n 22 [c4] = some y4 := by simpa [Value.cells, cI, cOs] using hF 4 _ rfl
  obtain ⟨v0, rfl, hv0⟩ := open_i h0
  obtain ⟨v1, rfl, _⟩ := open_i h1
  obtain ⟨v2, rfl, _⟩ := open_i h2
  obtain ⟨v3, rfl, _⟩ := open_i h3
  obtain ⟨a, m, c, os, rfl, ho, hn⟩ := open_ops2 h4 (hWf 4 _ y4 rfl rfl)
  exact ⟨v0, v1, v2, v3, a, m, c, os, rfl, ho, hn, hv0⟩
end
end Go.Proofs.Ytbdefhagpgpoiac.Oe
