import Derived.Test.YtfbollifegngjaaXp
import Derived.Deep.DeepCutAuto
import Derived.Deep.CutBlock
namespace Go.Proofs.Ytfbollifegngjaa.Dt
open Go.RowKit
set_option linter.unusedVariables false
set_option maxRecDepth 100000
set_option linter.unusedSimpArgs false
def tk (i0 i1 base step lim : Int) (oa : Option Addr) (on oc : Nat) : Array Value := #[.int .i64 i0, .int .i64 i1, .int .i64 base, .int .i64 step, .int .i64 lim, .slice oa on oc]
def Sx.cs (o : Sx) : Array Value := #[.int .i64 o.k, .int .i64 o.s, .int .i64 o.b]
theorem info_bs : (Try.prog.info? 40).map (fun i => (i.zero, i.size, i.bytes)) = some (some (.slice none 0 0), 1, 24) := by kernel_rfl
theorem info_bl : (Try.prog.info? 4).map (fun i => (i.zero, i.size, i.bytes)) = some (some (.bool false), 1, 1) := by kernel_rfl
def ENDC : Array Value := #[.int .i64 1, .int .i64 0, .int .i64 0, .int .i64 2, .int .i64 1, .int .i64 (-1), .int .i64 1, .int .i64 1, .int .i64 0, .int .i64 2, .int .i64 0, .int .i64 (-1), .int .i64 1, .int .i64 0, .int .i64 0, .int .i64 2, .int .i64 1, .int .i64 (-1), .int .i64 1, .int .i64 1, .int .i64 0, .int .i64 2, .int .i64 0, .int .i64 (-1)]
theorem endc_at {j : Nat} (hj : j < 8) : ENDC[j * 3]? = some (.int .i64 (endS j).k) ∧ ENDC[j * 3 + 1]? = some (.int .i64 (endS j).s) ∧ ENDC[j * 3 + 2]? = some (.int .i64 (endS j).b) := by
  match j, hj with
  | 0, _ => exact ⟨rfl, rfl, rfl⟩
  | 1, _ => exact ⟨rfl, rfl, rfl⟩
  | 2, _ => exact ⟨rfl, rfl, rfl⟩
  | 3, _ => exact ⟨rfl, rfl, rfl⟩
  | 4, _ => exact ⟨rfl, rfl, rfl⟩
  | 5, _ => exact ⟨rfl, rfl, rfl⟩
  | 6, _ => exact ⟨rfl, rfl, rfl⟩
  | 7, _ => exact ⟨rfl, rfl, rfl⟩
theorem and1 (x : Int) : 0 ≤ bits BinOp.and IntKind.i64 x 1 ∧ bits BinOp.and IntKind.i64 x 1 ≤ 1 := by
  have e : bits BinOp.and IntKind.i64 x 1 = IntKind.i64.wrap (((BitVec.ofInt IntKind.i64.bits x &&& BitVec.ofInt IntKind.i64.bits 1).toNat : Nat) : Int) := rfl
  rw [e]
  clear e
  have h : (BitVec.ofInt IntKind.i64.bits x &&& BitVec.ofInt IntKind.i64.bits 1).toNat ≤ 1 := by
    rw [BitVec.toNat_and]
    exact Nat.and_le_right
  generalize (BitVec.ofInt IntKind.i64.bits x &&& BitVec.ofInt IntKind.i64.bits 1).toNat = y at h
  have := wrap_id (a := (y : Int)) (by omega) (by omega)
  rw [this]
  omega
theorem run_buildop {o : Oper} {ρ : Operand → Value} {w : World} (t : TypeId) (parts : Array (Nat × Operand)) (ho : o.op = .build t parts) (cells : Array Value) (h : Try.prog.built t (parts.map fun (i, x) => (i, ρ x)).toList = some cells) : (execOp ρ o).run Try.prog w = .ok (.value (.agg cells)) w := by
  unfold execOp
  simp only [ho, Sem.run_bind, run_build w t _ cells h, Result.andThen_ok, Sem.run_pure]
theorem and1_0 : bits BinOp.and IntKind.i64 0 1 = 0 := by decide +kernel
theorem and1_1 : bits BinOp.and IntKind.i64 1 1 = 1 := by decide +kernel
theorem cell_keep' {W V : World} {P : Nat → Prop} {k i : Nat} {v : Value} (hk : Kept W V P) (hp : ¬ P k) (h : W.cell? ⟨k, i, none⟩ = some v) : V.cell? ⟨k, i, none⟩ = some v := by
  have hl := World.block_lt_of_cell? W _ h
  unfold World.cell? at h ⊢
  rw [hk.block k hl hp]
  exact h
section
variable {D D' : De} {w w' W V w0 wr : World} {B m k : Nat}
def RdSays (w : World) (oa : Option Addr) (n : Nat) (os : Nat → Sx) : Prop :=
  n = 0 ∨ ∃ b off, oa = some ⟨b, off, none⟩ ∧ ∀ i, i < n → ∀ j, j < 3 → w.cell? ⟨b, off + (i * 3 + j), none⟩ = (os i).cs[j]?
theorem RdSays.at {w0 : World} {oa : Option Addr} {n k : Nat} {os : Nat → Sx} (h : RdSays w0 oa n os) (hl : Below w0.heap.size w0 w) (hk : k < n) : ∃ b off, oa = some ⟨b, off, none⟩ ∧ w.cell? ⟨b, off + k * 3, none⟩ = some (.int .i64 (os k).k) ∧ w.cell? ⟨b, off + k * 3 + 1, none⟩ = some (.int .i64 (os k).s) ∧ w.cell? ⟨b, off + k * 3 + 2, none⟩ = some (.int .i64 (os k).b) := by
  rcases h with h0 | ⟨b, off, ha, hc⟩
  · omega
  · exact ⟨b, off, ha, below_at hl (hc k hk 0 (by omega)), below_at hl (hc k hk 1 (by omega)), below_at hl (hc k hk 2 (by omega))⟩
theorem tk_cells {k : Nat} {i0 i1 base step lim : Int} {oa : Option Addr} {on oc : Nat} (h : W.heap[k]? = some (.cells (tk i0 i1 base step lim oa on oc) 24 (0, 0))) : W.cell? ⟨k, 0, none⟩ = some (.int .i64 i0) ∧ W.cell? ⟨k, 1, none⟩ = some (.int .i64 i1) ∧ W.cell? ⟨k, 2, none⟩ = some (.int .i64 base) ∧ W.cell? ⟨k, 3, none⟩ = some (.int .i64 step) ∧ W.cell? ⟨k, 4, none⟩ = some (.int .i64 lim) ∧ W.cell? ⟨k, 5, none⟩ = some (.slice oa on oc) :=
  ⟨blk_cell h 0, blk_cell h 1, blk_cell h 2, blk_cell h 3, blk_cell h 4, blk_cell h 5⟩
theorem newsay (X : World) (v0 v1 v2 : Value) : ∃ A S0 S1 S2 : World, X.alloc (.cells #[.int .i64 0, .int .i64 0, .int .i64 0] 36) = A ∧ A.frozen? ⟨X.heap.size, 0, none⟩ = false ∧ A.cell? ⟨X.heap.size, 0, none⟩ = some (.int .i64 0) ∧ A.setCell ⟨X.heap.size, 0, none⟩ v0 = S0 ∧ S0.frozen? ⟨X.heap.size, 1, none⟩ = false ∧ S0.cell? ⟨X.heap.size, 1, none⟩ = some (.int .i64 0) ∧ S0.setCell ⟨X.heap.size, 1, none⟩ v1 = S1 ∧ S1.frozen? ⟨X.heap.size, 2, none⟩ = false ∧ S1.cell? ⟨X.heap.size, 2, none⟩ = some (.int .i64 0) ∧ S1.setCell ⟨X.heap.size, 2, none⟩ v2 = S2 ∧ Hid (S2.heap[X.heap.size]? = some (.cells #[v0, v1, v2] 36 (0, 0))) ∧ Hid (Below X.heap.size X S2) ∧ Hid (Below X.heap.size X A) := by
  have b0 : (X.alloc (.cells #[.int .i64 0, .int .i64 0, .int .i64 0] 36)).heap[X.heap.size]? = some (.cells #[.int .i64 0, .int .i64 0, .int .i64 0] 36 (0, 0)) := heap_alloc_new X _
  have l0 : Below X.heap.size X (X.alloc (.cells #[.int .i64 0, .int .i64 0, .int .i64 0] 36)) := balloc (Below.refl _ _)
  generalize X.alloc (.cells #[.int .i64 0, .int .i64 0, .int .i64 0] 36) = A at *
  have b1 : (A.setCell ⟨X.heap.size, 0, none⟩ v0).heap[X.heap.size]? = some (.cells #[v0, .int .i64 0, .int .i64 0] 36 (0, 0)) := blk_set b0 rfl
  have l1 : Below X.heap.size X (A.setCell ⟨X.heap.size, 0, none⟩ v0) := bset l0 (Nat.le_refl _) _ _
  have b2 : ((A.setCell ⟨X.heap.size, 0, none⟩ v0).setCell ⟨X.heap.size, 1, none⟩ v1).heap[X.heap.size]? = some (.cells #[v0, v1, .int .i64 0] 36 (0, 0)) := blk_set b1 rfl
  have l2 := bset l1 (Nat.le_refl _) 1 v1
  have b3 : (((A.setCell ⟨X.heap.size, 0, none⟩ v0).setCell ⟨X.heap.size, 1, none⟩ v1).setCell ⟨X.heap.size, 2, none⟩ v2).heap[X.heap.size]? = some (.cells #[v0, v1, v2] 36 (0, 0)) := blk_set b2 rfl
  exact ⟨_, _, _, _, rfl, frozen_of_row _ _ _ _ _ b0, blk_cell b0 0, rfl, frozen_of_row _ _ _ _ _ b1, blk_cell b1 1, rfl, frozen_of_row _ _ _ _ _ b2, blk_cell b2 2, rfl, b3, bset l2 (Nat.le_refl _) 2 v2, l0⟩
theorem newbeat (X : World) (v0 v1 : Value) : ∃ A S0 S1 : World, X.alloc (.cells #[.int .i64 0, .slice none 0 0] 38) = A ∧ A.frozen? ⟨X.heap.size, 0, none⟩ = false ∧ A.cell? ⟨X.heap.size, 0, none⟩ = some (.int .i64 0) ∧ A.setCell ⟨X.heap.size, 0, none⟩ v0 = S0 ∧ S0.frozen? ⟨X.heap.size, 1, none⟩ = false ∧ S0.cell? ⟨X.heap.size, 1, none⟩ = some (.slice none 0 0) ∧ S0.setCell ⟨X.heap.size, 1, none⟩ v1 = S1 ∧ Hid (S1.heap[X.heap.size]? = some (.cells #[v0, v1] 38 (0, 0))) ∧ Hid (Below X.heap.size X S1) := by
  have b0 : (X.alloc (.cells #[.int .i64 0, .slice none 0 0] 38)).heap[X.heap.size]? = some (.cells #[.int .i64 0, .slice none 0 0] 38 (0, 0)) := heap_alloc_new X _
  have l0 : Below X.heap.size X (X.alloc (.cells #[.int .i64 0, .slice none 0 0] 38)) := balloc (Below.refl _ _)
  generalize X.alloc (.cells #[.int .i64 0, .slice none 0 0] 38) = A at *
  have b1 : (A.setCell ⟨X.heap.size, 0, none⟩ v0).heap[X.heap.size]? = some (.cells #[v0, .slice none 0 0] 38 (0, 0)) := blk_set b0 rfl
  have l1 : Below X.heap.size X (A.setCell ⟨X.heap.size, 0, none⟩ v0) := bset l0 (Nat.le_refl _) _ _
  have b2 : ((A.setCell ⟨X.heap.size, 0, none⟩ v0).setCell ⟨X.heap.size, 1, none⟩ v1).heap[X.heap.size]? = some (.cells #[v0, v1] 38 (0, 0)) := blk_set b1 rfl
  exact ⟨_, _, _, rfl, frozen_of_row _ _ _ _ _ b0, blk_cell b0 0, rfl, frozen_of_row _ _ _ _ _ b1, blk_cell b1 1, rfl, b2, bset l1 (Nat.le_refl _) 1 v1⟩
theorem ms_init {I E w1 w2 X Y Z : World} {D0 D1 : De} {pd pt ps : Nat} {base i0 i1 : Int}
    (h0 : D0.Ok w1 I.heap.size 0 ∧ D0.n = 2 ∧ D0.self = 0 ∧ D0.inc = i0 ∧ D0.left = false ∧ D0.tick = 0 ∧ D0.pe = fun _ => pe0 base) (h1 : D1.Ok w2 w1.heap.size 0 ∧ D1.n = 2 ∧ D1.self = 1 ∧ D1.inc = i1 ∧ D1.left = false ∧ D1.tick = 0 ∧ D1.pe = fun _ => pe0 base)
    (b1 : Below I.heap.size I w1) (b2 : Below w1.heap.size w1 w2) (b3 : Below w2.heap.size w2 Z) (b4 : Below Z.heap.size Z X) (b5 : Below X.heap.size X Y) (b6 : Below Y.heap.size Y E)
    (hs : w2.heap.size = pd ∧ pd + 1 = pt ∧ pt + 1 = ps ∧ Z.heap.size = pt ∧ X.heap.size = ps ∧ Y.heap.size = ps + 1) (hE : E.heap.size = Y.heap.size + 1)
    (kX : X.heap[Z.heap.size]? = some (.cells (List.replicate 2 (.slice none 0 0)).toArray 40 (0, 0))) (kY : Y.heap[X.heap.size]? = some (.cells (List.replicate 2 (.bool false)).toArray 4 (0, 0))) :
    Ms E E I.heap.size 0 pt ps (fun i => if i = 0 then D0.b else D1.b) (fun i => if i = 0 then D0 else D1) (fun _ => []) (fun _ => false) (fun _ => .slice none 0 0) ∧ Pu (fun i => if i = 0 then D0 else D1) (fun _ => []) (fun _ => false) false 0 i0 i1 := by
  obtain ⟨s1, s2, s3, s4, s5, s6⟩ := hs
  have z1 := b1.size
  have z2 := b2.size
  have bE2 : Below w2.heap.size w2 E := bstep (bstep (bstep b3 b4) b5) b6
  have o0 : D0.Ok E I.heap.size 0 := h0.1.still (bstep b2 bE2)
  have o1 : D1.Ok E I.heap.size 0 := (h1.1.still bE2).lower z1
  rw [s4] at kX
  rw [s5] at kY
  refine ⟨⟨fun i hi => ?_, fun i hi => ?_, fun i hi g hg => ?_, fun g e0 e1 => ?_, ?_, ?_, ⟨by omega, by omega, by omega⟩, fun i hi => ⟨rfl, .inl ⟨rfl, rfl⟩⟩, fun g hg => (by cases hg), fun i hi x hx => (by cases hx), fun i hi => Nat.zero_le _, Kept.refl _ _⟩, ⟨fun i hi => ?_, ⟨h0.2.2.2.1, h1.2.2.2.1⟩, fun i hi => ?_, fun i hi => ?_⟩⟩
  · rcases two_cases hi with rfl | rfl
    · exact o0
    · exact o1
  · rcases two_cases hi with rfl | rfl <;> rfl
  · rcases two_cases hi with rfl | rfl
    · have := h0.1.ltOwn (j := g) hg; omega
    · have := h1.1.ltOwn (j := g) hg; omega
  · have := h0.1.ltOwn (j := g) e0
    have := h1.1.geOwn (j := g) e1
    omega
  · exact ((bstep b5 b6).block _ (lt_heap kX)).trans kX
  · exact (b6.block _ (lt_heap kY)).trans kY
  · rcases two_cases hi with rfl | rfl
    · exact ⟨h0.2.1, h0.2.2.1⟩
    · exact ⟨h1.2.1, h1.2.2.1⟩
  · rcases two_cases hi with rfl | rfl
    · show Hf D0 D1 0 1 [] false 0
      refine ⟨?_, ?_, ?_, fun x hx => (by cases hx), ?_⟩
      · rw [h0.2.2.2.2.2.2]; exact .inl rfl
      · rw [h0.2.2.2.2.2.2]; intro e; cases e
      · rw [h0.2.2.2.2.2.2, h1.2.2.2.2.2.1]; exact Int.le_refl _
      · rw [h1.2.2.2.2.2.1]; exact Int.le_refl _
    · show Hf D1 D0 1 0 [] false 0
      refine ⟨?_, ?_, ?_, fun x hx => (by cases hx), ?_⟩
      · rw [h1.2.2.2.2.2.2]; exact .inl rfl
      · rw [h1.2.2.2.2.2.2]; intro e; cases e
      · rw [h1.2.2.2.2.2.2, h0.2.2.2.2.2.1]; exact Int.le_refl _
      · rw [h0.2.2.2.2.2.1]; exact Int.le_refl _
  · rcases two_cases hi with rfl | rfl
    · show D0.left = true → _; rw [h0.2.2.2.2.1]; intro e; cases e
    · show D1.left = true → _; rw [h1.2.2.2.2.1]; intro e; cases e
theorem bz_of {E wx : World} {B0 k pt ps pd bI b0 b1 : Nat} {b : Nat → Nat} {A : Nat → De} {T : Nat → List Bx} {S : Nat → Bool} {v : Nat → Value} {i0 i1 : Int} (h : Ms E wx B0 k pt ps b A T S v) (hD : E.heap[pd]? = some (.cells #[.pointer (some ⟨b0, 0, none⟩), .pointer (some ⟨b1, 0, none⟩)] 26 (0, 0)) ∧ pd + 1 = pt) (hI : E.heap[bI]? = some (.cells #[.int .i64 i0, .int .i64 i1] 3 (0, 0)) ∧ bI < B0) {me : Nat} (hm : me < 2) : wx.cell? ⟨pd, me, none⟩ = some (.pointer (some ⟨if me = 0 then b0 else b1, 0, none⟩)) ∧ wx.cell? ⟨bI, me, none⟩ = some (.int .i64 (if me = 0 then i0 else i1)) := by
  have e1 := blk_cell (h.at0 hD.1 (.inr (.inl hD.2))) me
  have e2 := blk_cell (h.at0 hI.1 (.inl hI.2)) me
  rw [e1, e2]
  rcases two_cases hm with rfl | rfl <;> exact ⟨rfl, rfl⟩
set_option maxHeartbeats 40000000 in
theorem mutual_ok (i0 i1 base step lim : Int) (oa : Option Addr) (on oc : Nat) (os : Nat → Sx) (hro : RdSays w oa on os) (hoc : on ≤ oc) (ha : newOk 2 0 i0 base step lim = true) (hb : newOk 2 1 i1 base step lim = true) : Calls Try.prog 3 #[.agg (tk i0 i1 base step lim oa on oc)] w fun e w' => e = .returned (.bool true) ∧ Below w.heap.size w w' := by
  obtain ⟨j0, hj, hy0, hy1, hy2⟩ := info_parts info_bs
  obtain ⟨l0, hl, hx0, hx1, hx2⟩ := info_parts info_bl
  generalize hW : w.alloc (.cells (tk i0 i1 base step lim oa on oc) 24) = W
  have hbW : Below w.heap.size w W := by rw [← hW]; exact balloc (Below.refl _ w)
  have hblk : W.heap[w.heap.size]? = some (.cells (tk i0 i1 base step lim oa on oc) 24 (0, 0)) := by rw [← hW]; exact heap_alloc_new w _
  obtain ⟨c0, c1, c2, c3, c4, c5⟩ := tk_cells hblk
  generalize hI : W.alloc (.cells #[.int .i64 i0, .int .i64 i1] 3) = I
  have hbI : Below W.heap.size W I := by rw [← hI]; exact balloc (Below.refl _ W)
  have hbkI : I.heap[W.heap.size]? = some (.cells #[.int .i64 i0, .int .i64 i1] 3 (0, 0)) := by rw [← hI]; exact heap_alloc_new W _
  have hblkI := (hbI.block _ (lt_heap hblk)).trans hblk
  obtain ⟨d0, d1, d2, d3, d4, d5⟩ := tk_cells hblkI
  have HA : Hid (∀ w1, Calls Try.prog 5 #[.agg (rc 2 0 i0 base step lim none 0 0)] w1 fun e w' => ∃ D : De, e = .returned (.tuple #[.pointer (some ⟨D.b, 0, none⟩), .bool true]) ∧ Below w1.heap.size w1 w' ∧ D.Ok w' w1.heap.size 0 ∧ D.n = 2 ∧ D.self = 0 ∧ D.inc = i0 ∧ D.step = step ∧ D.limit = lim ∧ D.left = false ∧ D.tick = 0 ∧ D.pe = fun _ => pe0 base) := fun w1 => began_new 2 0 i0 base step lim none 0 ha
  have HB : Hid (∀ w1, Calls Try.prog 5 #[.agg (rc 2 1 i1 base step lim none 0 0)] w1 fun e w' => ∃ D : De, e = .returned (.tuple #[.pointer (some ⟨D.b, 0, none⟩), .bool true]) ∧ Below w1.heap.size w1 w' ∧ D.Ok w' w1.heap.size 0 ∧ D.n = 2 ∧ D.self = 1 ∧ D.inc = i1 ∧ D.step = step ∧ D.limit = lim ∧ D.left = false ∧ D.tick = 0 ∧ D.pe = fun _ => pe0 base) := fun w1 => began_new 2 1 i1 base step lim none 0 hb
  have Hro : Hid (RdSays w oa on os) := hro
  have HbI : Hid (Below w.heap.size w I) := bstep hbW hbI
  have HkI : Hid (I.heap[W.heap.size]? = some (.cells #[.int .i64 i0, .int .i64 i1] 3 (0, 0))) := hbkI
  have HkT : Hid (I.heap[w.heap.size]? = some (.cells (tk i0 i1 base step lim oa on oc) 24 (0, 0))) := hblkI
  unfold tk at hW ⊢
  unfold rc at HA HB
  clear hbW hblk hro hbI hbkI hblkI ha hb
  go_enter Try.func3, Try.ntmps3
  go_wp2_with (fail)
  refine (HA.out _).mono ?_
  rintro e w1 ⟨D0, rfl, hb1, hD0, n0, s0, t0, q0, r0, lf0, tc0, pp0⟩
  have HD0 : Hid (D0.Ok w1 I.heap.size 0 ∧ D0.n = 2 ∧ D0.self = 0 ∧ D0.inc = i0 ∧ D0.left = false ∧ D0.tick = 0 ∧ D0.pe = fun _ => pe0 base) := ⟨hD0, n0, s0, t0, lf0, tc0, pp0⟩
  obtain ⟨e0, e1, e2, e3, e4, e5⟩ := tk_cells ((hb1.block _ (lt_heap HkT.out)).trans HkT.out)
  have Hb1 : Hid (Below I.heap.size I w1) := hb1
  clear hb1 hD0 n0 s0 t0 q0 r0 lf0 tc0 pp0
  go_wp2_with (fail)
  refine (HB.out _).mono ?_
  rintro e w2 ⟨D1, rfl, hb2, hD1, n1, s1, t1, q1, r1, lf1, tc1, pp1⟩
  have HD1 : Hid (D1.Ok w2 w1.heap.size 0 ∧ D1.n = 2 ∧ D1.self = 1 ∧ D1.inc = i1 ∧ D1.left = false ∧ D1.tick = 0 ∧ D1.pe = fun _ => pe0 base) := ⟨hD1, n1, s1, t1, lf1, tc1, pp1⟩
  have Hb2 : Hid (Below w1.heap.size w1 w2) := hb2
  obtain ⟨Z, hZ⟩ : ∃ Z, w2.alloc (.cells #[.pointer (some ⟨D0.b, 0, none⟩), .pointer (some ⟨D1.b, 0, none⟩)] 26) = Z := ⟨_, rfl⟩
  have hbZ : Below w2.heap.size w2 Z := by rw [← hZ]; exact balloc (Below.refl _ w2)
  have HkZ : Hid (Z.heap[w2.heap.size]? = some (.cells #[.pointer (some ⟨D0.b, 0, none⟩), .pointer (some ⟨D1.b, 0, none⟩)] 26 (0, 0))) := by show _ = _; rw [← hZ]; exact heap_alloc_new w2 _
  have HbZ : Hid (Below I.heap.size I Z) := bstep (bstep Hb1.out hb2) hbZ
  have hszZ : Z.heap.size = w2.heap.size + 1 := by rw [← hZ]; simp
  obtain ⟨f0, f1, f2, f3, f4, f5⟩ := tk_cells ((HbZ.out.block _ (lt_heap HkT.out)).trans HkT.out)
  have H2Z : Hid (Below w2.heap.size w2 Z) := hbZ
  clear hb2 hD1 n1 s1 t1 q1 r1 lf1 tc1 pp1 hbZ e0 e1 e2 e3 e4 e5 d0 d1 d2 d3 d4 d5 c0 c1 c2 c3 c4 c5 HA HB hW hI
  go_upto_if 71 with (first
    | (at_make; refine wpList_make_cap _ rfl _ _ 33 rfl 40 j0 (.slice none 0 0) Try.underlying33 hj hy0 hy1 rfl 24 hy2 .i64 .i64 _ _ 2 2 rfl rfl rfl rfl (Nat.le_refl _) (by omega) (by omega) ?_; intro X HkX hXs hbX)
    | (at_make; refine wpList_make_cap _ rfl _ _ 34 rfl 4 l0 (.bool false) Try.underlying34 hl hx0 hx1 rfl 1 hx2 .i64 .i64 _ _ 2 2 rfl rfl rfl rfl (Nat.le_refl _) (by omega) (by omega) ?_; intro Y HkY hYs hbY; have HbX : Hid (Below Z.heap.size Z X) := hbX; have HbY : Hid (Below X.heap.size X Y) := hbY; obtain ⟨g0, g1, g2, g3, g4, g5⟩ := tk_cells (((bstep HbX.out HbY.out).block _ (Nat.lt_of_lt_of_le (lt_heap HkT.out) HbZ.out.size)).trans ((HbZ.out.block _ (lt_heap HkT.out)).trans HkT.out)); clear hbX hbY f0 f1 f2 f3 f4 f5)
    | fail)
  obtain ⟨n, hn⟩ : ∃ n, n = min on 200 := ⟨_, rfl⟩
  have Hn : Hid (n = min on 200) := hn
  clear hn
  obtain ⟨pd, hpd⟩ : ∃ pd, w2.heap.size = pd := ⟨_, rfl⟩
  have hsX : X.heap.size = pd + 1 + 1 := by rw [hXs, hszZ, hpd]
  have hsY : Y.heap.size = pd + 1 + 1 + 1 := by rw [hYs, hsX]
  have hsZ : Z.heap.size = pd + 1 := by rw [hszZ, hpd]
  obtain ⟨pt, hpt⟩ : ∃ pt, pd + 1 = pt := ⟨_, rfl⟩
  obtain ⟨ps, hps⟩ : ∃ ps, pt + 1 = ps := ⟨_, rfl⟩
  rw [hpt, hps] at hsX hsY
  try rw [hpt, hps] at hsY
  try rw [hps] at hsY
  rw [hpt] at hsZ
  try rw [hpd]
  try rw [hpt]
  try rw [hps]
  have Hpd : Hid (w2.heap.size = pd ∧ pd + 1 = pt ∧ pt + 1 = ps ∧ Z.heap.size = pt ∧ X.heap.size = ps ∧ Y.heap.size = ps + 1) := ⟨hpd, hpt, hps, hsZ, hsX, by omega⟩
  clear hpd hpt hps hsX hsY hsZ hszZ hXs hYs
  go_cut [12] (fun s wx => s = .slice oa n oc ∧ Y = wx)
  case first =>
    by_cases h200 : on ≤ 200
    · have h1 : ¬ (200 : Int) < (on : Int) := by omega
      obtain rfl : n = on := by have := Hn.out; omega
      go_wp2
      go_meet
      exact ⟨rfl, rfl⟩
    · have h1 : (200 : Int) < (on : Int) := by omega
      have h2 : (200 : Int) ≤ (oc : Int) := by omega
      obtain rfl : n = 200 := by have := Hn.out; omega
      go_wp2
      go_meet
      exact ⟨rfl, rfl⟩
  case rest =>
  obtain ⟨rfl, rfl⟩ := hcut
  obtain ⟨E, hE⟩ : ∃ E, Y.alloc (.cells ENDC 36) = E := ⟨_, rfl⟩
  have hbE : Below Y.heap.size Y E := by rw [← hE]; exact balloc (Below.refl _ Y)
  have hkE : E.heap[Y.heap.size]? = some (.cells ENDC 36 (0, 0)) := by rw [← hE]; exact heap_alloc_new Y _
  have hszE : E.heap.size = Y.heap.size + 1 := by rw [← hE]; simp
  obtain ⟨hM0, hP0⟩ := ms_init HD0.out HD1.out Hb1.out Hb2.out H2Z.out HbX.out HbY.out hbE Hpd.out hszE HkX.out HkY.out
  have HM0 : Hid (Ms E E I.heap.size 0 pt ps (fun i => if i = 0 then D0.b else D1.b) (fun i => if i = 0 then D0 else D1) (fun _ => []) (fun _ => false) (fun _ => .slice none 0 0)) := hM0
  have HP0 : Hid (Pu (fun i => if i = 0 then D0 else D1) (fun _ => []) (fun _ => false) false 0 i0 i1) := hP0
  have hIE : Below I.heap.size I E := bstep (bstep (bstep HbZ.out HbX.out) HbY.out) hbE
  have HwE : Hid (Below w.heap.size w E) := bstep HbI.out hIE
  have HeI : Hid (E.heap[W.heap.size]? = some (.cells #[.int .i64 i0, .int .i64 i1] 3 (0, 0)) ∧ W.heap.size < I.heap.size) := ⟨(hIE.block _ (lt_heap HkI.out)).trans HkI.out, lt_heap HkI.out⟩
  have HeT : Hid (E.heap[w.heap.size]? = some (.cells (tk i0 i1 base step lim oa on oc) 24 (0, 0)) ∧ w.heap.size < I.heap.size) := ⟨(hIE.block _ (lt_heap HkT.out)).trans HkT.out, lt_heap HkT.out⟩
  have HeD : Hid (E.heap[pd]? = some (.cells #[.pointer (some ⟨D0.b, 0, none⟩), .pointer (some ⟨D1.b, 0, none⟩)] 26 (0, 0)) ∧ pd + 1 = pt) := ⟨by
    have e1 := HkZ.out
    rw [Hpd.out.1] at e1
    exact ((bstep (bstep HbX.out HbY.out) hbE).block _ (lt_heap e1)).trans e1, Hpd.out.2.1⟩
  have HeE : Hid (E.heap[Y.heap.size]? = some (.cells ENDC 36 (0, 0)) ∧ ps < Y.heap.size) := ⟨hkE, by have := Hpd.out.2.2.2.2.2; omega⟩
  obtain ⟨bI, hbI⟩ : ∃ b, W.heap.size = b := ⟨_, rfl⟩
  obtain ⟨bE, hbE2⟩ : ∃ b, Y.heap.size = b := ⟨_, rfl⟩
  unfold ENDC at hE
  rw [hbI] at HeI
  rw [hbE2] at HeE
  have Hbs : Hid (W.heap.size = bI ∧ Y.heap.size = bE) := ⟨hbI, hbE2⟩
  have hn200 : n ≤ 200 ∧ n ≤ on := by have := Hn.out; omega
  try rw [hbI]
  clear hbE hkE hszE hM0 hP0 hIE g0 g1 g2 g3 g4 g5 HbX HbY HbZ H2Z Hb1 Hb2 HkX HkY HkZ HkI HkT hZ HbI HD0 HD1 hbI
  obtain ⟨b0, hb0⟩ : ∃ b, D0.b = b := ⟨_, rfl⟩
  obtain ⟨b1, hb1⟩ : ∃ b, D1.b = b := ⟨_, rfl⟩
  rw [hb0, hb1] at HM0 HeD
  rw [hb0, hb1]
  go_wp2
  try rw [hbE2]
  obtain ⟨B0, hB0⟩ : ∃ b, I.heap.size = b := ⟨_, rfl⟩
  rw [hB0] at HM0 HeI HeT
  clear hbE2 hE hB0 hb0 hb1 Hbs Hpd
  go_loopw [11, 14] (fun v11 v14 wr => ∃ (k : Nat) (A : Nat → De) (T : Nat → List Bx) (S : Nat → Bool) (v : Nat → Value) (L : Bool), k ≤ n + 8 ∧ v14 = .int .i64 k ∧ v11 = .bool L ∧ Ms E wr B0 k pt ps (fun i => if i = 0 then b0 else b1) A T S v ∧ Pu A T S L k i0 i1 ∧ (n ≤ k → L = false → Ph A T (k - n))) (fun _ v14 _ => n + 9 - (intOf v14).toNat)
  case atStart =>
    refine ⟨0, _, _, _, _, _, Nat.zero_le _, rfl, rfl, HM0.out, HP0.out, fun h _ => ?_⟩
    rw [Nat.zero_sub]
    exact True.intro
  case round =>
    clear HM0 HP0
    obtain ⟨k, A, T, S, v, L, hk, rfl, rfl, hM, hP, hPh⟩ := hrel
    have HM : Hid (Ms E wr B0 k pt ps (fun i => if i = 0 then b0 else b1) A T S v) := hM
    have HP : Hid (Pu A T S L k i0 i1) := hP
    have HPh : Hid (n ≤ k → L = false → Ph A T (k - n)) := hPh
    have Hlw : Hid (Below w.heap.size w wr) := HwE.out.trans (hM.low.mono (by have := HeT.out.2; omega))
    have ht1 : IntKind.i64.wrap ((n : Int) + 8) = (n : Int) + 8 := wrap_id (by omega) (by omega)
    by_cases hlt : k < n + 8
    · have hl1 : (k : Int) < (n : Int) + 8 := by omega
      obtain ⟨x, hx⟩ : ∃ x : Sx, x = if k < n then os k else endS (k - n) := ⟨_, rfl⟩
      have HX : Hid (x = if k < n then os k else endS (k - n)) := hx
      have hkE := blk_cell (hM.at0 HeE.out.1 (.inr (.inr HeE.out.2)))
      have HkE : Hid (∀ i, wr.cell? ⟨bE, i, none⟩ = ENDC[i]?) := hkE
      clear hM hP hPh hx hkE
      obtain ⟨nA, nS0, nS1, nS2, nhA, nf0, nq0, nh0, nf1, nq1, nh1, nf2, nq2, nh2, nHk, nB, nBA⟩ := newsay wr (.int .i64 x.k) (.int .i64 x.s) (.int .i64 x.b)
      go_upto_if 95 with (fail)
      go_cut [15] (fun s wx => s = .pointer (some ⟨wr.heap.size, 0, none⟩) ∧ wx.heap[wr.heap.size]? = some (.cells x.cs 36 (0, 0)) ∧ Below wr.heap.size wr wx)
      case first =>
        by_cases hkn : k < n
        · obtain ⟨sb, so, hsa, x0, x1, x2⟩ := Hro.out.at Hlw.out (show k < on by omega)
          rw [if_pos hkn] at HX
          have hk1 : (k : Int) < (n : Int) := by omega
          have i1 : (0 : Int) ≤ (k : Int) := Int.natCast_nonneg _
          rw [← HX.out] at x0 x1 x2
          replace x0 := below_at nBA.out x0
          replace x1 := below_at nBA.out x1
          replace x2 := below_at nBA.out x2
          have Hsa : Hid (oa = some ⟨sb, so, none⟩) := hsa
          rw [hsa]
          clear hsa
          go_wp2
          rw [← Hsa.out]
          go_meet
          exact ⟨rfl, nHk.out, nB.out⟩
        · have hk1 : ¬ (k : Int) < (n : Int) := by omega
          obtain ⟨y0, y1, y2⟩ := endc_at (j := k - n) (by omega)
          obtain ⟨j, hj⟩ : ∃ j, k - n = j := ⟨_, rfl⟩
          rw [if_neg hkn] at HX
          have hkj : IntKind.i64.wrap ((k : Int) - (n : Int)) = (j : Int) := by rw [wrap_id (by omega) (by omega)]; omega
          rw [hj] at y0 y1 y2 HX
          have x0 := (HkE.out _).trans y0
          have x1 := (HkE.out _).trans y1
          have x2 := (HkE.out _).trans y2
          rw [← HX.out] at x0 x1 x2
          replace x0 := below_at nBA.out x0
          replace x1 := below_at nBA.out x1
          replace x2 := below_at nBA.out x2
          have i1 : (0 : Int) ≤ (j : Int) := Int.natCast_nonneg _
          have i2 : (j : Int) < 8 := by omega
          clear hj y0 y1 y2
          go_wp2
          go_meet
          exact ⟨rfl, nHk.out, nB.out⟩
      case rest =>
      obtain ⟨rfl, hxs, hbx⟩ := hcut
      have HMc : Hid (Ms E wc B0 k pt ps (fun i => if i = 0 then b0 else b1) A T S v) := HM.out.still hbx
      have hand := and1 x.s
      obtain ⟨me, hme⟩ : ∃ me : Nat, bits BinOp.and IntKind.i64 x.s 1 = (me : Int) := ⟨(bits BinOp.and IntKind.i64 x.s 1).toNat, by omega⟩
      have hm2 : me < 2 := by omega
      obtain ⟨you, hyou⟩ : ∃ you : Nat, you = 1 - me := ⟨_, rfl⟩
      have Hyo : Hid (you = 1 - me) := hyou
      have hyo2 : you < 2 := by omega
      have hwy : IntKind.i64.wrap (1 - (me : Int)) = (you : Int) := by rw [wrap_id (by omega) (by omega)]; omega
      have HEn : Hid (n ≤ k → x = endS (k - n) ∧ (endS (k - n)).s = (me : Int)) := fun h1 => by
        have e := HX.out
        rw [if_neg (by omega)] at e
        refine ⟨e, ?_⟩
        have e2 := endS_side (j := k - n) (by omega)
        rw [← hme, e]
        rcases e2 with e2 | e2
        · rw [e2, and1_0]
        · rw [e2, and1_1]
      have HPhN : Hid (∀ {A' : Nat → De} {T' : Nat → List Bx} {L' : Bool}, (n ≤ k → L' = false → Ph A' T' (k + 1 - n)) → (n ≤ k + 1 → L' = false → Ph A' T' (k + 1 - n))) := fun h h1 h2 => by
        by_cases e : n ≤ k
        · exact h e h2
        · rw [show k + 1 - n = 0 by omega]; exact True.intro
      have HMp : Hid (∀ i, i < 2 → Mp (A i) i (1 - i)) := fun i hi => HMc.out.mp HP.out hi
      obtain ⟨bm, hbm⟩ : ∃ bm, bm = if me = 0 then b0 else b1 := ⟨_, rfl⟩
      obtain ⟨bY, hbY⟩ : ∃ bm, bm = if you = 0 then b0 else b1 := ⟨_, rfl⟩
      obtain ⟨im, him⟩ : ∃ im, im = if me = 0 then i0 else i1 := ⟨_, rfl⟩
      obtain ⟨iy, hiy⟩ : ∃ im, im = if you = 0 then i0 else i1 := ⟨_, rfl⟩
      have Hbm : Hid (bm = if me = 0 then b0 else b1) := hbm
      have HbY : Hid (bY = if you = 0 then b0 else b1) := hbY
      have Him : Hid (im = if me = 0 then i0 else i1) := him
      have Hiy : Hid (iy = if you = 0 then i0 else i1) := hiy
      obtain ⟨cD, cI⟩ := bz_of HMc.out HeD.out HeI.out hm2
      obtain ⟨cDy, cIy⟩ := bz_of HMc.out HeD.out HeI.out hyo2
      rw [← hbm] at cD
      rw [← him] at cI
      rw [← hbY] at cDy
      rw [← hiy] at cIy
      obtain ⟨sB, hsB⟩ : ∃ b, wr.heap.size = b := ⟨_, rfl⟩
      rw [hsB] at hxs
      have z0 : wc.cell? ⟨sB, 0, none⟩ = some (.int .i64 x.k) := blk_cell hxs 0
      have z1 : wc.cell? ⟨sB, 1, none⟩ = some (.int .i64 x.s) := blk_cell hxs 1
      have z2 : wc.cell? ⟨sB, 2, none⟩ = some (.int .i64 x.b) := blk_cell hxs 2
      have m1 : (0 : Int) ≤ (me : Int) := Int.natCast_nonneg _
      have m2 : (me : Int) < 2 := by omega
      have y1 : (0 : Int) ≤ (you : Int) := Int.natCast_nonneg _
      have y2 : (you : Int) < 2 := by omega
      rw [hsB]
      clear hxs hbx hand hyou hbm hbY him hiy HM HX HkE nhA nf0 nq0 nh0 nf1 nq1 nh1 nf2 nq2 nh2 nHk nB nBA Hlw
      go_upto_block 2 with (fail)
      clear hsB
      go_cut [11] (fun l wx => ∃ (A' : Nat → De) (T' : Nat → List Bx) (S' : Nat → Bool) (v' : Nat → Value) (L' : Bool), l = .bool L' ∧ Ms E wx B0 (k + 1) pt ps (fun i => if i = 0 then b0 else b1) A' T' S' v' ∧ Pu A' T' S' L' (k + 1) i0 i1 ∧ (n ≤ k → L' = false → Ph A' T' (k + 1 - n)))
      case first =>
        by_cases h1k : x.k = 1
        · as_aux_lemma =>
          have HTk : Hid (Calls Try.prog 6 #[.pointer (some ⟨bm, 0, none⟩)] wc fun e w' => e = .returned (.tuple #[]) ∧ Dtep wc w' (A me) (A me).ticked B0 k) := by
            have := tick_any (HMc.out.ok me hm2)
            rw [HMc.out.bb me hm2, ← Hbm.out] at this
            exact this
          have HPuT : Hid (∀ g, Pu (upd A me (A me).ticked) (upd T me (T me ++ [⟨g, ⟨(A me).ticked.tick, (A me).ticked.hears⟩⟩])) (upd S me (S me || (atI (A me).ticked.hears (you : Int) == (A you).inc))) L (k + 1) i0 i1) := fun g => by
            have := HP.out.tick HMp.out (by omega) hm2 g
            rw [← Hyo.out] at this
            exact this
          have HPhT : Hid (∀ g, n ≤ k → L = false → Ph (upd A me (A me).ticked) (upd T me (T me ++ [⟨g, ⟨(A me).ticked.tick, (A me).ticked.hears⟩⟩])) (k + 1 - n)) := fun g h1 h2 => by
            obtain ⟨e1, e2⟩ := HEn.out h1
            have := (HPh.out h1 h2).tick HP.out HMp.out (by omega) hm2 g (j := k - n) (by omega) (by rw [← e1]; exact h1k) e2
            rw [show k + 1 - n = k - n + 1 by omega]
            exact this
          have HiY : Hid ((A you).inc = iy) := by
            show _ = _
            rw [HP.out.inc' hyo2, Hiy.out]
          have Hnt : Hid ((A me).ticked.n = 2) := (HP.out.nn me hm2).1
          obtain ⟨D', hD'⟩ : ∃ D', (A me).ticked = D' := ⟨_, rfl⟩
          have HbD : Hid (D'.b = bm) := by show D'.b = bm; rw [← hD', Hbm.out]; exact HMc.out.bb me hm2
          have HMq : Hid (Mp D' me (1 - me)) := by show Mp D' me (1 - me); rw [← hD']; exact (HMp.out me hm2).ticked (by have := (HP.out.hf (1 - me) (by omega)).tick; rw [show 1 - (1 - me) = me by omega] at this; omega)
          rw [hD'] at HTk HPuT HPhT Hnt
          rw [HiY.out] at HPuT
          clear hD' HEn
          have t1 : (x.k == 1) = true := by simp [h1k]
          clear h1k
          go_wp2_with (fail)
          refine HTk.out.mono ?_
          rintro e w3 ⟨rfl, T3⟩
          have HM3 : Hid (Ms E w3 B0 k pt ps (fun i => if i = 0 then b0 else b1) (upd A me D') T S v) := HMc.out.dt hm2 T3 (Nat.le_refl _) (by omega) (by rw [HbD.out, Hbm.out]; exact (HMc.out.bb me hm2).symm)
          have cD3 := (bz_of HM3.out HeD.out HeI.out hm2).1
          rw [← Hbm.out] at cD3
          have HBt : Hid (Calls Try.prog 7 #[.pointer (some ⟨bm, 0, none⟩)] w3 fun e w' => ∃ u, e = .returned (.agg #[.int .i64 D'.tick, u]) ∧ IsI w3 w' 2 D'.hears u) := by
            have := beat_any T3.ok
            rw [HbD.out, Hnt.out] at this
            exact this
          have Hw3 : Hid (wc.heap.size ≤ w3.heap.size) := T3.kept.size
          clear T3 HTk z0 z1 z2 cD cDy cI cIy
          go_wp2_with (fail)
          refine HBt.out.mono ?_
          rintro e w4 ⟨uu, rfl, g4, rfl, hg4, hB4, hb4⟩
          obtain ⟨nA, nS0, X5, nhA, nf0, nq0, nh0, nf1, nq1, nh1, nHk, nB⟩ := newbeat w4 (.int .i64 D'.tick) (.slice (some ⟨g4, 0, none⟩) 2 2)
          have Hb35 : Hid (Below w3.heap.size w3 X5) := bstep hb4 nB.out
          have HM5' : Hid (Ms E X5 B0 k pt ps (fun i => if i = 0 then b0 else b1) (upd A me D') T S v) := HM3.out.still Hb35.out
          have HM5 : Hid (Ms E X5 B0 (k + 1) pt ps (fun i => if i = 0 then b0 else b1) (upd A me D') T S v) := HM5'.out.up (by omega)
          have HLn : Hid ((T me).length + 1 ≤ k + 1) := by have := HM5'.out.len me hm2; show (T me).length + 1 ≤ k + 1; omega
          have HB45 : Hid (BlkI X5 g4 D'.hears) := hB4.still nB.out
          have HMr : Hid (Ms E w3 B0 k pt ps (fun i => if i = 0 then b0 else b1) (upd A me D') T S v) := HM3.out
          obtain ⟨bX, hbX⟩ : ∃ b, w4.heap.size = b := ⟨_, rfl⟩
          rw [hbX] at nf0 nq0 nh0 nf1 nq1 nh1 nHk
          have s50 : X5.cell? ⟨bX, 0, none⟩ = some (.int .i64 D'.tick) := blk_cell nHk.out 0
          have s51 : X5.cell? ⟨bX, 1, none⟩ = some (.slice (some ⟨g4, 0, none⟩) 2 2) := blk_cell nHk.out 1
          have HbXs : Hid (w3.heap.size ≤ bX) := by show _ ≤ _; rw [← hbX]; exact hb4.size
          have Hg4s : Hid (w3.heap.size ≤ g4) := hg4
          have HsE : Hid (pt < w3.heap.size ∧ ps < w3.heap.size ∧ E.heap.size ≤ w3.heap.size ∧ bI < pt) := by
            have h1 := HM3.out.hp
            have h2 := HM3.out.kept.size
            have h3 := HeI.out.2
            exact ⟨by omega, by omega, h2, by omega⟩
          have HsE5 : Hid (E.heap.size ≤ X5.drew.heap.size) := by show E.heap.size ≤ X5.heap.size; have := Hb35.out.size; have := HsE.out.2.2.1; omega
          have HbXp : Hid (¬ bX = pt) := fun e => by have h1 := HsE.out.1; have h2 := HbXs.out; omega
          have HbXps : Hid (¬ bX = ps) := fun e => by have h1 := HsE.out.2.1; have h2 := HbXs.out; omega
          have HbIps : Hid (¬ bI = ps) := fun e => by have h1 := HsE.out.2.2.2; have h2 := HM3.out.hp; omega
          have Hg4p : Hid (¬ g4 = pt) := fun e => by have h1 := HsE.out.1; have h2 := Hg4s.out; omega
          have Hlh : Hid (D'.hears.length = 2) := len_hears HMq.out
          have HCp : Hid (∀ w', Below X5.heap.size X5 w' → Calls Try.prog 8 #[.slice (some ⟨g4, 0, none⟩) 2 2] w' fun e w2 => ∃ u, e = .returned u ∧ IsI w' w2 2 D'.hears u) := fun w' hb => copied_any ((HB45.out.still hb).rd Hlh.out) (by omega)
          clear hg4 hB4 hb4 HBt cD3 HM3 HM5'
          go_upto_region 27 with (fail)
          try rw [hbX]
          clear nhA nf0 nq0 nh0 nf1 nq1 nh1 nHk nB hbX
          go_cut [11] (fun l wx => l = .bool L ∧ ∃ g7 v8, Ms E wx B0 (k + 1) pt ps (fun i => if i = 0 then b0 else b1) (upd A me D') (upd T me (T me ++ [⟨g7, ⟨D'.tick, D'.hears⟩⟩])) S (upd v me v8) ∧ wx.cell? ⟨bX, 0, none⟩ = some (.int .i64 D'.tick) ∧ wx.cell? ⟨bX, 1, none⟩ = some (.slice (some ⟨g4, 0, none⟩) 2 2) ∧ BlkI wx g4 D'.hears)
          case first =>
            refine wp_region_held_drew (S := (fun w' => w'.cell? ⟨bX, 0, none⟩ = some (.int .i64 D'.tick) ∧ w'.cell? ⟨bX, 1, none⟩ = some (.slice (some ⟨g4, 0, none⟩) 2 2))) (by kernel_rfl) ⟨cell_drew s50, cell_drew s51⟩ (fun hHeld => ?_)
            simp only [Act.put, List.size_toArray, List.length_cons, List.length_nil, Nat.zero_add]
            refine wpAnyH_take (i := 0) (v := .slice (some ⟨pt, 0, none⟩) 2 2) rfl (by kernel_rfl) (by kernel_rfl) (by kernel_rfl) (fun _ _ _ h => h) (Or.inl ⟨by rfl, fun w' hS => by go_simp⟩) hHeld ?_
            simp only [Act.put, List.getElem_toArray, List.getElem_cons_zero, List.getElem_cons_succ, List.setIfInBounds_toArray, List.set_cons_zero, List.set_cons_succ]
            refine wpAnyH_take (i := 1) (v := .int .i64 (me : Int)) rfl (by kernel_rfl) (by kernel_rfl) (by kernel_rfl) (fun _ _ _ h => h) (Or.inl ⟨by rfl, fun w' hS => by go_simp⟩) hHeld ?_
            simp only [Act.put, List.getElem_toArray, List.getElem_cons_zero, List.getElem_cons_succ, List.setIfInBounds_toArray, List.set_cons_zero, List.set_cons_succ]
            refine wpAnyH_take (i := 2) (v := .slice (some ⟨pt, 0, none⟩) 2 2) rfl (by kernel_rfl) (by kernel_rfl) (by kernel_rfl) (fun _ _ _ h => h) (Or.inl ⟨by rfl, fun w' hS => by go_simp⟩) hHeld ?_
            simp only [Act.put, List.getElem_toArray, List.getElem_cons_zero, List.getElem_cons_succ, List.setIfInBounds_toArray, List.set_cons_zero, List.set_cons_succ]
            refine wpAnyH_take (i := 3) (v := .int .i64 (me : Int)) rfl (by kernel_rfl) (by kernel_rfl) (by kernel_rfl) (fun _ _ _ h => h) (Or.inl ⟨by rfl, fun w' hS => by go_simp⟩) hHeld ?_
            simp only [Act.put, List.getElem_toArray, List.getElem_cons_zero, List.getElem_cons_succ, List.setIfInBounds_toArray, List.set_cons_zero, List.set_cons_succ]
            refine wpAnyH_take (i := 4) (v := .pointer (some ⟨pt, me, none⟩)) rfl (by kernel_rfl) (by kernel_rfl) (by kernel_rfl) (fun _ _ _ h => h) (Or.inl ⟨by rfl, fun w' hS => by go_simp⟩) hHeld ?_
            simp only [Act.put, List.getElem_toArray, List.getElem_cons_zero, List.getElem_cons_succ, List.setIfInBounds_toArray, List.set_cons_zero, List.set_cons_succ]
            refine wpAnyH_take (i := 6) (v := .pointer (some ⟨bX, 0, none⟩)) rfl (by kernel_rfl) (by kernel_rfl) (by kernel_rfl) (fun _ _ _ h => h) (Or.inl ⟨by rfl, fun w' hS => by go_simp⟩) hHeld ?_
            simp only [Act.put, List.getElem_toArray, List.getElem_cons_zero, List.getElem_cons_succ, List.setIfInBounds_toArray, List.set_cons_zero, List.set_cons_succ]
            refine wpAnyH_take (i := 7) (v := .int .i64 D'.tick) rfl (by kernel_rfl) (by kernel_rfl) (by kernel_rfl) (fun _ _ _ h => h) (Or.inl ⟨by rfl, fun w' hS => by (obtain ⟨h0, h1⟩ := hS; go_simp)⟩) hHeld ?_
            simp only [Act.put, List.getElem_toArray, List.getElem_cons_zero, List.getElem_cons_succ, List.setIfInBounds_toArray, List.set_cons_zero, List.set_cons_succ]
            refine wpAnyH_take (i := 8) (v := .pointer (some ⟨bX, 1, none⟩)) rfl (by kernel_rfl) (by kernel_rfl) (by kernel_rfl) (fun _ _ _ h => h) (Or.inl ⟨by rfl, fun w' hS => by go_simp⟩) hHeld ?_
            simp only [Act.put, List.getElem_toArray, List.getElem_cons_zero, List.getElem_cons_succ, List.setIfInBounds_toArray, List.set_cons_zero, List.set_cons_succ]
            refine wpAnyH_take (i := 9) (v := .slice (some ⟨g4, 0, none⟩) 2 2) rfl (by kernel_rfl) (by kernel_rfl) (by kernel_rfl) (fun _ _ _ h => h) (Or.inl ⟨by rfl, fun w' hS => by (obtain ⟨h0, h1⟩ := hS; go_simp)⟩) hHeld ?_
            simp only [Act.put, List.getElem_toArray, List.getElem_cons_zero, List.getElem_cons_succ, List.setIfInBounds_toArray, List.set_cons_zero, List.set_cons_succ]
            have s5t := cell_drew (HM5.out.cellT hm2)
            refine wpAnyH_ready (rs := [5, 10]) (by kernel_rfl) (by simp) ?_
            refine AllReadyH.cons rfl (fun K hK => ?_) (AllReadyH.cons rfl (fun K hK => ?_) AllReadyH.nil)
            · skip
              go_simp
              refine hK.out _ _ ⟨cell_drew s50, cell_drew s51⟩ (fun hHeld => ?_)
              clear hK K
              refine wpAnyH_ready (rs := [10]) (by kernel_rfl) (by simp) ?_
              refine AllReadyH.cons rfl (fun K hK => ?_) AllReadyH.nil
              go_simp
              refine (HCp.out _ (Below.refl _ _).drew).mono ?_
              rintro e w7 ⟨uu, rfl, g7, rfl, hg7, hB7, hb7⟩
              have hb57 : Below X5.heap.size X5 w7 := bstep (Below.refl _ _).drew hb7
              have HM7 : Hid (Ms E w7 B0 (k + 1) pt ps (fun i => if i = 0 then b0 else b1) (upd A me D') T S v) := HM5.out.still hb57
              have s70 := below_at hb57 s50
              have s71 := below_at hb57 s51
              have s72 := HM7.out.cellT hm2
              have Hb7 : Hid (Below X5.heap.size X5 w7) := hb57
              have HB7 : Hid (BlkI w7 g7 D'.hears) := hB7
              have HB47 : Hid (BlkI w7 g4 D'.hears) := HB45.out.still hb57
              have Hg7 : Hid (E.heap.size ≤ g7) := Nat.le_trans HsE5.out hg7
              have HRw : Hid (w7.ownsRow E.heap.size 38 2 (v me) (T me).length (bc (T me))) := HM7.out.row me hm2
              have HEs : Hid (E.heap.size ≤ w7.heap.size) := HM7.out.kept.size
              have Hnv : Hid (¬ some bX = (v me).ownBlock) := fun e => by have := (World.ownsRow.lt (HMr.out.row me hm2) bX e.symm).2; have := HbXs.out; omega
              have Hnp : Hid (¬ some pt = (v me).ownBlock) := fun e => by have := (World.ownsRow.lt (HMr.out.row me hm2) pt e.symm).1; have := HMr.out.hp; omega
              have Hn4 : Hid (¬ some g4 = (v me).ownBlock) := fun e => by have := (World.ownsRow.lt (HMr.out.row me hm2) g4 e.symm).2; have := Hg4s.out; omega
              clear hb7 hb57 hg7 hB7
              refine hK.out _ _ ⟨s70, s71⟩ (fun hHeld => ?_)
              clear hK K
              refine wpAnyH_take (i := 11) (v := .agg #[.int .i64 D'.tick, .slice (some ⟨g7, 0, none⟩) 2 2]) rfl (by kernel_rfl) (by kernel_rfl) (by kernel_rfl) (fun _ _ _ h => h) (Or.inl ⟨by rfl, fun w' hS => by exact run_buildop 38 _ rfl _ (by kernel_rfl)⟩) hHeld ?_
              simp only [Act.put, List.getElem_toArray, List.getElem_cons_zero, List.getElem_cons_succ, List.setIfInBounds_toArray, List.set_cons_zero, List.set_cons_succ]
              refine wpAnyH_ready (rs := [12]) (by kernel_rfl) (by simp) ?_
              refine AllReadyH.cons rfl (fun K hK => ?_) AllReadyH.nil
              go_simp
              refine hK.out _ _ ⟨below_at (balloc (Below.refl _ _)) s70, below_at (balloc (Below.refl _ _)) s71⟩ (fun hHeld => ?_)
              clear hK K
              refine wpAnyH_ready (rs := [13]) (by kernel_rfl) (by simp) ?_
              refine AllReadyH.cons rfl (fun K hK => ?_) AllReadyH.nil
              split
              · refine wp_app_bt (w := w7) (.tmp 131) (.tmp 138) rfl E.heap.size (v me) (T me) rfl HRw.out ⟨g7, ⟨D'.tick, D'.hears⟩⟩ rfl (by have := HLn.out; omega) HEs.out (by rfl) ?_
                intro g8 c8 w8 hrow8 hk8 hv8
                have u8 : w8.cell? ⟨bX, 0, none⟩ = some (.int .i64 D'.tick) := cell_keep' hk8 Hnv.out s70
                have u9 : w8.cell? ⟨bX, 1, none⟩ = some (.slice (some ⟨g4, 0, none⟩) 2 2) := cell_keep' hk8 Hnv.out s71
                have p8 : w8.cell? ⟨pt, me, none⟩ = some (v me) := cell_keep' hk8 Hnp.out s72
                have p9 : w8.frozen? ⟨pt, me, none⟩ = false := frozen_of_row w8 _ me _ _ (hk8.obj (HM7.out.tl) Hnp.out)
                have HMp := HM5.out.push hm2 Hb7.out (x := ⟨g7, ⟨D'.tick, D'.hears⟩⟩) ⟨Hlh.out, HB7.out, Hg7.out⟩ HLn.out hrow8 hk8 hv8
                obtain ⟨nl, hnl⟩ : ∃ nl, (T me).length + 1 = nl := ⟨_, rfl⟩
                rw [hnl] at HMp ⊢
                obtain ⟨w9, hw9⟩ : ∃ w9, w8.setCell ⟨pt, me, none⟩ (.slice (some ⟨g8, 0, none⟩) nl c8) = w9 := ⟨_, rfl⟩
                rw [hw9] at HMp
                have HMp2 : Hid (Ms E w9 B0 (k + 1) pt ps (fun i => if i = 0 then b0 else b1) (upd A me D') (upd T me (T me ++ [⟨g7, ⟨D'.tick, D'.hears⟩⟩])) S (upd v me (.slice (some ⟨g8, 0, none⟩) nl c8))) := HMp
                have q8 : w9.cell? ⟨bX, 0, none⟩ = some (.int .i64 D'.tick) := by rw [← hw9]; exact cell_keep' (kset (P := fun j => j = pt) _ _ _ _ rfl) HbXp.out u8
                have q9 : w9.cell? ⟨bX, 1, none⟩ = some (.slice (some ⟨g4, 0, none⟩) 2 2) := by rw [← hw9]; exact cell_keep' (kset (P := fun j => j = pt) _ _ _ _ rfl) HbXp.out u9
                have HB9 : Hid (BlkI w9 g4 D'.hears) := by
                  show BlkI w9 g4 D'.hears
                  rw [← hw9]
                  exact (kset (P := fun j => j = pt) w8 pt me (.slice (some ⟨g8, 0, none⟩) nl c8) rfl).obj (hk8.obj (HB47.out) Hn4.out) Hg4p.out
                refine hK.out _ _ ⟨u8, u9⟩ (fun hHeld => ?_)
                clear hK K HMp hrow8 hk8 hv8
                refine wpAnyH_take (i := 14) (v := .pointer (some ⟨pt, me, none⟩)) rfl (by kernel_rfl) (by kernel_rfl) (by kernel_rfl) (fun _ _ _ h => h) (Or.inl ⟨by rfl, fun w' hS => by go_simp⟩) hHeld ?_
                simp only [Act.put, List.getElem_toArray, List.getElem_cons_zero, List.getElem_cons_succ, List.setIfInBounds_toArray, List.set_cons_zero, List.set_cons_succ]
                refine wpAnyH_ready (rs := [15]) (by kernel_rfl) (by simp) ?_
                refine AllReadyH.cons rfl (fun K hK => ?_) AllReadyH.nil
                go_simp
                try rw [hw9]
                refine hK.out _ _ ⟨q8, q9⟩ (fun hHeld => ?_)
                clear hK K
                refine wpAnyH_done (by kernel_rfl) ?_ _
                clear hHeld u8 u9 p8 p9 hw9 hnl
                go_wp2_with (fail)
                go_meet
                exact ⟨rfl, g7, _, HMp2.out, q8, q9, HB9.out⟩
              · rename_i hne2
                exact absurd rfl hne2
            · skip
              go_simp
              refine (HCp.out _ (Below.refl _ _).drew).mono ?_
              rintro e w7 ⟨uu, rfl, g7, rfl, hg7, hB7, hb7⟩
              have hb57 : Below X5.heap.size X5 w7 := bstep (Below.refl _ _).drew hb7
              have HM7 : Hid (Ms E w7 B0 (k + 1) pt ps (fun i => if i = 0 then b0 else b1) (upd A me D') T S v) := HM5.out.still hb57
              have s70 := below_at hb57 s50
              have s71 := below_at hb57 s51
              have s72 := HM7.out.cellT hm2
              have Hb7 : Hid (Below X5.heap.size X5 w7) := hb57
              have HB7 : Hid (BlkI w7 g7 D'.hears) := hB7
              have HB47 : Hid (BlkI w7 g4 D'.hears) := HB45.out.still hb57
              have Hg7 : Hid (E.heap.size ≤ g7) := Nat.le_trans HsE5.out hg7
              have HRw : Hid (w7.ownsRow E.heap.size 38 2 (v me) (T me).length (bc (T me))) := HM7.out.row me hm2
              have HEs : Hid (E.heap.size ≤ w7.heap.size) := HM7.out.kept.size
              have Hnv : Hid (¬ some bX = (v me).ownBlock) := fun e => by have := (World.ownsRow.lt (HMr.out.row me hm2) bX e.symm).2; have := HbXs.out; omega
              have Hnp : Hid (¬ some pt = (v me).ownBlock) := fun e => by have := (World.ownsRow.lt (HMr.out.row me hm2) pt e.symm).1; have := HMr.out.hp; omega
              have Hn4 : Hid (¬ some g4 = (v me).ownBlock) := fun e => by have := (World.ownsRow.lt (HMr.out.row me hm2) g4 e.symm).2; have := Hg4s.out; omega
              clear hb7 hb57 hg7 hB7
              refine hK.out _ _ ⟨s70, s71⟩ (fun hHeld => ?_)
              clear hK K
              refine wpAnyH_take (i := 11) (v := .agg #[.int .i64 D'.tick, .slice (some ⟨g7, 0, none⟩) 2 2]) rfl (by kernel_rfl) (by kernel_rfl) (by kernel_rfl) (fun _ _ _ h => h) (Or.inl ⟨by rfl, fun w' hS => by exact run_buildop 38 _ rfl _ (by kernel_rfl)⟩) hHeld ?_
              simp only [Act.put, List.getElem_toArray, List.getElem_cons_zero, List.getElem_cons_succ, List.setIfInBounds_toArray, List.set_cons_zero, List.set_cons_succ]
              refine wpAnyH_ready (rs := [5, 12]) (by kernel_rfl) (by simp) ?_
              refine AllReadyH.cons rfl (fun K hK => ?_) (AllReadyH.cons rfl (fun K hK => ?_) AllReadyH.nil)
              · skip
                go_simp
                refine hK.out _ _ ⟨s70, s71⟩ (fun hHeld => ?_)
                clear hK K
                refine wpAnyH_ready (rs := [12]) (by kernel_rfl) (by simp) ?_
                refine AllReadyH.cons rfl (fun K hK => ?_) AllReadyH.nil
                go_simp
                refine hK.out _ _ ⟨below_at (balloc (Below.refl _ _)) s70, below_at (balloc (Below.refl _ _)) s71⟩ (fun hHeld => ?_)
                clear hK K
                refine wpAnyH_ready (rs := [13]) (by kernel_rfl) (by simp) ?_
                refine AllReadyH.cons rfl (fun K hK => ?_) AllReadyH.nil
                split
                · refine wp_app_bt (w := w7) (.tmp 131) (.tmp 138) rfl E.heap.size (v me) (T me) rfl HRw.out ⟨g7, ⟨D'.tick, D'.hears⟩⟩ rfl (by have := HLn.out; omega) HEs.out (by rfl) ?_
                  intro g8 c8 w8 hrow8 hk8 hv8
                  have u8 : w8.cell? ⟨bX, 0, none⟩ = some (.int .i64 D'.tick) := cell_keep' hk8 Hnv.out s70
                  have u9 : w8.cell? ⟨bX, 1, none⟩ = some (.slice (some ⟨g4, 0, none⟩) 2 2) := cell_keep' hk8 Hnv.out s71
                  have p8 : w8.cell? ⟨pt, me, none⟩ = some (v me) := cell_keep' hk8 Hnp.out s72
                  have p9 : w8.frozen? ⟨pt, me, none⟩ = false := frozen_of_row w8 _ me _ _ (hk8.obj (HM7.out.tl) Hnp.out)
                  have HMp := HM5.out.push hm2 Hb7.out (x := ⟨g7, ⟨D'.tick, D'.hears⟩⟩) ⟨Hlh.out, HB7.out, Hg7.out⟩ HLn.out hrow8 hk8 hv8
                  obtain ⟨nl, hnl⟩ : ∃ nl, (T me).length + 1 = nl := ⟨_, rfl⟩
                  rw [hnl] at HMp ⊢
                  obtain ⟨w9, hw9⟩ : ∃ w9, w8.setCell ⟨pt, me, none⟩ (.slice (some ⟨g8, 0, none⟩) nl c8) = w9 := ⟨_, rfl⟩
                  rw [hw9] at HMp
                  have HMp2 : Hid (Ms E w9 B0 (k + 1) pt ps (fun i => if i = 0 then b0 else b1) (upd A me D') (upd T me (T me ++ [⟨g7, ⟨D'.tick, D'.hears⟩⟩])) S (upd v me (.slice (some ⟨g8, 0, none⟩) nl c8))) := HMp
                  have q8 : w9.cell? ⟨bX, 0, none⟩ = some (.int .i64 D'.tick) := by rw [← hw9]; exact cell_keep' (kset (P := fun j => j = pt) _ _ _ _ rfl) HbXp.out u8
                  have q9 : w9.cell? ⟨bX, 1, none⟩ = some (.slice (some ⟨g4, 0, none⟩) 2 2) := by rw [← hw9]; exact cell_keep' (kset (P := fun j => j = pt) _ _ _ _ rfl) HbXp.out u9
                  have HB9 : Hid (BlkI w9 g4 D'.hears) := by
                    show BlkI w9 g4 D'.hears
                    rw [← hw9]
                    exact (kset (P := fun j => j = pt) w8 pt me (.slice (some ⟨g8, 0, none⟩) nl c8) rfl).obj (hk8.obj (HB47.out) Hn4.out) Hg4p.out
                  refine hK.out _ _ ⟨u8, u9⟩ (fun hHeld => ?_)
                  clear hK K HMp hrow8 hk8 hv8
                  refine wpAnyH_take (i := 14) (v := .pointer (some ⟨pt, me, none⟩)) rfl (by kernel_rfl) (by kernel_rfl) (by kernel_rfl) (fun _ _ _ h => h) (Or.inl ⟨by rfl, fun w' hS => by go_simp⟩) hHeld ?_
                  simp only [Act.put, List.getElem_toArray, List.getElem_cons_zero, List.getElem_cons_succ, List.setIfInBounds_toArray, List.set_cons_zero, List.set_cons_succ]
                  refine wpAnyH_ready (rs := [15]) (by kernel_rfl) (by simp) ?_
                  refine AllReadyH.cons rfl (fun K hK => ?_) AllReadyH.nil
                  go_simp
                  try rw [hw9]
                  refine hK.out _ _ ⟨q8, q9⟩ (fun hHeld => ?_)
                  clear hK K
                  refine wpAnyH_done (by kernel_rfl) ?_ _
                  clear hHeld u8 u9 p8 p9 hw9 hnl
                  go_wp2_with (fail)
                  go_meet
                  exact ⟨rfl, g7, _, HMp2.out, q8, q9, HB9.out⟩
                · rename_i hne2
                  exact absurd rfl hne2
              · skip
                go_simp
                refine hK.out _ _ ⟨below_at (balloc (Below.refl _ _)) s70, below_at (balloc (Below.refl _ _)) s71⟩ (fun hHeld => ?_)
                clear hK K
                have s7t := below_at (balloc (o := .cells #[.int .i64 D'.tick, .slice (some ⟨g7, 0, none⟩) 2 2] 38) (Below.refl _ _)) s72
                refine wpAnyH_ready (rs := [5]) (by kernel_rfl) (by simp) ?_
                refine AllReadyH.cons rfl (fun K hK => ?_) AllReadyH.nil
                go_simp
                refine hK.out _ _ ⟨below_at (balloc (Below.refl _ _)) s70, below_at (balloc (Below.refl _ _)) s71⟩ (fun hHeld => ?_)
                clear hK K
                refine wpAnyH_ready (rs := [13]) (by kernel_rfl) (by simp) ?_
                refine AllReadyH.cons rfl (fun K hK => ?_) AllReadyH.nil
                split
                · refine wp_app_bt (w := w7) (.tmp 131) (.tmp 138) rfl E.heap.size (v me) (T me) rfl HRw.out ⟨g7, ⟨D'.tick, D'.hears⟩⟩ rfl (by have := HLn.out; omega) HEs.out (by rfl) ?_
                  intro g8 c8 w8 hrow8 hk8 hv8
                  have u8 : w8.cell? ⟨bX, 0, none⟩ = some (.int .i64 D'.tick) := cell_keep' hk8 Hnv.out s70
                  have u9 : w8.cell? ⟨bX, 1, none⟩ = some (.slice (some ⟨g4, 0, none⟩) 2 2) := cell_keep' hk8 Hnv.out s71
                  have p8 : w8.cell? ⟨pt, me, none⟩ = some (v me) := cell_keep' hk8 Hnp.out s72
                  have p9 : w8.frozen? ⟨pt, me, none⟩ = false := frozen_of_row w8 _ me _ _ (hk8.obj (HM7.out.tl) Hnp.out)
                  have HMp := HM5.out.push hm2 Hb7.out (x := ⟨g7, ⟨D'.tick, D'.hears⟩⟩) ⟨Hlh.out, HB7.out, Hg7.out⟩ HLn.out hrow8 hk8 hv8
                  obtain ⟨nl, hnl⟩ : ∃ nl, (T me).length + 1 = nl := ⟨_, rfl⟩
                  rw [hnl] at HMp ⊢
                  obtain ⟨w9, hw9⟩ : ∃ w9, w8.setCell ⟨pt, me, none⟩ (.slice (some ⟨g8, 0, none⟩) nl c8) = w9 := ⟨_, rfl⟩
                  rw [hw9] at HMp
                  have HMp2 : Hid (Ms E w9 B0 (k + 1) pt ps (fun i => if i = 0 then b0 else b1) (upd A me D') (upd T me (T me ++ [⟨g7, ⟨D'.tick, D'.hears⟩⟩])) S (upd v me (.slice (some ⟨g8, 0, none⟩) nl c8))) := HMp
                  have q8 : w9.cell? ⟨bX, 0, none⟩ = some (.int .i64 D'.tick) := by rw [← hw9]; exact cell_keep' (kset (P := fun j => j = pt) _ _ _ _ rfl) HbXp.out u8
                  have q9 : w9.cell? ⟨bX, 1, none⟩ = some (.slice (some ⟨g4, 0, none⟩) 2 2) := by rw [← hw9]; exact cell_keep' (kset (P := fun j => j = pt) _ _ _ _ rfl) HbXp.out u9
                  have HB9 : Hid (BlkI w9 g4 D'.hears) := by
                    show BlkI w9 g4 D'.hears
                    rw [← hw9]
                    exact (kset (P := fun j => j = pt) w8 pt me (.slice (some ⟨g8, 0, none⟩) nl c8) rfl).obj (hk8.obj (HB47.out) Hn4.out) Hg4p.out
                  refine hK.out _ _ ⟨u8, u9⟩ (fun hHeld => ?_)
                  clear hK K HMp hrow8 hk8 hv8
                  refine wpAnyH_take (i := 14) (v := .pointer (some ⟨pt, me, none⟩)) rfl (by kernel_rfl) (by kernel_rfl) (by kernel_rfl) (fun _ _ _ h => h) (Or.inl ⟨by rfl, fun w' hS => by go_simp⟩) hHeld ?_
                  simp only [Act.put, List.getElem_toArray, List.getElem_cons_zero, List.getElem_cons_succ, List.setIfInBounds_toArray, List.set_cons_zero, List.set_cons_succ]
                  refine wpAnyH_ready (rs := [15]) (by kernel_rfl) (by simp) ?_
                  refine AllReadyH.cons rfl (fun K hK => ?_) AllReadyH.nil
                  go_simp
                  try rw [hw9]
                  refine hK.out _ _ ⟨q8, q9⟩ (fun hHeld => ?_)
                  clear hK K
                  refine wpAnyH_done (by kernel_rfl) ?_ _
                  clear hHeld u8 u9 p8 p9 hw9 hnl
                  go_wp2_with (fail)
                  go_meet
                  exact ⟨rfl, g7, _, HMp2.out, q8, q9, HB9.out⟩
                · rename_i hne2
                  exact absurd rfl hne2
          case rest =>
          obtain ⟨rfl, g7, v8, hM9, q8, q9, hB9⟩ := hcut
          have HM9 : Hid (Ms E wc B0 (k + 1) pt ps (fun i => if i = 0 then b0 else b1) (upd A me D') (upd T me (T me ++ [⟨g7, ⟨D'.tick, D'.hears⟩⟩])) S (upd v me v8)) := hM9
          have qi := (bz_of hM9 HeD.out HeI.out hyo2).2
          rw [← Hiy.out] at qi
          have HAt : Hid (∀ w', Below wc.heap.size wc w' → Calls Try.prog 9 #[.slice (some ⟨g4, 0, none⟩) 2 2, .int .i64 (you : Int)] w' fun e w2 => e = .returned (.int .i64 (atI D'.hears (you : Int))) ∧ w' = w2) := fun w' hb => at_any ((BlkI.still (w := wc) hB9 hb).rd Hlh.out) _
          generalize hah : atI D'.hears (you : Int) = ah at HAt HPuT
          clear hM9 q8 hB9 hah
          go_upto_region 28 with (fail)
          cases hSm : S me
          · have c5 : wc.drew.cell? ⟨ps, me, none⟩ = some (.bool false) := cell_drew (by have := HM9.out.cellS hm2; rw [hSm] at this; exact this)
            have z9 : wc.drew.frozen? ⟨ps, me, none⟩ = false := frozen_of_row _ _ me _ _ ((HM9.out.still (Below.refl _ _).drew).sd)
            refine wp_region_held_drew (S := (fun w' => w'.cell? ⟨bX, 1, none⟩ = some (.slice (some ⟨g4, 0, none⟩) 2 2) ∧ w'.cell? ⟨bI, you, none⟩ = some (.int .i64 iy))) (by kernel_rfl) ⟨cell_drew q9, cell_drew qi⟩ (fun hHeld => ?_)
            simp only [Act.put, List.size_toArray, List.length_cons, List.length_nil, Nat.zero_add]
            refine wpAnyH_take (i := 0) (v := .slice (some ⟨ps, 0, none⟩) 2 2) rfl (by kernel_rfl) (by kernel_rfl) (by kernel_rfl) (fun _ _ _ h => h) (Or.inl ⟨by rfl, fun w' hS => by go_simp⟩) hHeld ?_
            simp only [Act.put, List.getElem_toArray, List.getElem_cons_zero, List.getElem_cons_succ, List.setIfInBounds_toArray, List.set_cons_zero, List.set_cons_succ]
            refine wpAnyH_take (i := 1) (v := .int .i64 (me : Int)) rfl (by kernel_rfl) (by kernel_rfl) (by kernel_rfl) (fun _ _ _ h => h) (Or.inl ⟨by rfl, fun w' hS => by go_simp⟩) hHeld ?_
            simp only [Act.put, List.getElem_toArray, List.getElem_cons_zero, List.getElem_cons_succ, List.setIfInBounds_toArray, List.set_cons_zero, List.set_cons_succ]
            refine wpAnyH_take (i := 2) (v := .slice (some ⟨ps, 0, none⟩) 2 2) rfl (by kernel_rfl) (by kernel_rfl) (by kernel_rfl) (fun _ _ _ h => h) (Or.inl ⟨by rfl, fun w' hS => by go_simp⟩) hHeld ?_
            simp only [Act.put, List.getElem_toArray, List.getElem_cons_zero, List.getElem_cons_succ, List.setIfInBounds_toArray, List.set_cons_zero, List.set_cons_succ]
            refine wpAnyH_take (i := 3) (v := .int .i64 (me : Int)) rfl (by kernel_rfl) (by kernel_rfl) (by kernel_rfl) (fun _ _ _ h => h) (Or.inl ⟨by rfl, fun w' hS => by go_simp⟩) hHeld ?_
            simp only [Act.put, List.getElem_toArray, List.getElem_cons_zero, List.getElem_cons_succ, List.setIfInBounds_toArray, List.set_cons_zero, List.set_cons_succ]
            refine wpAnyH_take (i := 4) (v := .pointer (some ⟨ps, me, none⟩)) rfl (by kernel_rfl) (by kernel_rfl) (by kernel_rfl) (fun _ _ _ h => h) (Or.inl ⟨by rfl, fun w' hS => by go_simp⟩) hHeld ?_
            simp only [Act.put, List.getElem_toArray, List.getElem_cons_zero, List.getElem_cons_succ, List.setIfInBounds_toArray, List.set_cons_zero, List.set_cons_succ]
            refine wpAnyH_ready (rs := [5]) (by kernel_rfl) (by simp) ?_
            refine AllReadyH.cons rfl (fun K hK => ?_) AllReadyH.nil
            go_simp
            refine hK.out _ _ ⟨cell_drew q9, cell_drew qi⟩ (fun hHeld => ?_)
            clear hK K
            refine wpAnyH_take (i := 6) (v := .bool false) rfl (by kernel_rfl) (by kernel_rfl) (by kernel_rfl) (fun _ _ _ h => h) (Or.inl ⟨by rfl, fun w' hS => by go_simp⟩) hHeld ?_
            simp only [Act.put, List.getElem_toArray, List.getElem_cons_zero, List.getElem_cons_succ, List.setIfInBounds_toArray, List.set_cons_zero, List.set_cons_succ]
            refine wpAnyH_take (i := 7) (v := .pointer (some ⟨bX, 1, none⟩)) rfl (by kernel_rfl) (by kernel_rfl) (by kernel_rfl) (fun _ _ _ h => h) (Or.inl ⟨by rfl, fun w' hS => by go_simp⟩) hHeld ?_
            simp only [Act.put, List.getElem_toArray, List.getElem_cons_zero, List.getElem_cons_succ, List.setIfInBounds_toArray, List.set_cons_zero, List.set_cons_succ]
            refine wpAnyH_take (i := 8) (v := .slice (some ⟨g4, 0, none⟩) 2 2) rfl (by kernel_rfl) (by kernel_rfl) (by kernel_rfl) (fun _ _ _ h => h) (Or.inl ⟨by rfl, fun w' hS => by (obtain ⟨h0, h1⟩ := hS; go_simp)⟩) hHeld ?_
            simp only [Act.put, List.getElem_toArray, List.getElem_cons_zero, List.getElem_cons_succ, List.setIfInBounds_toArray, List.set_cons_zero, List.set_cons_succ]
            refine wpAnyH_take (i := 9) (v := .int .i64 (you : Int)) rfl (by kernel_rfl) (by kernel_rfl) (by kernel_rfl) (fun _ _ _ h => h) (Or.inl ⟨by rfl, fun w' hS => by go_simp⟩) hHeld ?_
            simp only [Act.put, List.getElem_toArray, List.getElem_cons_zero, List.getElem_cons_succ, List.setIfInBounds_toArray, List.set_cons_zero, List.set_cons_succ]
            refine wpAnyH_take (i := 11) (v := .slice (some ⟨bI, 0, none⟩) 2 2) rfl (by kernel_rfl) (by kernel_rfl) (by kernel_rfl) (fun _ _ _ h => h) (Or.inl ⟨by rfl, fun w' hS => by go_simp⟩) hHeld ?_
            simp only [Act.put, List.getElem_toArray, List.getElem_cons_zero, List.getElem_cons_succ, List.setIfInBounds_toArray, List.set_cons_zero, List.set_cons_succ]
            refine wpAnyH_take (i := 12) (v := .int .i64 (you : Int)) rfl (by kernel_rfl) (by kernel_rfl) (by kernel_rfl) (fun _ _ _ h => h) (Or.inl ⟨by rfl, fun w' hS => by go_simp⟩) hHeld ?_
            simp only [Act.put, List.getElem_toArray, List.getElem_cons_zero, List.getElem_cons_succ, List.setIfInBounds_toArray, List.set_cons_zero, List.set_cons_succ]
            refine wpAnyH_take (i := 13) (v := .pointer (some ⟨bI, you, none⟩)) rfl (by kernel_rfl) (by kernel_rfl) (by kernel_rfl) (fun _ _ _ h => h) (Or.inl ⟨by rfl, fun w' hS => by go_simp⟩) hHeld ?_
            simp only [Act.put, List.getElem_toArray, List.getElem_cons_zero, List.getElem_cons_succ, List.setIfInBounds_toArray, List.set_cons_zero, List.set_cons_succ]
            refine wpAnyH_take (i := 14) (v := .int .i64 iy) rfl (by kernel_rfl) (by kernel_rfl) (by kernel_rfl) (fun _ _ _ h => h) (Or.inl ⟨by rfl, fun w' hS => by (obtain ⟨h0, h1⟩ := hS; go_simp)⟩) hHeld ?_
            simp only [Act.put, List.getElem_toArray, List.getElem_cons_zero, List.getElem_cons_succ, List.setIfInBounds_toArray, List.set_cons_zero, List.set_cons_succ]
            refine wpAnyH_ready (rs := [10]) (by kernel_rfl) (by simp) ?_
            refine AllReadyH.cons rfl (fun K hK => ?_) AllReadyH.nil
            go_simp
            refine (HAt.out _ (Below.refl _ _).drew).mono ?_
            rintro e wq ⟨rfl, rfl⟩
            refine hK.out _ _ ⟨cell_drew q9, cell_drew qi⟩ (fun hHeld => ?_)
            clear hK K
            refine wpAnyH_take (i := 15) (v := .bool (ah == iy)) rfl (by kernel_rfl) (by kernel_rfl) (by kernel_rfl) (fun _ _ _ h => h) (Or.inl ⟨by rfl, fun w' hS => by go_simp⟩) hHeld ?_
            simp only [Act.put, List.getElem_toArray, List.getElem_cons_zero, List.getElem_cons_succ, List.setIfInBounds_toArray, List.set_cons_zero, List.set_cons_succ]
            refine wpAnyH_take (i := 16) (v := .bool (ah == iy)) rfl (by kernel_rfl) (by kernel_rfl) (by kernel_rfl) (fun _ _ _ h => h) (Or.inl ⟨by rfl, fun w' hS => by go_simp⟩) hHeld ?_
            simp only [Act.put, List.getElem_toArray, List.getElem_cons_zero, List.getElem_cons_succ, List.setIfInBounds_toArray, List.set_cons_zero, List.set_cons_succ]
            refine wpAnyH_take (i := 17) (v := .pointer (some ⟨ps, me, none⟩)) rfl (by kernel_rfl) (by kernel_rfl) (by kernel_rfl) (fun _ _ _ h => h) (Or.inl ⟨by rfl, fun w' hS => by go_simp⟩) hHeld ?_
            simp only [Act.put, List.getElem_toArray, List.getElem_cons_zero, List.getElem_cons_succ, List.setIfInBounds_toArray, List.set_cons_zero, List.set_cons_succ]
            obtain ⟨wz, hwz⟩ : ∃ wz, wc.drew.setCell ⟨ps, me, none⟩ (.bool (ah == iy)) = wz := ⟨_, rfl⟩
            have HMz : Hid (Ms E wz B0 (k + 1) pt ps (fun i => if i = 0 then b0 else b1) (upd A me D') (upd T me (T me ++ [⟨g7, ⟨D'.tick, D'.hears⟩⟩])) (upd S me (ah == iy)) (upd v me v8)) := by
              show Ms _ _ _ _ _ _ _ _ _ _ _
              rw [← hwz]
              exact (HM9.out.still (Below.refl _ _).drew).say hm2 (ah == iy)
            refine wpAnyH_ready (rs := [18]) (by kernel_rfl) (by simp) ?_
            refine AllReadyH.cons rfl (fun K hK => ?_) AllReadyH.nil
            go_simp
            try rw [hwz]
            refine hK.out _ _ ⟨by rw [← hwz]; exact cell_keep' (kset (P := fun j => j = ps) _ _ _ _ rfl) HbXps.out (cell_drew q9), by rw [← hwz]; exact cell_keep' (kset (P := fun j => j = ps) _ _ _ _ rfl) HbIps.out (cell_drew qi)⟩ (fun hHeld => ?_)
            clear hK K
            refine wpAnyH_done (by kernel_rfl) ?_ _
            clear hHeld
            clear c5 z9 hwz
            go_wp2_with (fail)
            go_meet
            refine ⟨_, _, _, _, L, rfl, HMz.out, ?_, HPhT.out g7⟩
            have := HPuT.out g7
            rw [hSm] at this
            exact this
          · have c5 : wc.drew.cell? ⟨ps, me, none⟩ = some (.bool true) := cell_drew (by have := HM9.out.cellS hm2; rw [hSm] at this; exact this)
            have z9 : wc.drew.frozen? ⟨ps, me, none⟩ = false := frozen_of_row _ _ me _ _ ((HM9.out.still (Below.refl _ _).drew).sd)
            refine wp_region_held_drew (S := (fun w' => w'.cell? ⟨bX, 1, none⟩ = some (.slice (some ⟨g4, 0, none⟩) 2 2) ∧ w'.cell? ⟨bI, you, none⟩ = some (.int .i64 iy))) (by kernel_rfl) ⟨cell_drew q9, cell_drew qi⟩ (fun hHeld => ?_)
            simp only [Act.put, List.size_toArray, List.length_cons, List.length_nil, Nat.zero_add]
            refine wpAnyH_take (i := 0) (v := .slice (some ⟨ps, 0, none⟩) 2 2) rfl (by kernel_rfl) (by kernel_rfl) (by kernel_rfl) (fun _ _ _ h => h) (Or.inl ⟨by rfl, fun w' hS => by go_simp⟩) hHeld ?_
            simp only [Act.put, List.getElem_toArray, List.getElem_cons_zero, List.getElem_cons_succ, List.setIfInBounds_toArray, List.set_cons_zero, List.set_cons_succ]
            refine wpAnyH_take (i := 1) (v := .int .i64 (me : Int)) rfl (by kernel_rfl) (by kernel_rfl) (by kernel_rfl) (fun _ _ _ h => h) (Or.inl ⟨by rfl, fun w' hS => by go_simp⟩) hHeld ?_
            simp only [Act.put, List.getElem_toArray, List.getElem_cons_zero, List.getElem_cons_succ, List.setIfInBounds_toArray, List.set_cons_zero, List.set_cons_succ]
            refine wpAnyH_take (i := 2) (v := .slice (some ⟨ps, 0, none⟩) 2 2) rfl (by kernel_rfl) (by kernel_rfl) (by kernel_rfl) (fun _ _ _ h => h) (Or.inl ⟨by rfl, fun w' hS => by go_simp⟩) hHeld ?_
            simp only [Act.put, List.getElem_toArray, List.getElem_cons_zero, List.getElem_cons_succ, List.setIfInBounds_toArray, List.set_cons_zero, List.set_cons_succ]
            refine wpAnyH_take (i := 3) (v := .int .i64 (me : Int)) rfl (by kernel_rfl) (by kernel_rfl) (by kernel_rfl) (fun _ _ _ h => h) (Or.inl ⟨by rfl, fun w' hS => by go_simp⟩) hHeld ?_
            simp only [Act.put, List.getElem_toArray, List.getElem_cons_zero, List.getElem_cons_succ, List.setIfInBounds_toArray, List.set_cons_zero, List.set_cons_succ]
            refine wpAnyH_take (i := 4) (v := .pointer (some ⟨ps, me, none⟩)) rfl (by kernel_rfl) (by kernel_rfl) (by kernel_rfl) (fun _ _ _ h => h) (Or.inl ⟨by rfl, fun w' hS => by go_simp⟩) hHeld ?_
            simp only [Act.put, List.getElem_toArray, List.getElem_cons_zero, List.getElem_cons_succ, List.setIfInBounds_toArray, List.set_cons_zero, List.set_cons_succ]
            refine wpAnyH_ready (rs := [5]) (by kernel_rfl) (by simp) ?_
            refine AllReadyH.cons rfl (fun K hK => ?_) AllReadyH.nil
            go_simp
            refine hK.out _ _ ⟨cell_drew q9, cell_drew qi⟩ (fun hHeld => ?_)
            clear hK K
            refine wpAnyH_take (i := 6) (v := .bool true) rfl (by kernel_rfl) (by kernel_rfl) (by kernel_rfl) (fun _ _ _ h => h) (Or.inl ⟨by rfl, fun w' hS => by go_simp⟩) hHeld ?_
            simp only [Act.put, List.getElem_toArray, List.getElem_cons_zero, List.getElem_cons_succ, List.setIfInBounds_toArray, List.set_cons_zero, List.set_cons_succ]
            refine wpAnyH_take (i := 7) (v := undef) rfl (by kernel_rfl) (by kernel_rfl) (by kernel_rfl) (fun _ _ _ h => h) (Or.inr ⟨by rfl, rfl⟩) hHeld ?_
            simp only [Act.put, List.getElem_toArray, List.getElem_cons_zero, List.getElem_cons_succ, List.setIfInBounds_toArray, List.set_cons_zero, List.set_cons_succ]
            refine wpAnyH_take (i := 8) (v := undef) rfl (by kernel_rfl) (by kernel_rfl) (by kernel_rfl) (fun _ _ _ h => h) (Or.inr ⟨by rfl, rfl⟩) hHeld ?_
            simp only [Act.put, List.getElem_toArray, List.getElem_cons_zero, List.getElem_cons_succ, List.setIfInBounds_toArray, List.set_cons_zero, List.set_cons_succ]
            refine wpAnyH_take (i := 9) (v := undef) rfl (by kernel_rfl) (by kernel_rfl) (by kernel_rfl) (fun _ _ _ h => h) (Or.inr ⟨by rfl, rfl⟩) hHeld ?_
            simp only [Act.put, List.getElem_toArray, List.getElem_cons_zero, List.getElem_cons_succ, List.setIfInBounds_toArray, List.set_cons_zero, List.set_cons_succ]
            refine wpAnyH_take (i := 10) (v := undef) rfl (by kernel_rfl) (by kernel_rfl) (by kernel_rfl) (fun _ _ _ h => h) (Or.inr ⟨by rfl, rfl⟩) hHeld ?_
            simp only [Act.put, List.getElem_toArray, List.getElem_cons_zero, List.getElem_cons_succ, List.setIfInBounds_toArray, List.set_cons_zero, List.set_cons_succ]
            refine wpAnyH_take (i := 11) (v := undef) rfl (by kernel_rfl) (by kernel_rfl) (by kernel_rfl) (fun _ _ _ h => h) (Or.inr ⟨by rfl, rfl⟩) hHeld ?_
            simp only [Act.put, List.getElem_toArray, List.getElem_cons_zero, List.getElem_cons_succ, List.setIfInBounds_toArray, List.set_cons_zero, List.set_cons_succ]
            refine wpAnyH_take (i := 12) (v := undef) rfl (by kernel_rfl) (by kernel_rfl) (by kernel_rfl) (fun _ _ _ h => h) (Or.inr ⟨by rfl, rfl⟩) hHeld ?_
            simp only [Act.put, List.getElem_toArray, List.getElem_cons_zero, List.getElem_cons_succ, List.setIfInBounds_toArray, List.set_cons_zero, List.set_cons_succ]
            refine wpAnyH_take (i := 13) (v := undef) rfl (by kernel_rfl) (by kernel_rfl) (by kernel_rfl) (fun _ _ _ h => h) (Or.inr ⟨by rfl, rfl⟩) hHeld ?_
            simp only [Act.put, List.getElem_toArray, List.getElem_cons_zero, List.getElem_cons_succ, List.setIfInBounds_toArray, List.set_cons_zero, List.set_cons_succ]
            refine wpAnyH_take (i := 14) (v := undef) rfl (by kernel_rfl) (by kernel_rfl) (by kernel_rfl) (fun _ _ _ h => h) (Or.inr ⟨by rfl, rfl⟩) hHeld ?_
            simp only [Act.put, List.getElem_toArray, List.getElem_cons_zero, List.getElem_cons_succ, List.setIfInBounds_toArray, List.set_cons_zero, List.set_cons_succ]
            refine wpAnyH_take (i := 15) (v := undef) rfl (by kernel_rfl) (by kernel_rfl) (by kernel_rfl) (fun _ _ _ h => h) (Or.inr ⟨by rfl, rfl⟩) hHeld ?_
            simp only [Act.put, List.getElem_toArray, List.getElem_cons_zero, List.getElem_cons_succ, List.setIfInBounds_toArray, List.set_cons_zero, List.set_cons_succ]
            refine wpAnyH_take (i := 16) (v := .bool true) rfl (by kernel_rfl) (by kernel_rfl) (by kernel_rfl) (fun _ _ _ h => h) (Or.inl ⟨by rfl, fun w' hS => by go_simp⟩) hHeld ?_
            simp only [Act.put, List.getElem_toArray, List.getElem_cons_zero, List.getElem_cons_succ, List.setIfInBounds_toArray, List.set_cons_zero, List.set_cons_succ]
            refine wpAnyH_take (i := 17) (v := .pointer (some ⟨ps, me, none⟩)) rfl (by kernel_rfl) (by kernel_rfl) (by kernel_rfl) (fun _ _ _ h => h) (Or.inl ⟨by rfl, fun w' hS => by go_simp⟩) hHeld ?_
            simp only [Act.put, List.getElem_toArray, List.getElem_cons_zero, List.getElem_cons_succ, List.setIfInBounds_toArray, List.set_cons_zero, List.set_cons_succ]
            obtain ⟨wz, hwz⟩ : ∃ wz, wc.drew.setCell ⟨ps, me, none⟩ (.bool true) = wz := ⟨_, rfl⟩
            have HMz : Hid (Ms E wz B0 (k + 1) pt ps (fun i => if i = 0 then b0 else b1) (upd A me D') (upd T me (T me ++ [⟨g7, ⟨D'.tick, D'.hears⟩⟩])) (upd S me true) (upd v me v8)) := by
              show Ms _ _ _ _ _ _ _ _ _ _ _
              rw [← hwz]
              exact (HM9.out.still (Below.refl _ _).drew).say hm2 true
            refine wpAnyH_ready (rs := [18]) (by kernel_rfl) (by simp) ?_
            refine AllReadyH.cons rfl (fun K hK => ?_) AllReadyH.nil
            go_simp
            try rw [hwz]
            refine hK.out _ _ ⟨by rw [← hwz]; exact cell_keep' (kset (P := fun j => j = ps) _ _ _ _ rfl) HbXps.out (cell_drew q9), by rw [← hwz]; exact cell_keep' (kset (P := fun j => j = ps) _ _ _ _ rfl) HbIps.out (cell_drew qi)⟩ (fun hHeld => ?_)
            clear hK K
            refine wpAnyH_done (by kernel_rfl) ?_ _
            clear hHeld
            clear c5 z9 hwz
            go_wp2_with (fail)
            go_meet
            refine ⟨_, _, _, _, L, rfl, HMz.out, ?_, HPhT.out g7⟩
            have := HPuT.out g7
            rw [hSm] at this
            exact this
        · by_cases h2k : x.k = 2
          · as_aux_lemma =>
            obtain ⟨ya, yc, hvy⟩ := HMc.out.slice hyo2
            obtain ⟨yn, hyn⟩ : ∃ yn, (T you).length = yn := ⟨_, rfl⟩
            have cTy := HMc.out.cellT hyo2
            rw [hvy, hyn] at cTy
            rw [hyn] at hvy
            have hyk : yn ≤ k := by rw [← hyn]; exact HMc.out.len you hyo2
            have t1 : (x.k == 1) = false := by simp [h1k]
            have t2 : (x.k == 2) = true := by simp [h2k]
            have H2k : Hid (x.k = 2) := h2k
            clear h1k h2k
            by_cases hy0 : yn = 0
            · have hyz : ¬ (0 : Int) < (yn : Int) := by omega
              have HPh2 : Hid (n ≤ k → L = false → Ph A T (k + 1 - n)) := fun h1 h2 => by
                obtain ⟨e1, e2⟩ := HEn.out h1
                have := Ph.hears (j := k - n) (by omega) (by rw [← e1]; exact H2k.out) hm2 e2 (HPh.out h1 h2)
                rw [← Hyo.out] at this
                exact absurd (List.eq_nil_of_length_eq_zero (by omega)) this
              clear hvy hyn hy0
              go_wp2_with (fail)
              go_meet
              exact ⟨A, T, S, v, L, rfl, HMc.out.up (by omega), HP.out.same, HPh2.out⟩
            · have hyz : (0 : Int) < (yn : Int) := by omega
              obtain ⟨pz, hpz⟩ : ∃ pz, posI x.b (yn : Int) = pz := ⟨_, rfl⟩
              have HPs : Hid (∀ w', Calls Try.prog 10 #[.int .i64 x.b, .int .i64 (yn : Int)] w' fun e w2 => e = .returned (.int .i64 pz) ∧ w' = w2) := fun w' => by rw [← hpz]; exact pos_any _ _ (by omega)
              have hpl := posI_lt x.b (n := (yn : Int)) (by omega)
              rw [hpz] at hpl
              obtain ⟨jj, hjj, hjl⟩ : ∃ jj : Nat, (jj : Int) = (if x.b = -1 then (yn : Int) - 1 else pz) ∧ jj < yn := by
                by_cases e : x.b = -1
                · exact ⟨yn - 1, by rw [if_pos e]; omega, by omega⟩
                · exact ⟨pz.toNat, by rw [if_neg e]; omega, by omega⟩
              obtain ⟨gy, cy, hgy, r0, r1⟩ := HMc.out.read hyo2 (j := jj) (by omega)
              obtain ⟨xx, hxx⟩ : ∃ xx, (T you).getD jj bx0 = xx := ⟨_, rfl⟩
              rw [hxx] at r0 r1
              have hmx : xx ∈ T you := by rw [← hxx]; simp [List.getD, show jj < (T you).length by omega]
              obtain ⟨hl2, hbl2, hge2⟩ := HMc.out.el you hyo2 xx hmx
              obtain ⟨Da, hDa⟩ : ∃ Da, (A me).after (you : Int) (A you).inc xx.b.t xx.b.xs = Da := ⟨_, rfl⟩
              have HPu2 : Hid (Pu (upd A me Da) T S L (k + 1) i0 i1) := by
                have := HP.out.hear HMp.out hm2 (x := xx) (by rw [← Hyo.out]; exact hmx)
                rw [← Hyo.out, hDa] at this
                exact this
              have HPh2 : Hid (n ≤ k → L = false → Ph (upd A me Da) T (k + 1 - n)) := fun h1 h2 => by
                obtain ⟨e1, e2⟩ := HEn.out h1
                have e3 : x.b = -1 := by rw [e1]; exact endS_beat (by omega) (by rw [← e1]; exact H2k.out)
                rw [if_pos e3] at hjj
                have hls : (T (1 - me)).getLast? = some xx := by
                  rw [← Hyo.out, List.getLast?_eq_getElem?, ← hxx, hyn, show yn - 1 = jj by omega]
                  simp [List.getD, show jj < (T you).length by omega]
                have := (HPh.out h1 h2).hear HP.out HMp.out h2 (by omega) hm2 (j := k - n) (by omega) (by rw [← e1]; exact H2k.out) e2 hls
                rw [show k + 1 - n = k - n + 1 by omega]
                rw [← Hyo.out, hDa] at this
                exact this
              have HiY : Hid ((A you).inc = iy) := by
                show _ = _
                rw [HP.out.inc' hyo2, Hiy.out]
              have HDab : Hid (Da.b = (A me).b) := by show _ = _; rw [← hDa]; exact (after_fields _ _ _ _ _).2.2.2.2.2.1
              have HHd : Hid (∀ w', Below wc.heap.size wc w' → Calls Try.prog 11 #[.pointer (some ⟨bm, 0, none⟩), .int .i64 (you : Int), .int .i64 iy, .agg #[.int .i64 xx.b.t, .slice (some ⟨xx.g, 0, none⟩) 2 2]] w' fun e w2 => e = .returned (.int .i64 ((A me).herr (you : Int) iy xx.b.t xx.b.xs)) ∧ Dtep w' w2 (A me) Da B0 (k + 1)) := fun w' hb => by
                have := heard_any (c := 2) ((HMc.out.still hb).ok me hm2) (by omega) (you : Int) iy xx.b.t ((BlkI.still (w := wc) hbl2 hb).rd hl2) (fun g' ⟨off', e⟩ ho => by
                  have h1 := HMc.out.lt me hm2 g' ho
                  have h2 := HMc.out.hp
                  simp only [Option.some.injEq, Addr.mk.injEq] at e
                  omega)
                rw [HMc.out.bb me hm2, ← Hbm.out] at this
                rw [HiY.out] at hDa
                rw [hDa] at this
                exact this
              generalize (A me).herr (you : Int) iy xx.b.t xx.b.xs = he at HHd
              rw [hvy, hyn] at hgy
              simp only [Value.slice.injEq, true_and] at hgy
              obtain ⟨hya, hcy⟩ := hgy
              subst hya
              have Hvy : Hid (v you = .slice (some ⟨gy, 0, none⟩) yn yc) := hvy
              have HgyE : Hid (pt ≤ gy) := by
                have h1 := (World.ownsRow.lt (HMc.out.row you hyo2) gy (by rw [Hvy.out]; rfl)).1
                have h2 := HMc.out.hp
                show pt ≤ gy
                omega
              clear hvy hcy hmx hl2 hbl2 hge2 hxx hDa hpz hyn HiY hy0
              have j1 : (0 : Int) ≤ (jj : Int) := Int.natCast_nonneg _
              have j2 : (jj : Int) < (yn : Int) := by omega
              have hys : IntKind.i64.wrap ((yn : Int) - 1) = (yn : Int) - 1 := wrap_id (by omega) (by omega)
              by_cases hb1 : x.b = -1
              · rw [if_pos hb1] at hjj
                have HMd : Hid (Ms E wc.drew B0 k pt ps (fun i => if i = 0 then b0 else b1) A T S v) := HMc.out.still (Below.refl _ _).drew
                have HBd : Hid (Below wc.heap.size wc wc.drew) := (Below.refl _ _).drew
                have z2d := cell_drew z2
                have dD := cell_drew cD
                have dI := cell_drew cIy
                have dT := cell_drew cTy
                have d0 := cell_drew r0
                have d1 := cell_drew r1
                have hbt : (x.b == -1) = true := by simp [hb1]
                have Hjj : Hid ((jj : Int) = (yn : Int) - 1) := hjj
                clear hjj hb1
                go_wp2_with (fail)
                refine wp_region_held_drew (S := (fun w' => w'.cell? ⟨sB, 2, none⟩ = some (.int .i64 x.b) ∧ w'.cell? ⟨pt, you, none⟩ = some (.slice (some ⟨gy, 0, none⟩) yn yc))) (by kernel_rfl) ⟨cell_drew z2, cell_drew cTy⟩ (fun hHeld => ?_)
                simp only [Act.put, List.size_toArray, List.length_cons, List.length_nil, Nat.zero_add]
                refine wpAnyH_take (i := 0) (v := .pointer (some ⟨sB, 2, none⟩)) rfl (by kernel_rfl) (by kernel_rfl) (by kernel_rfl) (fun _ _ _ h => h) (Or.inl ⟨by rfl, fun w' hS => by go_simp⟩) hHeld ?_
                simp only [Act.put, List.getElem_toArray, List.getElem_cons_zero, List.getElem_cons_succ, List.setIfInBounds_toArray, List.set_cons_zero, List.set_cons_succ]
                refine wpAnyH_take (i := 1) (v := .int .i64 x.b) rfl (by kernel_rfl) (by kernel_rfl) (by kernel_rfl) (fun _ _ _ h => h) (Or.inl ⟨by rfl, fun w' hS => by (obtain ⟨h0, h1⟩ := hS; go_simp)⟩) hHeld ?_
                simp only [Act.put, List.getElem_toArray, List.getElem_cons_zero, List.getElem_cons_succ, List.setIfInBounds_toArray, List.set_cons_zero, List.set_cons_succ]
                refine wpAnyH_take (i := 2) (v := .slice (some ⟨pt, 0, none⟩) 2 2) rfl (by kernel_rfl) (by kernel_rfl) (by kernel_rfl) (fun _ _ _ h => h) (Or.inl ⟨by rfl, fun w' hS => by go_simp⟩) hHeld ?_
                simp only [Act.put, List.getElem_toArray, List.getElem_cons_zero, List.getElem_cons_succ, List.setIfInBounds_toArray, List.set_cons_zero, List.set_cons_succ]
                refine wpAnyH_take (i := 3) (v := .int .i64 (you : Int)) rfl (by kernel_rfl) (by kernel_rfl) (by kernel_rfl) (fun _ _ _ h => h) (Or.inl ⟨by rfl, fun w' hS => by go_simp⟩) hHeld ?_
                simp only [Act.put, List.getElem_toArray, List.getElem_cons_zero, List.getElem_cons_succ, List.setIfInBounds_toArray, List.set_cons_zero, List.set_cons_succ]
                refine wpAnyH_take (i := 4) (v := .pointer (some ⟨pt, you, none⟩)) rfl (by kernel_rfl) (by kernel_rfl) (by kernel_rfl) (fun _ _ _ h => h) (Or.inl ⟨by rfl, fun w' hS => by go_simp⟩) hHeld ?_
                simp only [Act.put, List.getElem_toArray, List.getElem_cons_zero, List.getElem_cons_succ, List.setIfInBounds_toArray, List.set_cons_zero, List.set_cons_succ]
                refine wpAnyH_take (i := 5) (v := .slice (some ⟨gy, 0, none⟩) yn yc) rfl (by kernel_rfl) (by kernel_rfl) (by kernel_rfl) (fun _ _ _ h => h) (Or.inl ⟨by rfl, fun w' hS => by (obtain ⟨h0, h1⟩ := hS; go_simp)⟩) hHeld ?_
                simp only [Act.put, List.getElem_toArray, List.getElem_cons_zero, List.getElem_cons_succ, List.setIfInBounds_toArray, List.set_cons_zero, List.set_cons_succ]
                refine wpAnyH_take (i := 6) (v := .int .i64 (yn : Int)) rfl (by kernel_rfl) (by kernel_rfl) (by kernel_rfl) (fun _ _ _ h => h) (Or.inl ⟨by rfl, fun w' hS => by go_simp⟩) hHeld ?_
                simp only [Act.put, List.getElem_toArray, List.getElem_cons_zero, List.getElem_cons_succ, List.setIfInBounds_toArray, List.set_cons_zero, List.set_cons_succ]
                refine wpAnyH_ready (rs := [7]) (by kernel_rfl) (by simp) ?_
                refine AllReadyH.cons rfl (fun K hK => ?_) AllReadyH.nil
                go_simp
                refine (HPs.out _).mono ?_
                rintro e wq ⟨rfl, rfl⟩
                refine hK.out _ _ ⟨cell_drew z2, cell_drew cTy⟩ (fun hHeld => ?_)
                clear hK K
                refine wpAnyH_take (i := 8) (v := .int .i64 pz) rfl (by kernel_rfl) (by kernel_rfl) (by kernel_rfl) (fun _ _ _ h => h) (Or.inl ⟨by rfl, fun w' hS => by go_simp⟩) hHeld ?_
                simp only [Act.put, List.getElem_toArray, List.getElem_cons_zero, List.getElem_cons_succ, List.setIfInBounds_toArray, List.set_cons_zero, List.set_cons_succ]
                refine wpAnyH_done (by kernel_rfl) ?_ _
                clear hHeld
                go_wp2_with (fail)
                rw [← Hjj.out]
                clear hys
                refine wp_region_held_drew (S := (fun w' => w'.cell? ⟨pd, me, none⟩ = some (.pointer (some ⟨bm, 0, none⟩)) ∧ w'.cell? ⟨bI, you, none⟩ = some (.int .i64 iy) ∧ w'.cell? ⟨pt, you, none⟩ = some (.slice (some ⟨gy, 0, none⟩) yn yc) ∧ w'.cell? ⟨gy, jj * 2, none⟩ = some (.int .i64 xx.b.t) ∧ w'.cell? ⟨gy, jj * 2 + 1, none⟩ = some (.slice (some ⟨xx.g, 0, none⟩) 2 2))) (by kernel_rfl) ⟨cell_drew dD, cell_drew dI, cell_drew dT, cell_drew d0, cell_drew d1⟩ (fun hHeld => ?_)
                simp only [Act.put, List.size_toArray, List.length_cons, List.length_nil, Nat.zero_add]
                refine wpAnyH_take (i := 0) (v := .slice (some ⟨pd, 0, none⟩) 2 2) rfl (by kernel_rfl) (by kernel_rfl) (by kernel_rfl) (fun _ _ _ h => h) (Or.inl ⟨by rfl, fun w' hS => by go_simp⟩) hHeld ?_
                simp only [Act.put, List.getElem_toArray, List.getElem_cons_zero, List.getElem_cons_succ, List.setIfInBounds_toArray, List.set_cons_zero, List.set_cons_succ]
                refine wpAnyH_take (i := 1) (v := .int .i64 (me : Int)) rfl (by kernel_rfl) (by kernel_rfl) (by kernel_rfl) (fun _ _ _ h => h) (Or.inl ⟨by rfl, fun w' hS => by go_simp⟩) hHeld ?_
                simp only [Act.put, List.getElem_toArray, List.getElem_cons_zero, List.getElem_cons_succ, List.setIfInBounds_toArray, List.set_cons_zero, List.set_cons_succ]
                refine wpAnyH_take (i := 2) (v := .pointer (some ⟨pd, me, none⟩)) rfl (by kernel_rfl) (by kernel_rfl) (by kernel_rfl) (fun _ _ _ h => h) (Or.inl ⟨by rfl, fun w' hS => by go_simp⟩) hHeld ?_
                simp only [Act.put, List.getElem_toArray, List.getElem_cons_zero, List.getElem_cons_succ, List.setIfInBounds_toArray, List.set_cons_zero, List.set_cons_succ]
                refine wpAnyH_take (i := 3) (v := .pointer (some ⟨bm, 0, none⟩)) rfl (by kernel_rfl) (by kernel_rfl) (by kernel_rfl) (fun _ _ _ h => h) (Or.inl ⟨by rfl, fun w' hS => by (obtain ⟨h0, h1, h2, h3, h4⟩ := hS; go_simp)⟩) hHeld ?_
                simp only [Act.put, List.getElem_toArray, List.getElem_cons_zero, List.getElem_cons_succ, List.setIfInBounds_toArray, List.set_cons_zero, List.set_cons_succ]
                refine wpAnyH_take (i := 4) (v := .int .i64 (you : Int)) rfl (by kernel_rfl) (by kernel_rfl) (by kernel_rfl) (fun _ _ _ h => h) (Or.inl ⟨by rfl, fun w' hS => by go_simp⟩) hHeld ?_
                simp only [Act.put, List.getElem_toArray, List.getElem_cons_zero, List.getElem_cons_succ, List.setIfInBounds_toArray, List.set_cons_zero, List.set_cons_succ]
                refine wpAnyH_take (i := 5) (v := .slice (some ⟨bI, 0, none⟩) 2 2) rfl (by kernel_rfl) (by kernel_rfl) (by kernel_rfl) (fun _ _ _ h => h) (Or.inl ⟨by rfl, fun w' hS => by go_simp⟩) hHeld ?_
                simp only [Act.put, List.getElem_toArray, List.getElem_cons_zero, List.getElem_cons_succ, List.setIfInBounds_toArray, List.set_cons_zero, List.set_cons_succ]
                refine wpAnyH_take (i := 6) (v := .int .i64 (you : Int)) rfl (by kernel_rfl) (by kernel_rfl) (by kernel_rfl) (fun _ _ _ h => h) (Or.inl ⟨by rfl, fun w' hS => by go_simp⟩) hHeld ?_
                simp only [Act.put, List.getElem_toArray, List.getElem_cons_zero, List.getElem_cons_succ, List.setIfInBounds_toArray, List.set_cons_zero, List.set_cons_succ]
                refine wpAnyH_take (i := 7) (v := .pointer (some ⟨bI, you, none⟩)) rfl (by kernel_rfl) (by kernel_rfl) (by kernel_rfl) (fun _ _ _ h => h) (Or.inl ⟨by rfl, fun w' hS => by go_simp⟩) hHeld ?_
                simp only [Act.put, List.getElem_toArray, List.getElem_cons_zero, List.getElem_cons_succ, List.setIfInBounds_toArray, List.set_cons_zero, List.set_cons_succ]
                refine wpAnyH_take (i := 8) (v := .int .i64 iy) rfl (by kernel_rfl) (by kernel_rfl) (by kernel_rfl) (fun _ _ _ h => h) (Or.inl ⟨by rfl, fun w' hS => by (obtain ⟨h0, h1, h2, h3, h4⟩ := hS; go_simp)⟩) hHeld ?_
                simp only [Act.put, List.getElem_toArray, List.getElem_cons_zero, List.getElem_cons_succ, List.setIfInBounds_toArray, List.set_cons_zero, List.set_cons_succ]
                refine wpAnyH_take (i := 9) (v := .slice (some ⟨pt, 0, none⟩) 2 2) rfl (by kernel_rfl) (by kernel_rfl) (by kernel_rfl) (fun _ _ _ h => h) (Or.inl ⟨by rfl, fun w' hS => by go_simp⟩) hHeld ?_
                simp only [Act.put, List.getElem_toArray, List.getElem_cons_zero, List.getElem_cons_succ, List.setIfInBounds_toArray, List.set_cons_zero, List.set_cons_succ]
                refine wpAnyH_take (i := 10) (v := .int .i64 (you : Int)) rfl (by kernel_rfl) (by kernel_rfl) (by kernel_rfl) (fun _ _ _ h => h) (Or.inl ⟨by rfl, fun w' hS => by go_simp⟩) hHeld ?_
                simp only [Act.put, List.getElem_toArray, List.getElem_cons_zero, List.getElem_cons_succ, List.setIfInBounds_toArray, List.set_cons_zero, List.set_cons_succ]
                refine wpAnyH_take (i := 11) (v := .pointer (some ⟨pt, you, none⟩)) rfl (by kernel_rfl) (by kernel_rfl) (by kernel_rfl) (fun _ _ _ h => h) (Or.inl ⟨by rfl, fun w' hS => by go_simp⟩) hHeld ?_
                simp only [Act.put, List.getElem_toArray, List.getElem_cons_zero, List.getElem_cons_succ, List.setIfInBounds_toArray, List.set_cons_zero, List.set_cons_succ]
                refine wpAnyH_take (i := 12) (v := .slice (some ⟨gy, 0, none⟩) yn yc) rfl (by kernel_rfl) (by kernel_rfl) (by kernel_rfl) (fun _ _ _ h => h) (Or.inl ⟨by rfl, fun w' hS => by (obtain ⟨h0, h1, h2, h3, h4⟩ := hS; go_simp)⟩) hHeld ?_
                simp only [Act.put, List.getElem_toArray, List.getElem_cons_zero, List.getElem_cons_succ, List.setIfInBounds_toArray, List.set_cons_zero, List.set_cons_succ]
                refine wpAnyH_take (i := 13) (v := .int .i64 (jj : Int)) rfl (by kernel_rfl) (by kernel_rfl) (by kernel_rfl) (fun _ _ _ h => h) (Or.inl ⟨by rfl, fun w' hS => by go_simp⟩) hHeld ?_
                simp only [Act.put, List.getElem_toArray, List.getElem_cons_zero, List.getElem_cons_succ, List.setIfInBounds_toArray, List.set_cons_zero, List.set_cons_succ]
                refine wpAnyH_take (i := 14) (v := .pointer (some ⟨gy, jj * 2, none⟩)) rfl (by kernel_rfl) (by kernel_rfl) (by kernel_rfl) (fun _ _ _ h => h) (Or.inl ⟨by rfl, fun w' hS => by go_simp⟩) hHeld ?_
                simp only [Act.put, List.getElem_toArray, List.getElem_cons_zero, List.getElem_cons_succ, List.setIfInBounds_toArray, List.set_cons_zero, List.set_cons_succ]
                refine wpAnyH_take (i := 15) (v := .agg #[.int .i64 xx.b.t, .slice (some ⟨xx.g, 0, none⟩) 2 2]) rfl (by kernel_rfl) (by kernel_rfl) (by kernel_rfl) (fun _ _ _ h => h) (Or.inl ⟨by rfl, fun w' hS => by (obtain ⟨h0, h1, h2, h3, h4⟩ := hS; go_simp)⟩) hHeld ?_
                simp only [Act.put, List.getElem_toArray, List.getElem_cons_zero, List.getElem_cons_succ, List.setIfInBounds_toArray, List.set_cons_zero, List.set_cons_succ]
                refine wpAnyH_ready (rs := [16]) (by kernel_rfl) (by simp) ?_
                refine AllReadyH.cons rfl (fun K hK => ?_) AllReadyH.nil
                go_simp
                refine (HHd.out _ (HBd.out.trans (Below.refl _ _).drew)).mono ?_
                rintro e w8 ⟨rfl, T8⟩
                have HM8 : Hid (Ms E w8 B0 (k + 1) pt ps (fun i => if i = 0 then b0 else b1) (upd A me Da) T S v) := (HMd.out.still (Below.refl _ _).drew).dt hm2 T8 (Nat.le_succ _) (by omega) HDab.out
                have t8 := HM8.out
                have t9 := bz_of t8 HeD.out HeI.out hm2
                have t10 := bz_of t8 HeD.out HeI.out hyo2
                rw [← Hbm.out] at t9
                rw [← Hiy.out] at t10
                have hno8 : ∀ g, pt ≤ g → ¬ (A me).own g := fun g hg e => by have := HMc.out.lt me hm2 g e; omega
                have hgyE := HgyE.out
                refine hK.out _ _ ⟨t9.1, t10.2, (by have e := t8.cellT hyo2; rw [Hvy.out] at e; exact e), cell_keep' T8.kept (hno8 _ hgyE) (cell_drew d0), cell_keep' T8.kept (hno8 _ hgyE) (cell_drew d1)⟩ (fun hHeld => ?_)
                clear hK K t8 t9 t10 hno8 hgyE T8
                refine wpAnyH_done (by kernel_rfl) ?_ _
                clear hHeld
                clear dD dI dT d0 d1 z2d
                go_wp2_with (fail)
                go_meet
                exact ⟨_, _, _, _, L, rfl, HM8.out, HPu2.out, HPh2.out⟩
              · rw [if_neg hb1] at hjj
                have hb2 : (x.b == -1) = false := by simp [hb1]
                subst hjj
                clear hb1
                have HMd : Hid (Ms E wc.drew B0 k pt ps (fun i => if i = 0 then b0 else b1) A T S v) := HMc.out.still (Below.refl _ _).drew
                have HBd : Hid (Below wc.heap.size wc wc.drew) := (Below.refl _ _).drew
                have z2d := cell_drew z2
                have dD := cell_drew cD
                have dI := cell_drew cIy
                have dT := cell_drew cTy
                have d0 := cell_drew r0
                have d1 := cell_drew r1
                go_wp2_with (fail)
                refine wp_region_held_drew (S := (fun w' => w'.cell? ⟨sB, 2, none⟩ = some (.int .i64 x.b) ∧ w'.cell? ⟨pt, you, none⟩ = some (.slice (some ⟨gy, 0, none⟩) yn yc))) (by kernel_rfl) ⟨cell_drew z2, cell_drew cTy⟩ (fun hHeld => ?_)
                simp only [Act.put, List.size_toArray, List.length_cons, List.length_nil, Nat.zero_add]
                refine wpAnyH_take (i := 0) (v := .pointer (some ⟨sB, 2, none⟩)) rfl (by kernel_rfl) (by kernel_rfl) (by kernel_rfl) (fun _ _ _ h => h) (Or.inl ⟨by rfl, fun w' hS => by go_simp⟩) hHeld ?_
                simp only [Act.put, List.getElem_toArray, List.getElem_cons_zero, List.getElem_cons_succ, List.setIfInBounds_toArray, List.set_cons_zero, List.set_cons_succ]
                refine wpAnyH_take (i := 1) (v := .int .i64 x.b) rfl (by kernel_rfl) (by kernel_rfl) (by kernel_rfl) (fun _ _ _ h => h) (Or.inl ⟨by rfl, fun w' hS => by (obtain ⟨h0, h1⟩ := hS; go_simp)⟩) hHeld ?_
                simp only [Act.put, List.getElem_toArray, List.getElem_cons_zero, List.getElem_cons_succ, List.setIfInBounds_toArray, List.set_cons_zero, List.set_cons_succ]
                refine wpAnyH_take (i := 2) (v := .slice (some ⟨pt, 0, none⟩) 2 2) rfl (by kernel_rfl) (by kernel_rfl) (by kernel_rfl) (fun _ _ _ h => h) (Or.inl ⟨by rfl, fun w' hS => by go_simp⟩) hHeld ?_
                simp only [Act.put, List.getElem_toArray, List.getElem_cons_zero, List.getElem_cons_succ, List.setIfInBounds_toArray, List.set_cons_zero, List.set_cons_succ]
                refine wpAnyH_take (i := 3) (v := .int .i64 (you : Int)) rfl (by kernel_rfl) (by kernel_rfl) (by kernel_rfl) (fun _ _ _ h => h) (Or.inl ⟨by rfl, fun w' hS => by go_simp⟩) hHeld ?_
                simp only [Act.put, List.getElem_toArray, List.getElem_cons_zero, List.getElem_cons_succ, List.setIfInBounds_toArray, List.set_cons_zero, List.set_cons_succ]
                refine wpAnyH_take (i := 4) (v := .pointer (some ⟨pt, you, none⟩)) rfl (by kernel_rfl) (by kernel_rfl) (by kernel_rfl) (fun _ _ _ h => h) (Or.inl ⟨by rfl, fun w' hS => by go_simp⟩) hHeld ?_
                simp only [Act.put, List.getElem_toArray, List.getElem_cons_zero, List.getElem_cons_succ, List.setIfInBounds_toArray, List.set_cons_zero, List.set_cons_succ]
                refine wpAnyH_take (i := 5) (v := .slice (some ⟨gy, 0, none⟩) yn yc) rfl (by kernel_rfl) (by kernel_rfl) (by kernel_rfl) (fun _ _ _ h => h) (Or.inl ⟨by rfl, fun w' hS => by (obtain ⟨h0, h1⟩ := hS; go_simp)⟩) hHeld ?_
                simp only [Act.put, List.getElem_toArray, List.getElem_cons_zero, List.getElem_cons_succ, List.setIfInBounds_toArray, List.set_cons_zero, List.set_cons_succ]
                refine wpAnyH_take (i := 6) (v := .int .i64 (yn : Int)) rfl (by kernel_rfl) (by kernel_rfl) (by kernel_rfl) (fun _ _ _ h => h) (Or.inl ⟨by rfl, fun w' hS => by go_simp⟩) hHeld ?_
                simp only [Act.put, List.getElem_toArray, List.getElem_cons_zero, List.getElem_cons_succ, List.setIfInBounds_toArray, List.set_cons_zero, List.set_cons_succ]
                refine wpAnyH_ready (rs := [7]) (by kernel_rfl) (by simp) ?_
                refine AllReadyH.cons rfl (fun K hK => ?_) AllReadyH.nil
                go_simp
                refine (HPs.out _).mono ?_
                rintro e wq ⟨rfl, rfl⟩
                refine hK.out _ _ ⟨cell_drew z2, cell_drew cTy⟩ (fun hHeld => ?_)
                clear hK K
                refine wpAnyH_take (i := 8) (v := .int .i64 (jj : Int)) rfl (by kernel_rfl) (by kernel_rfl) (by kernel_rfl) (fun _ _ _ h => h) (Or.inl ⟨by rfl, fun w' hS => by go_simp⟩) hHeld ?_
                simp only [Act.put, List.getElem_toArray, List.getElem_cons_zero, List.getElem_cons_succ, List.setIfInBounds_toArray, List.set_cons_zero, List.set_cons_succ]
                refine wpAnyH_done (by kernel_rfl) ?_ _
                clear hHeld
                go_wp2_with (fail)
                refine wp_region_held_drew (S := (fun w' => w'.cell? ⟨pd, me, none⟩ = some (.pointer (some ⟨bm, 0, none⟩)) ∧ w'.cell? ⟨bI, you, none⟩ = some (.int .i64 iy) ∧ w'.cell? ⟨pt, you, none⟩ = some (.slice (some ⟨gy, 0, none⟩) yn yc) ∧ w'.cell? ⟨gy, jj * 2, none⟩ = some (.int .i64 xx.b.t) ∧ w'.cell? ⟨gy, jj * 2 + 1, none⟩ = some (.slice (some ⟨xx.g, 0, none⟩) 2 2))) (by kernel_rfl) ⟨cell_drew dD, cell_drew dI, cell_drew dT, cell_drew d0, cell_drew d1⟩ (fun hHeld => ?_)
                simp only [Act.put, List.size_toArray, List.length_cons, List.length_nil, Nat.zero_add]
                refine wpAnyH_take (i := 0) (v := .slice (some ⟨pd, 0, none⟩) 2 2) rfl (by kernel_rfl) (by kernel_rfl) (by kernel_rfl) (fun _ _ _ h => h) (Or.inl ⟨by rfl, fun w' hS => by go_simp⟩) hHeld ?_
                simp only [Act.put, List.getElem_toArray, List.getElem_cons_zero, List.getElem_cons_succ, List.setIfInBounds_toArray, List.set_cons_zero, List.set_cons_succ]
                refine wpAnyH_take (i := 1) (v := .int .i64 (me : Int)) rfl (by kernel_rfl) (by kernel_rfl) (by kernel_rfl) (fun _ _ _ h => h) (Or.inl ⟨by rfl, fun w' hS => by go_simp⟩) hHeld ?_
                simp only [Act.put, List.getElem_toArray, List.getElem_cons_zero, List.getElem_cons_succ, List.setIfInBounds_toArray, List.set_cons_zero, List.set_cons_succ]
                refine wpAnyH_take (i := 2) (v := .pointer (some ⟨pd, me, none⟩)) rfl (by kernel_rfl) (by kernel_rfl) (by kernel_rfl) (fun _ _ _ h => h) (Or.inl ⟨by rfl, fun w' hS => by go_simp⟩) hHeld ?_
                simp only [Act.put, List.getElem_toArray, List.getElem_cons_zero, List.getElem_cons_succ, List.setIfInBounds_toArray, List.set_cons_zero, List.set_cons_succ]
                refine wpAnyH_take (i := 3) (v := .pointer (some ⟨bm, 0, none⟩)) rfl (by kernel_rfl) (by kernel_rfl) (by kernel_rfl) (fun _ _ _ h => h) (Or.inl ⟨by rfl, fun w' hS => by (obtain ⟨h0, h1, h2, h3, h4⟩ := hS; go_simp)⟩) hHeld ?_
                simp only [Act.put, List.getElem_toArray, List.getElem_cons_zero, List.getElem_cons_succ, List.setIfInBounds_toArray, List.set_cons_zero, List.set_cons_succ]
                refine wpAnyH_take (i := 4) (v := .int .i64 (you : Int)) rfl (by kernel_rfl) (by kernel_rfl) (by kernel_rfl) (fun _ _ _ h => h) (Or.inl ⟨by rfl, fun w' hS => by go_simp⟩) hHeld ?_
                simp only [Act.put, List.getElem_toArray, List.getElem_cons_zero, List.getElem_cons_succ, List.setIfInBounds_toArray, List.set_cons_zero, List.set_cons_succ]
                refine wpAnyH_take (i := 5) (v := .slice (some ⟨bI, 0, none⟩) 2 2) rfl (by kernel_rfl) (by kernel_rfl) (by kernel_rfl) (fun _ _ _ h => h) (Or.inl ⟨by rfl, fun w' hS => by go_simp⟩) hHeld ?_
                simp only [Act.put, List.getElem_toArray, List.getElem_cons_zero, List.getElem_cons_succ, List.setIfInBounds_toArray, List.set_cons_zero, List.set_cons_succ]
                refine wpAnyH_take (i := 6) (v := .int .i64 (you : Int)) rfl (by kernel_rfl) (by kernel_rfl) (by kernel_rfl) (fun _ _ _ h => h) (Or.inl ⟨by rfl, fun w' hS => by go_simp⟩) hHeld ?_
                simp only [Act.put, List.getElem_toArray, List.getElem_cons_zero, List.getElem_cons_succ, List.setIfInBounds_toArray, List.set_cons_zero, List.set_cons_succ]
                refine wpAnyH_take (i := 7) (v := .pointer (some ⟨bI, you, none⟩)) rfl (by kernel_rfl) (by kernel_rfl) (by kernel_rfl) (fun _ _ _ h => h) (Or.inl ⟨by rfl, fun w' hS => by go_simp⟩) hHeld ?_
                simp only [Act.put, List.getElem_toArray, List.getElem_cons_zero, List.getElem_cons_succ, List.setIfInBounds_toArray, List.set_cons_zero, List.set_cons_succ]
                refine wpAnyH_take (i := 8) (v := .int .i64 iy) rfl (by kernel_rfl) (by kernel_rfl) (by kernel_rfl) (fun _ _ _ h => h) (Or.inl ⟨by rfl, fun w' hS => by (obtain ⟨h0, h1, h2, h3, h4⟩ := hS; go_simp)⟩) hHeld ?_
                simp only [Act.put, List.getElem_toArray, List.getElem_cons_zero, List.getElem_cons_succ, List.setIfInBounds_toArray, List.set_cons_zero, List.set_cons_succ]
                refine wpAnyH_take (i := 9) (v := .slice (some ⟨pt, 0, none⟩) 2 2) rfl (by kernel_rfl) (by kernel_rfl) (by kernel_rfl) (fun _ _ _ h => h) (Or.inl ⟨by rfl, fun w' hS => by go_simp⟩) hHeld ?_
                simp only [Act.put, List.getElem_toArray, List.getElem_cons_zero, List.getElem_cons_succ, List.setIfInBounds_toArray, List.set_cons_zero, List.set_cons_succ]
                refine wpAnyH_take (i := 10) (v := .int .i64 (you : Int)) rfl (by kernel_rfl) (by kernel_rfl) (by kernel_rfl) (fun _ _ _ h => h) (Or.inl ⟨by rfl, fun w' hS => by go_simp⟩) hHeld ?_
                simp only [Act.put, List.getElem_toArray, List.getElem_cons_zero, List.getElem_cons_succ, List.setIfInBounds_toArray, List.set_cons_zero, List.set_cons_succ]
                refine wpAnyH_take (i := 11) (v := .pointer (some ⟨pt, you, none⟩)) rfl (by kernel_rfl) (by kernel_rfl) (by kernel_rfl) (fun _ _ _ h => h) (Or.inl ⟨by rfl, fun w' hS => by go_simp⟩) hHeld ?_
                simp only [Act.put, List.getElem_toArray, List.getElem_cons_zero, List.getElem_cons_succ, List.setIfInBounds_toArray, List.set_cons_zero, List.set_cons_succ]
                refine wpAnyH_take (i := 12) (v := .slice (some ⟨gy, 0, none⟩) yn yc) rfl (by kernel_rfl) (by kernel_rfl) (by kernel_rfl) (fun _ _ _ h => h) (Or.inl ⟨by rfl, fun w' hS => by (obtain ⟨h0, h1, h2, h3, h4⟩ := hS; go_simp)⟩) hHeld ?_
                simp only [Act.put, List.getElem_toArray, List.getElem_cons_zero, List.getElem_cons_succ, List.setIfInBounds_toArray, List.set_cons_zero, List.set_cons_succ]
                refine wpAnyH_take (i := 13) (v := .int .i64 (jj : Int)) rfl (by kernel_rfl) (by kernel_rfl) (by kernel_rfl) (fun _ _ _ h => h) (Or.inl ⟨by rfl, fun w' hS => by go_simp⟩) hHeld ?_
                simp only [Act.put, List.getElem_toArray, List.getElem_cons_zero, List.getElem_cons_succ, List.setIfInBounds_toArray, List.set_cons_zero, List.set_cons_succ]
                refine wpAnyH_take (i := 14) (v := .pointer (some ⟨gy, jj * 2, none⟩)) rfl (by kernel_rfl) (by kernel_rfl) (by kernel_rfl) (fun _ _ _ h => h) (Or.inl ⟨by rfl, fun w' hS => by go_simp⟩) hHeld ?_
                simp only [Act.put, List.getElem_toArray, List.getElem_cons_zero, List.getElem_cons_succ, List.setIfInBounds_toArray, List.set_cons_zero, List.set_cons_succ]
                refine wpAnyH_take (i := 15) (v := .agg #[.int .i64 xx.b.t, .slice (some ⟨xx.g, 0, none⟩) 2 2]) rfl (by kernel_rfl) (by kernel_rfl) (by kernel_rfl) (fun _ _ _ h => h) (Or.inl ⟨by rfl, fun w' hS => by (obtain ⟨h0, h1, h2, h3, h4⟩ := hS; go_simp)⟩) hHeld ?_
                simp only [Act.put, List.getElem_toArray, List.getElem_cons_zero, List.getElem_cons_succ, List.setIfInBounds_toArray, List.set_cons_zero, List.set_cons_succ]
                refine wpAnyH_ready (rs := [16]) (by kernel_rfl) (by simp) ?_
                refine AllReadyH.cons rfl (fun K hK => ?_) AllReadyH.nil
                go_simp
                refine (HHd.out _ (HBd.out.trans (Below.refl _ _).drew)).mono ?_
                rintro e w8 ⟨rfl, T8⟩
                have HM8 : Hid (Ms E w8 B0 (k + 1) pt ps (fun i => if i = 0 then b0 else b1) (upd A me Da) T S v) := (HMd.out.still (Below.refl _ _).drew).dt hm2 T8 (Nat.le_succ _) (by omega) HDab.out
                have t8 := HM8.out
                have t9 := bz_of t8 HeD.out HeI.out hm2
                have t10 := bz_of t8 HeD.out HeI.out hyo2
                rw [← Hbm.out] at t9
                rw [← Hiy.out] at t10
                have hno8 : ∀ g, pt ≤ g → ¬ (A me).own g := fun g hg e => by have := HMc.out.lt me hm2 g e; omega
                have hgyE := HgyE.out
                refine hK.out _ _ ⟨t9.1, t10.2, (by have e := t8.cellT hyo2; rw [Hvy.out] at e; exact e), cell_keep' T8.kept (hno8 _ hgyE) (cell_drew d0), cell_keep' T8.kept (hno8 _ hgyE) (cell_drew d1)⟩ (fun hHeld => ?_)
                clear hK K t8 t9 t10 hno8 hgyE T8
                refine wpAnyH_done (by kernel_rfl) ?_ _
                clear hHeld
                clear dD dI dT d0 d1 z2d
                go_wp2_with (fail)
                go_meet
                exact ⟨_, _, _, _, L, rfl, HM8.out, HPu2.out, HPh2.out⟩
          · by_cases h3k : x.k = 3
            · as_aux_lemma =>
              have HLv : Hid (Calls Try.prog 12 #[.pointer (some ⟨bm, 0, none⟩)] wc fun e w' => e = .returned (.tuple #[]) ∧ Dtep wc w' (A me) (A me).gone B0 k) := by
                have := leave_any (HMc.out.ok me hm2)
                rw [HMc.out.bb me hm2, ← Hbm.out] at this
                exact this
              have t1 : (x.k == 1) = false := by simp [h1k]
              have t2 : (x.k == 2) = false := by simp [h2k]
              have t3 : (x.k == 3) = true := by simp [h3k]
              clear h1k h2k h3k
              go_wp2_with (fail)
              refine HLv.out.mono ?_
              rintro e w3 ⟨rfl, T3⟩
              have HM3 : Hid (Ms E w3 B0 k pt ps (fun i => if i = 0 then b0 else b1) (upd A me (A me).gone) T S v) := HMc.out.dt hm2 T3 (Nat.le_refl _) (by omega) rfl
              clear T3
              go_wp2_with (fail)
              go_meet
              exact ⟨_, T, S, v, true, rfl, HM3.out.up (by omega), HP.out.gone HMp.out hm2, fun _ h => by cases h⟩
            · as_aux_lemma =>
              have hk1 : (x.k == 1) = false := by simp [h1k]
              have hk2 : (x.k == 2) = false := by simp [h2k]
              have hk3 : (x.k == 3) = false := by simp [h3k]
              have HPh2 : Hid (n ≤ k → L = false → Ph A T (k + 1 - n)) := fun h1 h2 => by
                obtain ⟨e1, e2⟩ := HEn.out h1
                have := endS_kind (j := k - n) (by omega)
                rw [← e1] at this
                omega
              clear h1k h2k h3k
              go_wp2_with (fail)
              go_meet
              exact ⟨A, T, S, v, L, rfl, HMc.out.up (by omega), HP.out.same, HPh2.out⟩
      case rest =>
      obtain ⟨A', T', S', v', L', rfl, hM, hP, hPh⟩ := hcut
      have cD := (bz_of hM HeD.out HeI.out hm2).1
      have cI := (bz_of hM HeD.out HeI.out hm2).2
      rw [← Hbm.out] at cD
      rw [← Him.out] at cI
      have hmp : Mp (A' me) me (1 - me) := hM.mp hP hm2
      have hoI : (A' me).inc = im := by rw [hP.inc' hm2, Him.out]
      have hoY : (A' you).inc = iy := by rw [hP.inc' hyo2, Hiy.out]
      have HEs : Hid (∀ w', Below wc.heap.size wc w' → Calls Try.prog 13 #[.pointer (some ⟨bm, 0, none⟩)] w' fun e w2 => ∃ u, e = .returned u ∧ IsI w' w2 2 (A' me).ests u) := fun w' hb => by
        have := est_any ((hM.still hb).ok me hm2)
        rw [hM.bb me hm2, ← Hbm.out, (hP.nn me hm2).1] at this
        exact this
      have Hle : Hid ((A' me).ests.length = 2) := len_ests hmp
      have Hown : Hid (atI (A' me).ests (me : Int) = im) := (atI_own hmp).trans hoI
      have Hoth : Hid (atI (A' me).ests (you : Int) ≠ 0 → atI (A' me).ests (you : Int) = iy ∧ S' you = true ∧ ((A' you).pe me).known = im) := fun hv => by
        have := (hP.hf me hm2).est hmp (by rw [← Hyo.out]; exact hv)
        rw [← Hyo.out, hoY, hoI] at this
        exact this
      have HKn : Hid (((A' you).pe me).known = im → ∀ w', Below wc.heap.size wc w' → Calls Try.prog 14 #[.pointer (some ⟨bY, 0, none⟩), .int .i64 (me : Int)] w' fun e w2 => e = .returned (.int .i64 im) ∧ w' = w2) := fun hk w' hb => by
        have := known_any ((hM.still hb).ok you hyo2) (me : Int)
        rw [hM.bb you hyo2, ← HbY.out] at this
        have e1 : (A' you).known (me : Int) = im := by
          have hm3 : Mp (A' you) you (1 - you) := hM.mp hP hyo2
          rw [show 1 - you = me by have := Hyo.out; omega] at hm3
          unfold De.known
          rw [if_neg (by rw [hm3.sf]; have := hm3.ne; omega), hm3.isI, if_pos rfl, Int.toNat_natCast, hk]
        rw [e1] at this
        exact this
      have HMw : Hid (Ms E wc B0 (k + 1) pt ps (fun i => if i = 0 then b0 else b1) A' T' S' v') := hM
      have HPw : Hid (Pu A' T' S' L' (k + 1) i0 i1) := hP
      have HPhw : Hid (n ≤ k → L' = false → Ph A' T' (k + 1 - n)) := hPh
      clear hM hP hPh hmp hoI hoY HP HPh HMp HEn
      go_wp2_with (fail)
      refine wp_region_held_drew (S := (fun w' => w'.cell? ⟨pd, me, none⟩ = some (.pointer (some ⟨bm, 0, none⟩)) ∧ w'.cell? ⟨bI, me, none⟩ = some (.int .i64 im))) (by kernel_rfl) ⟨cell_drew cD, cell_drew cI⟩ (fun hHeld => ?_)
      simp only [Act.put, List.size_toArray, List.length_cons, List.length_nil, Nat.zero_add]
      refine wpAnyH_take (i := 0) (v := .slice (some ⟨pd, 0, none⟩) 2 2) rfl (by kernel_rfl) (by kernel_rfl) (by kernel_rfl) (fun _ _ _ h => h) (Or.inl ⟨by rfl, fun w' hS => by go_simp⟩) hHeld ?_
      simp only [Act.put, List.getElem_toArray, List.getElem_cons_zero, List.getElem_cons_succ, List.setIfInBounds_toArray, List.set_cons_zero, List.set_cons_succ]
      refine wpAnyH_take (i := 1) (v := .int .i64 (me : Int)) rfl (by kernel_rfl) (by kernel_rfl) (by kernel_rfl) (fun _ _ _ h => h) (Or.inl ⟨by rfl, fun w' hS => by go_simp⟩) hHeld ?_
      simp only [Act.put, List.getElem_toArray, List.getElem_cons_zero, List.getElem_cons_succ, List.setIfInBounds_toArray, List.set_cons_zero, List.set_cons_succ]
      refine wpAnyH_take (i := 2) (v := .pointer (some ⟨pd, me, none⟩)) rfl (by kernel_rfl) (by kernel_rfl) (by kernel_rfl) (fun _ _ _ h => h) (Or.inl ⟨by rfl, fun w' hS => by go_simp⟩) hHeld ?_
      simp only [Act.put, List.getElem_toArray, List.getElem_cons_zero, List.getElem_cons_succ, List.setIfInBounds_toArray, List.set_cons_zero, List.set_cons_succ]
      refine wpAnyH_take (i := 3) (v := .pointer (some ⟨bm, 0, none⟩)) rfl (by kernel_rfl) (by kernel_rfl) (by kernel_rfl) (fun _ _ _ h => h) (Or.inl ⟨by rfl, fun w' hS => by (obtain ⟨h0, h1⟩ := hS; go_simp)⟩) hHeld ?_
      simp only [Act.put, List.getElem_toArray, List.getElem_cons_zero, List.getElem_cons_succ, List.setIfInBounds_toArray, List.set_cons_zero, List.set_cons_succ]
      refine wpAnyH_take (i := 5) (v := .int .i64 (me : Int)) rfl (by kernel_rfl) (by kernel_rfl) (by kernel_rfl) (fun _ _ _ h => h) (Or.inl ⟨by rfl, fun w' hS => by go_simp⟩) hHeld ?_
      simp only [Act.put, List.getElem_toArray, List.getElem_cons_zero, List.getElem_cons_succ, List.setIfInBounds_toArray, List.set_cons_zero, List.set_cons_succ]
      refine wpAnyH_take (i := 7) (v := .slice (some ⟨bI, 0, none⟩) 2 2) rfl (by kernel_rfl) (by kernel_rfl) (by kernel_rfl) (fun _ _ _ h => h) (Or.inl ⟨by rfl, fun w' hS => by go_simp⟩) hHeld ?_
      simp only [Act.put, List.getElem_toArray, List.getElem_cons_zero, List.getElem_cons_succ, List.setIfInBounds_toArray, List.set_cons_zero, List.set_cons_succ]
      refine wpAnyH_take (i := 8) (v := .int .i64 (me : Int)) rfl (by kernel_rfl) (by kernel_rfl) (by kernel_rfl) (fun _ _ _ h => h) (Or.inl ⟨by rfl, fun w' hS => by go_simp⟩) hHeld ?_
      simp only [Act.put, List.getElem_toArray, List.getElem_cons_zero, List.getElem_cons_succ, List.setIfInBounds_toArray, List.set_cons_zero, List.set_cons_succ]
      refine wpAnyH_take (i := 9) (v := .pointer (some ⟨bI, me, none⟩)) rfl (by kernel_rfl) (by kernel_rfl) (by kernel_rfl) (fun _ _ _ h => h) (Or.inl ⟨by rfl, fun w' hS => by go_simp⟩) hHeld ?_
      simp only [Act.put, List.getElem_toArray, List.getElem_cons_zero, List.getElem_cons_succ, List.setIfInBounds_toArray, List.set_cons_zero, List.set_cons_succ]
      refine wpAnyH_take (i := 10) (v := .int .i64 im) rfl (by kernel_rfl) (by kernel_rfl) (by kernel_rfl) (fun _ _ _ h => h) (Or.inl ⟨by rfl, fun w' hS => by (obtain ⟨h0, h1⟩ := hS; go_simp)⟩) hHeld ?_
      simp only [Act.put, List.getElem_toArray, List.getElem_cons_zero, List.getElem_cons_succ, List.setIfInBounds_toArray, List.set_cons_zero, List.set_cons_succ]
      refine wpAnyH_ready (rs := [4]) (by kernel_rfl) (by simp) ?_
      refine AllReadyH.cons rfl (fun K hK => ?_) AllReadyH.nil
      go_simp
      refine (HEs.out _ (Below.refl _ _).drew).mono ?_
      rintro e w4 ⟨uu, rfl, g4, rfl, hg4, hB4, hb4⟩
      have Hc4 : Hid (Below wc.heap.size wc w4) := bstep (Below.refl _ _).drew hb4
      have HA4 := at_any (c := 2) (BlkI.rd (w := w4) hB4 Hle.out) (me : Int)
      rw [Hown.out] at HA4
      refine hK.out _ _ ⟨below_at Hc4.out cD, below_at Hc4.out cI⟩ (fun hHeld => ?_)
      clear hK K
      refine wpAnyH_ready (rs := [6]) (by kernel_rfl) (by simp) ?_
      refine AllReadyH.cons rfl (fun K hK => ?_) AllReadyH.nil
      go_simp
      refine (HA4).mono ?_
      rintro e w5 ⟨rfl, rfl⟩
      refine hK.out _ _ ⟨below_at Hc4.out cD, below_at Hc4.out cI⟩ (fun hHeld => ?_)
      clear hK K
      refine wpAnyH_take (i := 11) (v := .bool false) rfl (by kernel_rfl) (by kernel_rfl) (by kernel_rfl) (fun _ _ _ h => h) (Or.inl ⟨by rfl, fun w' hS => by go_simp⟩) hHeld ?_
      simp only [Act.put, List.getElem_toArray, List.getElem_cons_zero, List.getElem_cons_succ, List.setIfInBounds_toArray, List.set_cons_zero, List.set_cons_succ]
      refine wpAnyH_done (by kernel_rfl) ?_ _
      clear hHeld
      have HMv : Hid (Ms E w4 B0 (k + 1) pt ps (fun i => if i = 0 then b0 else b1) A' T' S' v') := HMw.out.still Hc4.out
      have eD := below_at Hc4.out cD
      clear hg4 hB4 hb4 cD cI HA4
      go_wp2_with (fail)
      refine (HEs.out _ Hc4.out).mono ?_
      rintro e w6 ⟨uu, rfl, g6, rfl, hg6, hB6, hb6⟩
      have HA6 := at_any (c := 2) (BlkI.rd (w := w6) hB6 Hle.out) (you : Int)
      obtain ⟨vy, hvy⟩ : ∃ vy, atI (A' me).ests (you : Int) = vy := ⟨_, rfl⟩
      rw [hvy] at HA6 Hoth
      have Hc6 : Hid (Below wc.heap.size wc w6) := bstep Hc4.out hb6
      have HMu : Hid (Ms E w6 B0 (k + 1) pt ps (fun i => if i = 0 then b0 else b1) A' T' S' v') := HMw.out.still Hc6.out
      have eIy := (bz_of HMu.out HeD.out HeI.out hyo2).2
      have eDy := (bz_of HMu.out HeD.out HeI.out hyo2).1
      have eI := (bz_of HMu.out HeD.out HeI.out hm2).2
      have eS := HMu.out.cellS hyo2
      rw [← Hiy.out] at eIy
      rw [← HbY.out] at eDy
      rw [← Him.out] at eI
      have HKn6 : Hid (((A' you).pe me).known = im → ∀ w', Below w6.heap.size w6 w' → Calls Try.prog 14 #[.pointer (some ⟨bY, 0, none⟩), .int .i64 (me : Int)] w' fun e w2 => e = .returned (.int .i64 im) ∧ w' = w2) := fun hk w' hb => HKn.out hk w' (bstep Hc6.out hb)
      clear hvy hg6 hB6 hb6 eD HKn
      go_wp2_with (fail)
      refine HA6.mono ?_
      rintro e w7 ⟨rfl, rfl⟩
      clear HA6
      by_cases hyn0 : vy = 0
      · as_aux_lemma =>
        subst hyn0
        go_wp2_with (fail)
        refine wp_region_held_drew (S := (fun w' => w'.cell? ⟨bI, you, none⟩ = some (.int .i64 iy) ∧ w'.cell? ⟨ps, you, none⟩ = some (.bool (S' you)) ∧ w'.cell? ⟨pd, you, none⟩ = some (.pointer (some ⟨bY, 0, none⟩)) ∧ w'.cell? ⟨bI, me, none⟩ = some (.int .i64 im))) (by kernel_rfl) ⟨cell_drew eIy, cell_drew eS, cell_drew eDy, cell_drew eI⟩ (fun hHeld => ?_)
        simp only [Act.put, List.size_toArray, List.length_cons, List.length_nil, Nat.zero_add]
        refine wpAnyH_take (i := 0) (v := .int .i64 0) rfl (by kernel_rfl) (by kernel_rfl) (by kernel_rfl) (fun _ _ _ h => h) (Or.inl ⟨by rfl, fun w' hS => by go_simp⟩) hHeld ?_
        simp only [Act.put, List.getElem_toArray, List.getElem_cons_zero, List.getElem_cons_succ, List.setIfInBounds_toArray, List.set_cons_zero, List.set_cons_succ]
        refine wpAnyH_take (i := 1) (v := .bool false) rfl (by kernel_rfl) (by kernel_rfl) (by kernel_rfl) (fun _ _ _ h => h) (Or.inl ⟨by rfl, fun w' hS => by go_simp⟩) hHeld ?_
        simp only [Act.put, List.getElem_toArray, List.getElem_cons_zero, List.getElem_cons_succ, List.setIfInBounds_toArray, List.set_cons_zero, List.set_cons_succ]
        refine wpAnyH_take (i := 2) (v := .bool false) rfl (by kernel_rfl) (by kernel_rfl) (by kernel_rfl) (fun _ _ _ h => h) (Or.inl ⟨by rfl, fun w' hS => by go_simp⟩) hHeld ?_
        simp only [Act.put, List.getElem_toArray, List.getElem_cons_zero, List.getElem_cons_succ, List.setIfInBounds_toArray, List.set_cons_zero, List.set_cons_succ]
        refine wpAnyH_take (i := 3) (v := undef) rfl (by kernel_rfl) (by kernel_rfl) (by kernel_rfl) (fun _ _ _ h => h) (Or.inr ⟨by rfl, rfl⟩) hHeld ?_
        simp only [Act.put, List.getElem_toArray, List.getElem_cons_zero, List.getElem_cons_succ, List.setIfInBounds_toArray, List.set_cons_zero, List.set_cons_succ]
        refine wpAnyH_take (i := 4) (v := undef) rfl (by kernel_rfl) (by kernel_rfl) (by kernel_rfl) (fun _ _ _ h => h) (Or.inr ⟨by rfl, rfl⟩) hHeld ?_
        simp only [Act.put, List.getElem_toArray, List.getElem_cons_zero, List.getElem_cons_succ, List.setIfInBounds_toArray, List.set_cons_zero, List.set_cons_succ]
        refine wpAnyH_take (i := 5) (v := undef) rfl (by kernel_rfl) (by kernel_rfl) (by kernel_rfl) (fun _ _ _ h => h) (Or.inr ⟨by rfl, rfl⟩) hHeld ?_
        simp only [Act.put, List.getElem_toArray, List.getElem_cons_zero, List.getElem_cons_succ, List.setIfInBounds_toArray, List.set_cons_zero, List.set_cons_succ]
        refine wpAnyH_take (i := 6) (v := undef) rfl (by kernel_rfl) (by kernel_rfl) (by kernel_rfl) (fun _ _ _ h => h) (Or.inr ⟨by rfl, rfl⟩) hHeld ?_
        simp only [Act.put, List.getElem_toArray, List.getElem_cons_zero, List.getElem_cons_succ, List.setIfInBounds_toArray, List.set_cons_zero, List.set_cons_succ]
        refine wpAnyH_take (i := 7) (v := undef) rfl (by kernel_rfl) (by kernel_rfl) (by kernel_rfl) (fun _ _ _ h => h) (Or.inr ⟨by rfl, rfl⟩) hHeld ?_
        simp only [Act.put, List.getElem_toArray, List.getElem_cons_zero, List.getElem_cons_succ, List.setIfInBounds_toArray, List.set_cons_zero, List.set_cons_succ]
        refine wpAnyH_take (i := 8) (v := undef) rfl (by kernel_rfl) (by kernel_rfl) (by kernel_rfl) (fun _ _ _ h => h) (Or.inr ⟨by rfl, rfl⟩) hHeld ?_
        simp only [Act.put, List.getElem_toArray, List.getElem_cons_zero, List.getElem_cons_succ, List.setIfInBounds_toArray, List.set_cons_zero, List.set_cons_succ]
        refine wpAnyH_take (i := 9) (v := undef) rfl (by kernel_rfl) (by kernel_rfl) (by kernel_rfl) (fun _ _ _ h => h) (Or.inr ⟨by rfl, rfl⟩) hHeld ?_
        simp only [Act.put, List.getElem_toArray, List.getElem_cons_zero, List.getElem_cons_succ, List.setIfInBounds_toArray, List.set_cons_zero, List.set_cons_succ]
        refine wpAnyH_take (i := 10) (v := undef) rfl (by kernel_rfl) (by kernel_rfl) (by kernel_rfl) (fun _ _ _ h => h) (Or.inr ⟨by rfl, rfl⟩) hHeld ?_
        simp only [Act.put, List.getElem_toArray, List.getElem_cons_zero, List.getElem_cons_succ, List.setIfInBounds_toArray, List.set_cons_zero, List.set_cons_succ]
        refine wpAnyH_take (i := 11) (v := undef) rfl (by kernel_rfl) (by kernel_rfl) (by kernel_rfl) (fun _ _ _ h => h) (Or.inr ⟨by rfl, rfl⟩) hHeld ?_
        simp only [Act.put, List.getElem_toArray, List.getElem_cons_zero, List.getElem_cons_succ, List.setIfInBounds_toArray, List.set_cons_zero, List.set_cons_succ]
        refine wpAnyH_take (i := 12) (v := undef) rfl (by kernel_rfl) (by kernel_rfl) (by kernel_rfl) (fun _ _ _ h => h) (Or.inr ⟨by rfl, rfl⟩) hHeld ?_
        simp only [Act.put, List.getElem_toArray, List.getElem_cons_zero, List.getElem_cons_succ, List.setIfInBounds_toArray, List.set_cons_zero, List.set_cons_succ]
        refine wpAnyH_take (i := 13) (v := undef) rfl (by kernel_rfl) (by kernel_rfl) (by kernel_rfl) (fun _ _ _ h => h) (Or.inr ⟨by rfl, rfl⟩) hHeld ?_
        simp only [Act.put, List.getElem_toArray, List.getElem_cons_zero, List.getElem_cons_succ, List.setIfInBounds_toArray, List.set_cons_zero, List.set_cons_succ]
        refine wpAnyH_take (i := 14) (v := undef) rfl (by kernel_rfl) (by kernel_rfl) (by kernel_rfl) (fun _ _ _ h => h) (Or.inr ⟨by rfl, rfl⟩) hHeld ?_
        simp only [Act.put, List.getElem_toArray, List.getElem_cons_zero, List.getElem_cons_succ, List.setIfInBounds_toArray, List.set_cons_zero, List.set_cons_succ]
        refine wpAnyH_take (i := 15) (v := undef) rfl (by kernel_rfl) (by kernel_rfl) (by kernel_rfl) (fun _ _ _ h => h) (Or.inr ⟨by rfl, rfl⟩) hHeld ?_
        simp only [Act.put, List.getElem_toArray, List.getElem_cons_zero, List.getElem_cons_succ, List.setIfInBounds_toArray, List.set_cons_zero, List.set_cons_succ]
        refine wpAnyH_take (i := 16) (v := undef) rfl (by kernel_rfl) (by kernel_rfl) (by kernel_rfl) (fun _ _ _ h => h) (Or.inr ⟨by rfl, rfl⟩) hHeld ?_
        simp only [Act.put, List.getElem_toArray, List.getElem_cons_zero, List.getElem_cons_succ, List.setIfInBounds_toArray, List.set_cons_zero, List.set_cons_succ]
        refine wpAnyH_take (i := 17) (v := undef) rfl (by kernel_rfl) (by kernel_rfl) (by kernel_rfl) (fun _ _ _ h => h) (Or.inr ⟨by rfl, rfl⟩) hHeld ?_
        simp only [Act.put, List.getElem_toArray, List.getElem_cons_zero, List.getElem_cons_succ, List.setIfInBounds_toArray, List.set_cons_zero, List.set_cons_succ]
        refine wpAnyH_take (i := 18) (v := undef) rfl (by kernel_rfl) (by kernel_rfl) (by kernel_rfl) (fun _ _ _ h => h) (Or.inr ⟨by rfl, rfl⟩) hHeld ?_
        simp only [Act.put, List.getElem_toArray, List.getElem_cons_zero, List.getElem_cons_succ, List.setIfInBounds_toArray, List.set_cons_zero, List.set_cons_succ]
        refine wpAnyH_take (i := 19) (v := undef) rfl (by kernel_rfl) (by kernel_rfl) (by kernel_rfl) (fun _ _ _ h => h) (Or.inr ⟨by rfl, rfl⟩) hHeld ?_
        simp only [Act.put, List.getElem_toArray, List.getElem_cons_zero, List.getElem_cons_succ, List.setIfInBounds_toArray, List.set_cons_zero, List.set_cons_succ]
        refine wpAnyH_take (i := 20) (v := undef) rfl (by kernel_rfl) (by kernel_rfl) (by kernel_rfl) (fun _ _ _ h => h) (Or.inr ⟨by rfl, rfl⟩) hHeld ?_
        simp only [Act.put, List.getElem_toArray, List.getElem_cons_zero, List.getElem_cons_succ, List.setIfInBounds_toArray, List.set_cons_zero, List.set_cons_succ]
        refine wpAnyH_take (i := 21) (v := undef) rfl (by kernel_rfl) (by kernel_rfl) (by kernel_rfl) (fun _ _ _ h => h) (Or.inr ⟨by rfl, rfl⟩) hHeld ?_
        simp only [Act.put, List.getElem_toArray, List.getElem_cons_zero, List.getElem_cons_succ, List.setIfInBounds_toArray, List.set_cons_zero, List.set_cons_succ]
        refine wpAnyH_take (i := 22) (v := undef) rfl (by kernel_rfl) (by kernel_rfl) (by kernel_rfl) (fun _ _ _ h => h) (Or.inr ⟨by rfl, rfl⟩) hHeld ?_
        simp only [Act.put, List.getElem_toArray, List.getElem_cons_zero, List.getElem_cons_succ, List.setIfInBounds_toArray, List.set_cons_zero, List.set_cons_succ]
        refine wpAnyH_take (i := 23) (v := undef) rfl (by kernel_rfl) (by kernel_rfl) (by kernel_rfl) (fun _ _ _ h => h) (Or.inr ⟨by rfl, rfl⟩) hHeld ?_
        simp only [Act.put, List.getElem_toArray, List.getElem_cons_zero, List.getElem_cons_succ, List.setIfInBounds_toArray, List.set_cons_zero, List.set_cons_succ]
        refine wpAnyH_take (i := 24) (v := undef) rfl (by kernel_rfl) (by kernel_rfl) (by kernel_rfl) (fun _ _ _ h => h) (Or.inr ⟨by rfl, rfl⟩) hHeld ?_
        simp only [Act.put, List.getElem_toArray, List.getElem_cons_zero, List.getElem_cons_succ, List.setIfInBounds_toArray, List.set_cons_zero, List.set_cons_succ]
        refine wpAnyH_take (i := 25) (v := undef) rfl (by kernel_rfl) (by kernel_rfl) (by kernel_rfl) (fun _ _ _ h => h) (Or.inr ⟨by rfl, rfl⟩) hHeld ?_
        simp only [Act.put, List.getElem_toArray, List.getElem_cons_zero, List.getElem_cons_succ, List.setIfInBounds_toArray, List.set_cons_zero, List.set_cons_succ]
        refine wpAnyH_take (i := 26) (v := undef) rfl (by kernel_rfl) (by kernel_rfl) (by kernel_rfl) (fun _ _ _ h => h) (Or.inr ⟨by rfl, rfl⟩) hHeld ?_
        simp only [Act.put, List.getElem_toArray, List.getElem_cons_zero, List.getElem_cons_succ, List.setIfInBounds_toArray, List.set_cons_zero, List.set_cons_succ]
        refine wpAnyH_take (i := 27) (v := undef) rfl (by kernel_rfl) (by kernel_rfl) (by kernel_rfl) (fun _ _ _ h => h) (Or.inr ⟨by rfl, rfl⟩) hHeld ?_
        simp only [Act.put, List.getElem_toArray, List.getElem_cons_zero, List.getElem_cons_succ, List.setIfInBounds_toArray, List.set_cons_zero, List.set_cons_succ]
        refine wpAnyH_take (i := 28) (v := undef) rfl (by kernel_rfl) (by kernel_rfl) (by kernel_rfl) (fun _ _ _ h => h) (Or.inr ⟨by rfl, rfl⟩) hHeld ?_
        simp only [Act.put, List.getElem_toArray, List.getElem_cons_zero, List.getElem_cons_succ, List.setIfInBounds_toArray, List.set_cons_zero, List.set_cons_succ]
        refine wpAnyH_take (i := 29) (v := .bool false) rfl (by kernel_rfl) (by kernel_rfl) (by kernel_rfl) (fun _ _ _ h => h) (Or.inl ⟨by rfl, fun w' hS => by go_simp⟩) hHeld ?_
        simp only [Act.put, List.getElem_toArray, List.getElem_cons_zero, List.getElem_cons_succ, List.setIfInBounds_toArray, List.set_cons_zero, List.set_cons_succ]
        refine wpAnyH_done (by kernel_rfl) ?_ _
        clear hHeld
        clear eIy eDy eI eS
        go_wp2_with (fail)
        first
          | exact ⟨⟨k + 1, A', T', S', v', L', by omega, by go_num, rfl, HMu.out.still (Below.refl _ _).drew, HPw.out, HPhN.out HPhw.out⟩, by simp [intOf]; omega⟩
          | (go_roundw
             case rel => (repeat apply Exists.intro); exact ⟨⟨k + 1, A', T', S', v', L', by omega, by go_num, rfl, HMu.out.still (Below.refl _ _).drew, HPw.out, HPhN.out HPhw.out⟩, rfl⟩
             case measure => simp [intOf]; omega)
      · as_aux_lemma =>
        obtain ⟨hy1, hy2, hy3⟩ := Hoth.out hyn0
        subst hy1
        rw [hy2] at eS
        have HKn : Hid (∀ w', Below w6.heap.size w6 w' → Calls Try.prog 14 #[.pointer (some ⟨bY, 0, none⟩), .int .i64 (me : Int)] w' fun e w2 => e = .returned (.int .i64 im) ∧ w' = w2) := HKn6.out hy3
        clear hy2 hy3 HKn6 Hoth
        go_wp2_with (fail)
        refine wp_region_held_drew (S := (fun w' => w'.cell? ⟨bI, you, none⟩ = some (.int .i64 vy) ∧ w'.cell? ⟨ps, you, none⟩ = some (.bool true) ∧ w'.cell? ⟨pd, you, none⟩ = some (.pointer (some ⟨bY, 0, none⟩)) ∧ w'.cell? ⟨bI, me, none⟩ = some (.int .i64 im))) (by kernel_rfl) ⟨cell_drew eIy, cell_drew eS, cell_drew eDy, cell_drew eI⟩ (fun hHeld => ?_)
        simp only [Act.put, List.size_toArray, List.length_cons, List.length_nil, Nat.zero_add]
        refine wpAnyH_take (i := 0) (v := .int .i64 vy) rfl (by kernel_rfl) (by kernel_rfl) (by kernel_rfl) (fun _ _ _ h => h) (Or.inl ⟨by rfl, fun w' hS => by go_simp⟩) hHeld ?_
        simp only [Act.put, List.getElem_toArray, List.getElem_cons_zero, List.getElem_cons_succ, List.setIfInBounds_toArray, List.set_cons_zero, List.set_cons_succ]
        refine wpAnyH_take (i := 1) (v := .bool true) rfl (by kernel_rfl) (by kernel_rfl) (by kernel_rfl) (fun _ _ _ h => h) (Or.inl ⟨by rfl, fun w' hS => by (go_simp <;> first | exact hyn0 | simp [hyn0])⟩) hHeld ?_
        simp only [Act.put, List.getElem_toArray, List.getElem_cons_zero, List.getElem_cons_succ, List.setIfInBounds_toArray, List.set_cons_zero, List.set_cons_succ]
        refine wpAnyH_take (i := 2) (v := .bool true) rfl (by kernel_rfl) (by kernel_rfl) (by kernel_rfl) (fun _ _ _ h => h) (Or.inl ⟨by rfl, fun w' hS => by go_simp⟩) hHeld ?_
        simp only [Act.put, List.getElem_toArray, List.getElem_cons_zero, List.getElem_cons_succ, List.setIfInBounds_toArray, List.set_cons_zero, List.set_cons_succ]
        refine wpAnyH_take (i := 3) (v := .int .i64 vy) rfl (by kernel_rfl) (by kernel_rfl) (by kernel_rfl) (fun _ _ _ h => h) (Or.inl ⟨by rfl, fun w' hS => by go_simp⟩) hHeld ?_
        simp only [Act.put, List.getElem_toArray, List.getElem_cons_zero, List.getElem_cons_succ, List.setIfInBounds_toArray, List.set_cons_zero, List.set_cons_succ]
        refine wpAnyH_take (i := 4) (v := .slice (some ⟨bI, 0, none⟩) 2 2) rfl (by kernel_rfl) (by kernel_rfl) (by kernel_rfl) (fun _ _ _ h => h) (Or.inl ⟨by rfl, fun w' hS => by go_simp⟩) hHeld ?_
        simp only [Act.put, List.getElem_toArray, List.getElem_cons_zero, List.getElem_cons_succ, List.setIfInBounds_toArray, List.set_cons_zero, List.set_cons_succ]
        refine wpAnyH_take (i := 5) (v := .int .i64 (you : Int)) rfl (by kernel_rfl) (by kernel_rfl) (by kernel_rfl) (fun _ _ _ h => h) (Or.inl ⟨by rfl, fun w' hS => by go_simp⟩) hHeld ?_
        simp only [Act.put, List.getElem_toArray, List.getElem_cons_zero, List.getElem_cons_succ, List.setIfInBounds_toArray, List.set_cons_zero, List.set_cons_succ]
        refine wpAnyH_take (i := 6) (v := .pointer (some ⟨bI, you, none⟩)) rfl (by kernel_rfl) (by kernel_rfl) (by kernel_rfl) (fun _ _ _ h => h) (Or.inl ⟨by rfl, fun w' hS => by go_simp⟩) hHeld ?_
        simp only [Act.put, List.getElem_toArray, List.getElem_cons_zero, List.getElem_cons_succ, List.setIfInBounds_toArray, List.set_cons_zero, List.set_cons_succ]
        refine wpAnyH_take (i := 7) (v := .int .i64 vy) rfl (by kernel_rfl) (by kernel_rfl) (by kernel_rfl) (fun _ _ _ h => h) (Or.inl ⟨by rfl, fun w' hS => by (obtain ⟨h0, h1, h2, h3⟩ := hS; go_simp)⟩) hHeld ?_
        simp only [Act.put, List.getElem_toArray, List.getElem_cons_zero, List.getElem_cons_succ, List.setIfInBounds_toArray, List.set_cons_zero, List.set_cons_succ]
        refine wpAnyH_take (i := 8) (v := .bool false) rfl (by kernel_rfl) (by kernel_rfl) (by kernel_rfl) (fun _ _ _ h => h) (Or.inl ⟨by rfl, fun w' hS => by go_simp⟩) hHeld ?_
        simp only [Act.put, List.getElem_toArray, List.getElem_cons_zero, List.getElem_cons_succ, List.setIfInBounds_toArray, List.set_cons_zero, List.set_cons_succ]
        refine wpAnyH_take (i := 9) (v := .bool false) rfl (by kernel_rfl) (by kernel_rfl) (by kernel_rfl) (fun _ _ _ h => h) (Or.inl ⟨by rfl, fun w' hS => by go_simp⟩) hHeld ?_
        simp only [Act.put, List.getElem_toArray, List.getElem_cons_zero, List.getElem_cons_succ, List.setIfInBounds_toArray, List.set_cons_zero, List.set_cons_succ]
        refine wpAnyH_take (i := 10) (v := .slice (some ⟨ps, 0, none⟩) 2 2) rfl (by kernel_rfl) (by kernel_rfl) (by kernel_rfl) (fun _ _ _ h => h) (Or.inl ⟨by rfl, fun w' hS => by go_simp⟩) hHeld ?_
        simp only [Act.put, List.getElem_toArray, List.getElem_cons_zero, List.getElem_cons_succ, List.setIfInBounds_toArray, List.set_cons_zero, List.set_cons_succ]
        refine wpAnyH_take (i := 11) (v := .int .i64 (you : Int)) rfl (by kernel_rfl) (by kernel_rfl) (by kernel_rfl) (fun _ _ _ h => h) (Or.inl ⟨by rfl, fun w' hS => by go_simp⟩) hHeld ?_
        simp only [Act.put, List.getElem_toArray, List.getElem_cons_zero, List.getElem_cons_succ, List.setIfInBounds_toArray, List.set_cons_zero, List.set_cons_succ]
        refine wpAnyH_take (i := 12) (v := .pointer (some ⟨ps, you, none⟩)) rfl (by kernel_rfl) (by kernel_rfl) (by kernel_rfl) (fun _ _ _ h => h) (Or.inl ⟨by rfl, fun w' hS => by go_simp⟩) hHeld ?_
        simp only [Act.put, List.getElem_toArray, List.getElem_cons_zero, List.getElem_cons_succ, List.setIfInBounds_toArray, List.set_cons_zero, List.set_cons_succ]
        refine wpAnyH_take (i := 13) (v := .bool true) rfl (by kernel_rfl) (by kernel_rfl) (by kernel_rfl) (fun _ _ _ h => h) (Or.inl ⟨by rfl, fun w' hS => by (obtain ⟨h0, h1, h2, h3⟩ := hS; go_simp)⟩) hHeld ?_
        simp only [Act.put, List.getElem_toArray, List.getElem_cons_zero, List.getElem_cons_succ, List.setIfInBounds_toArray, List.set_cons_zero, List.set_cons_succ]
        refine wpAnyH_take (i := 14) (v := .bool false) rfl (by kernel_rfl) (by kernel_rfl) (by kernel_rfl) (fun _ _ _ h => h) (Or.inl ⟨by rfl, fun w' hS => by go_simp⟩) hHeld ?_
        simp only [Act.put, List.getElem_toArray, List.getElem_cons_zero, List.getElem_cons_succ, List.setIfInBounds_toArray, List.set_cons_zero, List.set_cons_succ]
        refine wpAnyH_take (i := 15) (v := .bool false) rfl (by kernel_rfl) (by kernel_rfl) (by kernel_rfl) (fun _ _ _ h => h) (Or.inl ⟨by rfl, fun w' hS => by go_simp⟩) hHeld ?_
        simp only [Act.put, List.getElem_toArray, List.getElem_cons_zero, List.getElem_cons_succ, List.setIfInBounds_toArray, List.set_cons_zero, List.set_cons_succ]
        refine wpAnyH_take (i := 16) (v := .bool false) rfl (by kernel_rfl) (by kernel_rfl) (by kernel_rfl) (fun _ _ _ h => h) (Or.inl ⟨by rfl, fun w' hS => by go_simp⟩) hHeld ?_
        simp only [Act.put, List.getElem_toArray, List.getElem_cons_zero, List.getElem_cons_succ, List.setIfInBounds_toArray, List.set_cons_zero, List.set_cons_succ]
        refine wpAnyH_take (i := 17) (v := .slice (some ⟨pd, 0, none⟩) 2 2) rfl (by kernel_rfl) (by kernel_rfl) (by kernel_rfl) (fun _ _ _ h => h) (Or.inl ⟨by rfl, fun w' hS => by go_simp⟩) hHeld ?_
        simp only [Act.put, List.getElem_toArray, List.getElem_cons_zero, List.getElem_cons_succ, List.setIfInBounds_toArray, List.set_cons_zero, List.set_cons_succ]
        refine wpAnyH_take (i := 18) (v := .int .i64 (you : Int)) rfl (by kernel_rfl) (by kernel_rfl) (by kernel_rfl) (fun _ _ _ h => h) (Or.inl ⟨by rfl, fun w' hS => by go_simp⟩) hHeld ?_
        simp only [Act.put, List.getElem_toArray, List.getElem_cons_zero, List.getElem_cons_succ, List.setIfInBounds_toArray, List.set_cons_zero, List.set_cons_succ]
        refine wpAnyH_take (i := 19) (v := .pointer (some ⟨pd, you, none⟩)) rfl (by kernel_rfl) (by kernel_rfl) (by kernel_rfl) (fun _ _ _ h => h) (Or.inl ⟨by rfl, fun w' hS => by go_simp⟩) hHeld ?_
        simp only [Act.put, List.getElem_toArray, List.getElem_cons_zero, List.getElem_cons_succ, List.setIfInBounds_toArray, List.set_cons_zero, List.set_cons_succ]
        refine wpAnyH_take (i := 20) (v := .pointer (some ⟨bY, 0, none⟩)) rfl (by kernel_rfl) (by kernel_rfl) (by kernel_rfl) (fun _ _ _ h => h) (Or.inl ⟨by rfl, fun w' hS => by (obtain ⟨h0, h1, h2, h3⟩ := hS; go_simp)⟩) hHeld ?_
        simp only [Act.put, List.getElem_toArray, List.getElem_cons_zero, List.getElem_cons_succ, List.setIfInBounds_toArray, List.set_cons_zero, List.set_cons_succ]
        refine wpAnyH_take (i := 21) (v := .int .i64 (me : Int)) rfl (by kernel_rfl) (by kernel_rfl) (by kernel_rfl) (fun _ _ _ h => h) (Or.inl ⟨by rfl, fun w' hS => by go_simp⟩) hHeld ?_
        simp only [Act.put, List.getElem_toArray, List.getElem_cons_zero, List.getElem_cons_succ, List.setIfInBounds_toArray, List.set_cons_zero, List.set_cons_succ]
        refine wpAnyH_take (i := 23) (v := .slice (some ⟨bI, 0, none⟩) 2 2) rfl (by kernel_rfl) (by kernel_rfl) (by kernel_rfl) (fun _ _ _ h => h) (Or.inl ⟨by rfl, fun w' hS => by go_simp⟩) hHeld ?_
        simp only [Act.put, List.getElem_toArray, List.getElem_cons_zero, List.getElem_cons_succ, List.setIfInBounds_toArray, List.set_cons_zero, List.set_cons_succ]
        refine wpAnyH_take (i := 24) (v := .int .i64 (me : Int)) rfl (by kernel_rfl) (by kernel_rfl) (by kernel_rfl) (fun _ _ _ h => h) (Or.inl ⟨by rfl, fun w' hS => by go_simp⟩) hHeld ?_
        simp only [Act.put, List.getElem_toArray, List.getElem_cons_zero, List.getElem_cons_succ, List.setIfInBounds_toArray, List.set_cons_zero, List.set_cons_succ]
        refine wpAnyH_take (i := 25) (v := .pointer (some ⟨bI, me, none⟩)) rfl (by kernel_rfl) (by kernel_rfl) (by kernel_rfl) (fun _ _ _ h => h) (Or.inl ⟨by rfl, fun w' hS => by go_simp⟩) hHeld ?_
        simp only [Act.put, List.getElem_toArray, List.getElem_cons_zero, List.getElem_cons_succ, List.setIfInBounds_toArray, List.set_cons_zero, List.set_cons_succ]
        refine wpAnyH_take (i := 26) (v := .int .i64 im) rfl (by kernel_rfl) (by kernel_rfl) (by kernel_rfl) (fun _ _ _ h => h) (Or.inl ⟨by rfl, fun w' hS => by (obtain ⟨h0, h1, h2, h3⟩ := hS; go_simp)⟩) hHeld ?_
        simp only [Act.put, List.getElem_toArray, List.getElem_cons_zero, List.getElem_cons_succ, List.setIfInBounds_toArray, List.set_cons_zero, List.set_cons_succ]
        refine wpAnyH_ready (rs := [22]) (by kernel_rfl) (by simp) ?_
        refine AllReadyH.cons rfl (fun K hK => ?_) AllReadyH.nil
        go_simp
        refine (HKn.out _ (Below.refl _ _).drew).mono ?_
        rintro e w9 ⟨rfl, rfl⟩
        refine hK.out _ _ ⟨cell_drew eIy, cell_drew eS, cell_drew eDy, cell_drew eI⟩ (fun hHeld => ?_)
        clear hK K
        refine wpAnyH_take (i := 27) (v := .bool false) rfl (by kernel_rfl) (by kernel_rfl) (by kernel_rfl) (fun _ _ _ h => h) (Or.inl ⟨by rfl, fun w' hS => by go_simp⟩) hHeld ?_
        simp only [Act.put, List.getElem_toArray, List.getElem_cons_zero, List.getElem_cons_succ, List.setIfInBounds_toArray, List.set_cons_zero, List.set_cons_succ]
        refine wpAnyH_take (i := 28) (v := .bool false) rfl (by kernel_rfl) (by kernel_rfl) (by kernel_rfl) (fun _ _ _ h => h) (Or.inl ⟨by rfl, fun w' hS => by go_simp⟩) hHeld ?_
        simp only [Act.put, List.getElem_toArray, List.getElem_cons_zero, List.getElem_cons_succ, List.setIfInBounds_toArray, List.set_cons_zero, List.set_cons_succ]
        refine wpAnyH_take (i := 29) (v := .bool false) rfl (by kernel_rfl) (by kernel_rfl) (by kernel_rfl) (fun _ _ _ h => h) (Or.inl ⟨by rfl, fun w' hS => by go_simp⟩) hHeld ?_
        simp only [Act.put, List.getElem_toArray, List.getElem_cons_zero, List.getElem_cons_succ, List.setIfInBounds_toArray, List.set_cons_zero, List.set_cons_succ]
        refine wpAnyH_done (by kernel_rfl) ?_ _
        clear hHeld
        clear eIy eDy eI eS
        go_wp2_with (fail)
        first
          | exact ⟨⟨k + 1, A', T', S', v', L', by omega, by go_num, rfl, HMu.out.still (Below.refl _ _).drew, HPw.out, HPhN.out HPhw.out⟩, by simp [intOf]; omega⟩
          | (go_roundw
             case rel => (repeat apply Exists.intro); exact ⟨⟨k + 1, A', T', S', v', L', by omega, by go_num, rfl, HMu.out.still (Below.refl _ _).drew, HPw.out, HPhN.out HPhw.out⟩, rfl⟩
             case measure => simp [intOf]; omega)
    · as_aux_lemma =>
      obtain rfl : k = n + 8 := by omega
      have hl1 : ¬ ((n + 8 : Nat) : Int) < (n : Int) + 8 := by omega
      have cT := blk_cell (hM.at0 HeT.out.1 (.inl HeT.out.2))
      have c0 : wr.cell? ⟨w.heap.size, 0, none⟩ = some (.int .i64 i0) := cT 0
      have c1 : wr.cell? ⟨w.heap.size, 1, none⟩ = some (.int .i64 i1) := cT 1
      have HE0 : Hid (∀ w', Below wr.heap.size wr w' → Calls Try.prog 13 #[.pointer (some ⟨b0, 0, none⟩)] w' fun e w2 => ∃ u, e = .returned u ∧ IsI w' w2 2 (A 0).ests u) := fun w' hb => by
        have := est_any ((hM.still hb).ok 0 (by omega))
        rw [hM.bb 0 (by omega), (hP.nn 0 (by omega)).1] at this
        exact this
      have HE1 : Hid (∀ w', Below wr.heap.size wr w' → Calls Try.prog 13 #[.pointer (some ⟨b1, 0, none⟩)] w' fun e w2 => ∃ u, e = .returned u ∧ IsI w' w2 2 (A 1).ests u) := fun w' hb => by
        have := est_any ((hM.still hb).ok 1 (by omega))
        rw [hM.bb 1 (by omega), (hP.nn 1 (by omega)).1] at this
        exact this
      have hp0 : Mp (A 0) 0 (1 - 0) := hM.mp hP (by omega)
      have hp1 : Mp (A 1) 1 (1 - 1) := hM.mp hP (by omega)
      have HL0 : Hid ((A 0).ests.length = 2) := len_ests hp0
      have HL1 : Hid ((A 1).ests.length = 2) := len_ests hp1
      have HF : Hid (L = false → atI (A 0).ests 1 = i1 ∧ atI (A 1).ests 0 = i0) := fun h => by
        have := hPh (by omega) h
        rw [show n + 8 - n = 8 by omega] at this
        have e1 := hb_est hp0 this.1
        have e2 := hb_est hp1 this.2
        exact ⟨e1.trans hP.inc.2, e2.trans hP.inc.1⟩
      clear hM hP hPh hp0 hp1 cT hlt
      cases hL : L
      · obtain ⟨f1, f2⟩ := HF.out hL
        go_wp2_with (fail)
        refine wp_region_held_drew (S := (fun w' => w'.cell? ⟨w.heap.size, 0, none⟩ = some (.int .i64 i0) ∧ w'.cell? ⟨w.heap.size, 1, none⟩ = some (.int .i64 i1))) (by kernel_rfl) ⟨cell_drew c0, cell_drew c1⟩ (fun hHeld => ?_)
        simp only [Act.put, List.size_toArray, List.length_cons, List.length_nil, Nat.zero_add]
        refine wpAnyH_take (i := 0) (v := .bool false) rfl (by kernel_rfl) (by kernel_rfl) (by kernel_rfl) (fun _ _ _ h => h) (Or.inl ⟨by rfl, fun w' hS => by go_simp⟩) hHeld ?_
        simp only [Act.put, List.getElem_toArray, List.getElem_cons_zero, List.getElem_cons_succ, List.setIfInBounds_toArray, List.set_cons_zero, List.set_cons_succ]
        refine wpAnyH_take (i := 1) (v := .bool false) rfl (by kernel_rfl) (by kernel_rfl) (by kernel_rfl) (fun _ _ _ h => h) (Or.inl ⟨by rfl, fun w' hS => by go_simp⟩) hHeld ?_
        simp only [Act.put, List.getElem_toArray, List.getElem_cons_zero, List.getElem_cons_succ, List.setIfInBounds_toArray, List.set_cons_zero, List.set_cons_succ]
        refine wpAnyH_take (i := 2) (v := .pointer (some ⟨b0, 0, none⟩)) rfl (by kernel_rfl) (by kernel_rfl) (by kernel_rfl) (fun _ _ _ h => h) (Or.inl ⟨by rfl, fun w' hS => by go_simp⟩) hHeld ?_
        simp only [Act.put, List.getElem_toArray, List.getElem_cons_zero, List.getElem_cons_succ, List.setIfInBounds_toArray, List.set_cons_zero, List.set_cons_succ]
        refine wpAnyH_take (i := 5) (v := .pointer (some ⟨w.heap.size, 1, none⟩)) rfl (by kernel_rfl) (by kernel_rfl) (by kernel_rfl) (fun _ _ _ h => h) (Or.inl ⟨by rfl, fun w' hS => by go_simp⟩) hHeld ?_
        simp only [Act.put, List.getElem_toArray, List.getElem_cons_zero, List.getElem_cons_succ, List.setIfInBounds_toArray, List.set_cons_zero, List.set_cons_succ]
        refine wpAnyH_take (i := 6) (v := .int .i64 i1) rfl (by kernel_rfl) (by kernel_rfl) (by kernel_rfl) (fun _ _ _ h => h) (Or.inl ⟨by rfl, fun w' hS => by (obtain ⟨h0, h1⟩ := hS; go_simp)⟩) hHeld ?_
        simp only [Act.put, List.getElem_toArray, List.getElem_cons_zero, List.getElem_cons_succ, List.setIfInBounds_toArray, List.set_cons_zero, List.set_cons_succ]
        refine wpAnyH_ready (rs := [3]) (by kernel_rfl) (by simp) ?_
        refine AllReadyH.cons rfl (fun K hK => ?_) AllReadyH.nil
        go_simp
        refine (HE0.out _ (Below.refl _ _).drew).mono ?_
        rintro e w4 ⟨uu, rfl, g4, rfl, hg4, hB4, hb4⟩
        have Hc4 : Hid (Below wr.heap.size wr w4) := bstep (Below.refl _ _).drew hb4
        have HA4 := at_any (c := 2) (BlkI.rd (w := w4) hB4 HL0.out) 1
        rw [f1] at HA4
        refine hK.out _ _ ⟨below_at Hc4.out c0, below_at Hc4.out c1⟩ (fun hHeld => ?_)
        clear hK K
        refine wpAnyH_ready (rs := [4]) (by kernel_rfl) (by simp) ?_
        refine AllReadyH.cons rfl (fun K hK => ?_) AllReadyH.nil
        go_simp
        refine (HA4).mono ?_
        rintro e w5 ⟨rfl, rfl⟩
        refine hK.out _ _ ⟨below_at Hc4.out c0, below_at Hc4.out c1⟩ (fun hHeld => ?_)
        clear hK K
        refine wpAnyH_take (i := 7) (v := .bool true) rfl (by kernel_rfl) (by kernel_rfl) (by kernel_rfl) (fun _ _ _ h => h) (Or.inl ⟨by rfl, fun w' hS => by go_simp⟩) hHeld ?_
        simp only [Act.put, List.getElem_toArray, List.getElem_cons_zero, List.getElem_cons_succ, List.setIfInBounds_toArray, List.set_cons_zero, List.set_cons_succ]
        refine wpAnyH_take (i := 8) (v := .bool true) rfl (by kernel_rfl) (by kernel_rfl) (by kernel_rfl) (fun _ _ _ h => h) (Or.inl ⟨by rfl, fun w' hS => by go_simp⟩) hHeld ?_
        simp only [Act.put, List.getElem_toArray, List.getElem_cons_zero, List.getElem_cons_succ, List.setIfInBounds_toArray, List.set_cons_zero, List.set_cons_succ]
        refine wpAnyH_take (i := 9) (v := .pointer (some ⟨b1, 0, none⟩)) rfl (by kernel_rfl) (by kernel_rfl) (by kernel_rfl) (fun _ _ _ h => h) (Or.inl ⟨by rfl, fun w' hS => by go_simp⟩) hHeld ?_
        simp only [Act.put, List.getElem_toArray, List.getElem_cons_zero, List.getElem_cons_succ, List.setIfInBounds_toArray, List.set_cons_zero, List.set_cons_succ]
        refine wpAnyH_take (i := 12) (v := .pointer (some ⟨w.heap.size, 0, none⟩)) rfl (by kernel_rfl) (by kernel_rfl) (by kernel_rfl) (fun _ _ _ h => h) (Or.inl ⟨by rfl, fun w' hS => by go_simp⟩) hHeld ?_
        simp only [Act.put, List.getElem_toArray, List.getElem_cons_zero, List.getElem_cons_succ, List.setIfInBounds_toArray, List.set_cons_zero, List.set_cons_succ]
        refine wpAnyH_take (i := 13) (v := .int .i64 i0) rfl (by kernel_rfl) (by kernel_rfl) (by kernel_rfl) (fun _ _ _ h => h) (Or.inl ⟨by rfl, fun w' hS => by (obtain ⟨h0, h1⟩ := hS; go_simp)⟩) hHeld ?_
        simp only [Act.put, List.getElem_toArray, List.getElem_cons_zero, List.getElem_cons_succ, List.setIfInBounds_toArray, List.set_cons_zero, List.set_cons_succ]
        refine wpAnyH_ready (rs := [10]) (by kernel_rfl) (by simp) ?_
        refine AllReadyH.cons rfl (fun K hK => ?_) AllReadyH.nil
        go_simp
        refine (HE1.out _ Hc4.out).mono ?_
        rintro e w6 ⟨uu, rfl, g6, rfl, hg6, hB6, hb6⟩
        have He6 : Hid (Below wr.heap.size wr w6) := bstep Hc4.out hb6
        have HA6 := at_any (c := 2) (BlkI.rd (w := w6) hB6 HL1.out) 0
        rw [f2] at HA6
        refine hK.out _ _ ⟨below_at He6.out c0, below_at He6.out c1⟩ (fun hHeld => ?_)
        clear hK K
        refine wpAnyH_ready (rs := [11]) (by kernel_rfl) (by simp) ?_
        refine AllReadyH.cons rfl (fun K hK => ?_) AllReadyH.nil
        go_simp
        refine (HA6).mono ?_
        rintro e w7 ⟨rfl, rfl⟩
        refine hK.out _ _ ⟨below_at He6.out c0, below_at He6.out c1⟩ (fun hHeld => ?_)
        clear hK K
        refine wpAnyH_take (i := 14) (v := .bool true) rfl (by kernel_rfl) (by kernel_rfl) (by kernel_rfl) (fun _ _ _ h => h) (Or.inl ⟨by rfl, fun w' hS => by go_simp⟩) hHeld ?_
        simp only [Act.put, List.getElem_toArray, List.getElem_cons_zero, List.getElem_cons_succ, List.setIfInBounds_toArray, List.set_cons_zero, List.set_cons_succ]
        refine wpAnyH_take (i := 15) (v := .bool true) rfl (by kernel_rfl) (by kernel_rfl) (by kernel_rfl) (fun _ _ _ h => h) (Or.inl ⟨by rfl, fun w' hS => by go_simp⟩) hHeld ?_
        simp only [Act.put, List.getElem_toArray, List.getElem_cons_zero, List.getElem_cons_succ, List.setIfInBounds_toArray, List.set_cons_zero, List.set_cons_succ]
        refine wpAnyH_take (i := 16) (v := .bool true) rfl (by kernel_rfl) (by kernel_rfl) (by kernel_rfl) (fun _ _ _ h => h) (Or.inl ⟨by rfl, fun w' hS => by go_simp⟩) hHeld ?_
        simp only [Act.put, List.getElem_toArray, List.getElem_cons_zero, List.getElem_cons_succ, List.setIfInBounds_toArray, List.set_cons_zero, List.set_cons_succ]
        refine wpAnyH_take (i := 17) (v := .bool true) rfl (by kernel_rfl) (by kernel_rfl) (by kernel_rfl) (fun _ _ _ h => h) (Or.inl ⟨by rfl, fun w' hS => by go_simp⟩) hHeld ?_
        simp only [Act.put, List.getElem_toArray, List.getElem_cons_zero, List.getElem_cons_succ, List.setIfInBounds_toArray, List.set_cons_zero, List.set_cons_succ]
        refine wpAnyH_done (by kernel_rfl) ?_ _
        clear hHeld
        clear c0 c1 f1 f2
        go_wp2_with (fail)
        go_ret
        exact ⟨rfl, bstep Hlw.out He6.out⟩
      · go_wp2_with (fail)
        refine wp_region_held_drew (S := (fun w' => w'.cell? ⟨w.heap.size, 0, none⟩ = some (.int .i64 i0) ∧ w'.cell? ⟨w.heap.size, 1, none⟩ = some (.int .i64 i1))) (by kernel_rfl) ⟨cell_drew c0, cell_drew c1⟩ (fun hHeld => ?_)
        simp only [Act.put, List.size_toArray, List.length_cons, List.length_nil, Nat.zero_add]
        refine wpAnyH_take (i := 0) (v := .bool true) rfl (by kernel_rfl) (by kernel_rfl) (by kernel_rfl) (fun _ _ _ h => h) (Or.inl ⟨by rfl, fun w' hS => by go_simp⟩) hHeld ?_
        simp only [Act.put, List.getElem_toArray, List.getElem_cons_zero, List.getElem_cons_succ, List.setIfInBounds_toArray, List.set_cons_zero, List.set_cons_succ]
        refine wpAnyH_take (i := 1) (v := .bool true) rfl (by kernel_rfl) (by kernel_rfl) (by kernel_rfl) (fun _ _ _ h => h) (Or.inl ⟨by rfl, fun w' hS => by go_simp⟩) hHeld ?_
        simp only [Act.put, List.getElem_toArray, List.getElem_cons_zero, List.getElem_cons_succ, List.setIfInBounds_toArray, List.set_cons_zero, List.set_cons_succ]
        refine wpAnyH_take (i := 2) (v := undef) rfl (by kernel_rfl) (by kernel_rfl) (by kernel_rfl) (fun _ _ _ h => h) (Or.inr ⟨by rfl, rfl⟩) hHeld ?_
        simp only [Act.put, List.getElem_toArray, List.getElem_cons_zero, List.getElem_cons_succ, List.setIfInBounds_toArray, List.set_cons_zero, List.set_cons_succ]
        refine wpAnyH_take (i := 3) (v := undef) rfl (by kernel_rfl) (by kernel_rfl) (by kernel_rfl) (fun _ _ _ h => h) (Or.inr ⟨by rfl, rfl⟩) hHeld ?_
        simp only [Act.put, List.getElem_toArray, List.getElem_cons_zero, List.getElem_cons_succ, List.setIfInBounds_toArray, List.set_cons_zero, List.set_cons_succ]
        refine wpAnyH_take (i := 4) (v := undef) rfl (by kernel_rfl) (by kernel_rfl) (by kernel_rfl) (fun _ _ _ h => h) (Or.inr ⟨by rfl, rfl⟩) hHeld ?_
        simp only [Act.put, List.getElem_toArray, List.getElem_cons_zero, List.getElem_cons_succ, List.setIfInBounds_toArray, List.set_cons_zero, List.set_cons_succ]
        refine wpAnyH_take (i := 5) (v := undef) rfl (by kernel_rfl) (by kernel_rfl) (by kernel_rfl) (fun _ _ _ h => h) (Or.inr ⟨by rfl, rfl⟩) hHeld ?_
        simp only [Act.put, List.getElem_toArray, List.getElem_cons_zero, List.getElem_cons_succ, List.setIfInBounds_toArray, List.set_cons_zero, List.set_cons_succ]
        refine wpAnyH_take (i := 6) (v := undef) rfl (by kernel_rfl) (by kernel_rfl) (by kernel_rfl) (fun _ _ _ h => h) (Or.inr ⟨by rfl, rfl⟩) hHeld ?_
        simp only [Act.put, List.getElem_toArray, List.getElem_cons_zero, List.getElem_cons_succ, List.setIfInBounds_toArray, List.set_cons_zero, List.set_cons_succ]
        refine wpAnyH_take (i := 7) (v := undef) rfl (by kernel_rfl) (by kernel_rfl) (by kernel_rfl) (fun _ _ _ h => h) (Or.inr ⟨by rfl, rfl⟩) hHeld ?_
        simp only [Act.put, List.getElem_toArray, List.getElem_cons_zero, List.getElem_cons_succ, List.setIfInBounds_toArray, List.set_cons_zero, List.set_cons_succ]
        refine wpAnyH_take (i := 8) (v := undef) rfl (by kernel_rfl) (by kernel_rfl) (by kernel_rfl) (fun _ _ _ h => h) (Or.inr ⟨by rfl, rfl⟩) hHeld ?_
        simp only [Act.put, List.getElem_toArray, List.getElem_cons_zero, List.getElem_cons_succ, List.setIfInBounds_toArray, List.set_cons_zero, List.set_cons_succ]
        refine wpAnyH_take (i := 9) (v := undef) rfl (by kernel_rfl) (by kernel_rfl) (by kernel_rfl) (fun _ _ _ h => h) (Or.inr ⟨by rfl, rfl⟩) hHeld ?_
        simp only [Act.put, List.getElem_toArray, List.getElem_cons_zero, List.getElem_cons_succ, List.setIfInBounds_toArray, List.set_cons_zero, List.set_cons_succ]
        refine wpAnyH_take (i := 10) (v := undef) rfl (by kernel_rfl) (by kernel_rfl) (by kernel_rfl) (fun _ _ _ h => h) (Or.inr ⟨by rfl, rfl⟩) hHeld ?_
        simp only [Act.put, List.getElem_toArray, List.getElem_cons_zero, List.getElem_cons_succ, List.setIfInBounds_toArray, List.set_cons_zero, List.set_cons_succ]
        refine wpAnyH_take (i := 11) (v := undef) rfl (by kernel_rfl) (by kernel_rfl) (by kernel_rfl) (fun _ _ _ h => h) (Or.inr ⟨by rfl, rfl⟩) hHeld ?_
        simp only [Act.put, List.getElem_toArray, List.getElem_cons_zero, List.getElem_cons_succ, List.setIfInBounds_toArray, List.set_cons_zero, List.set_cons_succ]
        refine wpAnyH_take (i := 12) (v := undef) rfl (by kernel_rfl) (by kernel_rfl) (by kernel_rfl) (fun _ _ _ h => h) (Or.inr ⟨by rfl, rfl⟩) hHeld ?_
        simp only [Act.put, List.getElem_toArray, List.getElem_cons_zero, List.getElem_cons_succ, List.setIfInBounds_toArray, List.set_cons_zero, List.set_cons_succ]
        refine wpAnyH_take (i := 13) (v := undef) rfl (by kernel_rfl) (by kernel_rfl) (by kernel_rfl) (fun _ _ _ h => h) (Or.inr ⟨by rfl, rfl⟩) hHeld ?_
        simp only [Act.put, List.getElem_toArray, List.getElem_cons_zero, List.getElem_cons_succ, List.setIfInBounds_toArray, List.set_cons_zero, List.set_cons_succ]
        refine wpAnyH_take (i := 14) (v := undef) rfl (by kernel_rfl) (by kernel_rfl) (by kernel_rfl) (fun _ _ _ h => h) (Or.inr ⟨by rfl, rfl⟩) hHeld ?_
        simp only [Act.put, List.getElem_toArray, List.getElem_cons_zero, List.getElem_cons_succ, List.setIfInBounds_toArray, List.set_cons_zero, List.set_cons_succ]
        refine wpAnyH_take (i := 15) (v := undef) rfl (by kernel_rfl) (by kernel_rfl) (by kernel_rfl) (fun _ _ _ h => h) (Or.inr ⟨by rfl, rfl⟩) hHeld ?_
        simp only [Act.put, List.getElem_toArray, List.getElem_cons_zero, List.getElem_cons_succ, List.setIfInBounds_toArray, List.set_cons_zero, List.set_cons_succ]
        refine wpAnyH_take (i := 16) (v := .bool true) rfl (by kernel_rfl) (by kernel_rfl) (by kernel_rfl) (fun _ _ _ h => h) (Or.inl ⟨by rfl, fun w' hS => by go_simp⟩) hHeld ?_
        simp only [Act.put, List.getElem_toArray, List.getElem_cons_zero, List.getElem_cons_succ, List.setIfInBounds_toArray, List.set_cons_zero, List.set_cons_succ]
        refine wpAnyH_take (i := 17) (v := .bool true) rfl (by kernel_rfl) (by kernel_rfl) (by kernel_rfl) (fun _ _ _ h => h) (Or.inl ⟨by rfl, fun w' hS => by go_simp⟩) hHeld ?_
        simp only [Act.put, List.getElem_toArray, List.getElem_cons_zero, List.getElem_cons_succ, List.setIfInBounds_toArray, List.set_cons_zero, List.set_cons_succ]
        refine wpAnyH_done (by kernel_rfl) ?_ _
        clear hHeld
        go_wp2_with (fail)
        go_ret
        exact ⟨rfl, bstep Hlw.out (Below.refl _ _).drew⟩
end
end Go.Proofs.Ytfbollifegngjaa.Dt
