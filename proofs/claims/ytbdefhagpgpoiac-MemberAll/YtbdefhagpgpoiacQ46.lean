import Derived.Test.YtbdefhagpgpoiacQ00
import Derived.Test.YtbdefhagpgpoiacQ45
namespace Go.Proofs.Ytbdefhagpgpoiac.Mb
open Go.RowKit
set_option linter.unusedVariables false
set_option maxRecDepth 100000
set_option linter.unusedSimpArgs false
section
variable {A A' : Ag} {w w' W : World} {B m : Nat} {T : Int} {R R' : Rg}
set_option maxHeartbeats 4000000 in
theorem plays_4 (D : Duo A R B m w) (hm : m ≤ 925904528653) (o : Opx) (hk : o.kind = 4) : Calls Try.prog 8 #[.pointer (some ⟨A.b, 0, none⟩), .pointer (some ⟨R.b, 0, none⟩), .agg o.cs] w fun e w' => Ply A R B m w e w' := by
  generalize hW1 : w.alloc (.cells o.cs 42) = W1
  have b1 : Below w.heap.size w W1 := hW1 ▸ balloc (Below.refl _ _)
  have k1 : W1.heap[w.heap.size]? = some (.cells o.cs 42 (0, 0)) := by rw [← hW1]; exact heap_alloc_new w _
  have x0 : W1.cell? ⟨w.heap.size, 0, none⟩ = some (.int .i64 o.kind) := blk_cell k1 0
  have D1 := D.still b1
  have HD1 : Hid (Duo A R B m W1) := D1
  have HB1 : Hid (Below w.heap.size w W1) := b1
  have HBw : Hid (B ≤ w.heap.size) := D.bB
  rw [hk] at x0
  obtain ⟨i0, e0⟩ : ∃ x, R.agV.getD 0 0 = x := ⟨_, rfl⟩
  obtain ⟨i1, e1⟩ : ∃ x, R.agV.getD 1 0 = x := ⟨_, rfl⟩
  obtain ⟨i2, e2⟩ : ∃ x, R.agV.getD 2 0 = x := ⟨_, rfl⟩
  obtain ⟨i3, e3⟩ : ∃ x, R.agV.getD 3 0 = x := ⟨_, rfl⟩
  obtain ⟨kk, ek⟩ : ∃ x, R.agK = x := ⟨_, rfl⟩
  obtain ⟨tn, en⟩ : ∃ x, R.agT.length = x := ⟨_, rfl⟩
  obtain ⟨rb, er⟩ : ∃ x, R.ragr = x := ⟨_, rfl⟩
  have H1 : Hid (Calls Try.prog 22 #[.pointer (some ⟨A.b, 0, none⟩)] W1 fun e w' => ∃ a c ta tc, e = .returned (.tuple #[.agg [.int .i64 i0, .int .i64 i1, .int .i64 i2, .int .i64 i3, .slice a kk c].toArray, .slice ta tn tc, .bool rb]) ∧ RdM w' a kk R.agM ∧ RdI w' ta tn R.agT ∧ Below W1.heap.size W1 w') := by
    have := D1.agreed
    rw [e0, e1, e2, e3, ek, en, er] at this
    exact this
  have H2 : Hid (∀ W2, Below W1.heap.size W1 W2 → Calls Try.prog 23 #[.pointer (some ⟨R.b, 0, none⟩)] W2 fun e w' => ∃ a c ta tc, e = .returned (.tuple #[.agg [.int .i64 i0, .int .i64 i1, .int .i64 i2, .int .i64 i3, .slice a kk c].toArray, .slice ta tn tc, .bool rb]) ∧ RdM w' a kk R.agM ∧ RdI w' ta tn R.agT ∧ Below W2.heap.size W2 w') := fun W2 hb => by
    have := (D1.still hb).ragreed hm
    rw [e0, e1, e2, e3, ek, en, er] at this
    exact this
  have HK : Hid (kk ≤ 16 ∧ tn ≤ 16) := by have := D.k16; rw [ek, en] at this; exact this
  generalize o.cs = ocs at *
  clear D D1 b1 k1 hk e0 e1 e2 e3 ek en er
  go_enter Try.func8, Try.ntmps8
  go_wp2_with (fail)
  refine H1.out.mono ?_
  rintro e w2 ⟨a1, c1, ta1, tc1, rfl, r1, s1, hb2⟩
  generalize hX : w2.alloc (.cells [.int .i64 i0, .int .i64 i1, .int .i64 i2, .int .i64 i3, .slice a1 kk c1].toArray 51) = X
  have bX : Below w2.heap.size w2 X := by rw [← hX]; exact balloc (Below.refl _ _)
  have kX : X.heap[w2.heap.size]? = some (.cells [.int .i64 i0, .int .i64 i1, .int .i64 i2, .int .i64 i3, .slice a1 kk c1].toArray 51 (0, 0)) := by rw [← hX]; exact heap_alloc_new w2 _
  have HX : Hid (Below W1.heap.size W1 X) := bstep hb2 bX
  have HkX : Hid (X.heap[w2.heap.size]? = some (.cells [.int .i64 i0, .int .i64 i1, .int .i64 i2, .int .i64 i3, .slice a1 kk c1].toArray 51 (0, 0))) := kX
  have HR1 : Hid (RdM X a1 kk R.agM ∧ RdI X ta1 tn R.agT) := ⟨r1.still bX, s1.still bX⟩
  simp only [List.toArray] at hX
  clear r1 s1 hb2 H1 bX kX
  go_wp2_with (fail)
  refine (H2.out _ HX.out).mono ?_
  rintro e w3 ⟨a2, c2, ta2, tc2, rfl, r2, s2, hb3⟩
  generalize hY : w3.alloc (.cells [.int .i64 i0, .int .i64 i1, .int .i64 i2, .int .i64 i3, .slice a2 kk c2].toArray 51) = Y
  have bY : Below w3.heap.size w3 Y := by rw [← hY]; exact balloc (Below.refl _ _)
  have kY : Y.heap[w3.heap.size]? = some (.cells [.int .i64 i0, .int .i64 i1, .int .i64 i2, .int .i64 i3, .slice a2 kk c2].toArray 51 (0, 0)) := by rw [← hY]; exact heap_alloc_new w3 _
  have bXY := bstep hb3 bY
  have R1 : Hid (Y.rangeAt w2.heap.size 0 [.int .i64 i0, .int .i64 i1, .int .i64 i2, .int .i64 i3, .slice a1 kk c1]) := blk_range ((bXY.block _ (lt_heap HkX.out)).trans HkX.out)
  have R2 : Hid (Y.rangeAt w3.heap.size 0 [.int .i64 i0, .int .i64 i1, .int .i64 i2, .int .i64 i3, .slice a2 kk c2]) := blk_range kY
  have HV : Hid (Calls Try.prog 24 #[.agg [.int .i64 i0, .int .i64 i1, .int .i64 i2, .int .i64 i3, .slice a1 kk c1].toArray, .agg [.int .i64 i0, .int .i64 i1, .int .i64 i2, .int .i64 i3, .slice a2 kk c2].toArray] Y fun e w' => e = .returned (.bool true) ∧ Below Y.heap.size Y w') := views_same i0 i1 i2 i3 (HR1.out.1.still bXY) (r2.still bY) HK.out.1
  have HI : Hid (∀ Z, Below Y.heap.size Y Z → Calls Try.prog 25 #[.slice ta1 tn tc1, .slice ta2 tn tc2] Z fun e w' => e = .returned (.bool true) ∧ Below Z.heap.size Z w') := fun Z hb => ints_same ((HR1.out.2.still bXY).still hb) ((s2.still bY).still hb) (by have := HK.out.2; omega)
  have HY : Hid (Below W1.heap.size W1 Y) := bstep HX.out bXY
  simp only [List.toArray] at hY
  clear r2 s2 hb3 H2 bY kY bXY HR1
  have hbb : (rb == rb) = true := by simp
  go_wp2_with (first
    | (refine load_mid 51 (.tmp 21) R1.out _ Try.underlying51 rfl (by kernel_rfl) rfl rfl rfl ?_)
    | (refine load_mid 51 (.tmp 24) R2.out _ Try.underlying51 rfl (by kernel_rfl) rfl rfl rfl ?_)
    | fail)
  refine HV.out.mono ?_
  rintro e w4 ⟨rfl, hb4⟩
  have HI4 := HI.out _ hb4
  have H4 : Hid (Below W1.heap.size W1 w4) := bstep HY.out hb4
  clear hb4 HV HI
  go_wp2_with (fail)
  refine HI4.mono ?_
  rintro e w5 ⟨rfl, hb5⟩
  have HDz : Hid (Duo A R B m w5) := HD1.out.still (bstep H4.out hb5)
  have HBz : Hid (Below w.heap.size w w5) := bstep HB1.out (bstep H4.out hb5)
  clear hb5 HI4
  go_wp2
  go_ret
  exact ⟨A, R, rfl, HDz.out.up, rfl, rfl, HBz.out.mono HBw.out⟩
set_option maxHeartbeats 4000000 in
theorem plays_5 (D : Duo A R B m w) (hm : m ≤ 925904528653) (o : Opx) (hk : o.kind = 5) : Calls Try.prog 8 #[.pointer (some ⟨A.b, 0, none⟩), .pointer (some ⟨R.b, 0, none⟩), .agg o.cs] w fun e w' => Ply A R B m w e w' := by
  generalize hW1 : w.alloc (.cells o.cs 42) = W1
  have b1 : Below w.heap.size w W1 := hW1 ▸ balloc (Below.refl _ _)
  have k1 : W1.heap[w.heap.size]? = some (.cells o.cs 42 (0, 0)) := by rw [← hW1]; exact heap_alloc_new w _
  have x0 : W1.cell? ⟨w.heap.size, 0, none⟩ = some (.int .i64 o.kind) := blk_cell k1 0
  have D1 := D.still b1
  have HD1 : Hid (Duo A R B m W1) := D1
  have HB1 : Hid (Below w.heap.size w W1) := b1
  have HBw : Hid (B ≤ w.heap.size) := D.bB
  rw [hk] at x0
  obtain ⟨i0, e0⟩ : ∃ x, R.agV.getD 0 0 = x := ⟨_, rfl⟩
  obtain ⟨i1, e1⟩ : ∃ x, R.agV.getD 1 0 = x := ⟨_, rfl⟩
  obtain ⟨i2, e2⟩ : ∃ x, R.agV.getD 2 0 = x := ⟨_, rfl⟩
  obtain ⟨i3, e3⟩ : ∃ x, R.agV.getD 3 0 = x := ⟨_, rfl⟩
  obtain ⟨kk, ek⟩ : ∃ x, R.agK = x := ⟨_, rfl⟩
  obtain ⟨tn, en⟩ : ∃ x, R.agT.length = x := ⟨_, rfl⟩
  obtain ⟨er', er⟩ : ∃ x, R.agE = x := ⟨_, rfl⟩
  have H1 : Hid (Calls Try.prog 26 #[.pointer (some ⟨A.b, 0, none⟩)] W1 fun e w' => ∃ A' a c ta tc, e = .returned (.tuple #[.agg [.int .i64 i0, .int .i64 i1, .int .i64 i2, .int .i64 i3, .slice a kk c].toArray, .slice ta tn tc, .int .i64 er']) ∧ w'.ownsRow 0 92 3 (.slice a kk c) kk (ints R.agM) ∧ w'.ownsRow 0 3 1 (.slice ta tn tc) tn (ints R.agT) ∧ A'.Ok w' B 4611686018427387903 ∧ A'.b = A.b ∧ Kept W1 w' (fun j => j = A.b) ∧ ∀ mv', Sim A' (R.insR mv')) := by
    have := D1.inst
    rw [e0, e1, e2, e3, ek, en, er] at this
    exact this
  have H2 : Hid (∀ W2, R.Ok W2 B → Calls Try.prog 27 #[.pointer (some ⟨R.b, 0, none⟩)] W2 fun e w' => ∃ mv' a c ta tc, e = .returned (.tuple #[.agg [.int .i64 i0, .int .i64 i1, .int .i64 i2, .int .i64 i3, .slice a kk c].toArray, .slice ta tn tc, .int .i64 er']) ∧ RdM w' a kk R.agM ∧ RdI w' ta tn R.agT ∧ (R.insR mv').Ok w' B ∧ (R.insR mv').b = R.b ∧ Kept W2 w' (fun j => j = R.b) ∧ (R.insR mv').all = R.all ∧ (R.insR mv').own = R.own) := fun W2 hb => by
    have := D1.rinst hb hm
    rw [e0, e1, e2, e3, ek, en, er] at this
    exact this
  have HK : Hid (kk ≤ 16 ∧ tn ≤ 16) := by have := D.k16; rw [ek, en] at this; exact this
  have HLv : Hid (R.all.length ≤ m ∧ R.own.rev ≤ (m : Int) + 1) := ⟨D.L, D.v⟩
  generalize o.cs = ocs at *
  clear D D1 b1 k1 hk e0 e1 e2 e3 ek en er
  go_enter Try.func8, Try.ntmps8
  go_wp2_with (fail)
  refine H1.out.mono ?_
  rintro e w2 ⟨A', a1, c1, ta1, tc1, rfl, r1, s1, okA, bA, kA, hsim⟩
  generalize hX : w2.alloc (.cells [.int .i64 i0, .int .i64 i1, .int .i64 i2, .int .i64 i3, .slice a1 kk c1].toArray 51) = X
  have bX : Below w2.heap.size w2 X := by rw [← hX]; exact balloc (Below.refl _ _)
  have kX : X.heap[w2.heap.size]? = some (.cells [.int .i64 i0, .int .i64 i1, .int .i64 i2, .int .i64 i3, .slice a1 kk c1].toArray 51 (0, 0)) := by rw [← hX]; exact heap_alloc_new w2 _
  have hRX : R.Ok X B := (HD1.out.r.keptA HD1.out.a kA).still bX
  have HX : Hid (Below B W1 X ∧ A'.Ok X B 4611686018427387903 ∧ A'.b = A.b ∧ R.Ok X B) := ⟨(HD1.out.a.belowA HD1.out.bB kA).trans (bX.mono ((Nat.le_trans HD1.out.bB kA.size))), okA.still bX, bA, hRX⟩
  have HkX : Hid (X.heap[w2.heap.size]? = some (.cells [.int .i64 i0, .int .i64 i1, .int .i64 i2, .int .i64 i3, .slice a1 kk c1].toArray 51 (0, 0))) := kX
  have HR1 : Hid (X.ownsRow 0 92 3 (.slice a1 kk c1) kk (ints R.agM) ∧ X.ownsRow 0 3 1 (.slice ta1 tn tc1) tn (ints R.agT)) := ⟨own_still r1 bX, own_still s1 bX⟩
  have HS : Hid (∀ mv', Sim A' (R.insR mv')) := hsim
  simp only [List.toArray] at hX
  clear r1 s1 H1 bX kX okA bA kA hsim hRX
  go_wp2_with (fail)
  refine (H2.out _ HX.out.2.2.2).mono ?_
  rintro e w3 ⟨mv', a2, c2, ta2, tc2, rfl, r2, s2, okR, bR, kR, eall, eown⟩
  generalize hY : w3.alloc (.cells [.int .i64 i0, .int .i64 i1, .int .i64 i2, .int .i64 i3, .slice a2 kk c2].toArray 51) = Y
  have bY : Below w3.heap.size w3 Y := by rw [← hY]; exact balloc (Below.refl _ _)
  have kY : Y.heap[w3.heap.size]? = some (.cells [.int .i64 i0, .int .i64 i1, .int .i64 i2, .int .i64 i3, .slice a2 kk c2].toArray 51 (0, 0)) := by rw [← hY]; exact heap_alloc_new w3 _
  have hRb := HX.out.2.2.2.blk
  have k1 := kR.obj HkX.out (fun e => blk_ne hRb HkX.out (by decide) e.symm)
  have R1 : Hid (Y.rangeAt w2.heap.size 0 [.int .i64 i0, .int .i64 i1, .int .i64 i2, .int .i64 i3, .slice a1 kk c1]) := blk_range ((bY.block _ (lt_heap k1)).trans k1)
  have R2 : Hid (Y.rangeAt w3.heap.size 0 [.int .i64 i0, .int .i64 i1, .int .i64 i2, .int .i64 i3, .slice a2 kk c2]) := blk_range kY
  have om := own_still (kR.owns HR1.out.1 (own_ne HR1.out.1 hRb (by decide))) bY
  have ot := own_still (kR.owns HR1.out.2 (own_ne HR1.out.2 hRb (by decide))) bY
  have HV : Hid (Calls Try.prog 24 #[.agg [.int .i64 i0, .int .i64 i1, .int .i64 i2, .int .i64 i3, .slice a1 kk c1].toArray, .agg [.int .i64 i0, .int .i64 i1, .int .i64 i2, .int .i64 i3, .slice a2 kk c2].toArray] Y fun e w' => e = .returned (.bool true) ∧ Below Y.heap.size Y w') := views_same i0 i1 i2 i3 (own_rdM om) (r2.still bY) HK.out.1
  have HI : Hid (∀ Z, Below Y.heap.size Y Z → Calls Try.prog 25 #[.slice ta1 tn tc1, .slice ta2 tn tc2] Z fun e w' => e = .returned (.bool true) ∧ Below Z.heap.size Z w') := fun Z hb => ints_same ((own_rd ot).still hb) ((s2.still bY).still hb) (by have := HK.out.2; omega)
  have kR1 : Kept X w3 R.own1 := kR.mono fun k hk e => .inl e
  have HD : Hid (Duo A' (R.insR mv') B m Y) := ⟨(HX.out.2.1.keptR HX.out.2.2.2 kR1).still bY, okR.still bY, HS.out mv', by rw [eall]; exact HLv.out.1, by rw [eown]; exact HLv.out.2⟩
  have HY : Hid (Below B W1 Y ∧ A'.b = A.b ∧ (R.insR mv').b = R.b) := ⟨(HX.out.1.trans (HX.out.2.2.2.belowR kR1)).trans (bY.mono okR.bB), HX.out.2.2.1, bR⟩
  simp only [List.toArray] at hY
  clear r2 s2 H2 bY kY HR1 okR bR kR eall eown hRb k1 om ot kR1 HX HkX HS
  have hbb : (er' == er') = true := by simp
  have HN : Hid (∀ Z, Calls Try.prog 7 #[.int .i64 er'] Z fun e w' => e = .returned (.int .i64 er') ∧ Z = w') := fun Z => num_any er'
  go_wp2_with (first
    | (refine load_mid 51 (.tmp 27) R1.out _ Try.underlying51 rfl (by kernel_rfl) rfl rfl rfl ?_)
    | (refine load_mid 51 (.tmp 30) R2.out _ Try.underlying51 rfl (by kernel_rfl) rfl rfl rfl ?_)
    | fail)
  refine HV.out.mono ?_
  rintro e w4 ⟨rfl, hb4⟩
  have HI4 := HI.out _ hb4
  have H4 : Hid (Below Y.heap.size Y w4) := hb4
  clear hb4 HV HI
  go_wp2_with (fail)
  refine HI4.mono ?_
  rintro e w5 ⟨rfl, hb5⟩
  have HB5 : Hid (Below Y.heap.size Y w5) := bstep H4.out hb5
  clear hb5 HI4 H4
  go_wp2_with (fail)
  refine (HN.out _).mono ?_
  rintro e w6 ⟨rfl, rfl⟩
  go_wp2_with (fail)
  refine (HN.out _).mono ?_
  rintro e w7 ⟨rfl, rfl⟩
  go_wp2
  go_ret
  exact ⟨A', _, rfl, (HD.out.still HB5.out).up, HY.out.2.1, HY.out.2.2, ((HB1.out.mono HBw.out).trans HY.out.1).trans (HB5.out.mono HD.out.bB)⟩
end
end Go.Proofs.Ytbdefhagpgpoiac.Mb
namespace Go.Proofs.Ytbdefhagpgpoiac.Mb
open Go.RowKit
set_option linter.unusedVariables false
set_option maxRecDepth 100000
set_option linter.unusedSimpArgs false
section
variable {A A' : Ag} {w w' W : World} {B m : Nat} {T : Int} {R R' : Rg}
structure Ru (R R' : Rg) : Prop where
  b : R'.b = R.b
  l : R'.all.length ≤ R.all.length + 1
  v : R'.own.rev ≤ R.own.rev + 1
theorem REst.ru {xs : List Int} {x : Bool} {E : Int} (h : REst R xs x E R') : Ru R R' := by
  cases h with
  | set _ => exact ⟨rfl, by omega, by omega⟩
  | same _ _ _ => exact ⟨rfl, by omega, by omega⟩
  | spent _ _ _ _ => exact ⟨rfl, by omega, by omega⟩
  | ok P _ _ _ _ hN => exact ⟨rfl, by show R.all.length ≤ _; omega, by show P.rev ≤ _; rw [hN.rev]; omega⟩
theorem RTk.ru {q : Nat} {inc : Int} {p : Pq} {x : Bool} {E : Int} (h : RTk R q inc p x E R') : Ru R R' := by
  cases h with
  | set _ => exact ⟨rfl, by omega, by omega⟩
  | old _ _ => exact ⟨rfl, by omega, by omega⟩
  | stale _ _ _ => exact ⟨rfl, by omega, by omega⟩
  | add ha hc p' _ _ _ _ => exact ⟨rfl, by show (R.all ++ [_]).length ≤ _; simp, by show R.own.rev ≤ _; omega⟩
  | spent _ _ _ _ => exact ⟨rfl, by omega, by omega⟩
  | beg ha hc p' P _ _ _ _ _ hN => exact ⟨rfl, by show (R.all ++ [_]).length ≤ _; simp, by show P.rev ≤ _; rw [hN.rev]; show R.own.rev + 1 ≤ _; omega⟩
  | same ha hc p' _ _ _ _ => exact ⟨rfl, by show (R.all ++ [_]).length ≤ _; simp, by show R.own.rev ≤ _; omega⟩
  | rev ha hc p' va vc _ _ _ _ => exact ⟨rfl, by show (R.all ++ [_]).length ≤ _; simp, by show R.own.rev + 1 ≤ _; omega⟩
theorem tw_valid {p p' : Pq} (h : Tw p p') (q : Nat) (inc : Int) (n : Nat) : p'.valid q inc n = p.valid q inc n := by
  unfold Pq.valid
  rw [h.ss, h.vs, h.cid, h.rev, h.top, h.prev]
theorem tw_pp {p p' : Pq} (h : Tw p p') : p'.pp = p.pp := by
  unfold Pq.pp
  rw [h.ss, h.vs, h.cid, h.rev, h.top, h.prev]
theorem tw_tak {p p' : Pq} (h : Tw p p') (A : Ag) (q inc : Int) : A.takB q inc p' = A.takB q inc p ∧ A.takE q inc p' = A.takE q inc p ∧ A.takA q inc p' = A.takA q inc p := by
  unfold Ag.takB Ag.takE Ag.takA Ag.fresh
  rw [tw_valid h, tw_pp h, h.rev]
  exact ⟨rfl, rfl, rfl⟩
theorem Duo.take (D : Duo A R B m w) (hm : m ≤ 925904528653) (hR : R.Ok W B) (q inc : Int) (p : Pq) (hp : p.Rd W) : Calls Try.prog 18 #[.pointer (some ⟨R.b, 0, none⟩), .int .i64 q, .int .i64 inc, .agg p.cs] W fun e w' => ∃ R' : Rg, e = .returned (.tuple #[.bool (A.takB q inc p), .int .i64 (A.takE q inc p)]) ∧ R'.Ok w' B ∧ Kept W w' R.own1 ∧ Sim (A.takA q inc p) R' ∧ Ru R R' ∧ R'.Nb R W.heap.size := by
  have h16 := D.s.n16
  by_cases hok : 0 ≤ q ∧ q < R.n ∧ q ≠ R.self ∧ 1 ≤ inc ∧ inc ≤ 4611686018427387904
  · obtain ⟨k, rfl⟩ := Int.eq_ofNat_of_zero_le hok.1
    have hk : k < R.n := by have := hok.2.1; omega
    have hne : k ≠ R.self := by have := hok.2.2.1; omega
    have hrv : R.own.rev < 4611686018427387904 := by have := D.v; omega
    refine (rtake_in hR D.bd hrv (by have := D.L; omega) hk hne hok.2.2.2 p hp).mono fun e w' ⟨⟨x, E, R', he, h1, h2, h3, h4⟩⟩ => ?_
    obtain ⟨e1, e2, e3⟩ := tak_sim D.s D.a.il hrv hk hne hok.2.2.2 h3
    exact ⟨R', by rw [he, e1, e2], h1, h2, e3, h3.ru, h4⟩
  · have ht : A.tkOk q inc = false := by
      unfold Ag.tkOk wB
      rw [D.s.n, D.s.self]
      cases hb : (decide (0 ≤ q ∧ q ≤ (R.n : Int) - 1) && !(q == (R.self : Int)) && decide (1 ≤ inc ∧ inc ≤ 4611686018427387904)) with
      | false => rfl
      | true =>
        exfalso
        simp only [Bool.and_eq_true, decide_eq_true_eq, Bool.not_eq_true', beq_eq_false_iff_ne] at hb
        exact hok ⟨hb.1.1.1, by have := hb.1.1.2; omega, hb.1.2, hb.2⟩
    refine (rtake_arg hR q inc p hok).mono fun e w' ⟨he, hb⟩ => ⟨R, ?_, hR.still hb, Kept.ofBelow hb _, ?_, ⟨rfl, by omega, by omega⟩, Rg.Nb.rfl _ _⟩
    · rw [he]; unfold Ag.takB Ag.takE; rw [if_pos ht, if_pos ht]
    · unfold Ag.takA; rw [if_pos ht]; exact D.s
theorem Duo.est (D : Duo A R B m w) (hm : m ≤ 925904528653) (hR : R.Ok W B) {ao : Option Addr} {sn c : Nat} {xs : List Int} (hr : RdI W ao sn xs) (hn : sn ≤ 17592186044416) : Calls Try.prog 13 #[.pointer (some ⟨R.b, 0, none⟩), .slice ao sn c] W fun e w' => ∃ R' : Rg, e = .returned (.tuple #[.bool (A.estB xs), .int .i64 (A.estE xs)]) ∧ R'.Ok w' B ∧ Kept W w' (fun j => j = R.b) ∧ Sim (A.estA xs) R' ∧ Ru R R' ∧ R'.Nb R W.heap.size := by
  refine (rest_any2 hR D.bd (by have := D.L; omega) hr hn).mono fun e w' ⟨x, E, R', he, h1, h2, h3, h4⟩ => ?_
  obtain ⟨e1, e2, e3⟩ := est_sim D.s D.a.il h3
  exact ⟨R', by rw [he, e1, e2], h1, h2, e3, h3.ru, h4⟩
set_option maxHeartbeats 4000000 in
theorem plays_1 (D : Duo A R B m w) (hm : m ≤ 925904528653) (o : Opx) (hz : Opz o B w) (hk : o.kind = 1) : Calls Try.prog 8 #[.pointer (some ⟨A.b, 0, none⟩), .pointer (some ⟨R.b, 0, none⟩), .agg o.cs] w fun e w' => Ply A R B m w e w' := by
  generalize hW1 : w.alloc (.cells o.cs 42) = W1
  have b1 : Below w.heap.size w W1 := hW1 ▸ balloc (Below.refl _ _)
  have k1 : W1.heap[w.heap.size]? = some (.cells o.cs 42 (0, 0)) := by rw [← hW1]; exact heap_alloc_new w _
  have x0 : W1.cell? ⟨w.heap.size, 0, none⟩ = some (.int .i64 o.kind) := blk_cell k1 0
  have D1 := D.still b1
  have HD1 : Hid (Duo A R B m W1) := D1
  have HB1 : Hid (Below w.heap.size w W1) := b1
  have HBw : Hid (B ≤ w.heap.size) := D.bB
  rw [hk] at x0
  have HQ : Hid (∀ w', Below B w w' → RdI w' o.sa o.sn o.ss) := fun w' hb => (hz.rd w' hb).s
  have HZn : Hid (o.sn ≤ 17592186043904) := hz.sn
  have HbW : Hid (Below B w W1) := b1.mono D.bB
  have x3 : W1.cell? ⟨w.heap.size, 3, none⟩ = some (.slice o.sa o.sn o.sc) := blk_cell k1 3
  have Hk1 : Hid (W1.heap[w.heap.size]? = some (.cells o.cs 42 (0, 0))) := k1
  have H1 : Hid (Calls Try.prog 11 #[.slice o.sa o.sn o.sc] W1 fun e w' => ∃ g cap, e = .returned (.slice (some ⟨g, 0, none⟩) o.sn cap) ∧ MarkedF w' W1.heap.size g o.sn cap o.ss ∧ Below W1.heap.size W1 w') := fresh_any (hz.rd _ HbW.out).s hz.s0 hz.sn
  obtain ⟨eb, heb⟩ : ∃ b, A.estB o.ss = b := ⟨_, rfl⟩
  obtain ⟨ee, hee⟩ : ∃ b, A.estE o.ss = b := ⟨_, rfl⟩
  have hl : o.ss.length = o.sn := (hz.rd _ HbW.out).s.1
  have Hl : Hid (o.ss.length = o.sn) := hl
  have HA : Hid (∀ W2 g c, A.Ok W2 B 4611686018427387903 → RdI W2 (some ⟨g, 0, none⟩) o.sn o.ss → Calls Try.prog 12 #[.pointer (some ⟨A.b, 0, none⟩), .slice (some ⟨g, 0, none⟩) o.sn c] W2 fun e w' => e = .returned (.tuple #[.bool eb, .int .i64 ee]) ∧ (A.estA o.ss).Ok w' B 4611686018427387903 ∧ Kept W2 w' (fun j => j = A.b)) := fun W2 g c hA hr => by
    have := est_any (c := c) hA (by decide) hr (by have := hz.sn; omega)
    rw [heb, hee] at this
    exact this
  have HR : Hid (∀ W2, R.Ok W2 B → RdI W2 o.sa o.sn o.ss → Calls Try.prog 13 #[.pointer (some ⟨R.b, 0, none⟩), .slice o.sa o.sn o.sc] W2 fun e w' => ∃ R' : Rg, e = .returned (.tuple #[.bool eb, .int .i64 ee]) ∧ R'.Ok w' B ∧ Kept W2 w' (fun j => j = R.b) ∧ Sim (A.estA o.ss) R' ∧ Ru R R' ∧ R'.Nb R W2.heap.size) := fun W2 hR hr => by
    have := D1.est hm hR (c := o.sc) hr (by have := hz.sn; omega)
    rw [heb, hee] at this
    exact this
  have HAb : Hid ((A.estA o.ss).b = A.b) := (stp_fx (Stp.est (A := A) hk)).b
  have hbb : (eb == eb) = true := by simp
  have hbe : (ee == ee) = true := by simp
  have HN : Hid (∀ Z, Calls Try.prog 7 #[.int .i64 ee] Z fun e w' => e = .returned (.int .i64 ee) ∧ Z = w') := fun Z => num_any ee
  have HLv : Hid (R.all.length ≤ m ∧ R.own.rev ≤ (m : Int) + 1) := ⟨D.L, D.v⟩
  generalize o.cs = ocs at *
  generalize o.sn = sn at *
  generalize o.sc = sc at *
  generalize o.sa = sa at *
  clear D D1 b1 k1 hk hz heb hee hl
  go_enter Try.func8, Try.ntmps8
  go_wp2_with (fail)
  refine H1.out.mono ?_
  rintro e w2 ⟨g, cap, rfl, mk, hb2⟩
  have HM2 : Hid (MarkedF w2 W1.heap.size g sn cap o.ss) := mk
  have HB2 : Hid (Below W1.heap.size W1 w2) := hb2
  have HA2 := HA.out w2 g cap (HD1.out.a.still hb2) (mk.rd Hl.out)
  clear mk hb2 H1 HA
  go_wp2_with (fail)
  refine HA2.mono ?_
  rintro e w3 ⟨rfl, okA, kA⟩
  have D2 := HD1.out.still HB2.out
  have okR := D2.r.keptA D2.a kA
  have B3 : Below B w w3 := (HbW.out.trans (HB2.out.mono HD1.out.bB)).trans (D2.a.belowA D2.bB kA)
  obtain ⟨CA, hCA⟩ := D2.a.cells
  have k2 : w2.heap[w.heap.size]? = some (.cells ocs 42 (0, 0)) := (HB2.out.block _ (lt_heap Hk1.out)).trans Hk1.out
  have k3 : w3.heap[w.heap.size]? = some (.cells ocs 42 (0, 0)) := kA.obj k2 (fun e => blk_ne hCA k2 (by decide) e.symm)
  have y3 : w3.cell? ⟨w.heap.size, 3, none⟩ = some (.slice sa sn sc) := by rw [blk_cell k3, ← blk_cell Hk1.out]; exact x3
  obtain ⟨hgB, hgs, CG, hCG, hCn⟩ := HM2.out.blk
  have HM3 : Hid (MarkedF w3 W1.heap.size g sn cap o.ss) := HM2.out.kept kA (fun e => blk_ne hCA hCG (by decide) e.symm)
  have Hk3 : Hid (w3.heap[w.heap.size]? = some (.cells ocs 42 (0, 0))) := k3
  have H3 : Hid (Below B w w3 ∧ (A.estA o.ss).Ok w3 B 4611686018427387903 ∧ R.Ok w3 B ∧ R.Ap g ∧ g < w3.heap.size ∧ B ≤ g) := ⟨B3, okA, okR, HD1.out.r.ap hgB, Nat.lt_of_lt_of_le hgs kA.size, Nat.le_trans HD1.out.bB hgB⟩
  have HR3 := HR.out w3 okR (HQ.out _ B3)
  clear HA2 okA kA D2 okR B3 hCA k2 k3 hgB hgs hCG hCn HR HM2 HB2
  go_wp2_with (fail)
  refine HR3.mono ?_
  rintro e w4 ⟨R', rfl, okR, kR, hs, hru, hnb⟩
  have kR1 : Kept w3 w4 R.own1 := kR.mono fun k hk e => .inl e
  have hRb := H3.out.2.2.1.blk
  have k4 : w4.heap[w.heap.size]? = some (.cells ocs 42 (0, 0)) := kR.obj Hk3.out (fun e => blk_ne hRb Hk3.out (by decide) e.symm)
  have y4 : w4.cell? ⟨w.heap.size, 3, none⟩ = some (.slice sa sn sc) := by rw [blk_cell k4, ← blk_cell Hk3.out]; exact y3
  obtain ⟨hgB, hgs, CG, hCG, hCn⟩ := HM3.out.blk
  have HM4 : Hid (MarkedF w4 W1.heap.size g sn cap o.ss) := HM3.out.kept kR (fun e => blk_ne hRb hCG (by decide) e.symm)
  have B4 : Below B w w4 := H3.out.1.trans (H3.out.2.2.1.belowR kR1)
  have H4 : Hid (Below B w w4 ∧ (A.estA o.ss).Ok w4 B 4611686018427387903 ∧ R'.Ok w4 B ∧ R'.Ap g ∧ Sim (A.estA o.ss) R' ∧ Ru R R' ∧ B ≤ g) := ⟨B4, H3.out.2.1.keptR H3.out.2.2.1 kR1, okR, hnb.out g H3.out.2.2.2.2.1 H3.out.2.2.2.1, hs, hru, H3.out.2.2.2.2.2⟩
  have HI4 := intact_any (c := sc) HM4.out (HQ.out _ B4) HZn.out
  clear HR3 okR kR hs hru hnb kR1 hRb k4 hgB hgs hCG hCn B4 H3 Hk3 HM3
  go_wp2_with (fail)
  refine HI4.mono ?_
  rintro e w5 ⟨rfl, hb5⟩
  obtain ⟨hgB, hgs, CG, hCG, hCn⟩ := HM4.out.blk
  have g5 : w5.heap[g]? = some (.cells CG 3 (0, 0)) := (hb5.block _ hgs).trans hCG
  have HS5 := spoil_any (n := sn) (cap := cap) (len := 0) g5 hCn (by have := HZn.out; omega)
  have H5 : Hid (Below B w w5 ∧ (A.estA o.ss).Ok w5 B 4611686018427387903 ∧ R'.Ok w5 B ∧ w5.heap[g]? = some (.cells CG 3 (0, 0))) := ⟨H4.out.1.trans (hb5.mono H4.out.2.2.1.bB), H4.out.2.1.still hb5, H4.out.2.2.1.still hb5, g5⟩
  clear HI4 hb5 hgB hgs hCG hCn g5 HM4
  go_wp2_with (fail)
  refine HS5.mono ?_
  rintro e w6 ⟨rfl, kS⟩
  have HD6 : Hid (Duo (A.estA o.ss) R' B (m + 1) w6) := ⟨H5.out.2.1.keptI H5.out.2.2.2 kS, H5.out.2.2.1.keptI H5.out.2.2.2 H4.out.2.2.2.1 kS, H4.out.2.2.2.2.1, by have := HLv.out.1; have := H4.out.2.2.2.2.2.1.l; omega, by have := HLv.out.2; have := H4.out.2.2.2.2.2.1.v; push_cast; omega⟩
  have HB6 : Hid (Below B w w6) := H5.out.1.trans (kS.below H5.out.2.2.1.bB (fun j hj e => by have := H4.out.2.2.2.2.2.2; omega))
  have HRb : Hid (R'.b = R.b) := H4.out.2.2.2.2.2.1.b
  clear HS5 kS
  go_wp2_with (fail)
  refine (HN.out _).mono ?_
  rintro e w7 ⟨rfl, rfl⟩
  go_wp2_with (fail)
  refine (HN.out _).mono ?_
  rintro e w8 ⟨rfl, rfl⟩
  go_wp2
  go_ret
  exact ⟨_, _, rfl, HD6.out, HAb.out, HRb.out, HB6.out⟩
end
end Go.Proofs.Ytbdefhagpgpoiac.Mb
namespace Go.Proofs.Ytbdefhagpgpoiac.Mb
open Go.RowKit
set_option linter.unusedVariables false
set_option maxRecDepth 100000
set_option linter.unusedSimpArgs false
section
variable {A A' : Ag} {w w' W : World} {B m : Nat} {T : Int} {R R' : Rg}
theorem Rg.Ok.own1_ne (h : R.Ok w B) {g t : Nat} {C : Array Value} (hg : w.heap[g]? = some (.cells C t (0, 0))) (h1 : 57 ≠ t) (h2 : 86 ≠ t) : ¬ R.own1 g := by
  rintro (e | e)
  · exact blk_ne h.blk hg h1 e.symm
  · exact own_ne h.row hg h2 _ e rfl
set_option maxHeartbeats 4000000 in
theorem plays_2 (D : Duo A R B m w) (hm : m ≤ 925904528653) (o : Opx) (hz : Opz o B w) (hk : o.kind = 2) : Calls Try.prog 8 #[.pointer (some ⟨A.b, 0, none⟩), .pointer (some ⟨R.b, 0, none⟩), .agg o.cs] w fun e w' => Ply A R B m w e w' := by
  generalize hW1 : w.alloc (.cells o.cs 42) = W1
  have b1 : Below w.heap.size w W1 := hW1 ▸ balloc (Below.refl _ _)
  have k1 : W1.heap[w.heap.size]? = some (.cells o.cs 42 (0, 0)) := by rw [← hW1]; exact heap_alloc_new w _
  have x0 : W1.cell? ⟨w.heap.size, 0, none⟩ = some (.int .i64 o.kind) := blk_cell k1 0
  have D1 := D.still b1
  have HD1 : Hid (Duo A R B m W1) := D1
  have HB1 : Hid (Below w.heap.size w W1) := b1
  have HBw : Hid (B ≤ w.heap.size) := D.bB
  rw [hk] at x0
  obtain ⟨p, hpe⟩ : ∃ p, o.p = p := ⟨_, rfl⟩
  have zp := hz.p0
  have zn := hz.pn
  have zv := hz.v0
  have zm := hz.vn
  rw [hpe] at zp zn zv zm
  have HQ : Hid (∀ w', Below B w w' → p.Rd w') := fun w' hb => hpe ▸ (hz.rd w' hb).p
  have HZn : Hid (p.sn ≤ 17592186043904 ∧ p.vn ≤ 17592186043904) := ⟨zn, zm⟩
  have HbW : Hid (Below B w W1) := b1.mono D.bB
  obtain ⟨L, hL⟩ : ∃ L : List Value, [.slice p.sa p.sn p.sc, .int .i64 p.cid, .int .i64 p.rev, .int .i64 p.top, .int .i64 (p.prev[0]?.getD 0), .int .i64 (p.prev[1]?.getD 0), .int .i64 (p.prev[2]?.getD 0), .int .i64 (p.prev[3]?.getD 0), .slice p.va p.vn p.vc] = L := ⟨_, rfl⟩
  have hLl : L.length = 9 := by rw [← hL]; rfl
  have HLl : Hid (L.length = 9) := hLl
  have hcs : ∀ W : World, W.heap[w.heap.size]? = some (.cells o.cs 42 (0, 0)) → W.cell? ⟨w.heap.size, 1, none⟩ = some (.int .i64 o.q) ∧ W.cell? ⟨w.heap.size, 2, none⟩ = some (.int .i64 o.inc) ∧ W.rangeAt w.heap.size 4 L ∧ W.cell? ⟨w.heap.size, 4 + 0, none⟩ = some (.slice p.sa p.sn p.sc) ∧ W.cell? ⟨w.heap.size, 4 + 8, none⟩ = some (.slice p.va p.vn p.vc) := fun W hW => by
    refine ⟨blk_cell hW 1, blk_cell hW 2, ?_, ?_, ?_⟩
    · rw [← hL, ← hpe]; exact op_range hW
    · rw [blk_cell hW, ← hpe]; rfl
    · rw [blk_cell hW, ← hpe]; rfl
  have Hcs : Hid (∀ W : World, W.heap[w.heap.size]? = some (.cells o.cs 42 (0, 0)) → W.cell? ⟨w.heap.size, 1, none⟩ = some (.int .i64 o.q) ∧ W.cell? ⟨w.heap.size, 2, none⟩ = some (.int .i64 o.inc) ∧ W.rangeAt w.heap.size 4 L ∧ W.cell? ⟨w.heap.size, 4 + 0, none⟩ = some (.slice p.sa p.sn p.sc) ∧ W.cell? ⟨w.heap.size, 4 + 8, none⟩ = some (.slice p.va p.vn p.vc)) := hcs
  have Hk1 : Hid (W1.heap[w.heap.size]? = some (.cells o.cs 42 (0, 0))) := k1
  have H1 : Hid (Calls Try.prog 16 #[.agg L.toArray] W1 fun e w' => ∃ g1 q1 g2 q2, e = .returned (.agg [.slice (some ⟨g1, 0, none⟩) p.sn q1, .int .i64 p.cid, .int .i64 p.rev, .int .i64 p.top, .int .i64 (p.prev[0]?.getD 0), .int .i64 (p.prev[1]?.getD 0), .int .i64 (p.prev[2]?.getD 0), .int .i64 (p.prev[3]?.getD 0), .slice (some ⟨g2, 0, none⟩) p.vn q2].toArray) ∧ MarkedF w' W1.heap.size g1 p.sn q1 p.ss ∧ MarkedF w' W1.heap.size g2 p.vn q2 p.vs ∧ g1 < g2 ∧ Below W1.heap.size W1 w') := by
    have := copied_any p (HQ.out _ HbW.out) zp zv zn zm
    rw [hL] at this
    exact this
  obtain ⟨tb, htb⟩ : ∃ b, A.takB o.q o.inc p = b := ⟨_, rfl⟩
  obtain ⟨te, hte⟩ : ∃ b, A.takE o.q o.inc p = b := ⟨_, rfl⟩
  obtain ⟨A2, hA2⟩ : ∃ b, A.takA o.q o.inc p = b := ⟨_, rfl⟩
  have HA : Hid (∀ W2 g1 q1 g2 q2, A.Ok W2 B 4611686018427387903 → RdI W2 (some ⟨g1, 0, none⟩) p.sn p.ss → RdI W2 (some ⟨g2, 0, none⟩) p.vn p.vs → Calls Try.prog 17 #[.pointer (some ⟨A.b, 0, none⟩), .int .i64 o.q, .int .i64 o.inc, .agg [.slice (some ⟨g1, 0, none⟩) p.sn q1, .int .i64 p.cid, .int .i64 p.rev, .int .i64 p.top, .int .i64 (p.prev[0]?.getD 0), .int .i64 (p.prev[1]?.getD 0), .int .i64 (p.prev[2]?.getD 0), .int .i64 (p.prev[3]?.getD 0), .slice (some ⟨g2, 0, none⟩) p.vn q2].toArray] W2 fun e w' => e = .returned (.tuple #[.bool tb, .int .i64 te]) ∧ A2.Ok w' B 4611686018427387903 ∧ Kept W2 w' (fun j => j = A.b)) := fun W2 g1 q1 g2 q2 hA r1 r2 => by
    have ht : Tw p (p.tw (some ⟨g1, 0, none⟩) q1 (some ⟨g2, 0, none⟩) q2) := tw_tw _ _ _ _ _
    have := take_any hA (by decide) o.q o.inc (p.tw (some ⟨g1, 0, none⟩) q1 (some ⟨g2, 0, none⟩) q2) ⟨r1, r2, (HQ.out _ HbW.out).l, (HQ.out _ HbW.out).sn, (HQ.out _ HbW.out).vn⟩
    obtain ⟨e1, e2, e3⟩ := tw_tak ht A o.q o.inc
    rw [e1, e2, e3, htb, hte, hA2] at this
    exact this
  have HR : Hid (∀ W2, R.Ok W2 B → p.Rd W2 → Calls Try.prog 18 #[.pointer (some ⟨R.b, 0, none⟩), .int .i64 o.q, .int .i64 o.inc, .agg L.toArray] W2 fun e w' => ∃ R' : Rg, e = .returned (.tuple #[.bool tb, .int .i64 te]) ∧ R'.Ok w' B ∧ Kept W2 w' R.own1 ∧ Sim A2 R' ∧ Ru R R' ∧ R'.Nb R W2.heap.size) := fun W2 hR hr => by
    have := D1.take hm hR o.q o.inc p hr
    rw [htb, hte, hA2] at this
    rw [← hL]
    exact this
  have HAb : Hid (A2.b = A.b) := by have := (stp_fx (Stp.tak (A := A) hk)).b; rw [hpe, hA2] at this; exact this
  have hbb : (tb == tb) = true := by simp
  have hbe : (te == te) = true := by simp
  have HN : Hid (∀ Z, Calls Try.prog 7 #[.int .i64 te] Z fun e w' => e = .returned (.int .i64 te) ∧ Z = w') := fun Z => num_any te
  have HLv : Hid (R.all.length ≤ m ∧ R.own.rev ≤ (m : Int) + 1) := ⟨D.L, D.v⟩
  obtain ⟨y1, y2, y4, -, -⟩ := hcs W1 k1
  have Y4 : Hid (W1.rangeAt w.heap.size 4 L) := y4
  clear y1 y2 y4 hcs
  generalize o.cs = ocs at *
  generalize o.q = oq at *
  generalize o.inc = oi at *
  clear D D1 b1 k1 hk hz htb hte hA2 hpe hL hLl zp zn zv zm
  go_enter Try.func8, Try.ntmps8
  go_wp2_with (first
    | (refine load_mid 40 (.tmp 74) Y4.out _ Try.underlying40 rfl (by rw [HLl.out]; exact info_propose) rfl rfl rfl ?_)
    | fail)
  refine H1.out.mono ?_
  rintro e w2 ⟨g1, q1, g2, q2, rfl, mk1, mk2, hgg, hb2⟩
  generalize hX : w2.alloc (.cells [.slice (some ⟨g1, 0, none⟩) p.sn q1, .int .i64 p.cid, .int .i64 p.rev, .int .i64 p.top, .int .i64 (p.prev[0]?.getD 0), .int .i64 (p.prev[1]?.getD 0), .int .i64 (p.prev[2]?.getD 0), .int .i64 (p.prev[3]?.getD 0), .slice (some ⟨g2, 0, none⟩) p.vn q2].toArray 40) = X
  have bX : Below w2.heap.size w2 X := by rw [← hX]; exact balloc (Below.refl _ _)
  have kX : X.heap[w2.heap.size]? = some (.cells [.slice (some ⟨g1, 0, none⟩) p.sn q1, .int .i64 p.cid, .int .i64 p.rev, .int .i64 p.top, .int .i64 (p.prev[0]?.getD 0), .int .i64 (p.prev[1]?.getD 0), .int .i64 (p.prev[2]?.getD 0), .int .i64 (p.prev[3]?.getD 0), .slice (some ⟨g2, 0, none⟩) p.vn q2].toArray 40 (0, 0)) := by rw [← hX]; exact heap_alloc_new w2 _
  have b2X := bstep hb2 bX
  have HX : Hid (Below W1.heap.size W1 X) := b2X
  have HkX : Hid (X.heap[w2.heap.size]? = some (.cells [.slice (some ⟨g1, 0, none⟩) p.sn q1, .int .i64 p.cid, .int .i64 p.rev, .int .i64 p.top, .int .i64 (p.prev[0]?.getD 0), .int .i64 (p.prev[1]?.getD 0), .int .i64 (p.prev[2]?.getD 0), .int .i64 (p.prev[3]?.getD 0), .slice (some ⟨g2, 0, none⟩) p.vn q2].toArray 40 (0, 0))) := kX
  have RX : Hid (X.rangeAt w2.heap.size 0 [.slice (some ⟨g1, 0, none⟩) p.sn q1, .int .i64 p.cid, .int .i64 p.rev, .int .i64 p.top, .int .i64 (p.prev[0]?.getD 0), .int .i64 (p.prev[1]?.getD 0), .int .i64 (p.prev[2]?.getD 0), .int .i64 (p.prev[3]?.getD 0), .slice (some ⟨g2, 0, none⟩) p.vn q2]) := blk_range kX
  have HM2 : Hid (MarkedF X W1.heap.size g1 p.sn q1 p.ss ∧ MarkedF X W1.heap.size g2 p.vn q2 p.vs ∧ g1 < g2) := ⟨own_still mk1 bX, own_still mk2 bX, hgg⟩
  have HA2 := HA.out X g1 q1 g2 q2 (HD1.out.a.still b2X) (HM2.out.1.rd ((HQ.out _ HbW.out).s.1)) (HM2.out.2.1.rd ((HQ.out _ HbW.out).v.1))
  have kOp : X.heap[w.heap.size]? = some (.cells ocs 42 (0, 0)) := (b2X.block _ (lt_heap Hk1.out)).trans Hk1.out
  have HkO : Hid (X.heap[w.heap.size]? = some (.cells ocs 42 (0, 0))) := kOp
  obtain ⟨y1, y2, -, -, -⟩ := Hcs.out X kOp
  simp only [List.toArray] at hX
  clear mk1 mk2 hgg hb2 H1 HA bX kX b2X kOp
  go_wp2_with (first
    | (refine load_mid 40 (.tmp 13) RX.out _ Try.underlying40 rfl (by kernel_rfl) rfl rfl rfl ?_)
    | fail)
  refine HA2.mono ?_
  rintro e w3 ⟨rfl, okA, kA⟩
  have D2 := HD1.out.still HX.out
  have okR := D2.r.keptA D2.a kA
  have B3 : Below B w w3 := (HbW.out.trans (HX.out.mono HD1.out.bB)).trans (D2.a.belowA D2.bB kA)
  obtain ⟨CA, hCA⟩ := D2.a.cells
  have kO3 : w3.heap[w.heap.size]? = some (.cells ocs 42 (0, 0)) := kA.obj HkO.out (fun e => blk_ne hCA HkO.out (by decide) e.symm)
  have kP3 : w3.heap[w2.heap.size]? = some (.cells [.slice (some ⟨g1, 0, none⟩) p.sn q1, .int .i64 p.cid, .int .i64 p.rev, .int .i64 p.top, .int .i64 (p.prev[0]?.getD 0), .int .i64 (p.prev[1]?.getD 0), .int .i64 (p.prev[2]?.getD 0), .int .i64 (p.prev[3]?.getD 0), .slice (some ⟨g2, 0, none⟩) p.vn q2].toArray 40 (0, 0)) := kA.obj HkX.out (fun e => blk_ne hCA HkX.out (by decide) e.symm)
  obtain ⟨z1, z2, z4, -, -⟩ := Hcs.out w3 kO3
  have Z4 : Hid (w3.rangeAt w.heap.size 4 L) := z4
  obtain ⟨hgB1, hgs1, CG1, hCG1, hCn1⟩ := HM2.out.1.blk
  obtain ⟨hgB2, hgs2, CG2, hCG2, hCn2⟩ := HM2.out.2.1.blk
  have HM3 : Hid (MarkedF w3 W1.heap.size g1 p.sn q1 p.ss ∧ MarkedF w3 W1.heap.size g2 p.vn q2 p.vs ∧ g1 < g2) := ⟨HM2.out.1.kept kA (fun e => blk_ne hCA hCG1 (by decide) e.symm), HM2.out.2.1.kept kA (fun e => blk_ne hCA hCG2 (by decide) e.symm), HM2.out.2.2⟩
  have Hk3 : Hid (w3.heap[w.heap.size]? = some (.cells ocs 42 (0, 0)) ∧ w3.heap[w2.heap.size]? = some (.cells [.slice (some ⟨g1, 0, none⟩) p.sn q1, .int .i64 p.cid, .int .i64 p.rev, .int .i64 p.top, .int .i64 (p.prev[0]?.getD 0), .int .i64 (p.prev[1]?.getD 0), .int .i64 (p.prev[2]?.getD 0), .int .i64 (p.prev[3]?.getD 0), .slice (some ⟨g2, 0, none⟩) p.vn q2].toArray 40 (0, 0))) := ⟨kO3, kP3⟩
  have H3 : Hid (Below B w w3 ∧ A2.Ok w3 B 4611686018427387903 ∧ R.Ok w3 B) := ⟨B3, okA, okR⟩
  have H3g : Hid ((R.Ap g1 ∧ g1 < w3.heap.size ∧ B ≤ g1) ∧ (R.Ap g2 ∧ g2 < w3.heap.size ∧ B ≤ g2)) := ⟨⟨HD1.out.r.ap hgB1, Nat.lt_of_lt_of_le hgs1 kA.size, Nat.le_trans HD1.out.bB hgB1⟩, ⟨HD1.out.r.ap hgB2, Nat.lt_of_lt_of_le hgs2 kA.size, Nat.le_trans HD1.out.bB hgB2⟩⟩
  have HR3 := HR.out w3 okR (HQ.out _ B3)
  clear HA2 okA kA D2 okR B3 hCA kO3 kP3 z4 hgB1 hgs1 hCG1 hCn1 hgB2 hgs2 hCG2 hCn2 HR HM2 HX HkX HkO RX y1 y2
  go_wp2_with (first
    | (refine load_mid 40 (.tmp 93) Z4.out _ Try.underlying40 rfl (by rw [HLl.out]; exact info_propose) rfl rfl rfl ?_)
    | fail)
  refine HR3.mono ?_
  rintro e w4 ⟨R', rfl, okR, kR, hs, hru, hnb⟩
  have hR3 := H3.out.2.2
  have kO4 : w4.heap[w.heap.size]? = some (.cells ocs 42 (0, 0)) := kR.obj Hk3.out.1 (hR3.own1_ne Hk3.out.1 (by decide) (by decide))
  have kP4 : w4.heap[w2.heap.size]? = some (.cells [.slice (some ⟨g1, 0, none⟩) p.sn q1, .int .i64 p.cid, .int .i64 p.rev, .int .i64 p.top, .int .i64 (p.prev[0]?.getD 0), .int .i64 (p.prev[1]?.getD 0), .int .i64 (p.prev[2]?.getD 0), .int .i64 (p.prev[3]?.getD 0), .slice (some ⟨g2, 0, none⟩) p.vn q2].toArray 40 (0, 0)) := kR.obj Hk3.out.2 (hR3.own1_ne Hk3.out.2 (by decide) (by decide))
  obtain ⟨-, -, -, u4, u12⟩ := Hcs.out w4 kO4
  have v0 : w4.cell? ⟨w2.heap.size, 0, none⟩ = some (.slice (some ⟨g1, 0, none⟩) p.sn q1) := blk_cell kP4 0
  obtain ⟨hgB1, hgs1, CG1, hCG1, hCn1⟩ := HM3.out.1.blk
  obtain ⟨hgB2, hgs2, CG2, hCG2, hCn2⟩ := HM3.out.2.1.blk
  have HM4 : Hid (MarkedF w4 W1.heap.size g1 p.sn q1 p.ss ∧ MarkedF w4 W1.heap.size g2 p.vn q2 p.vs ∧ g1 < g2) := ⟨HM3.out.1.kept kR (hR3.own1_ne hCG1 (by decide) (by decide)), HM3.out.2.1.kept kR (hR3.own1_ne hCG2 (by decide) (by decide)), HM3.out.2.2⟩
  have B4 : Below B w w4 := H3.out.1.trans (hR3.belowR kR)
  have H4 : Hid (Below B w w4 ∧ A2.Ok w4 B 4611686018427387903 ∧ R'.Ok w4 B ∧ Sim A2 R' ∧ Ru R R') := ⟨B4, H3.out.2.1.keptR hR3 kR, okR, hs, hru⟩
  have H4g : Hid ((R'.Ap g1 ∧ B ≤ g1) ∧ (R'.Ap g2 ∧ B ≤ g2)) := ⟨⟨hnb.out g1 H3g.out.1.2.1 H3g.out.1.1, H3g.out.1.2.2⟩, ⟨hnb.out g2 H3g.out.2.2.1 H3g.out.2.1, H3g.out.2.2.2⟩⟩
  have HI4 : Hid (Calls Try.prog 14 #[.slice (some ⟨g1, 0, none⟩) p.sn q1, .slice p.sa p.sn p.sc] w4 fun e w' => e = .returned (.bool true) ∧ Below w4.heap.size w4 w') := intact_any HM4.out.1 (HQ.out _ B4).s HZn.out.1
  have HI5 : Hid (∀ W2, Below w4.heap.size w4 W2 → Calls Try.prog 14 #[.slice (some ⟨g2, 0, none⟩) p.vn q2, .slice p.va p.vn p.vc] W2 fun e w' => e = .returned (.bool true) ∧ Below W2.heap.size W2 w') := fun W2 hb => intact_any (MarkedF.kept HM4.out.2.1 (Kept.ofBelow hb (fun _ => False)) id) ((HQ.out _ B4).v.still hb) HZn.out.2
  have Hk4 : Hid (w4.heap[w.heap.size]? = some (.cells ocs 42 (0, 0)) ∧ w4.heap[w2.heap.size]? = some (.cells [.slice (some ⟨g1, 0, none⟩) p.sn q1, .int .i64 p.cid, .int .i64 p.rev, .int .i64 p.top, .int .i64 (p.prev[0]?.getD 0), .int .i64 (p.prev[1]?.getD 0), .int .i64 (p.prev[2]?.getD 0), .int .i64 (p.prev[3]?.getD 0), .slice (some ⟨g2, 0, none⟩) p.vn q2].toArray 40 (0, 0))) := ⟨kO4, kP4⟩
  clear HR3 okR kR hs hru hnb hR3 kO4 kP4 hgB1 hgs1 hCG1 hCn1 hgB2 hgs2 hCG2 hCn2 B4 H3 Hk3 HM3 H3g z1 z2 u12
  go_wp2_with (fail)
  refine HI4.out.mono ?_
  rintro e w5 ⟨rfl, hb5⟩
  have kO5 : w5.heap[w.heap.size]? = some (.cells ocs 42 (0, 0)) := (hb5.block _ (lt_heap Hk4.out.1)).trans Hk4.out.1
  have kP5 : w5.heap[w2.heap.size]? = some (.cells [.slice (some ⟨g1, 0, none⟩) p.sn q1, .int .i64 p.cid, .int .i64 p.rev, .int .i64 p.top, .int .i64 (p.prev[0]?.getD 0), .int .i64 (p.prev[1]?.getD 0), .int .i64 (p.prev[2]?.getD 0), .int .i64 (p.prev[3]?.getD 0), .slice (some ⟨g2, 0, none⟩) p.vn q2].toArray 40 (0, 0)) := (hb5.block _ (lt_heap Hk4.out.2)).trans Hk4.out.2
  obtain ⟨-, -, -, -, u12⟩ := Hcs.out w5 kO5
  have v8 : w5.cell? ⟨w2.heap.size, 8, none⟩ = some (.slice (some ⟨g2, 0, none⟩) p.vn q2) := blk_cell kP5 8
  have HI6 := HI5.out _ hb5
  have HB5 : Hid (Below w4.heap.size w4 w5) := hb5
  clear HI4 HI5 hb5 kO5 kP5 u4 v0
  go_wp2_with (fail)
  refine HI6.mono ?_
  rintro e w6 ⟨rfl, hb6⟩
  have B46 := bstep HB5.out hb6
  have kP6 : w6.heap[w2.heap.size]? = some (.cells [.slice (some ⟨g1, 0, none⟩) p.sn q1, .int .i64 p.cid, .int .i64 p.rev, .int .i64 p.top, .int .i64 (p.prev[0]?.getD 0), .int .i64 (p.prev[1]?.getD 0), .int .i64 (p.prev[2]?.getD 0), .int .i64 (p.prev[3]?.getD 0), .slice (some ⟨g2, 0, none⟩) p.vn q2].toArray 40 (0, 0)) := (B46.block _ (lt_heap Hk4.out.2)).trans Hk4.out.2
  have v0 : w6.cell? ⟨w2.heap.size, 0, none⟩ = some (.slice (some ⟨g1, 0, none⟩) p.sn q1) := blk_cell kP6 0
  obtain ⟨hgB1, hgs1, CG1, hCG1, hCn1⟩ := HM4.out.1.blk
  obtain ⟨hgB2, hgs2, CG2, hCG2, hCn2⟩ := HM4.out.2.1.blk
  have j1 : w6.heap[g1]? = some (.cells CG1 3 (0, 0)) := (B46.block _ hgs1).trans hCG1
  have j2 : w6.heap[g2]? = some (.cells CG2 3 (0, 0)) := (B46.block _ hgs2).trans hCG2
  have HS6 := spoil_any (n := p.sn) (cap := q1) (len := 0) j1 hCn1 (by have := HZn.out.1; omega)
  have H6 : Hid (Below B w w6 ∧ A2.Ok w6 B 4611686018427387903 ∧ R'.Ok w6 B ∧ w6.heap[g1]? = some (.cells CG1 3 (0, 0)) ∧ w6.heap[g2]? = some (.cells CG2 3 (0, 0)) ∧ p.vn ≤ CG2.size ∧ w6.heap[w2.heap.size]? = some (.cells [.slice (some ⟨g1, 0, none⟩) p.sn q1, .int .i64 p.cid, .int .i64 p.rev, .int .i64 p.top, .int .i64 (p.prev[0]?.getD 0), .int .i64 (p.prev[1]?.getD 0), .int .i64 (p.prev[2]?.getD 0), .int .i64 (p.prev[3]?.getD 0), .slice (some ⟨g2, 0, none⟩) p.vn q2].toArray 40 (0, 0)) ∧ g1 < g2) := ⟨H4.out.1.trans (B46.mono H4.out.2.2.1.bB), H4.out.2.1.still B46, H4.out.2.2.1.still B46, j1, j2, hCn2, kP6, HM4.out.2.2⟩
  clear HI6 hb6 B46 kP6 hgB1 hgs1 hCG1 hCn1 hgB2 hgs2 hCG2 hCn2 j1 j2 HM4 HB5 Hk4 u12 v8
  go_wp2_with (fail)
  refine HS6.mono ?_
  rintro e w7 ⟨rfl, kS⟩
  have kP7 : w7.heap[w2.heap.size]? = some (.cells [.slice (some ⟨g1, 0, none⟩) p.sn q1, .int .i64 p.cid, .int .i64 p.rev, .int .i64 p.top, .int .i64 (p.prev[0]?.getD 0), .int .i64 (p.prev[1]?.getD 0), .int .i64 (p.prev[2]?.getD 0), .int .i64 (p.prev[3]?.getD 0), .slice (some ⟨g2, 0, none⟩) p.vn q2].toArray 40 (0, 0)) := kS.obj H6.out.2.2.2.2.2.2.1 (fun e => blk_ne H6.out.2.2.2.1 H6.out.2.2.2.2.2.2.1 (by decide) e.symm)
  have v8 : w7.cell? ⟨w2.heap.size, 8, none⟩ = some (.slice (some ⟨g2, 0, none⟩) p.vn q2) := blk_cell kP7 8
  have j2 : w7.heap[g2]? = some (.cells CG2 3 (0, 0)) := kS.obj H6.out.2.2.2.2.1 (fun e => by have := H6.out.2.2.2.2.2.2.2; omega)
  have HS7 := spoil_any (n := p.vn) (cap := q2) (len := 0) j2 H6.out.2.2.2.2.2.1 (by have := HZn.out.2; omega)
  have okA7 := H6.out.2.1.keptI H6.out.2.2.2.1 kS
  have okR7 := H6.out.2.2.1.keptI H6.out.2.2.2.1 H4g.out.1.1 kS
  have H7 : Hid (Below B w w7 ∧ A2.Ok w7 B 4611686018427387903 ∧ R'.Ok w7 B ∧ w7.heap[g2]? = some (.cells CG2 3 (0, 0))) := ⟨H6.out.1.trans (kS.below H6.out.2.2.1.bB (fun j hj e => by have := H4g.out.1.2; omega)), okA7, okR7, j2⟩
  clear HS6 kS kP7 j2 okA7 okR7 H6 v0
  go_wp2_with (fail)
  refine HS7.mono ?_
  rintro e w8 ⟨rfl, kS⟩
  have HD8 : Hid (Duo A2 R' B (m + 1) w8) := ⟨H7.out.2.1.keptI H7.out.2.2.2 kS, H7.out.2.2.1.keptI H7.out.2.2.2 H4g.out.2.1 kS, H4.out.2.2.2.1, by have := HLv.out.1; have := H4.out.2.2.2.2.l; omega, by have := HLv.out.2; have := H4.out.2.2.2.2.v; push_cast; omega⟩
  have HB8 : Hid (Below B w w8) := H7.out.1.trans (kS.below H7.out.2.2.1.bB (fun j hj e => by have := H4g.out.2.2; omega))
  have HRb : Hid (R'.b = R.b) := H4.out.2.2.2.2.b
  clear HS7 kS v8
  go_wp2_with (fail)
  refine (HN.out _).mono ?_
  rintro e w9 ⟨rfl, rfl⟩
  go_wp2_with (fail)
  refine (HN.out _).mono ?_
  rintro e w10 ⟨rfl, rfl⟩
  go_wp2
  go_ret
  exact ⟨_, _, rfl, HD8.out, HAb.out, HRb.out, HB8.out⟩
end
end Go.Proofs.Ytbdefhagpgpoiac.Mb
