import Derived.Test.YtobaooebjgoaiaaV46
namespace Go.Proofs.Ytobaooebjgoaiaa.Hh
open Go.RowKit Go.Maps Mb
set_option linter.unusedVariables false
set_option linter.unusedSimpArgs false
set_option maxRecDepth 100000
open Go.Proofs.Ytobaooebjgoaiaa.Fm
section
variable {w w' w0 w1 w2 w3 Z Y V V4 : World} {B : Nat} {S S' : St} {hb : Nat} {f f' : Nat → Nat → Nat → Value}
theorem St.Ok.at (h : S.Ok w B hb f) {c n j : Nat} (hc : c < 6) (hn : (S.r c).n = n) (hj : j < n) : ∃ g cc, (S.r c) = ⟨some ⟨g, 0, none⟩, n, cc⟩ ∧ n ≤ cc ∧ ∀ X, Below w.heap.size w X → X.cell? ⟨hb, 2 * c, none⟩ = some (.slice (some ⟨g, 0, none⟩) n cc) ∧ ∀ i, i < n → X.cell? ⟨g, i, none⟩ = some (S.v c i).v := by
 obtain ⟨⟨a, m, cc⟩, hR⟩ : ∃ x, S.r c = x := ⟨_, rfl⟩
 rw [hR] at hn
 have hn : m = n := hn
 subst hn
 have h1 := h.row c hc
 rw [hR] at h1
 have h1 : w.ownsRow B (Ety c) 1 (.slice a m cc) m (rv m fun i => (S.v c i).v) := h1
 obtain ⟨h2, h3, g, rfl⟩ := own_fits h1 (by omega)
 refine ⟨g, cc, hR, h2, fun X hX => ⟨?_, fun i hi => ?_⟩⟩
 ·have h4 := (h.still hX).cr hc
  rw [hR] at h4
  exact h4
 ·rw [World.ownsRow.cellAt (own_still h1 hX) i (by omega), rv_get _ hi]
set_option maxHeartbeats 16000000 in
theorem still_any {k : Ca} {who : List Int} {ds : List Dx} {i : Nat} {iv : Int} (h : Bt S w B hb f) (h0 : Cs w k who ds) (ha : Ans S f k who ds i) (hi : (iv = 0 ∧ i = 0) ∨ (iv = 1 ∧ i = 1) ∨ (iv = 2 ∧ i = 2) ∨ (iv = 3 ∧ i = 3) ∨ (iv = 4 ∧ i = 4)) : Calls Try.prog 5 #[.pointer (some ⟨hb, 0, none⟩), .agg k.cs.toArray, .int .i64 iv] w fun e w' => e = .returned (.bool true) ∧ Below w.heap.size w w' := by
 obtain ⟨⟨E1, l1, hS1, hI1⟩, ⟨E2, l2, hS2, hI2⟩, ⟨E3, l3, hS3, hI3⟩⟩ := ha
 have HCs : Hid (∀ (X : World) (cb : Nat), X.heap[cb]? = some (.cells k.cs.toArray 31 (0, 0)) → X.cell? ⟨cb, 0, none⟩ = some (.slice k.ao k.fs.length k.cp) ∧ X.rangeAt cb 1 k.own.cs ∧ X.cell? ⟨cb, 8, none⟩ = some (.int .i64 k.d) ∧ X.cell? ⟨cb, 9, none⟩ = some (.slice k.wa k.wn k.wc) ∧ X.cell? ⟨cb, 10, none⟩ = some (.int .i64 k.self) ∧ X.cell? ⟨cb, 11, none⟩ = some (.int .i64 k.q) ∧ X.cell? ⟨cb, 12, none⟩ = some (.slice k.ma k.mn k.mc)) := fun X cb h => ⟨blk_cell h 0, Ca.own_at h, blk_cell h 8, blk_cell h 9, blk_cell h 10, blk_cell h 11, blk_cell h 12⟩
 obtain ⟨g2, c2, hR2, hc2, hat2⟩ := h.ok.at (c := 2) (n := (S.r 2).n) (j := 2 * i + 1) (by omega) rfl (by rw [h.fit.rn 2 (by omega)]; exact hI2.lt)
 obtain ⟨g5, c5, hR5, hc5, hat5⟩ := h.ok.at (c := 5) (n := (S.r 5).n) (j := i) (by omega) rfl (by rw [h.fit.rn 5 (by omega)]; exact hI3.lt)
 have hlt2 : 2 * i + 1 < (S.r 2).n := by rw [h.fit.rn 2 (by omega)]; exact hI2.lt
 have hlt5 : i < (S.r 5).n := by rw [h.fit.rn 5 (by omega)]; exact hI3.lt
 have hN2 : (S.r 2).n ≤ 100000000 := by rw [h.fit.rn 2 (by omega)]; exact h.fit.N 2 (by omega)
 have hN5 : (S.r 5).n ≤ 100000000 := by rw [h.fit.rn 5 (by omega)]; exact h.fit.N 5 (by omega)
 obtain ⟨n2, hn2⟩ : ∃ n, (S.r 2).n = n := ⟨_, rfl⟩
 obtain ⟨n5, hn5⟩ : ∃ n, (S.r 5).n = n := ⟨_, rfl⟩
 rw [hn2] at hat2 hlt2 hN2 hc2
 rw [hn5] at hat5 hlt5 hN5 hc5
 obtain ⟨a1, e1, hv1⟩ : ∃ a c, (S.v 2 (2 * i)).v = .slice a l1.length c ∧ ∀ X, Below w.heap.size w X → RdS X a l1 := ⟨_, _, (hI1.rd h.ok).1, fun X hX => (hI1.rd (h.ok.still hX)).2⟩
 obtain ⟨a2, e2, hv2⟩ : ∃ a c, (S.v 2 (2 * i + 1)).v = .slice a l2.length c ∧ ∀ X, Below w.heap.size w X → RdS X a l2 := ⟨_, _, (hI2.rd h.ok).1, fun X hX => (hI2.rd (h.ok.still hX)).2⟩
 obtain ⟨a3, e3, hv3⟩ : ∃ a c, (S.v 5 i).v = .slice a l3.length c ∧ ∀ X, Below w.heap.size w X → RdDs X a l3 := ⟨_, _, (hI3.rd h.ok (RsS.r64 hS3)).1, fun X hX => (hI3.rd (h.ok.still hX) (RsS.r64 hS3)).2⟩
 have HV1 : Hid (∀ X, Below w.heap.size w X → RdS X a1 l1) := hv1.2
 have HV2 : Hid (∀ X, Below w.heap.size w X → RdS X a2 l2) := hv2.2
 have HV3 : Hid (∀ X, Below w.heap.size w X → RdDs X a3 l3) := hv3.2
 have HAt : Hid (∀ X, Below w.heap.size w X → X.cell? ⟨hb, 4, none⟩ = some (.slice (some ⟨g2, 0, none⟩) n2 c2) ∧ X.cell? ⟨hb, 10, none⟩ = some (.slice (some ⟨g5, 0, none⟩) n5 c5) ∧ X.cell? ⟨g2, 2 * i, none⟩ = some (.slice a1 l1.length e1) ∧ X.cell? ⟨g2, 2 * i + 1, none⟩ = some (.slice a2 l2.length e2) ∧ X.cell? ⟨g5, i, none⟩ = some (.slice a3 l3.length e3)) := fun X hX => by
  have h1 := hat2 X hX
  have h2 := hat5 X hX
  refine ⟨h1.1, h2.1, ?_, ?_, ?_⟩
  ·rw [h1.2 _ (by omega), hv1.1]
  ·rw [h1.2 _ (by omega), hv2.1]
  ·rw [h2.2 _ (by omega), hv3.1]
 have HS1 : Hid (LkS (cos k.fs) k.own.c k.d E1 l1) := hS1
 have HS2 : Hid (DuS (cos k.fs) who k.self k.q E2 l2) := hS2
 have HS3 : Hid (RsS (cos k.fs) ds k.d E3 l3) := hS3
 generalize hW1 : w.alloc (.cells k.cs.toArray 31) = W1
 have b1 : Below w.heap.size w W1 := hW1 ▸ balloc (Below.refl _ _)
 have k1 : W1.heap[w.heap.size]? = some (.cells k.cs.toArray 31 (0, 0)) := by rw [← hW1]; exact heap_alloc_new w _
 have HB1 : Hid (Below w.heap.size w W1) := b1
 have HK1 : Hid (W1.heap[w.heap.size]? = some (.cells k.cs.toArray 31 (0, 0))) := k1
 have HC1 : Hid (Cs W1 k who ds) := h0.still b1
 have Hwl : Hid (who.length = k.wn ∧ ds.length = k.mn) := ⟨h0.wl, h0.ml⟩
 have Hi : Hid ((iv = 0 ∧ i = 0) ∨ (iv = 1 ∧ i = 1) ∨ (iv = 2 ∧ i = 2) ∨ (iv = 3 ∧ i = 3) ∨ (iv = 4 ∧ i = 4)) := hi
 have Hlt : Hid (2 * i + 1 < n2 ∧ i < n5 ∧ n2 ≤ 100000000 ∧ n5 ≤ 100000000 ∧ n2 ≤ c2 ∧ n5 ≤ c5) := ⟨hlt2, hlt5, hN2, hN5, hc2, hc5⟩
 have HQa := qlacks_any (w := W1) (cp := k.cp) HC1.out.fs HC1.out.own.rd HC1.out.fn k.d
 obtain ⟨q0, -, q8, -, -, -, -⟩ := HCs.out _ _ k1
 have Hld3 : Hid (W1.rangeAt w.heap.size 1 k.own.cs) := (HCs.out _ _ k1).2.1
 have Hc7 : Hid (k.own.cs.length = 7) := rfl
 clear h h0 hi hS1 hS2 hS3 hI1 hI2 hI3 hat2 hat5 hlt2 hlt5 hN2 hN5 hR2 hR5 hn2 hn5 hv1 hv2 hv3 b1 k1 hc2 hc5
 generalize k.cs.toArray = ca at hW1 ⊢
 go_enter Try.func5, Try.ntmps5
 go_upto_region 2 with (first
  | (refine load_mid 28 (.tmp 16) Hld3.out _ Try.underlying28 rfl (by rw [Hc7.out]; exact info_flush) rfl rfl rfl ?_)
  | (go_at_call 14; refine HQa.mono ?_; rintro e V10 ⟨ka, kc, l', E', rfl, hS, hko, hv10⟩; have HS10 : Hid (LkS (cos k.fs) k.own.c k.d E' l') := hS; have HO10 : Hid (V10.ownsRow W1.heap.size 76 2 (.slice ka l'.length kc) l'.length (slCells l')) := hko; have BV10 : Hid (Below W1.heap.size W1 V10) := hv10; clear hS hko hv10)
  | fail)
 obtain ⟨rfl, rfl⟩ := HS1.out.eq HS10.out
 have HK10 : Hid (V10.heap[w.heap.size]? = some (.cells k.cs.toArray 31 (0, 0))) := blk_on BV10.out HK1.out
 have HC10 : Hid (Cs V10 k who ds) := HC1.out.still BV10.out
 have HQb := qduty_any (w := V10) (wcp := k.wc) (cp := k.cp) HC10.out.wh HC10.out.wn HC10.out.fs HC10.out.fn k.self k.q
 rw [Hwl.out.1] at HQb
 obtain ⟨p0, -, -, p9, p10, p11, -⟩ := HCs.out _ _ HK10.out
 clear HQa q0 q8 Hld3 HS10 hW1
 go_upto_region 3 with (first
  | (go_at_call 15; refine HQb.mono ?_; rintro e V11 ⟨ya, yc, l2', E2', rfl, hS, hko, hv11⟩; have HS11 : Hid (DuS (cos k.fs) who k.self k.q E2' l2') := hS; have HO11 : Hid (V11.ownsRow V10.heap.size 76 2 (.slice ya l2'.length yc) l2'.length (slCells l2')) := hko; have BV11 : Hid (Below V10.heap.size V10 V11) := hv11; clear hS hko hv11)
  | fail)
 obtain ⟨rfl, rfl⟩ := HS2.out.eq HS11.out
 have HK11 : Hid (V11.heap[w.heap.size]? = some (.cells k.cs.toArray 31 (0, 0))) := blk_on BV11.out HK10.out
 have HC11 : Hid (Cs V11 k who ds) := HC10.out.still BV11.out
 have HQc := qrest_any (w := V11) (cp := k.cp) (mc := k.mc) HC11.out.fs HC11.out.fn HC11.out.ms HC11.out.mn HC11.out.mz k.d
 rw [Hwl.out.2] at HQc
 obtain ⟨s0, -, s8, -, -, -, s12⟩ := HCs.out _ _ HK11.out
 clear HQb p0 p9 p10 p11 HS11
 go_upto_region 4 with (first
  | (go_at_call 16; refine HQc.mono ?_; rintro e V12 ⟨za, zc, out', E3', rfl, hS, hko, hv12⟩; have HS12 : Hid (RsS (cos k.fs) ds k.d E3' out') := hS; have HO12 : Hid (MoT 97 V11.heap.size V12 (.slice za out'.length zc) out') := hko; have BV12 : Hid (Below V11.heap.size V11 V12) := hv12; clear hS hko hv12)
  | fail)
 obtain ⟨rfl, hal⟩ := HS3.out.eq HS12.out
 have HAl : Hid (Al l3 out') := hal
 have Bw12 : Hid (Below w.heap.size w V12) := bstep (bstep (bstep HB1.out BV10.out) BV11.out) BV12.out
 have HO12a : Hid (V12.ownsRow W1.heap.size 76 2 (.slice ka l1.length kc) l1.length (slCells l1)) := own_still HO10.out (bstep BV11.out BV12.out)
 have HO12b : Hid (V12.ownsRow V10.heap.size 76 2 (.slice ya l2.length yc) l2.length (slCells l2)) := own_still HO11.out BV12.out
 have HSs1 : Hid (Calls Try.prog 19 #[.slice a1 l1.length e1, .slice ka l1.length kc] V12 fun e w' => e = .returned (.bool true) ∧ Below V12.heap.size V12 w') := sameSlots_any (ca := e1) (cb := kc) (HV1.out _ Bw12.out) (own_rdS HO12a.out rfl) (by have := LkS.len2 HS1.out; omega)
 have HSs2 : Hid (∀ X, Below V12.heap.size V12 X → Calls Try.prog 19 #[.slice a2 l2.length e2, .slice ya l2.length yc] X fun e w' => e = .returned (.bool true) ∧ Below X.heap.size X w') := fun X hX => sameSlots_any (ca := e2) (cb := yc) (HV2.out _ (bstep Bw12.out hX)) (own_rdS (own_still HO12b.out hX) rfl) (by have := DuS.len2 HS2.out; omega)
 have HSm : Hid (∀ X, Below V12.heap.size V12 X → Calls Try.prog 20 #[.slice a3 l3.length e3, .slice za out'.length zc] X fun e w' => e = .returned (.bool true) ∧ Below X.heap.size X w') := fun X hX => sameMsgs_any (ca := e3) (cb := zc) (HV3.out _ (bstep Bw12.out hX)) ((HO12.out.still hX).rd rfl (RsS.r64 HS12.out)) HAl.out (by have := HS12.out.len; omega)
 clear HQc s0 s8 s12 hal HC10 HC11 HC1
 obtain ⟨z4, z10, zA, zB, zC⟩ := HAt.out _ Bw12.out
 obtain ⟨t1, t2, t3, t4, t5, t6⟩ := Hlt.out
 rcases Hi.out with ⟨rfl, rfl⟩ | ⟨rfl, rfl⟩ | ⟨rfl, rfl⟩ | ⟨rfl, rfl⟩ | ⟨rfl, rfl⟩
 ·clear Hi
  have j1 : (0 : Int) < (n2 : Int) := by omega
  have j2 : (1 : Int) < (n2 : Int) := by omega
  have j3 : (0 : Int) < (n5 : Int) := by omega
  clear t1 t2
  go_wp2_with (first
   | (go_at_call 19; refine HSs1.out.mono ?_; rintro e V13 ⟨rfl, hb13⟩; have BV13 : Hid (Below V12.heap.size V12 V13) := hb13; clear hb13 HSs1 z4 z10 zA zB zC; obtain ⟨z4, -, -, zB, -⟩ := HAt.out _ (bstep Bw12.out BV13.out))
   | (go_at_call 19; refine (HSs2.out _ BV13.out).mono ?_; rintro e V14 ⟨rfl, hb14⟩; have BV14 : Hid (Below V12.heap.size V12 V14) := bstep BV13.out hb14; clear hb14 z4 zB; obtain ⟨-, z10, -, -, zC⟩ := HAt.out _ (bstep Bw12.out BV14.out))
   | (go_at_call 20; refine (HSm.out _ BV14.out).mono ?_; rintro e V15 ⟨rfl, hb15⟩; have BV15 : Hid (Below V12.heap.size V12 V15) := bstep BV14.out hb15; clear hb15 z10 zC)
   | fail)
  go_ret
  exact ⟨rfl, bstep Bw12.out BV15.out⟩
 ·clear Hi
  have j1 : (2 : Int) < (n2 : Int) := by omega
  have j2 : (3 : Int) < (n2 : Int) := by omega
  have j3 : (1 : Int) < (n5 : Int) := by omega
  clear t1 t2
  go_wp2_with (first
   | (go_at_call 19; refine HSs1.out.mono ?_; rintro e V13 ⟨rfl, hb13⟩; have BV13 : Hid (Below V12.heap.size V12 V13) := hb13; clear hb13 HSs1 z4 z10 zA zB zC; obtain ⟨z4, -, -, zB, -⟩ := HAt.out _ (bstep Bw12.out BV13.out))
   | (go_at_call 19; refine (HSs2.out _ BV13.out).mono ?_; rintro e V14 ⟨rfl, hb14⟩; have BV14 : Hid (Below V12.heap.size V12 V14) := bstep BV13.out hb14; clear hb14 z4 zB; obtain ⟨-, z10, -, -, zC⟩ := HAt.out _ (bstep Bw12.out BV14.out))
   | (go_at_call 20; refine (HSm.out _ BV14.out).mono ?_; rintro e V15 ⟨rfl, hb15⟩; have BV15 : Hid (Below V12.heap.size V12 V15) := bstep BV14.out hb15; clear hb15 z10 zC)
   | fail)
  go_ret
  exact ⟨rfl, bstep Bw12.out BV15.out⟩
 ·clear Hi
  have j1 : (4 : Int) < (n2 : Int) := by omega
  have j2 : (5 : Int) < (n2 : Int) := by omega
  have j3 : (2 : Int) < (n5 : Int) := by omega
  clear t1 t2
  go_wp2_with (first
   | (go_at_call 19; refine HSs1.out.mono ?_; rintro e V13 ⟨rfl, hb13⟩; have BV13 : Hid (Below V12.heap.size V12 V13) := hb13; clear hb13 HSs1 z4 z10 zA zB zC; obtain ⟨z4, -, -, zB, -⟩ := HAt.out _ (bstep Bw12.out BV13.out))
   | (go_at_call 19; refine (HSs2.out _ BV13.out).mono ?_; rintro e V14 ⟨rfl, hb14⟩; have BV14 : Hid (Below V12.heap.size V12 V14) := bstep BV13.out hb14; clear hb14 z4 zB; obtain ⟨-, z10, -, -, zC⟩ := HAt.out _ (bstep Bw12.out BV14.out))
   | (go_at_call 20; refine (HSm.out _ BV14.out).mono ?_; rintro e V15 ⟨rfl, hb15⟩; have BV15 : Hid (Below V12.heap.size V12 V15) := bstep BV14.out hb15; clear hb15 z10 zC)
   | fail)
  go_ret
  exact ⟨rfl, bstep Bw12.out BV15.out⟩
 ·clear Hi
  have j1 : (6 : Int) < (n2 : Int) := by omega
  have j2 : (7 : Int) < (n2 : Int) := by omega
  have j3 : (3 : Int) < (n5 : Int) := by omega
  clear t1 t2
  go_wp2_with (first
   | (go_at_call 19; refine HSs1.out.mono ?_; rintro e V13 ⟨rfl, hb13⟩; have BV13 : Hid (Below V12.heap.size V12 V13) := hb13; clear hb13 HSs1 z4 z10 zA zB zC; obtain ⟨z4, -, -, zB, -⟩ := HAt.out _ (bstep Bw12.out BV13.out))
   | (go_at_call 19; refine (HSs2.out _ BV13.out).mono ?_; rintro e V14 ⟨rfl, hb14⟩; have BV14 : Hid (Below V12.heap.size V12 V14) := bstep BV13.out hb14; clear hb14 z4 zB; obtain ⟨-, z10, -, -, zC⟩ := HAt.out _ (bstep Bw12.out BV14.out))
   | (go_at_call 20; refine (HSm.out _ BV14.out).mono ?_; rintro e V15 ⟨rfl, hb15⟩; have BV15 : Hid (Below V12.heap.size V12 V15) := bstep BV14.out hb15; clear hb15 z10 zC)
   | fail)
  go_ret
  exact ⟨rfl, bstep Bw12.out BV15.out⟩
 ·clear Hi
  have j1 : (8 : Int) < (n2 : Int) := by omega
  have j2 : (9 : Int) < (n2 : Int) := by omega
  have j3 : (4 : Int) < (n5 : Int) := by omega
  clear t1 t2
  go_wp2_with (first
   | (go_at_call 19; refine HSs1.out.mono ?_; rintro e V13 ⟨rfl, hb13⟩; have BV13 : Hid (Below V12.heap.size V12 V13) := hb13; clear hb13 HSs1 z4 z10 zA zB zC; obtain ⟨z4, -, -, zB, -⟩ := HAt.out _ (bstep Bw12.out BV13.out))
   | (go_at_call 19; refine (HSs2.out _ BV13.out).mono ?_; rintro e V14 ⟨rfl, hb14⟩; have BV14 : Hid (Below V12.heap.size V12 V14) := bstep BV13.out hb14; clear hb14 z4 zB; obtain ⟨-, z10, -, -, zC⟩ := HAt.out _ (bstep Bw12.out BV14.out))
   | (go_at_call 20; refine (HSm.out _ BV14.out).mono ?_; rintro e V15 ⟨rfl, hb15⟩; have BV15 : Hid (Below V12.heap.size V12 V15) := bstep BV14.out hb15; clear hb15 z10 zC)
   | fail)
  go_ret
  exact ⟨rfl, bstep Bw12.out BV15.out⟩
end
end Go.Proofs.Ytobaooebjgoaiaa.Hh
