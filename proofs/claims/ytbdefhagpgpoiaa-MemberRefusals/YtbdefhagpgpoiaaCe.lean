import Derived.Test.YtbdefhagpgpoiaaCd
namespace Go.Proofs.Ytbdefhagpgpoiaa.Mb
open Go.RowKit Oe
set_option linter.unusedVariables false
set_option maxRecDepth 100000
set_option linter.unusedSimpArgs false
section
variable {A A' : Ag} {w w' W : World} {B : Nat} {T : Int}
set_option maxHeartbeats 80000000 in
theorem refusals_yes (n s : Nat) (inc fl : Int) (oa : Option Addr) (on oc : Nat) (os : Nat → Opx) (ho : RdOps w oa on os) (hon : on ≤ 925904528653) (h16 : 1 ≤ n ∧ n ≤ 16 ∧ s < n) (hi : 1 ≤ inc ∧ inc ≤ 4611686018427387904) (hf : 0 ≤ fl ∧ fl < 4611686018427387904) : Calls Try.prog 4 #[.agg #[.int .i64 (n : Int), .int .i64 (s : Int), .int .i64 inc, .int .i64 fl, .slice oa on oc]] w fun e w' => e = .returned (.bool true) ∧ Below w.heap.size w w' := by
  generalize hW1 : w.alloc (.cells #[.int .i64 (n : Int), .int .i64 (s : Int), .int .i64 inc, .int .i64 fl, .slice oa on oc] 24) = W1
  have b1 : Below w.heap.size w W1 := hW1 ▸ balloc (Below.refl _ _)
  have k1 : W1.heap[w.heap.size]? = some (.cells #[.int .i64 (n : Int), .int .i64 (s : Int), .int .i64 inc, .int .i64 fl, .slice oa on oc] 24 (0, 0)) := by rw [← hW1]; exact heap_alloc_new w _
  have c0 : W1.cell? ⟨w.heap.size, 0, none⟩ = some (.int .i64 (n : Int)) := blk_cell k1 0
  have c1 : W1.cell? ⟨w.heap.size, 1, none⟩ = some (.int .i64 (s : Int)) := blk_cell k1 1
  have c2 : W1.cell? ⟨w.heap.size, 2, none⟩ = some (.int .i64 inc) := blk_cell k1 2
  have c3 : W1.cell? ⟨w.heap.size, 3, none⟩ = some (.int .i64 fl) := blk_cell k1 3
  have c4 : W1.cell? ⟨w.heap.size, 4, none⟩ = some (.slice oa on oc) := blk_cell k1 4
  have HK1 : Hid (W1.heap[w.heap.size]? = some (.cells #[.int .i64 (n : Int), .int .i64 (s : Int), .int .i64 inc, .int .i64 fl, .slice oa on oc] 24 (0, 0))) := k1
  have HB1 : Hid (Below w.heap.size w W1) := b1
  have HO : Hid (RdOps w oa on os) := ho
  have HN := begun_yes (w := W1) n s inc fl oa on oc h16 hi hf
  have H16 : Hid (1 ≤ n ∧ n ≤ 16 ∧ s < n) := h16
  have Hi : Hid (1 ≤ inc ∧ inc ≤ 4611686018427387904) := hi
  have Hf : Hid (0 ≤ fl ∧ fl < 4611686018427387904) := hf
  clear b1 k1 ho h16 hi hf
  go_enter Try.func4, Try.ntmps4
  go_wp2_with (fail)
  refine HN.mono ?_
  rintro e w0 ⟨b, rfl, hA, hge, hAb, hb2⟩
  rw [newA_eq b n s inc fl Hf.out.2] at hA
  have HF0 : Hid (Fs w0 b n s inc w.heap.size #[.int .i64 (n : Int), .int .i64 (s : Int), .int .i64 inc, .int .i64 fl, .slice oa on oc] (A1 b n s inc fl)) := Fs.first b n s inc fl H16.out Hi.out hA ((hb2.block _ (lt_heap HK1.out)).trans HK1.out)
  have HB0 : Hid (Below w.heap.size w w0) := bstep HB1.out hb2
  have hble : w.heap.size ≤ b := by have := HB1.out.size; omega
  have HC : Calls Try.prog 17 #[.pointer (some ⟨b, 0, none⟩)] w0 fun e w' => e = .returned (.bool true) ∧ w0 = w' := HF0.out.chg
  have HV : Calls Try.prog 16 #[.pointer (some ⟨b, 0, none⟩)] w0 fun e w' => ∃ va vc, e = .returned (.agg #[.int .i64 0, .int .i64 0, .int .i64 0, .int .i64 0, .slice va 0 vc]) ∧ w'.ownsRow 0 86 3 (.slice va 0 vc) 0 (ints (A1 b n s inc fl).ms) ∧ Below w0.heap.size w0 w' := HF0.out.view
  clear HN c0 c1 c2 c3 c4 hW1 hA hge hAb hb2
  go_wp2_with (fail)
  refine HC.mono ?_
  rintro e w0' ⟨rfl, rfl⟩
  go_wp2_with (fail)
  refine HV.mono ?_
  rintro e v0 ⟨va, vc, rfl, _, hb0⟩
  have HF1 : Hid (Fs v0 b n s inc w.heap.size #[.int .i64 (n : Int), .int .i64 (s : Int), .int .i64 inc, .int .i64 fl, .slice oa on oc] (A1 b n s inc fl)) := HF0.out.still hb0
  have HBv : Hid (Below w.heap.size w v0) := bstep HB0.out hb0
  clear HC HV hb0
  go_wp2_with (first | (refine field_step 32 (.tmp 33) 1 (fld_view va 0 vc) rfl rfl rfl ?_) | fail)
  go_loopw [5] (fun v5 wr => ∃ (k : Nat) (A : Ag), k ≤ on ∧ v5 = .int .i64 (k : Int) ∧ Fs wr b n s inc w.heap.size #[.int .i64 (n : Int), .int .i64 (s : Int), .int .i64 inc, .int .i64 fl, .slice oa on oc] A ∧ Below w.heap.size w wr) (fun v5 _ => on - (intOf v5).toNat)
  case atStart => exact ⟨0, _, Nat.zero_le _, rfl, HF1.out, HBv.out⟩
  case round =>
    clear HF0 HF1 HBv HB0
    obtain ⟨k, A, hk, rfl, hR, hlw⟩ := hrel
    have x4 : wr.cell? ⟨w.heap.size, 4, none⟩ = some (.slice oa on oc) := blk_cell hR.m1 4
    by_cases hlt : k < on
    · obtain ⟨ob, off, hoa, hrg, hop⟩ := HO.out.at hlw hlt
      have HopG : Hid (∀ W, Below w.heap.size w W → (os k).Rd W) := fun W hW => (HO.out.2 k hlt).still hW
      rw [hoa] at x4
      clear hoa
      generalize os k = o at hrg hop HopG
      have i1' : (0 : Int) ≤ (k : Int) := Int.natCast_nonneg _
      have i2' : (k : Int) < (on : Int) := by omega
      have HRg : Hid (wr.rangeAt ob (off + k * 13) [.int .i64 o.kind, .int .i64 o.q, .int .i64 o.inc, .slice o.sa o.sn o.sc, .slice o.p.sa o.p.sn o.p.sc, .int .i64 o.p.cid, .int .i64 o.p.rev, .int .i64 o.p.top, .int .i64 (o.p.prev[0]?.getD 0), .int .i64 (o.p.prev[1]?.getD 0), .int .i64 (o.p.prev[2]?.getD 0), .int .i64 (o.p.prev[3]?.getD 0), .slice o.p.va o.p.vn o.p.vc]) := hrg
      generalize hX : wr.alloc (.cells [.int .i64 o.kind, .int .i64 o.q, .int .i64 o.inc, .slice o.sa o.sn o.sc, .slice o.p.sa o.p.sn o.p.sc, .int .i64 o.p.cid, .int .i64 o.p.rev, .int .i64 o.p.top, .int .i64 (o.p.prev[0]?.getD 0), .int .i64 (o.p.prev[1]?.getD 0), .int .i64 (o.p.prev[2]?.getD 0), .int .i64 (o.p.prev[3]?.getD 0), .slice o.p.va o.p.vn o.p.vc].toArray 44) = X
      have hbX : Below wr.heap.size wr X := by rw [← hX]; exact balloc (Below.refl _ _)
      have hkX : X.heap[wr.heap.size]? = some (.cells [.int .i64 o.kind, .int .i64 o.q, .int .i64 o.inc, .slice o.sa o.sn o.sc, .slice o.p.sa o.p.sn o.p.sc, .int .i64 o.p.cid, .int .i64 o.p.rev, .int .i64 o.p.top, .int .i64 (o.p.prev[0]?.getD 0), .int .i64 (o.p.prev[1]?.getD 0), .int .i64 (o.p.prev[2]?.getD 0), .int .i64 (o.p.prev[3]?.getD 0), .slice o.p.va o.p.vn o.p.vc].toArray 44 (0, 0)) := by rw [← hX]; exact heap_alloc_new wr _
      have HFX : Hid (Fs X b n s inc w.heap.size #[.int .i64 (n : Int), .int .i64 (s : Int), .int .i64 inc, .int .i64 fl, .slice oa on oc] A) := hR.still hbX
      have HkX : Hid (X.heap[wr.heap.size]? = some (.cells [.int .i64 o.kind, .int .i64 o.q, .int .i64 o.inc, .slice o.sa o.sn o.sc, .slice o.p.sa o.p.sn o.p.sc, .int .i64 o.p.cid, .int .i64 o.p.rev, .int .i64 o.p.top, .int .i64 (o.p.prev[0]?.getD 0), .int .i64 (o.p.prev[1]?.getD 0), .int .i64 (o.p.prev[2]?.getD 0), .int .i64 (o.p.prev[3]?.getD 0), .slice o.p.va o.p.vn o.p.vc].toArray 44 (0, 0))) := hkX
      have HlX : Hid (Below w.heap.size w X) := bstep hlw hbX
      have hk6 : w.heap.size ≤ wr.heap.size := hlw.size
      simp only [List.toArray] at hX
      clear hrg hop hR hlw hbX hkX
      go_wp2_with (first | (refine load_mid 44 (.tmp 48) HRg.out _ Try.underlying44 rfl (by kernel_rfl) rfl rfl rfl ?_) | fail)
      refine HFX.out.look.mono ?_
      rintro e w2 ⟨S, rfl, hS, hSg, hb2⟩
      generalize hZ : w2.alloc (.cells [.slice none 0 0, .int .i64 0, .int .i64 0, .int .i64 0, .int .i64 0, .int .i64 0, .int .i64 0, .int .i64 0, .slice none 0 0, .int .i64 0, .int .i64 0, .int .i64 0, .int .i64 0, .slice none 0 0, .int .i64 0, .int .i64 0, .int .i64 0, .int .i64 0, .slice none 0 0, .slice none 0 0, .bool false, .bool false].toArray 52) = Z
      have bZ : Below w2.heap.size w2 Z := by rw [← hZ]; exact balloc (Below.refl _ _)
      have kZ : Z.heap[w2.heap.size]? = some (.cells [.slice none 0 0, .int .i64 0, .int .i64 0, .int .i64 0, .int .i64 0, .int .i64 0, .int .i64 0, .int .i64 0, .slice none 0 0, .int .i64 0, .int .i64 0, .int .i64 0, .int .i64 0, .slice none 0 0, .int .i64 0, .int .i64 0, .int .i64 0, .int .i64 0, .slice none 0 0, .slice none 0 0, .bool false, .bool false].toArray 52 (0, 0)) := by rw [← hZ]; exact heap_alloc_new w2 _
      have T0 : Hid (Z.there w2.heap.size 0 22) := blk_there' kZ (by simp)
      generalize hY : Z.setCells w2.heap.size 0 S.cs = Y
      have bXZ : Below X.heap.size X Z := bstep hb2 bZ
      have bXY : Below X.heap.size X Y := by rw [← hY]; exact bsets hb2.size _ 0 bXZ
      have HK7 : Hid (Y.heap[w2.heap.size]? = some (.cells S.cs.toArray 52 (0, 0))) := by show Y.heap[w2.heap.size]? = _; rw [← hY]; exact sets_whole kZ rfl
      have HS : Hid (S.Kp Y) := by
        show S.Kp Y
        rw [← hY]
        exact (hS.still bZ).keep (ksets (P := fun j => j = w2.heap.size) (b := w2.heap.size) rfl S.cs 0 Z) (noI_blk kZ (by decide) (by decide))
      have HFY : Hid (Fs Y b n s inc w.heap.size #[.int .i64 (n : Int), .int .i64 (s : Int), .int .i64 inc, .int .i64 fl, .slice oa on oc] A) := HFX.out.still bXY
      have HK6 : Hid (Y.heap[wr.heap.size]? = some (.cells [.int .i64 o.kind, .int .i64 o.q, .int .i64 o.inc, .slice o.sa o.sn o.sc, .slice o.p.sa o.p.sn o.p.sc, .int .i64 o.p.cid, .int .i64 o.p.rev, .int .i64 o.p.top, .int .i64 (o.p.prev[0]?.getD 0), .int .i64 (o.p.prev[1]?.getD 0), .int .i64 (o.p.prev[2]?.getD 0), .int .i64 (o.p.prev[3]?.getD 0), .slice o.p.va o.p.vn o.p.vc].toArray 44 (0, 0))) := (bXY.block _ (lt_heap HkX.out)).trans HkX.out
      have HlY : Hid (Below w.heap.size w Y) := bstep HlX.out bXY
      have y0 : Y.cell? ⟨wr.heap.size, 0, none⟩ = some (.int .i64 o.kind) := blk_cell HK6.out 0
      have HSg : Hid (S.sg = A.sg) := hSg
      have hk7 : w.heap.size ≤ w2.heap.size := (bstep HlX.out hb2).size
      simp only [List.toArray] at hZ
      clear hS hSg hb2 bZ kZ bXZ bXY HFX HkX HlX hX
      by_cases e5 : o.kind = 5
      · rw [e5] at y0
        clear e5
        cases hg : A.agr with
        | true =>
          have HI := HFY.out.inst hg
          have Hgg : Hid (A.agr = true) := hg
          clear hg
          go_wp2_with (first | (refine store_midL 52 (.tmp 7) (.tmp 51) (L := S.cs) T0.out info_sight S.one rfl rfl rfl rfl ?_; rw [hY]) | fail)
          refine HI.mono ?_
          rintro e w3 ⟨gw, cw, ao, tn, cp, A', j0, j1, j2, j3, rfl, hF3, hid, hav, hms, ho1, ho2, htn, hown, hchg, hk16, hK3⟩
          generalize hZ8 : w3.alloc (.cells [.int .i64 j0, .int .i64 j1, .int .i64 j2, .int .i64 j3, .slice (some ⟨gw, 0, none⟩) A'.k cw].toArray 32) = Z8
          have bZ8 : Below w3.heap.size w3 Z8 := by rw [← hZ8]; exact balloc (Below.refl _ _)
          have kZ8 : Z8.heap[w3.heap.size]? = some (.cells [.int .i64 j0, .int .i64 j1, .int .i64 j2, .int .i64 j3, .slice (some ⟨gw, 0, none⟩) A'.k cw].toArray 32 (0, 0)) := by rw [← hZ8]; exact heap_alloc_new w3 _
          obtain ⟨Cb, hCb⟩ := HFY.out.blk
          have k73 := hK3.obj HK7.out (fun e => blk_ne HK7.out hCb (by decide) e)
          have HK7z : Hid (Z8.heap[w2.heap.size]? = some (.cells S.cs.toArray 52 (0, 0))) := (bZ8.block _ (lt_heap k73)).trans k73
          have HSz : Hid (S.Kp Z8) := (HS.out.keep hK3 HFY.out.noI).still bZ8
          have HFz : Hid (Fs Z8 b n s inc w.heap.size #[.int .i64 (n : Int), .int .i64 (s : Int), .int .i64 inc, .int .i64 fl, .slice oa on oc] A') := hF3.still bZ8
          have Hlz : Hid (Below w.heap.size w Z8) := bstep (HlY.out.trans (hK3.below HlY.out.size (fun k hk e => by omega))) bZ8
          have hSg := HSg.out
          injection hSg with e1 e2 e3 e4 e5 e6 e7 e8 e9 e10 e11 e12 e13
          rw [if_pos Hgg.out] at e9 e10 e11
          rw [Hgg.out] at e12
          have hrS := HSz.out.rd
          have hji : [j0, j1, j2, j3] = S.ui := by rw [e9, ← hav, hid]
          have s20 : Z8.cell? ⟨w2.heap.size, 20, none⟩ = some (.bool true) := by rw [← e12]; exact blk_cell HK7z.out 20
          have S19 : Hid (Z8.cell? ⟨w2.heap.size, 19, none⟩ = some (.slice S.ta S.tn S.tc)) := blk_cell HK7z.out 19
          have R14 : Hid (Z8.rangeAt w2.heap.size 14 [.int .i64 (S.ui[0]?.getD 0), .int .i64 (S.ui[1]?.getD 0), .int .i64 (S.ui[2]?.getD 0), .int .i64 (S.ui[3]?.getD 0), .slice S.ua S.uk S.uc]) := range_sub HK7z.out rfl
          have R8 : Hid (Z8.rangeAt w3.heap.size 0 [.int .i64 j0, .int .i64 j1, .int .i64 j2, .int .i64 j3, .slice (some ⟨gw, 0, none⟩) A'.k cw]) := blk_range kZ8
          have rdj : RdM Z8 (some ⟨gw, 0, none⟩) A'.k A'.ms := own_rdM (own_still ho1 bZ8)
          have HVs : Hid (∀ W, Below Z8.heap.size Z8 W → Calls Try.prog 15 #[.agg [.int .i64 j0, .int .i64 j1, .int .i64 j2, .int .i64 j3, .slice (some ⟨gw, 0, none⟩) A'.k cw].toArray, .agg [.int .i64 (S.ui[0]?.getD 0), .int .i64 (S.ui[1]?.getD 0), .int .i64 (S.ui[2]?.getD 0), .int .i64 (S.ui[3]?.getD 0), .slice S.ua S.uk S.uc].toArray] W fun e w' => e = .returned (.bool true) ∧ Below W.heap.size W w') := fun W hW => by
            have hh := views_any (c1 := cw) (c2 := S.uc) j0 j1 j2 j3 (S.ui[0]?.getD 0) (S.ui[1]?.getD 0) (S.ui[2]?.getD 0) (S.ui[3]?.getD 0) (rdj.still hW) (hrS.u.still hW) hk16 hrS.uk
            rw [decide_eq_true (by rw [hji]; exact (list4x hrS.u4).symm), decide_eq_true (by rw [hms, e10])] at hh
            exact hh
          have HIn : Hid (∀ W, Below Z8.heap.size Z8 W → Calls Try.prog 11 #[.slice ao tn cp, .slice S.ta S.tn S.tc] W fun e w' => e = .returned (.bool true) ∧ Below W.heap.size W w') := fun W hW => by
            have hh := ints_any (c1 := cp) (c2 := S.tc) ((own_rd (own_still ho2 bZ8)).still hW) (hrS.t.still hW) (by omega)
            rw [decide_eq_true e11.symm] at hh
            exact hh
          have HV : Hid (∀ W, Below Z8.heap.size Z8 W → Calls Try.prog 16 #[.pointer (some ⟨b, 0, none⟩)] W fun e w' => ∃ va vc, e = .returned (.agg [.int .i64 j0, .int .i64 j1, .int .i64 j2, .int .i64 j3, .slice va A'.k vc].toArray) ∧ w'.ownsRow 0 86 3 (.slice va A'.k vc) A'.k (ints A'.ms) ∧ Below W.heap.size W w') := fun W hW => by
            have hh := (HFz.out.still hW).view
            rw [hid] at hh
            exact hh
          have HV2 : Hid (∀ W va vc, Below Z8.heap.size Z8 W → W.ownsRow 0 86 3 (.slice va A'.k vc) A'.k (ints A'.ms) → Calls Try.prog 15 #[.agg [.int .i64 j0, .int .i64 j1, .int .i64 j2, .int .i64 j3, .slice va A'.k vc].toArray, .agg [.int .i64 j0, .int .i64 j1, .int .i64 j2, .int .i64 j3, .slice (some ⟨gw, 0, none⟩) A'.k cw].toArray] W fun e w' => e = .returned (.bool true) ∧ Below W.heap.size W w') := fun W va vc hW ho => by
            have hh := views_any (c1 := vc) (c2 := cw) j0 j1 j2 j3 j0 j1 j2 j3 (own_rdM ho) (rdj.still hW) hk16 hk16
            rw [decide_eq_true rfl, decide_eq_true rfl] at hh
            exact hh
          have HCh : Hid (∀ W, Below Z8.heap.size Z8 W → Calls Try.prog 17 #[.pointer (some ⟨b, 0, none⟩)] W fun e w' => e = .returned (.bool false) ∧ W = w') := fun W hW => by
            have hh := (HFz.out.still hW).chg
            rw [hchg] at hh
            exact hh
          have HPr : Hid (∀ W, Below Z8.heap.size Z8 W → Calls Try.prog 14 #[.pointer (some ⟨b, 0, none⟩)] W fun e w' => ∃ g3 g4, e = .returned (.agg [.slice (some ⟨g3, 0, none⟩) n n, .int .i64 A'.own.cid, .int .i64 A'.own.rev, .int .i64 A'.own.top, .int .i64 (A'.own.prev[0]?.getD 0), .int .i64 (A'.own.prev[1]?.getD 0), .int .i64 (A'.own.prev[2]?.getD 0), .int .i64 (A'.own.prev[3]?.getD 0), .slice (some ⟨g4, 0, none⟩) n n].toArray) ∧ Rw w' g3 3 (A'.own.set.take n) ∧ Rw w' g4 3 (A'.own.vec.take n) ∧ Below W.heap.size W w') := fun W hW => (HFz.out.still hW).prop
          have HPs : Hid (∀ W g3 g4, Below Z8.heap.size Z8 W → Rw W g3 3 (A'.own.set.take n) → Rw W g4 3 (A'.own.vec.take n) → Calls Try.prog 19 #[.agg [.slice (some ⟨g3, 0, none⟩) n n, .int .i64 A'.own.cid, .int .i64 A'.own.rev, .int .i64 A'.own.top, .int .i64 (A'.own.prev[0]?.getD 0), .int .i64 (A'.own.prev[1]?.getD 0), .int .i64 (A'.own.prev[2]?.getD 0), .int .i64 (A'.own.prev[3]?.getD 0), .slice (some ⟨g4, 0, none⟩) n n].toArray, .agg [.slice S.p.sa S.p.sn S.p.sc, .int .i64 S.p.cid, .int .i64 S.p.rev, .int .i64 S.p.top, .int .i64 (S.p.prev[0]?.getD 0), .int .i64 (S.p.prev[1]?.getD 0), .int .i64 (S.p.prev[2]?.getD 0), .int .i64 (S.p.prev[3]?.getD 0), .slice S.p.va S.p.vn S.p.vc].toArray] W fun e w' => e = .returned (.bool true) ∧ Below W.heap.size W w') := fun W g3 g4 hW r3 r4 => by
            have hn := HFz.out.n
            have hnA := HFY.out.n
            have hh := props_any (A'.pq g3 g4) S.p (pq_rd HFz.out.iv g3 g4 (by rw [hn]; exact r3) (by rw [hn]; exact r4)) (hrS.p.still hW)
            have ht : (A'.pq g3 g4).same S.p = true := by
              unfold Pq.same Ag.pq
              simp only
              rw [e1, e2, e3, e4, e5, e6, hown, hn, hnA]
              simp
            rw [ht] at hh
            unfold Ag.pq at hh
            rw [hn] at hh
            exact hh
          have HKz8 : Hid (Z8.heap[w3.heap.size]? = some (.cells [.int .i64 j0, .int .i64 j1, .int .i64 j2, .int .i64 j3, .slice (some ⟨gw, 0, none⟩) A'.k cw].toArray 32 (0, 0))) := kZ8
          simp only [List.toArray] at hZ8
          clear HI hF3 hid hav hms ho1 ho2 htn hown hchg hK3 bZ8 kZ8 hCb k73 e1 e2 e3 e4 e5 e6 e7 e8 e9 e10 e11 e12 e13 hrS hji rdj
          go_wp2_with (first | (refine wl_at 62 rfl ?_) | fail)
          refine wl_take (v := .bool true) (by kernel_rfl) (by go_simp) ?_
          simp only [Act.put, List.getElem_toArray, List.getElem_cons_zero, List.getElem_cons_succ, List.setIfInBounds_toArray, List.set_cons_zero, List.set_cons_succ]
          refine wl_take (v := .pointer (some ⟨w2.heap.size, 20, none⟩)) (by kernel_rfl) (by go_simp) ?_
          simp only [Act.put, List.getElem_toArray, List.getElem_cons_zero, List.getElem_cons_succ, List.setIfInBounds_toArray, List.set_cons_zero, List.set_cons_succ]
          refine wl_take (v := .bool true) (by kernel_rfl) (by go_simp) ?_
          simp only [Act.put, List.getElem_toArray, List.getElem_cons_zero, List.getElem_cons_succ, List.setIfInBounds_toArray, List.set_cons_zero, List.set_cons_succ]
          refine wl_take (v := .bool false) (by kernel_rfl) (by (go_simp <;> simp)) ?_
          simp only [Act.put, List.getElem_toArray, List.getElem_cons_zero, List.getElem_cons_succ, List.setIfInBounds_toArray, List.set_cons_zero, List.set_cons_succ]
          refine wl_take (v := .bool false) (by kernel_rfl) (by go_simp) ?_
          simp only [Act.put, List.getElem_toArray, List.getElem_cons_zero, List.getElem_cons_succ, List.setIfInBounds_toArray, List.set_cons_zero, List.set_cons_succ]
          refine wl_take (v := .int .i64 0) (by kernel_rfl) (by go_simp) ?_
          simp only [Act.put, List.getElem_toArray, List.getElem_cons_zero, List.getElem_cons_succ, List.setIfInBounds_toArray, List.set_cons_zero, List.set_cons_succ]
          refine wl_take (v := .bool false) (by kernel_rfl) (by go_simp) ?_
          simp only [Act.put, List.getElem_toArray, List.getElem_cons_zero, List.getElem_cons_succ, List.setIfInBounds_toArray, List.set_cons_zero, List.set_cons_succ]
          refine wl_take (v := .bool false) (by kernel_rfl) (by go_simp) ?_
          simp only [Act.put, List.getElem_toArray, List.getElem_cons_zero, List.getElem_cons_succ, List.setIfInBounds_toArray, List.set_cons_zero, List.set_cons_succ]
          refine wl_skip (by kernel_rfl) ?_
          simp only [Act.put, List.getElem_toArray, List.getElem_cons_zero, List.getElem_cons_succ, List.setIfInBounds_toArray, List.set_cons_zero, List.set_cons_succ]
          refine wl_skip (by kernel_rfl) ?_
          simp only [Act.put, List.getElem_toArray, List.getElem_cons_zero, List.getElem_cons_succ, List.setIfInBounds_toArray, List.set_cons_zero, List.set_cons_succ]
          refine wl_take (v := .bool false) (by kernel_rfl) (by go_simp) ?_
          simp only [Act.put, List.getElem_toArray, List.getElem_cons_zero, List.getElem_cons_succ, List.setIfInBounds_toArray, List.set_cons_zero, List.set_cons_succ]
          refine wl_take (v := .bool false) (by kernel_rfl) (by go_simp) ?_
          simp only [Act.put, List.getElem_toArray, List.getElem_cons_zero, List.getElem_cons_succ, List.setIfInBounds_toArray, List.set_cons_zero, List.set_cons_succ]
          refine wl_take (v := .bool false) (by kernel_rfl) (by go_simp) ?_
          simp only [Act.put, List.getElem_toArray, List.getElem_cons_zero, List.getElem_cons_succ, List.setIfInBounds_toArray, List.set_cons_zero, List.set_cons_succ]
          refine wl_step (by kernel_rfl) fun K hK => ?_
          refine wp_load_mid 32 (.tmp 8) rfl w3.heap.size 0 rfl ([.int .i64 j0, .int .i64 j1, .int .i64 j2, .int .i64 j3, .slice (some ⟨gw, 0, none⟩) A'.k cw]) _ (R8.out) Try.underlying32 rfl info_view ?_
          refine hK _ _ ?_
          clear hK K
          simp only [Act.put, List.getElem_toArray, List.getElem_cons_zero, List.getElem_cons_succ, List.setIfInBounds_toArray, List.set_cons_zero, List.set_cons_succ]
          refine wl_take (v := .pointer (some ⟨w2.heap.size, 14, none⟩)) (by kernel_rfl) (by go_simp) ?_
          simp only [Act.put, List.getElem_toArray, List.getElem_cons_zero, List.getElem_cons_succ, List.setIfInBounds_toArray, List.set_cons_zero, List.set_cons_succ]
          refine wl_step (by kernel_rfl) fun K hK => ?_
          refine wp_load_mid 32 (.tmp 76) rfl w2.heap.size 14 rfl ([.int .i64 (S.ui[0]?.getD 0), .int .i64 (S.ui[1]?.getD 0), .int .i64 (S.ui[2]?.getD 0), .int .i64 (S.ui[3]?.getD 0), .slice S.ua S.uk S.uc]) _ (R14.out) Try.underlying32 rfl info_view ?_
          refine hK _ _ ?_
          clear hK K
          simp only [Act.put, List.getElem_toArray, List.getElem_cons_zero, List.getElem_cons_succ, List.setIfInBounds_toArray, List.set_cons_zero, List.set_cons_succ]
          refine wl_step (by kernel_rfl) fun K hK => ?_
          go_simp
          refine (HVs.out Z8 (Below.refl _ _)).mono ?_
          rintro e z1 ⟨rfl, hb1⟩
          have HBz1 : Hid (Below Z8.heap.size Z8 z1) := hb1
          have s19 : z1.cell? ⟨w2.heap.size, 19, none⟩ = some (.slice S.ta S.tn S.tc) := below_at hb1 S19.out
          refine hK _ _ ?_
          clear hK K
          try (simp only [Act.put, List.getElem_toArray, List.getElem_cons_zero, List.getElem_cons_succ, List.setIfInBounds_toArray, List.set_cons_zero, List.set_cons_succ])
          refine wl_take (v := .bool false) (by kernel_rfl) (by go_simp) ?_
          simp only [Act.put, List.getElem_toArray, List.getElem_cons_zero, List.getElem_cons_succ, List.setIfInBounds_toArray, List.set_cons_zero, List.set_cons_succ]
          refine wl_take (v := .bool false) (by kernel_rfl) (by go_simp) ?_
          simp only [Act.put, List.getElem_toArray, List.getElem_cons_zero, List.getElem_cons_succ, List.setIfInBounds_toArray, List.set_cons_zero, List.set_cons_succ]
          refine wl_take (v := .bool false) (by kernel_rfl) (by go_simp) ?_
          simp only [Act.put, List.getElem_toArray, List.getElem_cons_zero, List.getElem_cons_succ, List.setIfInBounds_toArray, List.set_cons_zero, List.set_cons_succ]
          refine wl_take (v := .slice ao tn cp) (by kernel_rfl) (by go_simp) ?_
          simp only [Act.put, List.getElem_toArray, List.getElem_cons_zero, List.getElem_cons_succ, List.setIfInBounds_toArray, List.set_cons_zero, List.set_cons_succ]
          refine wl_take (v := .pointer (some ⟨w2.heap.size, 19, none⟩)) (by kernel_rfl) (by go_simp) ?_
          simp only [Act.put, List.getElem_toArray, List.getElem_cons_zero, List.getElem_cons_succ, List.setIfInBounds_toArray, List.set_cons_zero, List.set_cons_succ]
          refine wl_take (v := .slice S.ta S.tn S.tc) (by kernel_rfl) (by go_simp) ?_
          simp only [Act.put, List.getElem_toArray, List.getElem_cons_zero, List.getElem_cons_succ, List.setIfInBounds_toArray, List.set_cons_zero, List.set_cons_succ]
          refine wl_step (by kernel_rfl) fun K hK => ?_
          go_simp
          refine (HIn.out z1 HBz1.out).mono ?_
          rintro e z2 ⟨rfl, hb2⟩
          have HBz2 : Hid (Below Z8.heap.size Z8 z2) := bstep HBz1.out hb2
          refine hK _ _ ?_
          clear hK K
          try (simp only [Act.put, List.getElem_toArray, List.getElem_cons_zero, List.getElem_cons_succ, List.setIfInBounds_toArray, List.set_cons_zero, List.set_cons_succ])
          refine wl_take (v := .bool false) (by kernel_rfl) (by go_simp) ?_
          simp only [Act.put, List.getElem_toArray, List.getElem_cons_zero, List.getElem_cons_succ, List.setIfInBounds_toArray, List.set_cons_zero, List.set_cons_succ]
          refine wl_take (v := .bool false) (by kernel_rfl) (by go_simp) ?_
          simp only [Act.put, List.getElem_toArray, List.getElem_cons_zero, List.getElem_cons_succ, List.setIfInBounds_toArray, List.set_cons_zero, List.set_cons_succ]
          refine ⟨?_⟩
          clear s19 s20 hZ8 hY hZ
          go_wp2
          have HBd : Hid (Below Z8.heap.size Z8 z2.drew) := bstep HBz2.out (Below.refl _ _).drew
          have D0 : Hid (z2.drew.rangeAt w3.heap.size 0 [.int .i64 j0, .int .i64 j1, .int .i64 j2, .int .i64 j3, .slice (some ⟨gw, 0, none⟩) A'.k cw]) := rng_below (blk_range HKz8.out) HBd.out
          have D1 : Hid (z2.drew.rangeAt w2.heap.size 0 [.slice S.p.sa S.p.sn S.p.sc, .int .i64 S.p.cid, .int .i64 S.p.rev, .int .i64 S.p.top, .int .i64 (S.p.prev[0]?.getD 0), .int .i64 (S.p.prev[1]?.getD 0), .int .i64 (S.p.prev[2]?.getD 0), .int .i64 (S.p.prev[3]?.getD 0), .slice S.p.va S.p.vn S.p.vc]) := rng_below (range_sub HK7z.out rfl) HBd.out
          refine wp_region_held_drew (S := (fun w' => w'.rangeAt w3.heap.size 0 [.int .i64 j0, .int .i64 j1, .int .i64 j2, .int .i64 j3, .slice (some ⟨gw, 0, none⟩) A'.k cw] ∧ w'.rangeAt w2.heap.size 0 [.slice S.p.sa S.p.sn S.p.sc, .int .i64 S.p.cid, .int .i64 S.p.rev, .int .i64 S.p.top, .int .i64 (S.p.prev[0]?.getD 0), .int .i64 (S.p.prev[1]?.getD 0), .int .i64 (S.p.prev[2]?.getD 0), .int .i64 (S.p.prev[3]?.getD 0), .slice S.p.va S.p.vn S.p.vc])) (by kernel_rfl) ⟨D0.out, D1.out⟩ (fun hHeld => ?_)
          simp only [Act.put, List.size_toArray, List.length_cons, List.length_nil, Nat.zero_add]
          refine wpAnyH_take (i := 0) (v := .int .i64 0) rfl (by kernel_rfl) (by kernel_rfl) (by kernel_rfl) (fun _ _ _ h => h) (Or.inl ⟨by rfl, fun w' hS => by go_simp⟩) hHeld ?_
          simp only [Act.put, List.getElem_toArray, List.getElem_cons_zero, List.getElem_cons_succ, List.setIfInBounds_toArray, List.set_cons_zero, List.set_cons_succ]
          refine wpAnyH_take (i := 1) (v := .bool true) rfl (by kernel_rfl) (by kernel_rfl) (by kernel_rfl) (fun _ _ _ h => h) (Or.inl ⟨by rfl, fun w' hS => by go_simp⟩) hHeld ?_
          simp only [Act.put, List.getElem_toArray, List.getElem_cons_zero, List.getElem_cons_succ, List.setIfInBounds_toArray, List.set_cons_zero, List.set_cons_succ]
          refine wpAnyH_take (i := 2) (v := .bool true) rfl (by kernel_rfl) (by kernel_rfl) (by kernel_rfl) (fun _ _ _ h => h) (Or.inl ⟨by rfl, fun w' hS => by go_simp⟩) hHeld ?_
          simp only [Act.put, List.getElem_toArray, List.getElem_cons_zero, List.getElem_cons_succ, List.setIfInBounds_toArray, List.set_cons_zero, List.set_cons_succ]
          refine wpAnyH_take (i := 3) (v := .pointer (some ⟨b, 0, none⟩)) rfl (by kernel_rfl) (by kernel_rfl) (by kernel_rfl) (fun _ _ _ h => h) (Or.inl ⟨by rfl, fun w' hS => by go_simp⟩) hHeld ?_
          simp only [Act.put, List.getElem_toArray, List.getElem_cons_zero, List.getElem_cons_succ, List.setIfInBounds_toArray, List.set_cons_zero, List.set_cons_succ]
          refine wpAnyH_take (i := 5) (v := .agg ([.int .i64 j0, .int .i64 j1, .int .i64 j2, .int .i64 j3, .slice (some ⟨gw, 0, none⟩) A'.k cw]).toArray) rfl (by kernel_rfl) (by kernel_rfl) (by kernel_rfl) (fun _ _ _ h => h) (yieldsIf_load_mid (by rfl) 32 (.tmp 8) rfl w3.heap.size (0) (by rfl) ([.int .i64 j0, .int .i64 j1, .int .i64 j2, .int .i64 j3, .slice (some ⟨gw, 0, none⟩) A'.k cw]) _ (fun w' hS => hS.1) Try.underlying32 rfl info_view) hHeld ?_
          simp only [Act.put, List.getElem_toArray, List.getElem_cons_zero, List.getElem_cons_succ, List.setIfInBounds_toArray, List.set_cons_zero, List.set_cons_succ]
          refine wpAnyH_ready (rs := [4]) (by kernel_rfl) (by simp) ?_
          refine AllReadyH.cons rfl (fun K hK => ?_) AllReadyH.nil
          go_simp
          refine (HV.out z2.drew HBd.out).mono ?_
          rintro e y1 ⟨va, vc, rfl, hov, hc1⟩
          have HC1 : Hid (Below z2.drew.heap.size z2.drew y1) := hc1
          have Hov : Hid (y1.ownsRow 0 86 3 (.slice va A'.k vc) A'.k (ints A'.ms)) := hov
          refine hK.out _ _ ⟨rng_below D0.out hc1, rng_below D1.out hc1⟩ (fun hHeld => ?_)
          clear hK K
          refine wpAnyH_ready (rs := [6]) (by kernel_rfl) (by simp) ?_
          refine AllReadyH.cons rfl (fun K hK => ?_) AllReadyH.nil
          go_simp
          refine (HV2.out y1 va vc (bstep HBd.out HC1.out) Hov.out).mono ?_
          rintro e y2 ⟨rfl, hc2⟩
          have HC2 : Hid (Below z2.drew.heap.size z2.drew y2) := bstep HC1.out hc2
          refine hK.out _ _ ⟨rng_below D0.out (bstep HC1.out hc2), rng_below D1.out (bstep HC1.out hc2)⟩ (fun hHeld => ?_)
          clear hK K
          refine wpAnyH_take (i := 7) (v := .bool false) rfl (by kernel_rfl) (by kernel_rfl) (by kernel_rfl) (fun _ _ _ h => h) (Or.inl ⟨by rfl, fun w' hS => by go_simp⟩) hHeld ?_
          simp only [Act.put, List.getElem_toArray, List.getElem_cons_zero, List.getElem_cons_succ, List.setIfInBounds_toArray, List.set_cons_zero, List.set_cons_succ]
          refine wpAnyH_take (i := 8) (v := .bool false) rfl (by kernel_rfl) (by kernel_rfl) (by kernel_rfl) (fun _ _ _ h => h) (Or.inl ⟨by rfl, fun w' hS => by go_simp⟩) hHeld ?_
          simp only [Act.put, List.getElem_toArray, List.getElem_cons_zero, List.getElem_cons_succ, List.setIfInBounds_toArray, List.set_cons_zero, List.set_cons_succ]
          refine wpAnyH_take (i := 9) (v := .pointer (some ⟨b, 0, none⟩)) rfl (by kernel_rfl) (by kernel_rfl) (by kernel_rfl) (fun _ _ _ h => h) (Or.inl ⟨by rfl, fun w' hS => by go_simp⟩) hHeld ?_
          simp only [Act.put, List.getElem_toArray, List.getElem_cons_zero, List.getElem_cons_succ, List.setIfInBounds_toArray, List.set_cons_zero, List.set_cons_succ]
          refine wpAnyH_ready (rs := [10]) (by kernel_rfl) (by simp) ?_
          refine AllReadyH.cons rfl (fun K hK => ?_) AllReadyH.nil
          go_simp
          refine (HCh.out y2 (bstep HBd.out HC2.out)).mono ?_
          rintro e y3 ⟨rfl, rfl⟩
          refine hK.out _ _ ⟨rng_below D0.out HC2.out, rng_below D1.out HC2.out⟩ (fun hHeld => ?_)
          clear hK K
          refine wpAnyH_take (i := 11) (v := .bool false) rfl (by kernel_rfl) (by kernel_rfl) (by kernel_rfl) (fun _ _ _ h => h) (Or.inl ⟨by rfl, fun w' hS => by go_simp⟩) hHeld ?_
          simp only [Act.put, List.getElem_toArray, List.getElem_cons_zero, List.getElem_cons_succ, List.setIfInBounds_toArray, List.set_cons_zero, List.set_cons_succ]
          refine wpAnyH_take (i := 12) (v := .bool false) rfl (by kernel_rfl) (by kernel_rfl) (by kernel_rfl) (fun _ _ _ h => h) (Or.inl ⟨by rfl, fun w' hS => by go_simp⟩) hHeld ?_
          simp only [Act.put, List.getElem_toArray, List.getElem_cons_zero, List.getElem_cons_succ, List.setIfInBounds_toArray, List.set_cons_zero, List.set_cons_succ]
          refine wpAnyH_take (i := 13) (v := .pointer (some ⟨b, 0, none⟩)) rfl (by kernel_rfl) (by kernel_rfl) (by kernel_rfl) (fun _ _ _ h => h) (Or.inl ⟨by rfl, fun w' hS => by go_simp⟩) hHeld ?_
          simp only [Act.put, List.getElem_toArray, List.getElem_cons_zero, List.getElem_cons_succ, List.setIfInBounds_toArray, List.set_cons_zero, List.set_cons_succ]
          refine wpAnyH_take (i := 15) (v := .pointer (some ⟨w2.heap.size, 0, none⟩)) rfl (by kernel_rfl) (by kernel_rfl) (by kernel_rfl) (fun _ _ _ h => h) (Or.inl ⟨by rfl, fun w' hS => by go_simp⟩) hHeld ?_
          simp only [Act.put, List.getElem_toArray, List.getElem_cons_zero, List.getElem_cons_succ, List.setIfInBounds_toArray, List.set_cons_zero, List.set_cons_succ]
          refine wpAnyH_take (i := 16) (v := .agg ([.slice S.p.sa S.p.sn S.p.sc, .int .i64 S.p.cid, .int .i64 S.p.rev, .int .i64 S.p.top, .int .i64 (S.p.prev[0]?.getD 0), .int .i64 (S.p.prev[1]?.getD 0), .int .i64 (S.p.prev[2]?.getD 0), .int .i64 (S.p.prev[3]?.getD 0), .slice S.p.va S.p.vn S.p.vc]).toArray) rfl (by kernel_rfl) (by kernel_rfl) (by kernel_rfl) (fun _ _ _ h => h) (yieldsIf_load_mid (by rfl) 41 (.tmp 103) rfl w2.heap.size (0) (by rfl) ([.slice S.p.sa S.p.sn S.p.sc, .int .i64 S.p.cid, .int .i64 S.p.rev, .int .i64 S.p.top, .int .i64 (S.p.prev[0]?.getD 0), .int .i64 (S.p.prev[1]?.getD 0), .int .i64 (S.p.prev[2]?.getD 0), .int .i64 (S.p.prev[3]?.getD 0), .slice S.p.va S.p.vn S.p.vc]) _ (fun w' hS => hS.2) Try.underlying41 rfl info_propose) hHeld ?_
          simp only [Act.put, List.getElem_toArray, List.getElem_cons_zero, List.getElem_cons_succ, List.setIfInBounds_toArray, List.set_cons_zero, List.set_cons_succ]
          refine wpAnyH_ready (rs := [14]) (by kernel_rfl) (by simp) ?_
          refine AllReadyH.cons rfl (fun K hK => ?_) AllReadyH.nil
          go_simp
          refine (HPr.out y2 (bstep HBd.out HC2.out)).mono ?_
          rintro e y4 ⟨g3, g4, rfl, r3, r4, hc4⟩
          have HC4 : Hid (Below z2.drew.heap.size z2.drew y4) := bstep HC2.out hc4
          have Hr34 : Hid (Rw y4 g3 3 (A'.own.set.take n) ∧ Rw y4 g4 3 (A'.own.vec.take n)) := ⟨r3, r4⟩
          clear r3 r4
          refine hK.out _ _ ⟨rng_below D0.out (bstep HC2.out hc4), rng_below D1.out (bstep HC2.out hc4)⟩ (fun hHeld => ?_)
          clear hK K
          refine wpAnyH_ready (rs := [17]) (by kernel_rfl) (by simp) ?_
          refine AllReadyH.cons rfl (fun K hK => ?_) AllReadyH.nil
          go_simp
          refine (HPs.out y4 g3 g4 (bstep HBd.out HC4.out) Hr34.out.1 Hr34.out.2).mono ?_
          rintro e y5 ⟨rfl, hc5⟩
          have HC5 : Hid (Below z2.drew.heap.size z2.drew y5) := bstep HC4.out hc5
          refine hK.out _ _ ⟨rng_below D0.out (bstep HC4.out hc5), rng_below D1.out (bstep HC4.out hc5)⟩ (fun hHeld => ?_)
          clear hK K
          refine wpAnyH_take (i := 18) (v := .bool false) rfl (by kernel_rfl) (by kernel_rfl) (by kernel_rfl) (fun _ _ _ h => h) (Or.inl ⟨by rfl, fun w' hS => by go_simp⟩) hHeld ?_
          simp only [Act.put, List.getElem_toArray, List.getElem_cons_zero, List.getElem_cons_succ, List.setIfInBounds_toArray, List.set_cons_zero, List.set_cons_succ]
          refine wpAnyH_take (i := 19) (v := .bool false) rfl (by kernel_rfl) (by kernel_rfl) (by kernel_rfl) (fun _ _ _ h => h) (Or.inl ⟨by rfl, fun w' hS => by go_simp⟩) hHeld ?_
          simp only [Act.put, List.getElem_toArray, List.getElem_cons_zero, List.getElem_cons_succ, List.setIfInBounds_toArray, List.set_cons_zero, List.set_cons_succ]
          refine wpAnyH_take (i := 20) (v := .bool false) rfl (by kernel_rfl) (by kernel_rfl) (by kernel_rfl) (fun _ _ _ h => h) (Or.inl ⟨by rfl, fun w' hS => by go_simp⟩) hHeld ?_
          simp only [Act.put, List.getElem_toArray, List.getElem_cons_zero, List.getElem_cons_succ, List.setIfInBounds_toArray, List.set_cons_zero, List.set_cons_succ]
          refine wpAnyH_done (by kernel_rfl) ?_ _
          clear hHeld
          have HFe : Hid (Fs y5 b n s inc w.heap.size #[.int .i64 (n : Int), .int .i64 (s : Int), .int .i64 inc, .int .i64 fl, .slice oa on oc] A') := HFz.out.still (bstep HBd.out HC5.out)
          have Hle : Hid (Below w.heap.size w y5) := bstep Hlz.out (bstep HBd.out HC5.out)
          clear D0 D1 HV HV2 HCh HPr HPs HVs HIn
          have HE : Hid (∃ (k_1 : Nat) (A : Ag), k_1 ≤ on ∧ Value.int .i64 ((k : Int) + 1) = .int .i64 (k_1 : Int) ∧ Fs y5 b n s inc w.heap.size #[.int .i64 (n : Int), .int .i64 (s : Int), .int .i64 inc, .int .i64 fl, .slice oa on oc] A ∧ Below w.heap.size w y5) := ⟨k + 1, A', by omega, by simp, HFe.out, Hle.out⟩
          go_wp2
          first
            | exact ⟨HE.out, by simp [intOf]; omega⟩
            | (go_roundw
               case rel => exact HE.out
               case measure => simp [intOf]; omega)
        | false =>
          have HI := HFY.out.noinst hg
          have Hgg : Hid (A.agr = false) := hg
          clear hg
          go_wp2_with (first | (refine store_midL 52 (.tmp 7) (.tmp 51) (L := S.cs) T0.out info_sight S.one rfl rfl rfl rfl ?_; rw [hY]) | fail)
          refine HI.mono ?_
          rintro e w3 ⟨rfl, hb3⟩
          go_wp2_with (first | (refine wl_at 62 rfl ?_) | fail)
          generalize hZ8 : w3.alloc (.cells #[.int .i64 0, .int .i64 0, .int .i64 0, .int .i64 0, .slice none 0 0] 32) = Z8
          have bZ8 : Below w3.heap.size w3 Z8 := by rw [← hZ8]; exact balloc (Below.refl _ _)
          have kZ8 : Z8.heap[w3.heap.size]? = some (.cells [.int .i64 0, .int .i64 0, .int .i64 0, .int .i64 0, .slice none 0 0].toArray 32 (0, 0)) := by rw [← hZ8]; exact heap_alloc_new w3 _
          have bYZ := bstep hb3 bZ8
          have HK7z : Hid (Z8.heap[w2.heap.size]? = some (.cells S.cs.toArray 52 (0, 0))) := (bYZ.block _ (lt_heap HK7.out)).trans HK7.out
          have HSz : Hid (S.Kp Z8) := HS.out.still bYZ
          have HFz : Hid (Fs Z8 b n s inc w.heap.size #[.int .i64 (n : Int), .int .i64 (s : Int), .int .i64 inc, .int .i64 fl, .slice oa on oc] A) := HFY.out.still bYZ
          have Hlz : Hid (Below w.heap.size w Z8) := bstep HlY.out bYZ
          have hSg := HSg.out
          injection hSg with e1 e2 e3 e4 e5 e6 e7 e8 e9 e10 e11 e12 e13
          rw [if_neg (by rw [Hgg.out]; simp)] at e9 e10 e11
          rw [Hgg.out] at e12
          have hrS := HSz.out.rd
          have s20 : Z8.cell? ⟨w2.heap.size, 20, none⟩ = some (.bool false) := by rw [← e12]; exact blk_cell HK7z.out 20
          have S19 : Hid (Z8.cell? ⟨w2.heap.size, 19, none⟩ = some (.slice S.ta S.tn S.tc)) := blk_cell HK7z.out 19
          have R14 : Hid (Z8.rangeAt w2.heap.size 14 [.int .i64 (S.ui[0]?.getD 0), .int .i64 (S.ui[1]?.getD 0), .int .i64 (S.ui[2]?.getD 0), .int .i64 (S.ui[3]?.getD 0), .slice S.ua S.uk S.uc]) := range_sub HK7z.out rfl
          have R8 : Hid (Z8.rangeAt w3.heap.size 0 [.int .i64 0, .int .i64 0, .int .i64 0, .int .i64 0, .slice none 0 0]) := blk_range kZ8
          have HVs : Hid (∀ W, Below Z8.heap.size Z8 W → Calls Try.prog 15 #[.agg [.int .i64 0, .int .i64 0, .int .i64 0, .int .i64 0, .slice none 0 0].toArray, .agg [.int .i64 (S.ui[0]?.getD 0), .int .i64 (S.ui[1]?.getD 0), .int .i64 (S.ui[2]?.getD 0), .int .i64 (S.ui[3]?.getD 0), .slice S.ua S.uk S.uc].toArray] W fun e w' => e = .returned (.bool true) ∧ Below W.heap.size W w') := fun W hW => by
            have hh := views_any (c1 := 0) (c2 := S.uc) 0 0 0 0 (S.ui[0]?.getD 0) (S.ui[1]?.getD 0) (S.ui[2]?.getD 0) (S.ui[3]?.getD 0) (show RdM W none 0 [] from ⟨rfl, .inl rfl⟩) (hrS.u.still hW) (by omega) hrS.uk
            rw [decide_eq_true (by rw [e9]; rfl), decide_eq_true e10.symm] at hh
            exact hh
          have HIn : Hid (∀ W, Below Z8.heap.size Z8 W → Calls Try.prog 11 #[.slice none 0 0, .slice S.ta S.tn S.tc] W fun e w' => e = .returned (.bool true) ∧ Below W.heap.size W w') := fun W hW => by
            have hh := ints_any (c1 := 0) (c2 := S.tc) (show RdI W none 0 [] from ⟨rfl, .inl rfl⟩) (hrS.t.still hW) (by omega)
            rw [decide_eq_true e11.symm] at hh
            exact hh
          clear HI hb3 bZ8 kZ8 bYZ e1 e2 e3 e4 e5 e6 e7 e8 e9 e10 e11 e12 e13 hrS hZ8
          refine wl_take (v := .bool false) (by kernel_rfl) (by go_simp) ?_
          simp only [Act.put, List.getElem_toArray, List.getElem_cons_zero, List.getElem_cons_succ, List.setIfInBounds_toArray, List.set_cons_zero, List.set_cons_succ]
          refine wl_take (v := .pointer (some ⟨w2.heap.size, 20, none⟩)) (by kernel_rfl) (by go_simp) ?_
          simp only [Act.put, List.getElem_toArray, List.getElem_cons_zero, List.getElem_cons_succ, List.setIfInBounds_toArray, List.set_cons_zero, List.set_cons_succ]
          refine wl_take (v := .bool false) (by kernel_rfl) (by go_simp) ?_
          simp only [Act.put, List.getElem_toArray, List.getElem_cons_zero, List.getElem_cons_succ, List.setIfInBounds_toArray, List.set_cons_zero, List.set_cons_succ]
          refine wl_take (v := .bool false) (by kernel_rfl) (by (go_simp <;> simp)) ?_
          simp only [Act.put, List.getElem_toArray, List.getElem_cons_zero, List.getElem_cons_succ, List.setIfInBounds_toArray, List.set_cons_zero, List.set_cons_succ]
          refine wl_take (v := .bool false) (by kernel_rfl) (by go_simp) ?_
          simp only [Act.put, List.getElem_toArray, List.getElem_cons_zero, List.getElem_cons_succ, List.setIfInBounds_toArray, List.set_cons_zero, List.set_cons_succ]
          refine wl_take (v := .int .i64 61) (by kernel_rfl) (by go_simp) ?_
          simp only [Act.put, List.getElem_toArray, List.getElem_cons_zero, List.getElem_cons_succ, List.setIfInBounds_toArray, List.set_cons_zero, List.set_cons_succ]
          refine wl_take (v := .bool true) (by kernel_rfl) (by go_simp) ?_
          simp only [Act.put, List.getElem_toArray, List.getElem_cons_zero, List.getElem_cons_succ, List.setIfInBounds_toArray, List.set_cons_zero, List.set_cons_succ]
          refine wl_take (v := .bool true) (by kernel_rfl) (by go_simp) ?_
          simp only [Act.put, List.getElem_toArray, List.getElem_cons_zero, List.getElem_cons_succ, List.setIfInBounds_toArray, List.set_cons_zero, List.set_cons_succ]
          refine wl_take (v := .int .i64 61) (by kernel_rfl) (by go_simp) ?_
          simp only [Act.put, List.getElem_toArray, List.getElem_cons_zero, List.getElem_cons_succ, List.setIfInBounds_toArray, List.set_cons_zero, List.set_cons_succ]
          refine wl_take (v := .bool false) (by kernel_rfl) (by go_simp) ?_
          simp only [Act.put, List.getElem_toArray, List.getElem_cons_zero, List.getElem_cons_succ, List.setIfInBounds_toArray, List.set_cons_zero, List.set_cons_succ]
          refine wl_take (v := .bool false) (by kernel_rfl) (by go_simp) ?_
          simp only [Act.put, List.getElem_toArray, List.getElem_cons_zero, List.getElem_cons_succ, List.setIfInBounds_toArray, List.set_cons_zero, List.set_cons_succ]
          refine wl_take (v := .bool false) (by kernel_rfl) (by go_simp) ?_
          simp only [Act.put, List.getElem_toArray, List.getElem_cons_zero, List.getElem_cons_succ, List.setIfInBounds_toArray, List.set_cons_zero, List.set_cons_succ]
          refine wl_take (v := .bool false) (by kernel_rfl) (by go_simp) ?_
          simp only [Act.put, List.getElem_toArray, List.getElem_cons_zero, List.getElem_cons_succ, List.setIfInBounds_toArray, List.set_cons_zero, List.set_cons_succ]
          refine wl_step (by kernel_rfl) fun K hK => ?_
          refine wp_load_mid 32 (.tmp 8) rfl w3.heap.size 0 rfl ([.int .i64 0, .int .i64 0, .int .i64 0, .int .i64 0, .slice none 0 0]) _ (R8.out) Try.underlying32 rfl info_view ?_
          refine hK _ _ ?_
          clear hK K
          simp only [Act.put, List.getElem_toArray, List.getElem_cons_zero, List.getElem_cons_succ, List.setIfInBounds_toArray, List.set_cons_zero, List.set_cons_succ]
          refine wl_take (v := .pointer (some ⟨w2.heap.size, 14, none⟩)) (by kernel_rfl) (by go_simp) ?_
          simp only [Act.put, List.getElem_toArray, List.getElem_cons_zero, List.getElem_cons_succ, List.setIfInBounds_toArray, List.set_cons_zero, List.set_cons_succ]
          refine wl_step (by kernel_rfl) fun K hK => ?_
          refine wp_load_mid 32 (.tmp 76) rfl w2.heap.size 14 rfl ([.int .i64 (S.ui[0]?.getD 0), .int .i64 (S.ui[1]?.getD 0), .int .i64 (S.ui[2]?.getD 0), .int .i64 (S.ui[3]?.getD 0), .slice S.ua S.uk S.uc]) _ (R14.out) Try.underlying32 rfl info_view ?_
          refine hK _ _ ?_
          clear hK K
          simp only [Act.put, List.getElem_toArray, List.getElem_cons_zero, List.getElem_cons_succ, List.setIfInBounds_toArray, List.set_cons_zero, List.set_cons_succ]
          refine wl_step (by kernel_rfl) fun K hK => ?_
          go_simp
          refine (HVs.out Z8 (Below.refl _ _)).mono ?_
          rintro e z1 ⟨rfl, hb1⟩
          have HBz1 : Hid (Below Z8.heap.size Z8 z1) := hb1
          have s19 : z1.cell? ⟨w2.heap.size, 19, none⟩ = some (.slice S.ta S.tn S.tc) := below_at hb1 S19.out
          refine hK _ _ ?_
          clear hK K
          try (simp only [Act.put, List.getElem_toArray, List.getElem_cons_zero, List.getElem_cons_succ, List.setIfInBounds_toArray, List.set_cons_zero, List.set_cons_succ])
          refine wl_take (v := .bool false) (by kernel_rfl) (by go_simp) ?_
          simp only [Act.put, List.getElem_toArray, List.getElem_cons_zero, List.getElem_cons_succ, List.setIfInBounds_toArray, List.set_cons_zero, List.set_cons_succ]
          refine wl_take (v := .bool false) (by kernel_rfl) (by go_simp) ?_
          simp only [Act.put, List.getElem_toArray, List.getElem_cons_zero, List.getElem_cons_succ, List.setIfInBounds_toArray, List.set_cons_zero, List.set_cons_succ]
          refine wl_take (v := .bool false) (by kernel_rfl) (by go_simp) ?_
          simp only [Act.put, List.getElem_toArray, List.getElem_cons_zero, List.getElem_cons_succ, List.setIfInBounds_toArray, List.set_cons_zero, List.set_cons_succ]
          refine wl_take (v := .slice none 0 0) (by kernel_rfl) (by go_simp) ?_
          simp only [Act.put, List.getElem_toArray, List.getElem_cons_zero, List.getElem_cons_succ, List.setIfInBounds_toArray, List.set_cons_zero, List.set_cons_succ]
          refine wl_take (v := .pointer (some ⟨w2.heap.size, 19, none⟩)) (by kernel_rfl) (by go_simp) ?_
          simp only [Act.put, List.getElem_toArray, List.getElem_cons_zero, List.getElem_cons_succ, List.setIfInBounds_toArray, List.set_cons_zero, List.set_cons_succ]
          refine wl_take (v := .slice S.ta S.tn S.tc) (by kernel_rfl) (by go_simp) ?_
          simp only [Act.put, List.getElem_toArray, List.getElem_cons_zero, List.getElem_cons_succ, List.setIfInBounds_toArray, List.set_cons_zero, List.set_cons_succ]
          refine wl_step (by kernel_rfl) fun K hK => ?_
          go_simp
          refine (HIn.out z1 HBz1.out).mono ?_
          rintro e z2 ⟨rfl, hb2⟩
          have HBz2 : Hid (Below Z8.heap.size Z8 z2) := bstep HBz1.out hb2
          refine hK _ _ ?_
          clear hK K
          try (simp only [Act.put, List.getElem_toArray, List.getElem_cons_zero, List.getElem_cons_succ, List.setIfInBounds_toArray, List.set_cons_zero, List.set_cons_succ])
          refine wl_take (v := .bool false) (by kernel_rfl) (by go_simp) ?_
          simp only [Act.put, List.getElem_toArray, List.getElem_cons_zero, List.getElem_cons_succ, List.setIfInBounds_toArray, List.set_cons_zero, List.set_cons_succ]
          refine wl_take (v := .bool false) (by kernel_rfl) (by go_simp) ?_
          simp only [Act.put, List.getElem_toArray, List.getElem_cons_zero, List.getElem_cons_succ, List.setIfInBounds_toArray, List.set_cons_zero, List.set_cons_succ]
          refine ⟨?_⟩
          clear s19 s20 hY hZ
          go_wp2
          refine wp_region_held_drew (S := (fun w' => True)) (by kernel_rfl) trivial (fun hHeld => ?_)
          simp only [Act.put, List.size_toArray, List.length_cons, List.length_nil, Nat.zero_add]
          refine wpAnyH_take (i := 0) (v := .int .i64 61) rfl (by kernel_rfl) (by kernel_rfl) (by kernel_rfl) (fun _ _ _ h => h) (Or.inl ⟨by rfl, fun w' hS => by go_simp⟩) hHeld ?_
          simp only [Act.put, List.getElem_toArray, List.getElem_cons_zero, List.getElem_cons_succ, List.setIfInBounds_toArray, List.set_cons_zero, List.set_cons_succ]
          refine wpAnyH_take (i := 1) (v := .bool false) rfl (by kernel_rfl) (by kernel_rfl) (by kernel_rfl) (fun _ _ _ h => h) (Or.inl ⟨by rfl, fun w' hS => by go_simp⟩) hHeld ?_
          simp only [Act.put, List.getElem_toArray, List.getElem_cons_zero, List.getElem_cons_succ, List.setIfInBounds_toArray, List.set_cons_zero, List.set_cons_succ]
          refine wpAnyH_take (i := 2) (v := .bool false) rfl (by kernel_rfl) (by kernel_rfl) (by kernel_rfl) (fun _ _ _ h => h) (Or.inl ⟨by rfl, fun w' hS => by go_simp⟩) hHeld ?_
          simp only [Act.put, List.getElem_toArray, List.getElem_cons_zero, List.getElem_cons_succ, List.setIfInBounds_toArray, List.set_cons_zero, List.set_cons_succ]
          refine wpAnyH_take (i := 3) (v := undef) rfl (by kernel_rfl) (by kernel_rfl) (by kernel_rfl) (fun _ _ _ h => h) (Or.inr ⟨by rfl, rfl⟩) hHeld ?_
          simp only [Act.put, List.getElem_toArray, List.getElem_cons_zero, List.getElem_cons_succ, List.setIfInBounds_toArray, List.set_cons_zero, List.set_cons_succ]
          refine wpAnyH_take (i := 4) (v := undef) rfl (by kernel_rfl) (by kernel_rfl) (by kernel_rfl) (fun _ _ _ h => h) (Or.inr ⟨by rfl, rfl⟩) hHeld ?_
          simp only [Act.put, List.getElem_toArray, List.getElem_cons_zero, List.getElem_cons_succ, List.setIfInBounds_toArray, List.set_cons_zero, List.set_cons_succ]
          refine wpAnyH_take (i := 5) (v := undef) rfl (by kernel_rfl) (by kernel_rfl) (by kernel_rfl) (fun _ _ _ h => h) (Or.inr ⟨by rfl, rfl⟩) hHeld ?_
          simp only [Act.put, List.getElem_toArray, List.getElem_cons_zero, List.getElem_cons_succ, List.setIfInBounds_toArray, List.set_cons_zero, List.set_cons_succ]
          refine wpAnyH_take (i := 6) (v := undef) rfl (by kernel_rfl) (by kernel_rfl) (by kernel_rfl) (fun _ _ _ h => h) (Or.inr ⟨by rfl, rfl⟩) hHeld ?_
          simp only [Act.put, List.getElem_toArray, List.getElem_cons_zero, List.getElem_cons_succ, List.setIfInBounds_toArray, List.set_cons_zero, List.set_cons_succ]
          refine wpAnyH_take (i := 7) (v := undef) rfl (by kernel_rfl) (by kernel_rfl) (by kernel_rfl) (fun _ _ _ h => h) (Or.inr ⟨by rfl, rfl⟩) hHeld ?_
          simp only [Act.put, List.getElem_toArray, List.getElem_cons_zero, List.getElem_cons_succ, List.setIfInBounds_toArray, List.set_cons_zero, List.set_cons_succ]
          refine wpAnyH_take (i := 8) (v := undef) rfl (by kernel_rfl) (by kernel_rfl) (by kernel_rfl) (fun _ _ _ h => h) (Or.inr ⟨by rfl, rfl⟩) hHeld ?_
          simp only [Act.put, List.getElem_toArray, List.getElem_cons_zero, List.getElem_cons_succ, List.setIfInBounds_toArray, List.set_cons_zero, List.set_cons_succ]
          refine wpAnyH_take (i := 9) (v := undef) rfl (by kernel_rfl) (by kernel_rfl) (by kernel_rfl) (fun _ _ _ h => h) (Or.inr ⟨by rfl, rfl⟩) hHeld ?_
          simp only [Act.put, List.getElem_toArray, List.getElem_cons_zero, List.getElem_cons_succ, List.setIfInBounds_toArray, List.set_cons_zero, List.set_cons_succ]
          refine wpAnyH_take (i := 10) (v := undef) rfl (by kernel_rfl) (by kernel_rfl) (by kernel_rfl) (fun _ _ _ h => h) (Or.inr ⟨by rfl, rfl⟩) hHeld ?_
          simp only [Act.put, List.getElem_toArray, List.getElem_cons_zero, List.getElem_cons_succ, List.setIfInBounds_toArray, List.set_cons_zero, List.set_cons_succ]
          refine wpAnyH_take (i := 11) (v := undef) rfl (by kernel_rfl) (by kernel_rfl) (by kernel_rfl) (fun _ _ _ h => h) (Or.inr ⟨by rfl, rfl⟩) hHeld ?_
          simp only [Act.put, List.getElem_toArray, List.getElem_cons_zero, List.getElem_cons_succ, List.setIfInBounds_toArray, List.set_cons_zero, List.set_cons_succ]
          refine wpAnyH_take (i := 12) (v := undef) rfl (by kernel_rfl) (by kernel_rfl) (by kernel_rfl) (fun _ _ _ h => h) (Or.inr ⟨by rfl, rfl⟩) hHeld ?_
          simp only [Act.put, List.getElem_toArray, List.getElem_cons_zero, List.getElem_cons_succ, List.setIfInBounds_toArray, List.set_cons_zero, List.set_cons_succ]
          refine wpAnyH_take (i := 13) (v := undef) rfl (by kernel_rfl) (by kernel_rfl) (by kernel_rfl) (fun _ _ _ h => h) (Or.inr ⟨by rfl, rfl⟩) hHeld ?_
          simp only [Act.put, List.getElem_toArray, List.getElem_cons_zero, List.getElem_cons_succ, List.setIfInBounds_toArray, List.set_cons_zero, List.set_cons_succ]
          refine wpAnyH_take (i := 14) (v := undef) rfl (by kernel_rfl) (by kernel_rfl) (by kernel_rfl) (fun _ _ _ h => h) (Or.inr ⟨by rfl, rfl⟩) hHeld ?_
          simp only [Act.put, List.getElem_toArray, List.getElem_cons_zero, List.getElem_cons_succ, List.setIfInBounds_toArray, List.set_cons_zero, List.set_cons_succ]
          refine wpAnyH_take (i := 15) (v := undef) rfl (by kernel_rfl) (by kernel_rfl) (by kernel_rfl) (fun _ _ _ h => h) (Or.inr ⟨by rfl, rfl⟩) hHeld ?_
          simp only [Act.put, List.getElem_toArray, List.getElem_cons_zero, List.getElem_cons_succ, List.setIfInBounds_toArray, List.set_cons_zero, List.set_cons_succ]
          refine wpAnyH_take (i := 16) (v := undef) rfl (by kernel_rfl) (by kernel_rfl) (by kernel_rfl) (fun _ _ _ h => h) (Or.inr ⟨by rfl, rfl⟩) hHeld ?_
          simp only [Act.put, List.getElem_toArray, List.getElem_cons_zero, List.getElem_cons_succ, List.setIfInBounds_toArray, List.set_cons_zero, List.set_cons_succ]
          refine wpAnyH_take (i := 17) (v := undef) rfl (by kernel_rfl) (by kernel_rfl) (by kernel_rfl) (fun _ _ _ h => h) (Or.inr ⟨by rfl, rfl⟩) hHeld ?_
          simp only [Act.put, List.getElem_toArray, List.getElem_cons_zero, List.getElem_cons_succ, List.setIfInBounds_toArray, List.set_cons_zero, List.set_cons_succ]
          refine wpAnyH_take (i := 18) (v := undef) rfl (by kernel_rfl) (by kernel_rfl) (by kernel_rfl) (fun _ _ _ h => h) (Or.inr ⟨by rfl, rfl⟩) hHeld ?_
          simp only [Act.put, List.getElem_toArray, List.getElem_cons_zero, List.getElem_cons_succ, List.setIfInBounds_toArray, List.set_cons_zero, List.set_cons_succ]
          refine wpAnyH_take (i := 19) (v := undef) rfl (by kernel_rfl) (by kernel_rfl) (by kernel_rfl) (fun _ _ _ h => h) (Or.inr ⟨by rfl, rfl⟩) hHeld ?_
          simp only [Act.put, List.getElem_toArray, List.getElem_cons_zero, List.getElem_cons_succ, List.setIfInBounds_toArray, List.set_cons_zero, List.set_cons_succ]
          refine wpAnyH_take (i := 20) (v := .bool false) rfl (by kernel_rfl) (by kernel_rfl) (by kernel_rfl) (fun _ _ _ h => h) (Or.inl ⟨by rfl, fun w' hS => by go_simp⟩) hHeld ?_
          simp only [Act.put, List.getElem_toArray, List.getElem_cons_zero, List.getElem_cons_succ, List.setIfInBounds_toArray, List.set_cons_zero, List.set_cons_succ]
          refine wpAnyH_done (by kernel_rfl) ?_ _
          clear hHeld
          have HFe : Hid (Fs z2.drew b n s inc w.heap.size #[.int .i64 (n : Int), .int .i64 (s : Int), .int .i64 inc, .int .i64 fl, .slice oa on oc] A) := HFz.out.still (bstep HBz2.out (Below.refl _ _).drew)
          have Hle : Hid (Below w.heap.size w z2.drew) := bstep Hlz.out (bstep HBz2.out (Below.refl _ _).drew)
          clear HVs HIn
          have HE : Hid (∃ (k_1 : Nat) (A : Ag), k_1 ≤ on ∧ Value.int .i64 ((k : Int) + 1) = .int .i64 (k_1 : Int) ∧ Fs z2.drew b n s inc w.heap.size #[.int .i64 (n : Int), .int .i64 (s : Int), .int .i64 inc, .int .i64 fl, .slice oa on oc] A ∧ Below w.heap.size w z2.drew) := ⟨k + 1, A, by omega, by simp, HFe.out, Hle.out⟩
          go_wp2
          first
            | exact ⟨HE.out, by simp [intOf]; omega⟩
            | (go_roundw
               case rel => exact HE.out
               case measure => simp [intOf]; omega)
      · skip
        have f5 : (o.kind == 5) = false := by simpa using e5
        have He5 : Hid (o.kind ≠ 5) := e5
        have HR6 : Hid (Y.rangeAt wr.heap.size 0 [.int .i64 o.kind, .int .i64 o.q, .int .i64 o.inc, .slice o.sa o.sn o.sc, .slice o.p.sa o.p.sn o.p.sc, .int .i64 o.p.cid, .int .i64 o.p.rev, .int .i64 o.p.top, .int .i64 (o.p.prev[0]?.getD 0), .int .i64 (o.p.prev[1]?.getD 0), .int .i64 (o.p.prev[2]?.getD 0), .int .i64 (o.p.prev[3]?.getD 0), .slice o.p.va o.p.vn o.p.vc]) := blk_range HK6.out
        have HCa : Hid (Calls Try.prog 18 #[.pointer (some ⟨b, 0, none⟩), .agg [.int .i64 o.kind, .int .i64 o.q, .int .i64 o.inc, .slice o.sa o.sn o.sc, .slice o.p.sa o.p.sn o.p.sc, .int .i64 o.p.cid, .int .i64 o.p.rev, .int .i64 o.p.top, .int .i64 (o.p.prev[0]?.getD 0), .int .i64 (o.p.prev[1]?.getD 0), .int .i64 (o.p.prev[2]?.getD 0), .int .i64 (o.p.prev[3]?.getD 0), .slice o.p.va o.p.vn o.p.vc].toArray] Y fun e w' => ∃ E A', e = .returned (.int .i64 E) ∧ Fs w' b n s inc w.heap.size #[.int .i64 (n : Int), .int .i64 (s : Int), .int .i64 inc, .int .i64 fl, .slice oa on oc] A' ∧ Kept Y w' (fun j => j = b) ∧ Stp A o E A') := HFY.out.call o (HopG.out Y HlY.out)
        clear e5
        go_wp2_with (first | (refine store_midL 52 (.tmp 7) (.tmp 51) (L := S.cs) T0.out info_sight S.one rfl rfl rfl rfl ?_; rw [hY]) | (refine load_mid 44 (.tmp 6) HR6.out _ Try.underlying44 rfl (by kernel_rfl) rfl rfl rfl ?_) | fail)
        refine HCa.out.mono ?_
        rintro e w3 ⟨E, A', rfl, hF3, hK3, hst⟩
        obtain ⟨Cb, hCb⟩ := HFY.out.blk
        have k73 := hK3.obj HK7.out (fun e => blk_ne HK7.out hCb (by decide) e)
        have k63 := hK3.obj HK6.out (fun e => blk_ne HK6.out hCb (by decide) e)
        have HS3 : Hid (S.Kp w3) := HS.out.keep hK3 HFY.out.noI
        have Hl3 : Hid (Below w.heap.size w w3) := HlY.out.trans (hK3.below HlY.out.size (fun k hk e => by omega))
        have HF3 : Hid (Fs w3 b n s inc w.heap.size #[.int .i64 (n : Int), .int .i64 (s : Int), .int .i64 inc, .int .i64 fl, .slice oa on oc] A') := hF3
        have Hst : Hid (Stp A o E A') := hst
        have HK73 : Hid (w3.heap[w2.heap.size]? = some (.cells S.cs.toArray 52 (0, 0))) := k73
        have HK63 : Hid (w3.heap[wr.heap.size]? = some (.cells [.int .i64 o.kind, .int .i64 o.q, .int .i64 o.inc, .slice o.sa o.sn o.sc, .slice o.p.sa o.p.sn o.p.sc, .int .i64 o.p.cid, .int .i64 o.p.rev, .int .i64 o.p.top, .int .i64 (o.p.prev[0]?.getD 0), .int .i64 (o.p.prev[1]?.getD 0), .int .i64 (o.p.prev[2]?.getD 0), .int .i64 (o.p.prev[3]?.getD 0), .slice o.p.va o.p.vn o.p.vc].toArray 44 (0, 0))) := k63
        clear HCa hF3 hK3 hst hCb k73 k63 y0 hY hZ
        by_cases hE : E = 0
        · subst hE
          go_wp2
          refine wp_region_held_drew (S := (fun w' => True)) (by kernel_rfl) trivial (fun hHeld => ?_)
          simp only [Act.put, List.size_toArray, List.length_cons, List.length_nil, Nat.zero_add]
          refine wpAnyH_take (i := 0) (v := .int .i64 0) rfl (by kernel_rfl) (by kernel_rfl) (by kernel_rfl) (fun _ _ _ h => h) (Or.inl ⟨by rfl, fun w' hS => by go_simp⟩) hHeld ?_
          simp only [Act.put, List.getElem_toArray, List.getElem_cons_zero, List.getElem_cons_succ, List.setIfInBounds_toArray, List.set_cons_zero, List.set_cons_succ]
          refine wpAnyH_take (i := 1) (v := .bool false) rfl (by kernel_rfl) (by kernel_rfl) (by kernel_rfl) (fun _ _ _ h => h) (Or.inl ⟨by rfl, fun w' hS => by go_simp⟩) hHeld ?_
          simp only [Act.put, List.getElem_toArray, List.getElem_cons_zero, List.getElem_cons_succ, List.setIfInBounds_toArray, List.set_cons_zero, List.set_cons_succ]
          refine wpAnyH_take (i := 2) (v := .bool false) rfl (by kernel_rfl) (by kernel_rfl) (by kernel_rfl) (fun _ _ _ h => h) (Or.inl ⟨by rfl, fun w' hS => by go_simp⟩) hHeld ?_
          simp only [Act.put, List.getElem_toArray, List.getElem_cons_zero, List.getElem_cons_succ, List.setIfInBounds_toArray, List.set_cons_zero, List.set_cons_succ]
          refine wpAnyH_take (i := 3) (v := undef) rfl (by kernel_rfl) (by kernel_rfl) (by kernel_rfl) (fun _ _ _ h => h) (Or.inr ⟨by rfl, rfl⟩) hHeld ?_
          simp only [Act.put, List.getElem_toArray, List.getElem_cons_zero, List.getElem_cons_succ, List.setIfInBounds_toArray, List.set_cons_zero, List.set_cons_succ]
          refine wpAnyH_take (i := 4) (v := undef) rfl (by kernel_rfl) (by kernel_rfl) (by kernel_rfl) (fun _ _ _ h => h) (Or.inr ⟨by rfl, rfl⟩) hHeld ?_
          simp only [Act.put, List.getElem_toArray, List.getElem_cons_zero, List.getElem_cons_succ, List.setIfInBounds_toArray, List.set_cons_zero, List.set_cons_succ]
          refine wpAnyH_take (i := 5) (v := undef) rfl (by kernel_rfl) (by kernel_rfl) (by kernel_rfl) (fun _ _ _ h => h) (Or.inr ⟨by rfl, rfl⟩) hHeld ?_
          simp only [Act.put, List.getElem_toArray, List.getElem_cons_zero, List.getElem_cons_succ, List.setIfInBounds_toArray, List.set_cons_zero, List.set_cons_succ]
          refine wpAnyH_take (i := 6) (v := undef) rfl (by kernel_rfl) (by kernel_rfl) (by kernel_rfl) (fun _ _ _ h => h) (Or.inr ⟨by rfl, rfl⟩) hHeld ?_
          simp only [Act.put, List.getElem_toArray, List.getElem_cons_zero, List.getElem_cons_succ, List.setIfInBounds_toArray, List.set_cons_zero, List.set_cons_succ]
          refine wpAnyH_take (i := 7) (v := undef) rfl (by kernel_rfl) (by kernel_rfl) (by kernel_rfl) (fun _ _ _ h => h) (Or.inr ⟨by rfl, rfl⟩) hHeld ?_
          simp only [Act.put, List.getElem_toArray, List.getElem_cons_zero, List.getElem_cons_succ, List.setIfInBounds_toArray, List.set_cons_zero, List.set_cons_succ]
          refine wpAnyH_take (i := 8) (v := .bool false) rfl (by kernel_rfl) (by kernel_rfl) (by kernel_rfl) (fun _ _ _ h => h) (Or.inl ⟨by rfl, fun w' hS => by go_simp⟩) hHeld ?_
          simp only [Act.put, List.getElem_toArray, List.getElem_cons_zero, List.getElem_cons_succ, List.setIfInBounds_toArray, List.set_cons_zero, List.set_cons_succ]
          refine wpAnyH_done (by kernel_rfl) ?_ _
          clear hHeld
          have z0 : w3.drew.cell? ⟨wr.heap.size, 0, none⟩ = some (.int .i64 o.kind) := below_at (Below.refl _ _).drew (blk_cell HK63.out 0)
          have HFd : Hid (Fs w3.drew b n s inc w.heap.size #[.int .i64 (n : Int), .int .i64 (s : Int), .int .i64 inc, .int .i64 fl, .slice oa on oc] A') := HF3.out.still (Below.refl _ _).drew
          have Hld : Hid (Below w.heap.size w w3.drew) := bstep Hl3.out (Below.refl _ _).drew
          have HK7d : Hid (w3.drew.heap[w2.heap.size]? = some (.cells S.cs.toArray 52 (0, 0))) := HK73.out
          have HK6d : Hid (w3.drew.heap[wr.heap.size]? = some (.cells [.int .i64 o.kind, .int .i64 o.q, .int .i64 o.inc, .slice o.sa o.sn o.sc, .slice o.p.sa o.p.sn o.p.sc, .int .i64 o.p.cid, .int .i64 o.p.rev, .int .i64 o.p.top, .int .i64 (o.p.prev[0]?.getD 0), .int .i64 (o.p.prev[1]?.getD 0), .int .i64 (o.p.prev[2]?.getD 0), .int .i64 (o.p.prev[3]?.getD 0), .slice o.p.va o.p.vn o.p.vc].toArray 44 (0, 0))) := HK63.out
          generalize w3.drew = d3 at *
          by_cases e2 : o.kind = 2
          · have hAe : A' = A.takA o.q o.inc o.p ∧ A.takE o.q o.inc o.p = 0 := by
              have h := Hst.out
              rcases stp_two h e2 with ⟨h1, h2⟩
              exact ⟨h1, h2.symm⟩
            have HAe : Hid (A' = A.takA o.q o.inc o.p ∧ A.takE o.q o.inc o.p = 0) := hAe
            rw [e2] at z0
            clear hAe e2
            go_wp2_with (fail)
            refine HFd.out.look.mono ?_
            rintro e q2 ⟨S4, rfl, hS4, hg4, hbq⟩
            have kq2 := (hbq.block _ (lt_heap HK7d.out)).trans HK7d.out
            have Tq : Hid (q2.there w2.heap.size 0 22) := blk_there' kq2 (by rw [show S.cs.toArray.size = 22 from rfl]; omega)
            generalize hq4 : q2.setCells w2.heap.size 0 S4.cs = q4
            have kq : Kept q2 q4 (fun j => j = w2.heap.size) := by rw [← hq4]; exact ksets (P := fun j => j = w2.heap.size) (b := w2.heap.size) rfl S4.cs 0 q2
            have HKq : Hid (q4.heap[w2.heap.size]? = some (.cells S4.cs.toArray 52 (0, 0))) := by show q4.heap[w2.heap.size]? = _; rw [← hq4]; exact sets_whole kq2 rfl
            have HSq : Hid (S4.Kp q4) := hS4.keep kq (noI_blk kq2 (by decide) (by decide))
            have HFq : Hid (Fs q4 b n s inc w.heap.size #[.int .i64 (n : Int), .int .i64 (s : Int), .int .i64 inc, .int .i64 fl, .slice oa on oc] A') := by
              show Fs q4 b n s inc w.heap.size #[.int .i64 (n : Int), .int .i64 (s : Int), .int .i64 inc, .int .i64 fl, .slice oa on oc] A'
              rw [← hq4]
              exact (HFd.out.still hbq).put S4.cs kq2 (by decide) (by decide) (by decide)
            have Hlq : Hid (Below w.heap.size w q4) := (bstep Hld.out hbq).trans (kq.below (bstep Hld.out hbq).size (fun k hk e => by omega))
            have k6q := kq.obj ((hbq.block _ (lt_heap HK6d.out)).trans HK6d.out) (fun e => blk_ne ((hbq.block _ (lt_heap HK6d.out)).trans HK6d.out) kq2 (by decide) e)
            have u1 : q4.cell? ⟨wr.heap.size, 1, none⟩ = some (.int .i64 o.q) := blk_cell k6q 1
            have u2 : q4.cell? ⟨wr.heap.size, 2, none⟩ = some (.int .i64 o.inc) := blk_cell k6q 2
            have U4 : Hid (q4.rangeAt wr.heap.size 4 [.slice o.p.sa o.p.sn o.p.sc, .int .i64 o.p.cid, .int .i64 o.p.rev, .int .i64 o.p.top, .int .i64 (o.p.prev[0]?.getD 0), .int .i64 (o.p.prev[1]?.getD 0), .int .i64 (o.p.prev[2]?.getD 0), .int .i64 (o.p.prev[3]?.getD 0), .slice o.p.va o.p.vn o.p.vc]) := range_sub k6q rfl
            have Hg4 : Hid (S4.sg = A'.sg) := hg4
            have HTk := HFq.out.again o (HopG.out q4 Hlq.out).p HAe.out.2 HAe.out.1
            have HTk' : Hid (Calls Try.prog 22 #[.pointer (some ⟨b, 0, none⟩), .int .i64 o.q, .int .i64 o.inc, .agg [.slice o.p.sa o.p.sn o.p.sc, .int .i64 o.p.cid, .int .i64 o.p.rev, .int .i64 o.p.top, .int .i64 (o.p.prev[0]?.getD 0), .int .i64 (o.p.prev[1]?.getD 0), .int .i64 (o.p.prev[2]?.getD 0), .int .i64 (o.p.prev[3]?.getD 0), .slice o.p.va o.p.vn o.p.vc].toArray] q4 fun e w' => e = .returned (.tuple #[.bool false, .int .i64 51]) ∧ Fs w' b n s inc w.heap.size #[.int .i64 (n : Int), .int .i64 (s : Int), .int .i64 inc, .int .i64 fl, .slice oa on oc] A' ∧ Kept q4 w' (fun j => j = b)) := HTk
            clear hS4 hg4 hbq kq2 kq k6q HTk z0
            go_wp2_with (first | (refine store_midL 52 (.tmp 7) (.tmp 129) (L := S4.cs) Tq.out info_sight S4.one rfl rfl rfl rfl ?_; rw [hq4]) | (refine load_mid 41 (.tmp 136) U4.out _ Try.underlying41 rfl (by kernel_rfl) rfl rfl rfl ?_) | fail)
            refine HTk'.out.mono ?_
            rintro e q5 ⟨rfl, hF5, hK5⟩
            have HF5 : Hid (Fs q5.drew b n s inc w.heap.size #[.int .i64 (n : Int), .int .i64 (s : Int), .int .i64 inc, .int .i64 fl, .slice oa on oc] A') := hF5.still (Below.refl _ _).drew
            obtain ⟨Cb, hCb⟩ := HFq.out.blk
            have k75 := hK5.obj HKq.out (fun e => blk_ne HKq.out hCb (by decide) e)
            have HS5 : Hid (S4.Kp q5.drew) := (HSq.out.keep hK5 HFq.out.noI).still (Below.refl _ _).drew
            have D6 : Hid (q5.drew.rangeAt w2.heap.size 0 S4.cs) := rng_below (blk_range k75) (Below.refl _ _).drew
            have HK75 : Hid (q5.drew.heap[w2.heap.size]? = some (.cells S4.cs.toArray 52 (0, 0))) := k75
            have Hl5 : Hid (Below w.heap.size w q5.drew) := bstep (Hlq.out.trans (hK5.below Hlq.out.size (fun k hk e => by omega))) (Below.refl _ _).drew
            clear u1 u2 U4 Tq hF5 hK5 hCb k75 HTk'
            go_wp2
            refine wp_region_held_drew (S := (fun w' => w'.rangeAt w2.heap.size 0 S4.cs)) (by kernel_rfl) D6.out (fun hHeld => ?_)
            simp only [Act.put, List.size_toArray, List.length_cons, List.length_nil, Nat.zero_add]
            refine wpAnyH_take (i := 0) (v := .int .i64 51) rfl (by kernel_rfl) (by kernel_rfl) (by kernel_rfl) (fun _ _ _ h => h) (Or.inl ⟨by rfl, fun w' hS => by go_simp⟩) hHeld ?_
            simp only [Act.put, List.getElem_toArray, List.getElem_cons_zero, List.getElem_cons_succ, List.setIfInBounds_toArray, List.set_cons_zero, List.set_cons_succ]
            refine wpAnyH_take (i := 1) (v := .bool false) rfl (by kernel_rfl) (by kernel_rfl) (by kernel_rfl) (fun _ _ _ h => h) (Or.inl ⟨by rfl, fun w' hS => by go_simp⟩) hHeld ?_
            simp only [Act.put, List.getElem_toArray, List.getElem_cons_zero, List.getElem_cons_succ, List.setIfInBounds_toArray, List.set_cons_zero, List.set_cons_succ]
            refine wpAnyH_take (i := 2) (v := .bool false) rfl (by kernel_rfl) (by kernel_rfl) (by kernel_rfl) (fun _ _ _ h => h) (Or.inl ⟨by rfl, fun w' hS => by go_simp⟩) hHeld ?_
            simp only [Act.put, List.getElem_toArray, List.getElem_cons_zero, List.getElem_cons_succ, List.setIfInBounds_toArray, List.set_cons_zero, List.set_cons_succ]
            refine wpAnyH_take (i := 3) (v := .agg (S4.cs).toArray) rfl (by kernel_rfl) (by kernel_rfl) (by kernel_rfl) (fun _ _ _ h => h) (yieldsIf_load_mid (by rfl) 52 (.tmp 7) rfl w2.heap.size (0) (by rfl) (S4.cs) _ (fun w' hS => hS) Try.underlying52 rfl info_sight) hHeld ?_
            simp only [Act.put, List.getElem_toArray, List.getElem_cons_zero, List.getElem_cons_succ, List.setIfInBounds_toArray, List.set_cons_zero, List.set_cons_succ]
            refine wpAnyH_take (i := 4) (v := .pointer (some ⟨b, 0, none⟩)) rfl (by kernel_rfl) (by kernel_rfl) (by kernel_rfl) (fun _ _ _ h => h) (Or.inl ⟨by rfl, fun w' hS => by go_simp⟩) hHeld ?_
            simp only [Act.put, List.getElem_toArray, List.getElem_cons_zero, List.getElem_cons_succ, List.setIfInBounds_toArray, List.set_cons_zero, List.set_cons_succ]
            refine wpAnyH_ready (rs := [5]) (by kernel_rfl) (by simp) ?_
            refine AllReadyH.cons rfl (fun K hK => ?_) AllReadyH.nil
            go_simp
            refine (HF5.out.look).mono ?_
            rintro e q6 ⟨S3, rfl, hS3, hg3, hb5⟩
            have HIs : Hid (Calls Try.prog 21 #[.agg S4.cs.toArray, .agg S3.cs.toArray] q6 fun e w' => e = .returned (.bool true) ∧ Below q6.heap.size q6 w') := is_yes S4 S3 (HS5.out.still hb5).rd hS3.rd (Hg4.out.trans hg3.symm)
            have HB5 : Hid (Below q5.drew.heap.size q5.drew q6) := hb5
            clear hS3 hg3
            refine hK.out _ _ (rng_below D6.out hb5) (fun hHeld => ?_)
            clear hK K
            refine wpAnyH_ready (rs := [6]) (by kernel_rfl) (by simp) ?_
            refine AllReadyH.cons rfl (fun K hK => ?_) AllReadyH.nil
            go_simp
            refine (HIs.out).mono ?_
            rintro e q7 ⟨rfl, hb6⟩
            have HB6 : Hid (Below q5.drew.heap.size q5.drew q7) := bstep HB5.out hb6
            refine hK.out _ _ (rng_below D6.out (bstep HB5.out hb6)) (fun hHeld => ?_)
            clear hK K
            refine wpAnyH_take (i := 7) (v := .bool false) rfl (by kernel_rfl) (by kernel_rfl) (by kernel_rfl) (fun _ _ _ h => h) (Or.inl ⟨by rfl, fun w' hS => by go_simp⟩) hHeld ?_
            simp only [Act.put, List.getElem_toArray, List.getElem_cons_zero, List.getElem_cons_succ, List.setIfInBounds_toArray, List.set_cons_zero, List.set_cons_succ]
            refine wpAnyH_take (i := 8) (v := .bool false) rfl (by kernel_rfl) (by kernel_rfl) (by kernel_rfl) (fun _ _ _ h => h) (Or.inl ⟨by rfl, fun w' hS => by go_simp⟩) hHeld ?_
            simp only [Act.put, List.getElem_toArray, List.getElem_cons_zero, List.getElem_cons_succ, List.setIfInBounds_toArray, List.set_cons_zero, List.set_cons_succ]
            refine wpAnyH_done (by kernel_rfl) ?_ _
            clear hHeld
            have HT : Hid (Fs q7 b n s inc w.heap.size #[.int .i64 (n : Int), .int .i64 (s : Int), .int .i64 inc, .int .i64 fl, .slice oa on oc] A') := HF5.out.still HB6.out
            have HK7t : Hid (q7.heap[w2.heap.size]? = some (.cells S4.cs.toArray 52 (0, 0))) := (HB6.out.block _ (lt_heap HK75.out)).trans HK75.out
            have HlT : Hid (Below w.heap.size w q7) := bstep Hl5.out HB6.out
            clear D6 HIs HB5 HB6
            go_wp2_with (fail)
            have HP : Hid (Calls Try.prog 14 #[.pointer (some ⟨b, 0, none⟩)] q7 fun e w' => ∃ g3 g4, e = .returned (.agg [.slice (some ⟨g3, 0, none⟩) n n, .int .i64 A'.own.cid, .int .i64 A'.own.rev, .int .i64 A'.own.top, .int .i64 (A'.own.prev[0]?.getD 0), .int .i64 (A'.own.prev[1]?.getD 0), .int .i64 (A'.own.prev[2]?.getD 0), .int .i64 (A'.own.prev[3]?.getD 0), .slice (some ⟨g4, 0, none⟩) n n].toArray) ∧ Rw w' g3 3 (A'.own.set.take n) ∧ Rw w' g4 3 (A'.own.vec.take n) ∧ Below q7.heap.size q7 w') := HT.out.prop
            refine HP.out.mono ?_
            rintro e p1 ⟨g3, g4, rfl, r3, r4, hp1⟩
            clear HP
            go_wp2_with (first | (refine field_step 41 (.tmp 151) 0 (fld_prop undef _ _ _ _ _ _ _ _ _ _ _ _ _) rfl rfl rfl ?_) | fail)
            refine (HT.out.still hp1).look.mono ?_
            rintro e p2 ⟨S2, rfl, hS2, hg2, hp2⟩
            have bp2 : Below q7.heap.size q7 p2 := bstep hp1 hp2
            have kp2 : p2.heap[w2.heap.size]? = some (.cells S4.cs.toArray 52 (0, 0)) := (bp2.block _ (lt_heap HK7t.out)).trans HK7t.out
            have Tp : Hid (p2.there w2.heap.size 0 22) := blk_there' kp2 (by rw [show S4.cs.toArray.size = 22 from rfl]; omega)
            generalize hq : p2.setCells w2.heap.size 0 S2.cs = p3
            have kq : Kept p2 p3 (fun j => j = w2.heap.size) := by rw [← hq]; exact ksets (P := fun j => j = w2.heap.size) (b := w2.heap.size) rfl S2.cs 0 p2
            have HK3 : Hid (p3.heap[w2.heap.size]? = some (.cells S2.cs.toArray 52 (0, 0))) := by show p3.heap[w2.heap.size]? = _; rw [← hq]; exact sets_whole kp2 rfl
            have HS3 : Hid (S2.Kp p3) := hS2.keep kq (noI_blk kp2 (by decide) (by decide))
            have HF3 : Hid (Fs p3 b n s inc w.heap.size #[.int .i64 (n : Int), .int .i64 (s : Int), .int .i64 inc, .int .i64 fl, .slice oa on oc] A') := by
              show Fs p3 b n s inc w.heap.size #[.int .i64 (n : Int), .int .i64 (s : Int), .int .i64 inc, .int .i64 fl, .slice oa on oc] A'
              rw [← hq]
              exact (HT.out.still bp2).put S2.cs kp2 (by decide) (by decide) (by decide)
            have r3q : Rw p3 g3 3 (A'.own.set.take n) := (r3.still hp2).keep kq (fun e => blk_ne (r3.still hp2) kp2 (by decide) e)
            have HE := HF3.out.own r3q
            have HlP : Hid (Below w.heap.size w p3) := (bstep HlT.out bp2).trans (kq.below (bstep HlT.out bp2).size (fun k hk e => by omega))
            have Hg2 : Hid (S2.sg = A'.sg) := hg2
            clear r3 r4 hp1 hS2 hg2 hp2 bp2 kp2 kq r3q
            go_wp2_with (first | (refine store_midL 52 (.tmp 7) (.tmp 154) (L := S2.cs) Tp.out info_sight S2.one rfl rfl rfl rfl ?_; rw [hq]) | fail)
            refine HE.mono ?_
            rintro e p4 ⟨rfl, hF4, hK4⟩
            have HF4 : Hid (Fs p4.drew b n s inc w.heap.size #[.int .i64 (n : Int), .int .i64 (s : Int), .int .i64 inc, .int .i64 fl, .slice oa on oc] A') := hF4.still (Below.refl _ _).drew
            obtain ⟨Cb, hCb⟩ := HF3.out.blk
            have k74 := hK4.obj HK3.out (fun e => blk_ne HK3.out hCb (by decide) e)
            have HS4 : Hid (S2.Kp p4.drew) := (HS3.out.keep hK4 HF3.out.noI).still (Below.refl _ _).drew
            have D6 : Hid (p4.drew.rangeAt w2.heap.size 0 S2.cs) := rng_below (blk_range k74) (Below.refl _ _).drew
            have Hl4 : Hid (Below w.heap.size w p4.drew) := bstep (HlP.out.trans (hK4.below HlP.out.size (fun k hk e => by omega))) (Below.refl _ _).drew
            clear HE hq hF4 hK4 k74 hCb Tp HK3 HS3 HF3 HlP
            go_wp2
            refine wp_region_held_drew (S := (fun w' => w'.rangeAt w2.heap.size 0 S2.cs)) (by kernel_rfl) D6.out (fun hHeld => ?_)
            simp only [Act.put, List.size_toArray, List.length_cons, List.length_nil, Nat.zero_add]
            refine wpAnyH_take (i := 0) (v := .bool false) rfl (by kernel_rfl) (by kernel_rfl) (by kernel_rfl) (fun _ _ _ h => h) (Or.inl ⟨by rfl, fun w' hS => by go_simp⟩) hHeld ?_
            simp only [Act.put, List.getElem_toArray, List.getElem_cons_zero, List.getElem_cons_succ, List.setIfInBounds_toArray, List.set_cons_zero, List.set_cons_succ]
            refine wpAnyH_take (i := 1) (v := .bool false) rfl (by kernel_rfl) (by kernel_rfl) (by kernel_rfl) (fun _ _ _ h => h) (Or.inl ⟨by rfl, fun w' hS => by go_simp⟩) hHeld ?_
            simp only [Act.put, List.getElem_toArray, List.getElem_cons_zero, List.getElem_cons_succ, List.setIfInBounds_toArray, List.set_cons_zero, List.set_cons_succ]
            refine wpAnyH_take (i := 2) (v := .int .i64 0) rfl (by kernel_rfl) (by kernel_rfl) (by kernel_rfl) (fun _ _ _ h => h) (Or.inl ⟨by rfl, fun w' hS => by go_simp⟩) hHeld ?_
            simp only [Act.put, List.getElem_toArray, List.getElem_cons_zero, List.getElem_cons_succ, List.setIfInBounds_toArray, List.set_cons_zero, List.set_cons_succ]
            refine wpAnyH_take (i := 3) (v := .bool false) rfl (by kernel_rfl) (by kernel_rfl) (by kernel_rfl) (fun _ _ _ h => h) (Or.inl ⟨by rfl, fun w' hS => by go_simp⟩) hHeld ?_
            simp only [Act.put, List.getElem_toArray, List.getElem_cons_zero, List.getElem_cons_succ, List.setIfInBounds_toArray, List.set_cons_zero, List.set_cons_succ]
            refine wpAnyH_take (i := 4) (v := .bool false) rfl (by kernel_rfl) (by kernel_rfl) (by kernel_rfl) (fun _ _ _ h => h) (Or.inl ⟨by rfl, fun w' hS => by go_simp⟩) hHeld ?_
            simp only [Act.put, List.getElem_toArray, List.getElem_cons_zero, List.getElem_cons_succ, List.setIfInBounds_toArray, List.set_cons_zero, List.set_cons_succ]
            refine wpAnyH_take (i := 5) (v := .bool false) rfl (by kernel_rfl) (by kernel_rfl) (by kernel_rfl) (fun _ _ _ h => h) (Or.inl ⟨by rfl, fun w' hS => by go_simp⟩) hHeld ?_
            simp only [Act.put, List.getElem_toArray, List.getElem_cons_zero, List.getElem_cons_succ, List.setIfInBounds_toArray, List.set_cons_zero, List.set_cons_succ]
            refine wpAnyH_take (i := 6) (v := .agg (S2.cs).toArray) rfl (by kernel_rfl) (by kernel_rfl) (by kernel_rfl) (fun _ _ _ h => h) (yieldsIf_load_mid (by rfl) 52 (.tmp 7) rfl w2.heap.size (0) (by rfl) (S2.cs) _ (fun w' hS => hS) Try.underlying52 rfl info_sight) hHeld ?_
            simp only [Act.put, List.getElem_toArray, List.getElem_cons_zero, List.getElem_cons_succ, List.setIfInBounds_toArray, List.set_cons_zero, List.set_cons_succ]
            refine wpAnyH_take (i := 7) (v := .pointer (some ⟨b, 0, none⟩)) rfl (by kernel_rfl) (by kernel_rfl) (by kernel_rfl) (fun _ _ _ h => h) (Or.inl ⟨by rfl, fun w' hS => by go_simp⟩) hHeld ?_
            simp only [Act.put, List.getElem_toArray, List.getElem_cons_zero, List.getElem_cons_succ, List.setIfInBounds_toArray, List.set_cons_zero, List.set_cons_succ]
            refine wpAnyH_ready (rs := [8]) (by kernel_rfl) (by simp) ?_
            refine AllReadyH.cons rfl (fun K hK => ?_) AllReadyH.nil
            go_simp
            refine (HF4.out.look).mono ?_
            rintro e p5 ⟨S3, rfl, hS3, hg3, hb5⟩
            have HIs : Hid (Calls Try.prog 21 #[.agg S2.cs.toArray, .agg S3.cs.toArray] p5 fun e w' => e = .returned (.bool true) ∧ Below p5.heap.size p5 w') := is_yes S2 S3 (HS4.out.still hb5).rd hS3.rd (Hg2.out.trans hg3.symm)
            have HB5 : Hid (Below p4.drew.heap.size p4.drew p5) := hb5
            clear hS3 hg3
            refine hK.out _ _ (rng_below D6.out hb5) (fun hHeld => ?_)
            clear hK K
            refine wpAnyH_ready (rs := [9]) (by kernel_rfl) (by simp) ?_
            refine AllReadyH.cons rfl (fun K hK => ?_) AllReadyH.nil
            go_simp
            refine (HIs.out).mono ?_
            rintro e p6 ⟨rfl, hb6⟩
            have HB6 : Hid (Below p4.drew.heap.size p4.drew p6) := bstep HB5.out hb6
            refine hK.out _ _ (rng_below D6.out (bstep HB5.out hb6)) (fun hHeld => ?_)
            clear hK K
            refine wpAnyH_take (i := 10) (v := .bool false) rfl (by kernel_rfl) (by kernel_rfl) (by kernel_rfl) (fun _ _ _ h => h) (Or.inl ⟨by rfl, fun w' hS => by go_simp⟩) hHeld ?_
            simp only [Act.put, List.getElem_toArray, List.getElem_cons_zero, List.getElem_cons_succ, List.setIfInBounds_toArray, List.set_cons_zero, List.set_cons_succ]
            refine wpAnyH_take (i := 11) (v := .bool false) rfl (by kernel_rfl) (by kernel_rfl) (by kernel_rfl) (fun _ _ _ h => h) (Or.inl ⟨by rfl, fun w' hS => by go_simp⟩) hHeld ?_
            simp only [Act.put, List.getElem_toArray, List.getElem_cons_zero, List.getElem_cons_succ, List.setIfInBounds_toArray, List.set_cons_zero, List.set_cons_succ]
            refine wpAnyH_done (by kernel_rfl) ?_ _
            clear hHeld
            have HE : Hid (∃ (k_1 : Nat) (A : Ag), k_1 ≤ on ∧ Value.int .i64 ((k : Int) + 1) = .int .i64 (k_1 : Int) ∧ Fs p6 b n s inc w.heap.size #[.int .i64 (n : Int), .int .i64 (s : Int), .int .i64 inc, .int .i64 fl, .slice oa on oc] A ∧ Below w.heap.size w p6) := ⟨k + 1, A', by omega, by simp, HF4.out.still HB6.out, bstep Hl4.out HB6.out⟩
            clear D6 HIs
            go_wp2
            first
              | exact ⟨HE.out, by simp [intOf]; omega⟩
              | (go_roundw
                 case rel => exact HE.out
                 case measure => simp [intOf]; omega)
          · have f2 : (o.kind == 2) = false := by simpa using e2
            have HT := HFd
            have HK7t := HK7d
            have HlT := Hld
            clear e2
            go_wp2_with (fail)
            have HP : Hid (Calls Try.prog 14 #[.pointer (some ⟨b, 0, none⟩)] d3 fun e w' => ∃ g3 g4, e = .returned (.agg [.slice (some ⟨g3, 0, none⟩) n n, .int .i64 A'.own.cid, .int .i64 A'.own.rev, .int .i64 A'.own.top, .int .i64 (A'.own.prev[0]?.getD 0), .int .i64 (A'.own.prev[1]?.getD 0), .int .i64 (A'.own.prev[2]?.getD 0), .int .i64 (A'.own.prev[3]?.getD 0), .slice (some ⟨g4, 0, none⟩) n n].toArray) ∧ Rw w' g3 3 (A'.own.set.take n) ∧ Rw w' g4 3 (A'.own.vec.take n) ∧ Below d3.heap.size d3 w') := HT.out.prop
            refine HP.out.mono ?_
            rintro e p1 ⟨g3, g4, rfl, r3, r4, hp1⟩
            clear HP
            go_wp2_with (first | (refine field_step 41 (.tmp 151) 0 (fld_prop undef _ _ _ _ _ _ _ _ _ _ _ _ _) rfl rfl rfl ?_) | fail)
            refine (HT.out.still hp1).look.mono ?_
            rintro e p2 ⟨S2, rfl, hS2, hg2, hp2⟩
            have bp2 : Below d3.heap.size d3 p2 := bstep hp1 hp2
            have kp2 : p2.heap[w2.heap.size]? = some (.cells S.cs.toArray 52 (0, 0)) := (bp2.block _ (lt_heap HK7t.out)).trans HK7t.out
            have Tp : Hid (p2.there w2.heap.size 0 22) := blk_there' kp2 (by rw [show S.cs.toArray.size = 22 from rfl]; omega)
            generalize hq : p2.setCells w2.heap.size 0 S2.cs = p3
            have kq : Kept p2 p3 (fun j => j = w2.heap.size) := by rw [← hq]; exact ksets (P := fun j => j = w2.heap.size) (b := w2.heap.size) rfl S2.cs 0 p2
            have HK3 : Hid (p3.heap[w2.heap.size]? = some (.cells S2.cs.toArray 52 (0, 0))) := by show p3.heap[w2.heap.size]? = _; rw [← hq]; exact sets_whole kp2 rfl
            have HS3 : Hid (S2.Kp p3) := hS2.keep kq (noI_blk kp2 (by decide) (by decide))
            have HF3 : Hid (Fs p3 b n s inc w.heap.size #[.int .i64 (n : Int), .int .i64 (s : Int), .int .i64 inc, .int .i64 fl, .slice oa on oc] A') := by
              show Fs p3 b n s inc w.heap.size #[.int .i64 (n : Int), .int .i64 (s : Int), .int .i64 inc, .int .i64 fl, .slice oa on oc] A'
              rw [← hq]
              exact (HT.out.still bp2).put S2.cs kp2 (by decide) (by decide) (by decide)
            have r3q : Rw p3 g3 3 (A'.own.set.take n) := (r3.still hp2).keep kq (fun e => blk_ne (r3.still hp2) kp2 (by decide) e)
            have HE := HF3.out.own r3q
            have HlP : Hid (Below w.heap.size w p3) := (bstep HlT.out bp2).trans (kq.below (bstep HlT.out bp2).size (fun k hk e => by omega))
            have Hg2 : Hid (S2.sg = A'.sg) := hg2
            clear r3 r4 hp1 hS2 hg2 hp2 bp2 kp2 kq r3q
            go_wp2_with (first | (refine store_midL 52 (.tmp 7) (.tmp 154) (L := S2.cs) Tp.out info_sight S2.one rfl rfl rfl rfl ?_; rw [hq]) | fail)
            refine HE.mono ?_
            rintro e p4 ⟨rfl, hF4, hK4⟩
            have HF4 : Hid (Fs p4.drew b n s inc w.heap.size #[.int .i64 (n : Int), .int .i64 (s : Int), .int .i64 inc, .int .i64 fl, .slice oa on oc] A') := hF4.still (Below.refl _ _).drew
            obtain ⟨Cb, hCb⟩ := HF3.out.blk
            have k74 := hK4.obj HK3.out (fun e => blk_ne HK3.out hCb (by decide) e)
            have HS4 : Hid (S2.Kp p4.drew) := (HS3.out.keep hK4 HF3.out.noI).still (Below.refl _ _).drew
            have D6 : Hid (p4.drew.rangeAt w2.heap.size 0 S2.cs) := rng_below (blk_range k74) (Below.refl _ _).drew
            have Hl4 : Hid (Below w.heap.size w p4.drew) := bstep (HlP.out.trans (hK4.below HlP.out.size (fun k hk e => by omega))) (Below.refl _ _).drew
            clear HE hq hF4 hK4 k74 hCb Tp HK3 HS3 HF3 HlP
            go_wp2
            refine wp_region_held_drew (S := (fun w' => w'.rangeAt w2.heap.size 0 S2.cs)) (by kernel_rfl) D6.out (fun hHeld => ?_)
            simp only [Act.put, List.size_toArray, List.length_cons, List.length_nil, Nat.zero_add]
            refine wpAnyH_take (i := 0) (v := .bool false) rfl (by kernel_rfl) (by kernel_rfl) (by kernel_rfl) (fun _ _ _ h => h) (Or.inl ⟨by rfl, fun w' hS => by go_simp⟩) hHeld ?_
            simp only [Act.put, List.getElem_toArray, List.getElem_cons_zero, List.getElem_cons_succ, List.setIfInBounds_toArray, List.set_cons_zero, List.set_cons_succ]
            refine wpAnyH_take (i := 1) (v := .bool false) rfl (by kernel_rfl) (by kernel_rfl) (by kernel_rfl) (fun _ _ _ h => h) (Or.inl ⟨by rfl, fun w' hS => by go_simp⟩) hHeld ?_
            simp only [Act.put, List.getElem_toArray, List.getElem_cons_zero, List.getElem_cons_succ, List.setIfInBounds_toArray, List.set_cons_zero, List.set_cons_succ]
            refine wpAnyH_take (i := 2) (v := .int .i64 0) rfl (by kernel_rfl) (by kernel_rfl) (by kernel_rfl) (fun _ _ _ h => h) (Or.inl ⟨by rfl, fun w' hS => by go_simp⟩) hHeld ?_
            simp only [Act.put, List.getElem_toArray, List.getElem_cons_zero, List.getElem_cons_succ, List.setIfInBounds_toArray, List.set_cons_zero, List.set_cons_succ]
            refine wpAnyH_take (i := 3) (v := .bool false) rfl (by kernel_rfl) (by kernel_rfl) (by kernel_rfl) (fun _ _ _ h => h) (Or.inl ⟨by rfl, fun w' hS => by go_simp⟩) hHeld ?_
            simp only [Act.put, List.getElem_toArray, List.getElem_cons_zero, List.getElem_cons_succ, List.setIfInBounds_toArray, List.set_cons_zero, List.set_cons_succ]
            refine wpAnyH_take (i := 4) (v := .bool false) rfl (by kernel_rfl) (by kernel_rfl) (by kernel_rfl) (fun _ _ _ h => h) (Or.inl ⟨by rfl, fun w' hS => by go_simp⟩) hHeld ?_
            simp only [Act.put, List.getElem_toArray, List.getElem_cons_zero, List.getElem_cons_succ, List.setIfInBounds_toArray, List.set_cons_zero, List.set_cons_succ]
            refine wpAnyH_take (i := 5) (v := .bool false) rfl (by kernel_rfl) (by kernel_rfl) (by kernel_rfl) (fun _ _ _ h => h) (Or.inl ⟨by rfl, fun w' hS => by go_simp⟩) hHeld ?_
            simp only [Act.put, List.getElem_toArray, List.getElem_cons_zero, List.getElem_cons_succ, List.setIfInBounds_toArray, List.set_cons_zero, List.set_cons_succ]
            refine wpAnyH_take (i := 6) (v := .agg (S2.cs).toArray) rfl (by kernel_rfl) (by kernel_rfl) (by kernel_rfl) (fun _ _ _ h => h) (yieldsIf_load_mid (by rfl) 52 (.tmp 7) rfl w2.heap.size (0) (by rfl) (S2.cs) _ (fun w' hS => hS) Try.underlying52 rfl info_sight) hHeld ?_
            simp only [Act.put, List.getElem_toArray, List.getElem_cons_zero, List.getElem_cons_succ, List.setIfInBounds_toArray, List.set_cons_zero, List.set_cons_succ]
            refine wpAnyH_take (i := 7) (v := .pointer (some ⟨b, 0, none⟩)) rfl (by kernel_rfl) (by kernel_rfl) (by kernel_rfl) (fun _ _ _ h => h) (Or.inl ⟨by rfl, fun w' hS => by go_simp⟩) hHeld ?_
            simp only [Act.put, List.getElem_toArray, List.getElem_cons_zero, List.getElem_cons_succ, List.setIfInBounds_toArray, List.set_cons_zero, List.set_cons_succ]
            refine wpAnyH_ready (rs := [8]) (by kernel_rfl) (by simp) ?_
            refine AllReadyH.cons rfl (fun K hK => ?_) AllReadyH.nil
            go_simp
            refine (HF4.out.look).mono ?_
            rintro e p5 ⟨S3, rfl, hS3, hg3, hb5⟩
            have HIs : Hid (Calls Try.prog 21 #[.agg S2.cs.toArray, .agg S3.cs.toArray] p5 fun e w' => e = .returned (.bool true) ∧ Below p5.heap.size p5 w') := is_yes S2 S3 (HS4.out.still hb5).rd hS3.rd (Hg2.out.trans hg3.symm)
            have HB5 : Hid (Below p4.drew.heap.size p4.drew p5) := hb5
            clear hS3 hg3
            refine hK.out _ _ (rng_below D6.out hb5) (fun hHeld => ?_)
            clear hK K
            refine wpAnyH_ready (rs := [9]) (by kernel_rfl) (by simp) ?_
            refine AllReadyH.cons rfl (fun K hK => ?_) AllReadyH.nil
            go_simp
            refine (HIs.out).mono ?_
            rintro e p6 ⟨rfl, hb6⟩
            have HB6 : Hid (Below p4.drew.heap.size p4.drew p6) := bstep HB5.out hb6
            refine hK.out _ _ (rng_below D6.out (bstep HB5.out hb6)) (fun hHeld => ?_)
            clear hK K
            refine wpAnyH_take (i := 10) (v := .bool false) rfl (by kernel_rfl) (by kernel_rfl) (by kernel_rfl) (fun _ _ _ h => h) (Or.inl ⟨by rfl, fun w' hS => by go_simp⟩) hHeld ?_
            simp only [Act.put, List.getElem_toArray, List.getElem_cons_zero, List.getElem_cons_succ, List.setIfInBounds_toArray, List.set_cons_zero, List.set_cons_succ]
            refine wpAnyH_take (i := 11) (v := .bool false) rfl (by kernel_rfl) (by kernel_rfl) (by kernel_rfl) (fun _ _ _ h => h) (Or.inl ⟨by rfl, fun w' hS => by go_simp⟩) hHeld ?_
            simp only [Act.put, List.getElem_toArray, List.getElem_cons_zero, List.getElem_cons_succ, List.setIfInBounds_toArray, List.set_cons_zero, List.set_cons_succ]
            refine wpAnyH_done (by kernel_rfl) ?_ _
            clear hHeld
            have HE : Hid (∃ (k_1 : Nat) (A : Ag), k_1 ≤ on ∧ Value.int .i64 ((k : Int) + 1) = .int .i64 (k_1 : Int) ∧ Fs p6 b n s inc w.heap.size #[.int .i64 (n : Int), .int .i64 (s : Int), .int .i64 inc, .int .i64 fl, .slice oa on oc] A ∧ Below w.heap.size w p6) := ⟨k + 1, A', by omega, by simp, HF4.out.still HB6.out, bstep Hl4.out HB6.out⟩
            clear D6 HIs
            go_wp2
            first
              | exact ⟨HE.out, by simp [intOf]; omega⟩
              | (go_roundw
                 case rel => exact HE.out
                 case measure => simp [intOf]; omega)
        · have hA : A' = A := stp_err Hst.out hE
          subst hA
          have fE : (E == 0) = false := by simpa using hE
          have HFd : Hid (Fs w3.drew b n s inc w.heap.size #[.int .i64 (n : Int), .int .i64 (s : Int), .int .i64 inc, .int .i64 fl, .slice oa on oc] A') := HF3.out.still (Below.refl _ _).drew
          have HSd : Hid (S.Kp w3.drew) := HS3.out.still (Below.refl _ _).drew
          have D6 : Hid (w3.drew.rangeAt w2.heap.size 0 S.cs) := rng_below (blk_range HK73.out) (Below.refl _ _).drew
          clear hE
          go_wp2
          refine wp_region_held_drew (S := (fun w' => w'.rangeAt w2.heap.size 0 S.cs)) (by kernel_rfl) D6.out (fun hHeld => ?_)
          simp only [Act.put, List.size_toArray, List.length_cons, List.length_nil, Nat.zero_add]
          refine wpAnyH_take (i := 0) (v := .int .i64 E) rfl (by kernel_rfl) (by kernel_rfl) (by kernel_rfl) (fun _ _ _ h => h) (Or.inl ⟨by rfl, fun w' hS => by go_simp⟩) hHeld ?_
          simp only [Act.put, List.getElem_toArray, List.getElem_cons_zero, List.getElem_cons_succ, List.setIfInBounds_toArray, List.set_cons_zero, List.set_cons_succ]
          refine wpAnyH_take (i := 1) (v := .bool true) rfl (by kernel_rfl) (by kernel_rfl) (by kernel_rfl) (fun _ _ _ h => h) (Or.inl ⟨by rfl, fun w' hS => by (go_simp <;> simp_all)⟩) hHeld ?_
          simp only [Act.put, List.getElem_toArray, List.getElem_cons_zero, List.getElem_cons_succ, List.setIfInBounds_toArray, List.set_cons_zero, List.set_cons_succ]
          refine wpAnyH_take (i := 2) (v := .bool true) rfl (by kernel_rfl) (by kernel_rfl) (by kernel_rfl) (fun _ _ _ h => h) (Or.inl ⟨by rfl, fun w' hS => by go_simp⟩) hHeld ?_
          simp only [Act.put, List.getElem_toArray, List.getElem_cons_zero, List.getElem_cons_succ, List.setIfInBounds_toArray, List.set_cons_zero, List.set_cons_succ]
          refine wpAnyH_take (i := 3) (v := .agg (S.cs).toArray) rfl (by kernel_rfl) (by kernel_rfl) (by kernel_rfl) (fun _ _ _ h => h) (yieldsIf_load_mid (by rfl) 52 (.tmp 7) rfl w2.heap.size (0) (by rfl) (S.cs) _ (fun w' hS => hS) Try.underlying52 rfl info_sight) hHeld ?_
          simp only [Act.put, List.getElem_toArray, List.getElem_cons_zero, List.getElem_cons_succ, List.setIfInBounds_toArray, List.set_cons_zero, List.set_cons_succ]
          refine wpAnyH_take (i := 4) (v := .pointer (some ⟨b, 0, none⟩)) rfl (by kernel_rfl) (by kernel_rfl) (by kernel_rfl) (fun _ _ _ h => h) (Or.inl ⟨by rfl, fun w' hS => by go_simp⟩) hHeld ?_
          simp only [Act.put, List.getElem_toArray, List.getElem_cons_zero, List.getElem_cons_succ, List.setIfInBounds_toArray, List.set_cons_zero, List.set_cons_succ]
          refine wpAnyH_ready (rs := [5]) (by kernel_rfl) (by simp) ?_
          refine AllReadyH.cons rfl (fun K hK => ?_) AllReadyH.nil
          go_simp
          refine (HFd.out.look).mono ?_
          rintro e q6 ⟨S3, rfl, hS3, hg3, hb5⟩
          have HIs : Hid (Calls Try.prog 21 #[.agg S.cs.toArray, .agg S3.cs.toArray] q6 fun e w' => e = .returned (.bool true) ∧ Below q6.heap.size q6 w') := is_yes S S3 (HSd.out.still hb5).rd hS3.rd (HSg.out.trans hg3.symm)
          have HB5 : Hid (Below w3.drew.heap.size w3.drew q6) := hb5
          clear hS3 hg3
          refine hK.out _ _ (rng_below D6.out hb5) (fun hHeld => ?_)
          clear hK K
          refine wpAnyH_ready (rs := [6]) (by kernel_rfl) (by simp) ?_
          refine AllReadyH.cons rfl (fun K hK => ?_) AllReadyH.nil
          go_simp
          refine (HIs.out).mono ?_
          rintro e q7 ⟨rfl, hb6⟩
          have HB6 : Hid (Below w3.drew.heap.size w3.drew q7) := bstep HB5.out hb6
          refine hK.out _ _ (rng_below D6.out (bstep HB5.out hb6)) (fun hHeld => ?_)
          clear hK K
          refine wpAnyH_take (i := 7) (v := .bool false) rfl (by kernel_rfl) (by kernel_rfl) (by kernel_rfl) (fun _ _ _ h => h) (Or.inl ⟨by rfl, fun w' hS => by go_simp⟩) hHeld ?_
          simp only [Act.put, List.getElem_toArray, List.getElem_cons_zero, List.getElem_cons_succ, List.setIfInBounds_toArray, List.set_cons_zero, List.set_cons_succ]
          refine wpAnyH_take (i := 8) (v := .bool false) rfl (by kernel_rfl) (by kernel_rfl) (by kernel_rfl) (fun _ _ _ h => h) (Or.inl ⟨by rfl, fun w' hS => by go_simp⟩) hHeld ?_
          simp only [Act.put, List.getElem_toArray, List.getElem_cons_zero, List.getElem_cons_succ, List.setIfInBounds_toArray, List.set_cons_zero, List.set_cons_succ]
          refine wpAnyH_done (by kernel_rfl) ?_ _
          clear hHeld
          have HT : Hid (Fs q7 b n s inc w.heap.size #[.int .i64 (n : Int), .int .i64 (s : Int), .int .i64 inc, .int .i64 fl, .slice oa on oc] A') := HFd.out.still HB6.out
          have HK7t : Hid (q7.heap[w2.heap.size]? = some (.cells S.cs.toArray 52 (0, 0))) := (HB6.out.block _ (lt_heap HK73.out)).trans HK73.out
          have HlT : Hid (Below w.heap.size w q7) := bstep Hl3.out (bstep (Below.refl _ _).drew HB6.out)
          clear D6 HIs HB5 HB6
          go_wp2_with (fail)
          have HP : Hid (Calls Try.prog 14 #[.pointer (some ⟨b, 0, none⟩)] q7 fun e w' => ∃ g3 g4, e = .returned (.agg [.slice (some ⟨g3, 0, none⟩) n n, .int .i64 A'.own.cid, .int .i64 A'.own.rev, .int .i64 A'.own.top, .int .i64 (A'.own.prev[0]?.getD 0), .int .i64 (A'.own.prev[1]?.getD 0), .int .i64 (A'.own.prev[2]?.getD 0), .int .i64 (A'.own.prev[3]?.getD 0), .slice (some ⟨g4, 0, none⟩) n n].toArray) ∧ Rw w' g3 3 (A'.own.set.take n) ∧ Rw w' g4 3 (A'.own.vec.take n) ∧ Below q7.heap.size q7 w') := HT.out.prop
          refine HP.out.mono ?_
          rintro e p1 ⟨g3, g4, rfl, r3, r4, hp1⟩
          clear HP
          go_wp2_with (first | (refine field_step 41 (.tmp 151) 0 (fld_prop undef _ _ _ _ _ _ _ _ _ _ _ _ _) rfl rfl rfl ?_) | fail)
          refine (HT.out.still hp1).look.mono ?_
          rintro e p2 ⟨S2, rfl, hS2, hg2, hp2⟩
          have bp2 : Below q7.heap.size q7 p2 := bstep hp1 hp2
          have kp2 : p2.heap[w2.heap.size]? = some (.cells S.cs.toArray 52 (0, 0)) := (bp2.block _ (lt_heap HK7t.out)).trans HK7t.out
          have Tp : Hid (p2.there w2.heap.size 0 22) := blk_there' kp2 (by rw [show S.cs.toArray.size = 22 from rfl]; omega)
          generalize hq : p2.setCells w2.heap.size 0 S2.cs = p3
          have kq : Kept p2 p3 (fun j => j = w2.heap.size) := by rw [← hq]; exact ksets (P := fun j => j = w2.heap.size) (b := w2.heap.size) rfl S2.cs 0 p2
          have HK3 : Hid (p3.heap[w2.heap.size]? = some (.cells S2.cs.toArray 52 (0, 0))) := by show p3.heap[w2.heap.size]? = _; rw [← hq]; exact sets_whole kp2 rfl
          have HS3 : Hid (S2.Kp p3) := hS2.keep kq (noI_blk kp2 (by decide) (by decide))
          have HF3 : Hid (Fs p3 b n s inc w.heap.size #[.int .i64 (n : Int), .int .i64 (s : Int), .int .i64 inc, .int .i64 fl, .slice oa on oc] A') := by
            show Fs p3 b n s inc w.heap.size #[.int .i64 (n : Int), .int .i64 (s : Int), .int .i64 inc, .int .i64 fl, .slice oa on oc] A'
            rw [← hq]
            exact (HT.out.still bp2).put S2.cs kp2 (by decide) (by decide) (by decide)
          have r3q : Rw p3 g3 3 (A'.own.set.take n) := (r3.still hp2).keep kq (fun e => blk_ne (r3.still hp2) kp2 (by decide) e)
          have HE := HF3.out.own r3q
          have HlP : Hid (Below w.heap.size w p3) := (bstep HlT.out bp2).trans (kq.below (bstep HlT.out bp2).size (fun k hk e => by omega))
          have Hg2 : Hid (S2.sg = A'.sg) := hg2
          clear r3 r4 hp1 hS2 hg2 hp2 bp2 kp2 kq r3q
          go_wp2_with (first | (refine store_midL 52 (.tmp 7) (.tmp 154) (L := S2.cs) Tp.out info_sight S2.one rfl rfl rfl rfl ?_; rw [hq]) | fail)
          refine HE.mono ?_
          rintro e p4 ⟨rfl, hF4, hK4⟩
          have HF4 : Hid (Fs p4.drew b n s inc w.heap.size #[.int .i64 (n : Int), .int .i64 (s : Int), .int .i64 inc, .int .i64 fl, .slice oa on oc] A') := hF4.still (Below.refl _ _).drew
          obtain ⟨Cb, hCb⟩ := HF3.out.blk
          have k74 := hK4.obj HK3.out (fun e => blk_ne HK3.out hCb (by decide) e)
          have HS4 : Hid (S2.Kp p4.drew) := (HS3.out.keep hK4 HF3.out.noI).still (Below.refl _ _).drew
          have D6 : Hid (p4.drew.rangeAt w2.heap.size 0 S2.cs) := rng_below (blk_range k74) (Below.refl _ _).drew
          have Hl4 : Hid (Below w.heap.size w p4.drew) := bstep (HlP.out.trans (hK4.below HlP.out.size (fun k hk e => by omega))) (Below.refl _ _).drew
          clear HE hq hF4 hK4 k74 hCb Tp HK3 HS3 HF3 HlP
          go_wp2
          refine wp_region_held_drew (S := (fun w' => w'.rangeAt w2.heap.size 0 S2.cs)) (by kernel_rfl) D6.out (fun hHeld => ?_)
          simp only [Act.put, List.size_toArray, List.length_cons, List.length_nil, Nat.zero_add]
          refine wpAnyH_take (i := 0) (v := .bool false) rfl (by kernel_rfl) (by kernel_rfl) (by kernel_rfl) (fun _ _ _ h => h) (Or.inl ⟨by rfl, fun w' hS => by go_simp⟩) hHeld ?_
          simp only [Act.put, List.getElem_toArray, List.getElem_cons_zero, List.getElem_cons_succ, List.setIfInBounds_toArray, List.set_cons_zero, List.set_cons_succ]
          refine wpAnyH_take (i := 1) (v := .bool false) rfl (by kernel_rfl) (by kernel_rfl) (by kernel_rfl) (fun _ _ _ h => h) (Or.inl ⟨by rfl, fun w' hS => by go_simp⟩) hHeld ?_
          simp only [Act.put, List.getElem_toArray, List.getElem_cons_zero, List.getElem_cons_succ, List.setIfInBounds_toArray, List.set_cons_zero, List.set_cons_succ]
          refine wpAnyH_take (i := 2) (v := .int .i64 0) rfl (by kernel_rfl) (by kernel_rfl) (by kernel_rfl) (fun _ _ _ h => h) (Or.inl ⟨by rfl, fun w' hS => by go_simp⟩) hHeld ?_
          simp only [Act.put, List.getElem_toArray, List.getElem_cons_zero, List.getElem_cons_succ, List.setIfInBounds_toArray, List.set_cons_zero, List.set_cons_succ]
          refine wpAnyH_take (i := 3) (v := .bool false) rfl (by kernel_rfl) (by kernel_rfl) (by kernel_rfl) (fun _ _ _ h => h) (Or.inl ⟨by rfl, fun w' hS => by go_simp⟩) hHeld ?_
          simp only [Act.put, List.getElem_toArray, List.getElem_cons_zero, List.getElem_cons_succ, List.setIfInBounds_toArray, List.set_cons_zero, List.set_cons_succ]
          refine wpAnyH_take (i := 4) (v := .bool false) rfl (by kernel_rfl) (by kernel_rfl) (by kernel_rfl) (fun _ _ _ h => h) (Or.inl ⟨by rfl, fun w' hS => by go_simp⟩) hHeld ?_
          simp only [Act.put, List.getElem_toArray, List.getElem_cons_zero, List.getElem_cons_succ, List.setIfInBounds_toArray, List.set_cons_zero, List.set_cons_succ]
          refine wpAnyH_take (i := 5) (v := .bool false) rfl (by kernel_rfl) (by kernel_rfl) (by kernel_rfl) (fun _ _ _ h => h) (Or.inl ⟨by rfl, fun w' hS => by go_simp⟩) hHeld ?_
          simp only [Act.put, List.getElem_toArray, List.getElem_cons_zero, List.getElem_cons_succ, List.setIfInBounds_toArray, List.set_cons_zero, List.set_cons_succ]
          refine wpAnyH_take (i := 6) (v := .agg (S2.cs).toArray) rfl (by kernel_rfl) (by kernel_rfl) (by kernel_rfl) (fun _ _ _ h => h) (yieldsIf_load_mid (by rfl) 52 (.tmp 7) rfl w2.heap.size (0) (by rfl) (S2.cs) _ (fun w' hS => hS) Try.underlying52 rfl info_sight) hHeld ?_
          simp only [Act.put, List.getElem_toArray, List.getElem_cons_zero, List.getElem_cons_succ, List.setIfInBounds_toArray, List.set_cons_zero, List.set_cons_succ]
          refine wpAnyH_take (i := 7) (v := .pointer (some ⟨b, 0, none⟩)) rfl (by kernel_rfl) (by kernel_rfl) (by kernel_rfl) (fun _ _ _ h => h) (Or.inl ⟨by rfl, fun w' hS => by go_simp⟩) hHeld ?_
          simp only [Act.put, List.getElem_toArray, List.getElem_cons_zero, List.getElem_cons_succ, List.setIfInBounds_toArray, List.set_cons_zero, List.set_cons_succ]
          refine wpAnyH_ready (rs := [8]) (by kernel_rfl) (by simp) ?_
          refine AllReadyH.cons rfl (fun K hK => ?_) AllReadyH.nil
          go_simp
          refine (HF4.out.look).mono ?_
          rintro e p5 ⟨S3, rfl, hS3, hg3, hb5⟩
          have HIs : Hid (Calls Try.prog 21 #[.agg S2.cs.toArray, .agg S3.cs.toArray] p5 fun e w' => e = .returned (.bool true) ∧ Below p5.heap.size p5 w') := is_yes S2 S3 (HS4.out.still hb5).rd hS3.rd (Hg2.out.trans hg3.symm)
          have HB5 : Hid (Below p4.drew.heap.size p4.drew p5) := hb5
          clear hS3 hg3
          refine hK.out _ _ (rng_below D6.out hb5) (fun hHeld => ?_)
          clear hK K
          refine wpAnyH_ready (rs := [9]) (by kernel_rfl) (by simp) ?_
          refine AllReadyH.cons rfl (fun K hK => ?_) AllReadyH.nil
          go_simp
          refine (HIs.out).mono ?_
          rintro e p6 ⟨rfl, hb6⟩
          have HB6 : Hid (Below p4.drew.heap.size p4.drew p6) := bstep HB5.out hb6
          refine hK.out _ _ (rng_below D6.out (bstep HB5.out hb6)) (fun hHeld => ?_)
          clear hK K
          refine wpAnyH_take (i := 10) (v := .bool false) rfl (by kernel_rfl) (by kernel_rfl) (by kernel_rfl) (fun _ _ _ h => h) (Or.inl ⟨by rfl, fun w' hS => by go_simp⟩) hHeld ?_
          simp only [Act.put, List.getElem_toArray, List.getElem_cons_zero, List.getElem_cons_succ, List.setIfInBounds_toArray, List.set_cons_zero, List.set_cons_succ]
          refine wpAnyH_take (i := 11) (v := .bool false) rfl (by kernel_rfl) (by kernel_rfl) (by kernel_rfl) (fun _ _ _ h => h) (Or.inl ⟨by rfl, fun w' hS => by go_simp⟩) hHeld ?_
          simp only [Act.put, List.getElem_toArray, List.getElem_cons_zero, List.getElem_cons_succ, List.setIfInBounds_toArray, List.set_cons_zero, List.set_cons_succ]
          refine wpAnyH_done (by kernel_rfl) ?_ _
          clear hHeld
          have HE : Hid (∃ (k_1 : Nat) (A : Ag), k_1 ≤ on ∧ Value.int .i64 ((k : Int) + 1) = .int .i64 (k_1 : Int) ∧ Fs p6 b n s inc w.heap.size #[.int .i64 (n : Int), .int .i64 (s : Int), .int .i64 inc, .int .i64 fl, .slice oa on oc] A ∧ Below w.heap.size w p6) := ⟨k + 1, A', by omega, by simp, HF4.out.still HB6.out, bstep Hl4.out HB6.out⟩
          clear D6 HIs
          go_wp2
          first
            | exact ⟨HE.out, by simp [intOf]; omega⟩
            | (go_roundw
               case rel => exact HE.out
               case measure => simp [intOf]; omega)
    · obtain rfl : k = on := by omega
      have j2 : decide ((k : Int) < (k : Int)) = false := decide_eq_false (by omega)
      have Hlw : Hid (Below w.heap.size w wr) := hlw
      clear hR hlw
      go_wp2
      go_ret
      exact ⟨rfl, Hlw.out⟩
end
end Go.Proofs.Ytbdefhagpgpoiaa.Mb
