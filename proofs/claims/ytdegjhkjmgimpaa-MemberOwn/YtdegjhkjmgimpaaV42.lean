import Derived.Test.YtdegjhkjmgimpaaV41
namespace Go.Proofs.Ytdegjhkjmgimpaa.Ms
open Go.RowKit Go.Maps Mb Oe
set_option linter.unusedVariables false
set_option linter.unusedSimpArgs false
set_option maxRecDepth 100000
section
variable {A A' : Ag} {w w' W W0 w1 w2 Z Y V : World} {B B' K m b n s sb i kc : Nat} {T inc : Int} {P : Nat → Prop} {S S' : St} {S1 S2 S3 : Si} {cc : Array Value}
def S0 : St := ⟨⟨none, 0, 0⟩, ⟨none, 0, 0⟩, ⟨none, 0, 0⟩, ⟨none, 0, 0⟩, 0, 0, fun _ => ⟨none, 0, 0⟩, fun _ => ⟨none, 0, 0⟩, fun _ => ⟨none, 0, 0⟩, fun _ => ⟨none, 0, 0⟩⟩
theorem nol {P : Prop} {n : Nat} (h : n < 0) : P := absurd h (Nat.not_lt_zero n)
theorem nob {P : Prop} {j : Nat} (h : (Sl.v ⟨none, 0, 0⟩).ownBlock = some j) : P := by simp [Sl.v, Value.ownBlock] at h
theorem run_fld {o : Oper} {ρ : Operand → Value} {w : World} {t : TypeId} {x : Operand} {f : Nat} {u v : Value} (hx : (Instr.field t u f).run Try.prog w = .ok v w) (ho : o.op = .field t x f) (hu : ρ x = u) : (execOp ρ o).run Try.prog w = .ok (.value v) w := by
  unfold execOp
  simp only [ho, hu, Sem.run_bind, hx, Result.andThen_ok, Sem.run_pure]
theorem fld5 (A : Ag) (n g3 g4 : Nat) : (Instr.field 33 (.agg (pC A n g3 g4).toArray) 5).run Try.prog w = .ok (.slice (some ⟨g4, 0, none⟩) n n) w := by
  unfold pC
  kernel_rfl
theorem zView : (Try.prog.info? 42).map (·.zero) = some (some (.agg #[.int .i64 0, .int .i64 0, .int .i64 0, .int .i64 0, .slice none 0 0])) := by kernel_rfl
theorem bsN7 (a1 : Option Addr) (n1 c1 : Nat) (a2 : Option Addr) (n2 c2 : Nat) (a3 : Option Addr) (n3 c3 : Nat) (a4 : Option Addr) (n4 c4 : Nat) (a5 : Option Addr) (n5 c5 : Nat) (a6 : Option Addr) (n6 c6 : Nat) (a7 : Option Addr) (n7 c7 : Nat) : Try.prog.builtSlice 29 7 [(0, .slice a1 n1 c1), (1, .slice a2 n2 c2), (2, .slice a3 n3 c3), (3, .slice a4 n4 c4), (4, .slice a5 n5 c5), (5, .slice a6 n6 c6), (6, .slice a7 n7 c7)] = some #[.slice a1 n1 c1, .slice a2 n2 c2, .slice a3 n3 c3, .slice a4 n4 c4, .slice a5 n5 c5, .slice a6 n6 c6, .slice a7 n7 c7] := by kernel_rfl
theorem bsN5 (a1 : Option Addr) (n1 c1 : Nat) (a2 : Option Addr) (n2 c2 : Nat) (a3 : Option Addr) (n3 c3 : Nat) (a4 : Option Addr) (n4 c4 : Nat) (a5 : Option Addr) (n5 c5 : Nat) : Try.prog.builtSlice 40 5 [(0, .slice a1 n1 c1), (1, .slice a2 n2 c2), (2, .slice a3 n3 c3), (3, .slice a4 n4 c4), (4, .slice a5 n5 c5)] = some #[.slice a1 n1 c1, .slice a2 n2 c2, .slice a3 n3 c3, .slice a4 n4 c4, .slice a5 n5 c5] := by kernel_rfl
theorem wm0 {w0 : World} {n s : Nat} {inc fl : Int} {kc : Nat} {cc : Array Value} (h : Fs w0 b n s inc kc cc (A1 b n s inc fl)) (hB : B ≤ w0.heap.size) (hl : Below W.heap.size W w0) (hb0 : W.heap.size ≤ b ∧ W.heap.size ≤ B) : Wm W (w0.alloc (.cells #[.slice none 0 0, .slice none 0 0, .slice none 0 0, .slice none 0 0] 39)) B w0.heap.size b n s inc kc cc (A1 b n s inc fl) S0 0 := by
  have hb : Below w0.heap.size w0 (w0.alloc (.cells #[.slice none 0 0, .slice none 0 0, .slice none 0 0, .slice none 0 0] 39)) := balloc (Below.refl _ _)
  have on : ∀ (t s : Nat) (w : World), w.ownsRow B t s (.slice none 0 0) 0 [] := fun t s w => ⟨by simp, .inl ⟨rfl, rfl⟩⟩
  refine ⟨h.still hb, Nat.le_trans hB hb.size, ⟨heap_alloc_new w0 _, hB, on _ _ _, on _ _ _, on _ _ _, on _ _ _, fun j hj => nob hj, fun j hj => nob hj, ⟨fun i hi => nol hi, fun i j hi => nol hi⟩, ⟨fun i hi => nol hi, fun i j hi => nol hi⟩, ⟨fun i hi => nol hi, fun i hi => nol hi, fun i j hi => nol hi⟩, ⟨fun i hi => nol hi, fun i hi => nol hi, fun i j hi => nol hi⟩⟩, rfl, rfl, rfl, rfl, rfl, rfl, fun j hj => nol hj, fun j hj => nol hj, fun g hg e => ?_, hl.trans (hb.mono hl.size), hb0⟩
  have e1 : (Value.slice none 0 0).ownBlock = some g := hg
  simp [Value.ownBlock] at e1
set_option maxHeartbeats 80000000 in
theorem mown_yes (n s : Nat) (inc fl : Int) (oa : Option Addr) (on oc : Nat) (os : Nat → Opx) (ho : RdOps w oa on os) (h16 : 1 ≤ n ∧ n ≤ 16 ∧ s < n) (hi : 1 ≤ inc ∧ inc ≤ 4611686018427387904) (hf : 0 ≤ fl ∧ fl < 4611686018427387904) : Calls Try.prog 3 #[.agg #[.int .i64 (n : Int), .int .i64 (s : Int), .int .i64 inc, .int .i64 fl, .slice oa on oc]] w fun e w' => e = .returned (.bool true) ∧ Below w.heap.size w w' := by
  generalize hW1 : w.alloc (.cells #[.int .i64 (n : Int), .int .i64 (s : Int), .int .i64 inc, .int .i64 fl, .slice oa on oc] 24) = W1
  have b1 : Below w.heap.size w W1 := hW1 ▸ balloc (Below.refl _ _)
  have k1 : W1.heap[w.heap.size]? = some (.cells #[.int .i64 (n : Int), .int .i64 (s : Int), .int .i64 inc, .int .i64 fl, .slice oa on oc] 24 (0, 0)) := by rw [← hW1]; exact heap_alloc_new w _
  have c0 : W1.cell? ⟨w.heap.size, 0, none⟩ = some (.int .i64 (n : Int)) := blk_cell k1 0
  have c1 : W1.cell? ⟨w.heap.size, 1, none⟩ = some (.int .i64 (s : Int)) := blk_cell k1 1
  have c2 : W1.cell? ⟨w.heap.size, 2, none⟩ = some (.int .i64 inc) := blk_cell k1 2
  have c3 : W1.cell? ⟨w.heap.size, 3, none⟩ = some (.int .i64 fl) := blk_cell k1 3
  have c4 : W1.cell? ⟨w.heap.size, 4, none⟩ = some (.slice oa on oc) := blk_cell k1 4
  have HK1 : Hid (W1.heap[w.heap.size]? = some (.cells #[.int .i64 (n : Int), .int .i64 (s : Int), .int .i64 inc, .int .i64 fl, .slice oa on oc] 24 (0, 0))) := k1
  have HB1 : Hid (Below w.heap.size w W1) := b1
  have HO : Hid (RdOps w oa on os) := ho
  have HN := begun_yes (w := W1) n s inc fl oa on oc h16 hi hf
  have H16 : Hid (1 ≤ n ∧ n ≤ 16 ∧ s < n) := h16
  have Hi : Hid (1 ≤ inc ∧ inc ≤ 4611686018427387904) := hi
  have Hf : Hid (0 ≤ fl ∧ fl < 4611686018427387904) := hf
  clear b1 k1 ho h16 hi hf
  go_enter Try.func3, Try.ntmps3
  go_upto_region 2 with (first
    | (go_at_call 4; refine HN.mono ?_; rintro e w0 ⟨b, rfl, hA, hge, hAb, hb2⟩)
    | fail)
  rw [newA_eq b n s inc fl Hf.out.2] at hA
  have HF0 : Hid (Fs w0 b n s inc w.heap.size #[.int .i64 (n : Int), .int .i64 (s : Int), .int .i64 inc, .int .i64 fl, .slice oa on oc] (A1 b n s inc fl)) := Fs.first b n s inc fl H16.out Hi.out hA ((hb2.block _ (lt_heap HK1.out)).trans HK1.out)
  have HB0 : Hid (Below w.heap.size w w0) := bstep HB1.out hb2
  have HBz : Hid (W1.heap.size ≤ w0.heap.size) := hb2.size
  have Hble : Hid (w.heap.size ≤ b ∧ w.heap.size ≤ W1.heap.size) := ⟨Nat.le_trans HB1.out.size hge, HB1.out.size⟩
  have HC : Hid (∀ X, Below w0.heap.size w0 X → Calls Try.prog 5 #[.pointer (some ⟨b, 0, none⟩)] X fun e w' => e = .returned (.bool true) ∧ X = w') := fun X hX => (HF0.out.still hX).chg
  have HPr : Hid (∀ X, Below w0.heap.size w0 X → Calls Try.prog 6 #[.pointer (some ⟨b, 0, none⟩)] X fun e w' => ∃ g3 g4, e = .returned (.agg (pC (A1 b n s inc fl) n g3 g4).toArray) ∧ Below X.heap.size X w') := fun X hX => (HF0.out.still hX).prop.mono fun e w' ⟨g3, g4, h1, _, _, h2⟩ => ⟨g3, g4, h1, h2⟩
  have cN : w0.cell? ⟨w.heap.size, 0, none⟩ = some (.int .i64 (n : Int)) := blk_cell HF0.out.m1 0
  clear HN c0 c1 c2 c3 c4 hW1 hA hge hAb hb2
  go_upto_region 4 with fail
  refine wp_region_held_drew (S := (fun w' => w'.cell? ⟨w.heap.size, 0, none⟩ = some (.int .i64 (n : Int)))) (by kernel_rfl) (below_at (drew_bel _) cN) (fun hHeld => ?_)
  simp only [Act.put, List.size_toArray, List.length_cons, List.length_nil, Nat.zero_add]
  refine takeD (i := 0) (d := 26) (v := .pointer (some ⟨b, 0, none⟩)) rfl (by kernel_rfl) (by kernel_rfl) (by kernel_rfl) (by kernel_rfl) (fun _ _ _ h => h) (Or.inl ⟨by rfl, fun w' hS => by go_simp⟩) hHeld ?_
  simp only [Act.put, sA9, sZ9, sC9]
  have hbD1 : Below w0.heap.size w0 w0.drew := drew_bel _
  have q0 := below_at hbD1 cN
  generalize w0.drew = D1 at *
  refine wpAnyH_ready (rs := [1]) (by kernel_rfl) (by simp) ?_
  refine AllReadyH.cons rfl (fun K hK => ?_) AllReadyH.nil
  go_simp
  refine (HC.out D1 hbD1).mono ?_
  rintro e W8 ⟨rfl, rfl⟩
  refine hK.out _ _ q0 (fun hHeld => ?_)
  clear hK K
  refine takeD (i := 2) (d := 28) (v := .bool false) rfl (by kernel_rfl) (by kernel_rfl) (by kernel_rfl) (by kernel_rfl) (fun _ _ _ h => h) (Or.inl ⟨by rfl, fun w' hS => by go_simp⟩) hHeld ?_
  simp only [Act.put, sA9, sZ9, sC9]
  refine takeD (i := 3) (d := 29) (v := .bool false) rfl (by kernel_rfl) (by kernel_rfl) (by kernel_rfl) (by kernel_rfl) (fun _ _ _ h => h) (Or.inl ⟨by rfl, fun w' hS => by go_simp⟩) hHeld ?_
  simp only [Act.put, sA9, sZ9, sC9]
  refine takeD (i := 4) (d := 30) (v := .pointer (some ⟨b, 0, none⟩)) rfl (by kernel_rfl) (by kernel_rfl) (by kernel_rfl) (by kernel_rfl) (fun _ _ _ h => h) (Or.inl ⟨by kernel_rfl, fun w' hS => by go_simp⟩) hHeld ?_
  simp only [Act.put, sA9, sZ9, sC9]
  refine takeD (i := 8) (d := 34) (v := .pointer (some ⟨w.heap.size, 0, none⟩)) rfl (by kernel_rfl) (by kernel_rfl) (by kernel_rfl) (by kernel_rfl) (fun _ _ _ h => h) (Or.inl ⟨by kernel_rfl, fun w' hS => by go_simp⟩) hHeld ?_
  simp only [Act.put, sA9, sZ9, sC9]
  refine takeD (i := 9) (d := 35) (v := .int .i64 (n : Int)) rfl (by kernel_rfl) (by kernel_rfl) (by kernel_rfl) (by kernel_rfl) (fun _ _ _ h => h) (Or.inl ⟨by kernel_rfl, fun w' hS => by (obtain s0 := hS; go_simp)⟩) hHeld ?_
  simp only [Act.put, sA9, sZ9, sC9]
  refine wpAnyH_ready (rs := [5]) (by kernel_rfl) (by simp) ?_
  refine AllReadyH.cons rfl (fun K hK => ?_) AllReadyH.nil
  go_simp
  refine (HPr.out D1 hbD1).mono ?_
  rintro e W9 ⟨g3, g4, rfl, b9⟩
  refine hK.out _ _ (below_at b9 q0) (fun hHeld => ?_)
  clear hK K
  refine takeD (i := 6) (d := 32) (v := .slice (some ⟨g4, 0, none⟩) n n) rfl (by kernel_rfl) (by kernel_rfl) (by kernel_rfl) (by kernel_rfl) (fun _ _ _ h => h) (Or.inl ⟨by kernel_rfl, fun w' hS => by (exact run_fld (fld5 _ _ _ _) rfl rfl)⟩) hHeld ?_
  simp only [Act.put, sA9, sZ9, sC9]
  refine takeD (i := 7) (d := 33) (v := .int .i64 (n : Int)) rfl (by kernel_rfl) (by kernel_rfl) (by kernel_rfl) (by kernel_rfl) (fun _ _ _ h => h) (Or.inl ⟨by kernel_rfl, fun w' hS => by go_simp⟩) hHeld ?_
  simp only [Act.put, sA9, sZ9, sC9]
  refine takeD (i := 10) (d := 36) (v := .bool false) rfl (by kernel_rfl) (by kernel_rfl) (by kernel_rfl) (by kernel_rfl) (fun _ _ _ h => h) (Or.inl ⟨by kernel_rfl, fun w' hS => by (go_simp <;> simp)⟩) hHeld ?_
  simp only [Act.put, sA9, sZ9, sC9]
  refine takeD (i := 11) (d := 37) (v := .bool false) rfl (by kernel_rfl) (by kernel_rfl) (by kernel_rfl) (by kernel_rfl) (fun _ _ _ h => h) (Or.inl ⟨by rfl, fun w' hS => by go_simp⟩) hHeld ?_
  simp only [Act.put, sA9, sZ9, sC9]
  refine wpAnyH_done (by kernel_rfl) ?_ _
  clear hHeld
  have HB4 : Hid (Below w0.heap.size w0 W9) := bstep hbD1 b9
  clear q0 hbD1 b9 HC HPr
  have HWf : Hid (Wm w (W9.alloc (.cells #[.slice none 0 0, .slice none 0 0, .slice none 0 0, .slice none 0 0] 39)) W1.heap.size W9.heap.size b n s inc w.heap.size #[.int .i64 (n : Int), .int .i64 (s : Int), .int .i64 inc, .int .i64 fl, .slice oa on oc] (A1 b n s inc fl) S0 0) := wm0 (HF0.out.still HB4.out) (Nat.le_trans HBz.out HB4.out.size) (bstep HB0.out HB4.out) Hble.out
  clear HF0 HB4 HBz
  go_wp2_with fail
  generalize W9.alloc (.cells #[.slice none 0 0, .slice none 0 0, .slice none 0 0, .slice none 0 0] 39) = W10 at *
  generalize W9.heap.size = sb at *
  go_loopw [6] (fun v6 wr => ∃ (k : Nat) (A : Ag) (S : St), k ≤ on ∧ k ≤ 40 ∧ v6 = .int .i64 (k : Int) ∧ Wm w wr W1.heap.size sb b n s inc w.heap.size #[.int .i64 (n : Int), .int .i64 (s : Int), .int .i64 inc, .int .i64 fl, .slice oa on oc] A S k) (fun v6 _ => 40 - (intOf v6).toNat)
  case atStart => exact ⟨0, _, S0, Nat.zero_le _, by omega, rfl, HWf.out⟩
  case round =>
    as_aux_lemma =>
    obtain ⟨k, A, S, hk, hk40, rfl, hw⟩ := hrel
    have HW : Hid (Wm w wr W1.heap.size sb b n s inc w.heap.size #[.int .i64 (n : Int), .int .i64 (s : Int), .int .i64 inc, .int .i64 fl, .slice oa on oc] A S k) := hw
    have x4 : wr.cell? ⟨w.heap.size, 4, none⟩ = some (.slice oa on oc) := blk_cell hw.f.m1 4
    have i1 : (0 : Int) ≤ (k : Int) := Int.natCast_nonneg _
    clear hw HWf
    by_cases hlt : k < on
    · have i2 : (k : Int) < (on : Int) := by omega
      by_cases hl4 : k < 40
      · have i3 : (k : Int) < 40 := by omega
        obtain ⟨ob, off, hoa, hrg, hop⟩ := HO.out.at HW.out.lw hlt
        rw [hoa] at x4
        clear hoa
        have HopG : Hid (∀ W, Below w.heap.size w W → (os k).Rd W) := fun W hW => (HO.out.2 k hlt).still hW
        generalize os k = o at hrg hop HopG
        have y0 : wr.cell? ⟨ob, off + k * 13, none⟩ = some (.int .i64 o.kind) := hrg 0 _ rfl
        have HRg : Hid (∀ X, Below wr.heap.size wr X → X.rangeAt ob (off + k * 13) o.cs.toList) := fun X hX => rng_below hrg hX
        have HLo : Hid (o.cs.toList.length = 13) := rfl
        clear hrg hop
        have HbW : Hid (b < wr.heap.size) := by
          obtain ⟨C, hC⟩ := HW.out.f.blk
          exact lt_heap hC
        go_upto_region 12 with (first
          | (refine wl_allocZ rfl 42 rfl zView ?_; intro V' k1 b1 s1; have KV' : Hid (V'.heap[wr.heap.size]? = some (.cells #[.int .i64 0, .int .i64 0, .int .i64 0, .int .i64 0, .slice none 0 0] 42 (0, 0))) := k1; have BV' : Hid (Below wr.heap.size wr V') := b1; clear k1 b1 s1)
          | fail)
        have z4 := below_at BV'.out x4
        have z0 := below_at BV'.out y0
        have HWv : Hid (Wm w V' W1.heap.size sb b n s inc w.heap.size #[.int .i64 (n : Int), .int .i64 (s : Int), .int .i64 inc, .int .i64 fl, .slice oa on oc] A S k) := HW.out.still BV'.out
        have Hvb0 : Hid (wr.heap.size < V'.heap.size ∧ b < wr.heap.size) := ⟨lt_heap KV'.out, HbW.out⟩
        have HRv : Hid (V'.rangeAt ob (off + k * 13) o.cs.toList) := HRg.out V' BV'.out
        have Hso0 : Hid (∀ j, S.own sb j → j < V'.heap.size) := fun j hj => (HWv.out.st.lt hj).1
        clear x4 y0 HRg BV' HW HbW
        by_cases k5 : o.kind = 5
        · have k5b : (o.kind == 5) = true := by simpa using k5
          have HIn := hidJ HWv.out.inst
          go_upto_region 15 with (first
            | (go_at_call 7; refine HIn.out.mono ?_; rintro e V'' ⟨j0, j1, j2, j3, E, ⟨ta, tn, tc⟩, ⟨ma, mn, mc⟩, ts, ms, A', rfl, hw2, hm, hk2⟩; have HW2 : Hid (Wm w V'' W1.heap.size sb b n s inc w.heap.size #[.int .i64 (n : Int), .int .i64 (s : Int), .int .i64 inc, .int .i64 fl, .slice oa on oc] A' S k) := hw2; have HH2 : Hid (Hm V'' V'.heap.size A' ⟨ta, tn, tc⟩ ⟨ma, mn, mc⟩ ts ms) := hm; have KV2 : Hid (V''.heap[wr.heap.size]? = some (.cells #[.int .i64 0, .int .i64 0, .int .i64 0, .int .i64 0, .slice none 0 0] 42 (0, 0))) := hk2.obj KV'.out (fun e => by have e' : wr.heap.size = b := e; have := Hvb0.out; omega); have Hsz2 : Hid (V'.heap.size ≤ V''.heap.size) := hk2.size; clear hw2 hm hk2 HIn)
            | (refine wl_storeZ rfl 42 _ _ rfl (L := [.int .i64 j0, .int .i64 j1, .int .i64 j2, .int .i64 j3, .slice ma mn mc]) rfl rfl KV2.out info_view rfl (by simp [Value.oneCell']) ?_; intro V0 k2 kk2; have KV : Hid (V0.heap[wr.heap.size]? = some (.cells #[.int .i64 j0, .int .i64 j1, .int .i64 j2, .int .i64 j3, .slice ma mn mc] 42 (0, 0))) := k2; have KK : Hid (Kept V'' V0 (fun j => j = wr.heap.size)) := kk2; clear k2 kk2)
            | fail)
          have HWm : Hid (Wm w V0 W1.heap.size sb b n s inc w.heap.size #[.int .i64 (n : Int), .int .i64 (s : Int), .int .i64 inc, .int .i64 fl, .slice oa on oc] A' S k) := HW2.out.keepV KK.out KV2.out (by decide) (by decide) (by decide) (by decide) (by decide) (by decide) (by decide) (by have := HWv.out.b0; have := Hvb0.out; omega)
          have HHm : Hid (Hm V0 V'.heap.size A' ⟨ta, tn, tc⟩ ⟨ma, mn, mc⟩ ts ms) := HH2.out.keepV KK.out KV2.out (by decide) (by decide)
          have Hor : Hid (W1.heap.size ≤ V'.heap.size ∧ V'.heap.size ≤ V0.heap.size) := ⟨HWv.out.hB, Nat.le_trans Hsz2.out KK.out.size⟩
          clear HW2 HH2 KV2 KK Hsz2
          have Hbβ : Hid (b < V'.heap.size) := (show b < V'.heap.size from by have := Hvb0.out; omega)
          have Hvb : Hid (b < wr.heap.size) := Hvb0.out.2
          have Hso : Hid (∀ j, S.own sb j → j < V'.heap.size) := Hso0.out
          have Htl : Hid (∀ j, ((Sl.v ⟨ta, tn, tc⟩).ownBlock = some j ∨ (Sl.v ⟨ma, mn, mc⟩).ownBlock = some j) → j < V0.heap.size) := fun j hj => hj.elim (fun e => (World.ownsRow.lt HHm.out.ot j e).2) (fun e => (World.ownsRow.lt HHm.out.om j e).2)
          have Hml : Hid (∀ g, A'.msv.ownBlock = some g → g < V0.heap.size) := fun g hg => (World.ownsRow.lt HWm.out.f.ok.mem g hg).2
          generalize wr.heap.size = vb at *
          generalize V'.heap.size = β0 at *
          clear KV' HWv Hvb0 HRv Hso0 k5 k5b z0 z4 HopG HLo
          have HbV : Hid (b < V0.heap.size) := by
            obtain ⟨C, hC⟩ := HWm.out.f.blk
            exact lt_heap hC
          go_upto_region 16 with (first
            | (go_at_call 9; refine HWm.out.look.mono ?_; rintro e V1 ⟨S1, rfl, hS, hg, hb⟩; have HS1 : Hid (So V0.heap.size S1 V1) := hS; have HG1 : Hid (S1.sg = A'.sg) := hg; have B1 : Hid (Below V0.heap.size V0 V1) := hb; have HLs1 : Hid (S1.cs.length = 22) := rfl; clear hS hg hb)
            | (refine wl_allocZ rfl 50 rfl zSight ?_; intro V2 k1 b1 s1; have K2 : Hid (V2.heap[V1.heap.size]? = some (.cells zSi 50 (0, 0))) := k1; have B2 : Hid (Below V1.heap.size V1 V2) := b1; clear k1 b1 s1)
            | (refine wl_storeZ rfl 50 _ _ rfl (L := S1.cs) rfl rfl K2.out (by rw [HLs1.out]; exact info_sight) (by rw [HLs1.out]; rfl) S1.one ?_; intro V3 k2 kk2; have K3 : Hid (V3.heap[V1.heap.size]? = some (.cells S1.cs.toArray 50 (0, 0))) := k2; have B3 : Hid (Below V1.heap.size V1 V3) := (show Below V1.heap.size V1 V3 from B2.out.trans (kk2.below B2.out.size (fun q hq e => by have e' : q = V1.heap.size := e; omega))); clear k2 kk2)
            | fail)
          have hb13 := bstep B1.out B3.out
          have HW3 : Hid (Wm w V3 W1.heap.size sb b n s inc w.heap.size #[.int .i64 (n : Int), .int .i64 (s : Int), .int .i64 inc, .int .i64 fl, .slice oa on oc] A' S k) := HWm.out.still hb13
          have HS13 : Hid (So V0.heap.size S1 V3) := HS1.out.still B3.out
          have HL1 : Hid (∀ j, Sok S1 j → j < V1.heap.size) := fun j hj => (HS1.out.lt hj).2
          have HH3 : Hid (Hm V3 β0 A' ⟨ta, tn, tc⟩ ⟨ma, mn, mc⟩ ts ms) := HHm.out.still hb13
          have KV3 : Hid (V3.heap[vb]? = some (.cells #[.int .i64 j0, .int .i64 j1, .int .i64 j2, .int .i64 j3, .slice ma mn mc] 42 (0, 0))) := (hb13.block _ (lt_heap KV.out)).trans KV.out
          have H01 : Hid (V0.heap.size ≤ V1.heap.size ∧ V1.heap.size < V3.heap.size) := ⟨B1.out.size, lt_heap K3.out⟩
          clear hb13 K2 B2 HS1 HHm KV
          go_upto_region 17 with (first
            | (go_at_call 10; refine HW3.out.est.mono ?_; rintro e V4 ⟨rfl, hw, hk⟩; have HW4 : Hid (Wm w V4 W1.heap.size sb b n s inc w.heap.size #[.int .i64 (n : Int), .int .i64 (s : Int), .int .i64 inc, .int .i64 fl, .slice oa on oc] A' S k) := hw; have HK4 : Hid (Kept V3 V4 (fun j => j = b)) := hk; clear hw hk)
            | fail)
          have hbV := HbV.out
          have hbβ := Hbβ.out
          have h01 := H01.out
          have HS14 : Hid (So V0.heap.size S1 V4) := HS13.out.keep HK4.out (fun j hj e => by have e' : j = b := e; omega)
          have HH4 : Hid (Hm V4 β0 A' ⟨ta, tn, tc⟩ ⟨ma, mn, mc⟩ ts ms) := { HH3.out with ot := HK4.out.owns HH3.out.ot (fun j hj e => by have := (World.ownsRow.lt HH3.out.ot j hj).1; have e' : j = b := e; omega), om := HK4.out.owns HH3.out.om (fun j hj e => by have := (World.ownsRow.lt HH3.out.om j hj).1; have e' : j = b := e; omega) }
          have K4 : Hid (V4.heap[V1.heap.size]? = some (.cells S1.cs.toArray 50 (0, 0))) := HK4.out.obj K3.out (fun e => by have e' : V1.heap.size = b := e; omega)
          have KV4 : Hid (V4.heap[vb]? = some (.cells #[.int .i64 j0, .int .i64 j1, .int .i64 j2, .int .i64 j3, .slice ma mn mc] 42 (0, 0))) := HK4.out.obj KV3.out (fun e => by have e' : vb = b := e; have := Hvb.out; omega)
          have H34 : Hid (V3.heap.size ≤ V4.heap.size) := HK4.out.size
          clear HW3 HS13 HH3 K3 KV3 HK4 hbV hbβ h01
          go_upto_region 18 with (first
            | (go_at_call 9; refine HW4.out.look.mono ?_; rintro e V5 ⟨S2, rfl, hS, hg, hb⟩; have HS2 : Hid (So V4.heap.size S2 V5) := hS; have HG2 : Hid (S2.sg = A'.sg) := hg; have B5 : Hid (Below V4.heap.size V4 V5) := hb; have HLs2 : Hid (S2.cs.length = 22) := rfl; clear hS hg hb)
            | (refine wl_allocZ rfl 50 rfl zSight ?_; intro V6 k1 b1 s1; have K6 : Hid (V6.heap[V5.heap.size]? = some (.cells zSi 50 (0, 0))) := k1; have B6 : Hid (Below V5.heap.size V5 V6) := b1; clear k1 b1 s1)
            | (refine wl_storeZ rfl 50 _ _ rfl (L := S2.cs) rfl rfl K6.out (by rw [HLs2.out]; exact info_sight) (by rw [HLs2.out]; rfl) S2.one ?_; intro V7 k2 kk2; have K7 : Hid (V7.heap[V5.heap.size]? = some (.cells S2.cs.toArray 50 (0, 0))) := k2; have B7 : Hid (Below V5.heap.size V5 V7) := (show Below V5.heap.size V5 V7 from B6.out.trans (kk2.below B6.out.size (fun q hq e => by have e' : q = V5.heap.size := e; omega))); clear k2 kk2)
            | fail)
          have hb57 := bstep B5.out B7.out
          have HW7 : Hid (Wm w V7 W1.heap.size sb b n s inc w.heap.size #[.int .i64 (n : Int), .int .i64 (s : Int), .int .i64 inc, .int .i64 fl, .slice oa on oc] A' S k) := HW4.out.still hb57
          have HS17 : Hid (So V0.heap.size S1 V7) := HS14.out.still hb57
          have HS27 : Hid (So V4.heap.size S2 V7) := HS2.out.still B7.out
          have HL2 : Hid (∀ j, Sok S2 j → j < V5.heap.size) := fun j hj => (HS2.out.lt hj).2
          have HH7 : Hid (Hm V7 β0 A' ⟨ta, tn, tc⟩ ⟨ma, mn, mc⟩ ts ms) := HH4.out.still hb57
          have K17 : Hid (V7.heap[V1.heap.size]? = some (.cells S1.cs.toArray 50 (0, 0))) := (hb57.block _ (lt_heap K4.out)).trans K4.out
          have KV7 : Hid (V7.heap[vb]? = some (.cells #[.int .i64 j0, .int .i64 j1, .int .i64 j2, .int .i64 j3, .slice ma mn mc] 42 (0, 0))) := (hb57.block _ (lt_heap KV4.out)).trans KV4.out
          have H47 : Hid (V4.heap.size ≤ V5.heap.size ∧ V5.heap.size < V7.heap.size) := ⟨B5.out.size, lt_heap K7.out⟩
          have HR17 : Hid (V7.rangeAt V1.heap.size 0 S1.cs) := Ln.blk_range K17.out
          have HHo : Hid (Calls Try.prog 11 #[.agg S1.cs.toArray] V7 fun e w' => ∃ S3 : Si, e = .returned (.agg S3.cs.toArray) ∧ So V7.heap.size S3 w' ∧ S3.sg = S1.sg ∧ Below V7.heap.size V7 w') := hold_any HS17.out (by have := H01.out; have := H34.out; have := H47.out; omega)
          clear hb57 K6 B6 HW4 HS14 HH4 K4 KV4 HS2 B5 B7
          go_upto_region 19 with (first
            | (refine load_mid 50 (.tmp 9) HR17.out _ Try.underlying50 rfl (by rw [HLs1.out]; exact info_sight) rfl rfl rfl ?_)
            | (go_at_call 11; refine HHo.out.mono ?_; rintro e V8 ⟨S3, rfl, hS, hg, hb⟩; have HS38 : Hid (So V7.heap.size S3 V8) := hS; have HG3 : Hid (S3.sg = A'.sg) := hg.trans HG1.out; have B8 : Hid (Below V7.heap.size V7 V8) := hb; have HLs3 : Hid (S3.cs.length = 22) := rfl; clear hS hg hb HHo)
            | (refine wl_allocZ rfl 50 rfl zSight ?_; intro V9 k1 b1 s1; have K9 : Hid (V9.heap[V8.heap.size]? = some (.cells zSi 50 (0, 0))) := k1; have B9 : Hid (Below V8.heap.size V8 V9) := b1; clear k1 b1 s1)
            | (refine wl_storeZ rfl 50 _ _ rfl (L := S3.cs) rfl rfl K9.out (by rw [HLs3.out]; exact info_sight) (by rw [HLs3.out]; rfl) S3.one ?_; intro V10 k2 kk2; have K10 : Hid (V10.heap[V8.heap.size]? = some (.cells S3.cs.toArray 50 (0, 0))) := k2; have B10 : Hid (Below V8.heap.size V8 V10) := (show Below V8.heap.size V8 V10 from B9.out.trans (kk2.below B9.out.size (fun q hq e => by have e' : q = V8.heap.size := e; omega))); clear k2 kk2)
            | fail)
          have hb710 := bstep B8.out B10.out
          have HCk : Hid (Ck w V10 W1.heap.size sb b n s inc w.heap.size #[.int .i64 (n : Int), .int .i64 (s : Int), .int .i64 inc, .int .i64 fl, .slice oa on oc] A' S k ⟨ta, tn, tc⟩ ⟨ma, mn, mc⟩ ts ms β0 V0.heap.size V4.heap.size V7.heap.size S1 S2 S3) := ⟨HW7.out.still hb710, HH7.out.still hb710, Hso.out, Htl.out, Hml.out, HS17.out.still hb710, fun j hj => by have := HL1.out j hj; have := H01.out; have := H34.out; omega, HS27.out.still hb710, fun j hj => by have := HL2.out j hj; have := H47.out; omega, HS38.out.still B10.out, HG3.out, Hbβ.out, by have := H01.out; have := H34.out; have := H47.out; have := hb710.size; have := Hor.out; omega⟩
          have K110 : Hid (V10.heap[V1.heap.size]? = some (.cells S1.cs.toArray 50 (0, 0))) := (hb710.block _ (lt_heap K17.out)).trans K17.out
          have K210 : Hid (V10.heap[V5.heap.size]? = some (.cells S2.cs.toArray 50 (0, 0))) := (hb710.block _ (lt_heap K7.out)).trans K7.out
          have KV10 : Hid (V10.heap[vb]? = some (.cells #[.int .i64 j0, .int .i64 j1, .int .i64 j2, .int .i64 j3, .slice ma mn mc] 42 (0, 0))) := (hb710.block _ (lt_heap KV7.out)).trans KV7.out
          have HR110 : Hid (V10.rangeAt V1.heap.size 0 S1.cs) := Ln.blk_range K110.out
          have HR210 : Hid (V10.rangeAt V5.heap.size 0 S2.cs) := Ln.blk_range K210.out
          have HIs : Hid (Calls Try.prog 12 #[.agg S1.cs.toArray, .agg S2.cs.toArray] V10 fun e w' => e = .returned (.bool true) ∧ Below V10.heap.size V10 w') := is_yes S1 S2 HCk.out.s1.rd HCk.out.s2.rd (HG1.out.trans HG2.out.symm)
          clear hb710 K9 B9 B8 B10 HW7 HH7 HS17 HS27 HS38 K17 K7 KV7 HR17 HL1 HL2 Hso Htl Hml
          go_upto_region 21 with (first
            | (refine load_mid 50 (.tmp 9) HR110.out _ Try.underlying50 rfl (by rw [HLs1.out]; exact info_sight) rfl rfl rfl ?_)
            | (refine load_mid 50 (.tmp 12) HR210.out _ Try.underlying50 rfl (by rw [HLs2.out]; exact info_sight) rfl rfl rfl ?_)
            | (go_at_call 12; refine HIs.out.mono ?_; rintro e V11 ⟨rfl, hb⟩; have B11 : Hid (Below V10.heap.size V10 V11) := hb; clear hb)
            | fail)
          have h9 := (B11.out.block _ (lt_heap K110.out)).trans K110.out
          have h12 := (B11.out.block _ (lt_heap K210.out)).trans K210.out
          have hv := (B11.out.block _ (lt_heap KV10.out)).trans KV10.out
          have K13 : Hid (V11.heap[V8.heap.size]? = some (.cells S3.cs.toArray 50 (0, 0))) := (B11.out.block _ (lt_heap K10.out)).trans K10.out
          have f0 : V11.cell? ⟨V1.heap.size, 0, none⟩ = some (.slice S1.p.sa S1.p.sn S1.p.sc) := blk_cell h9 0
          have f8 : V11.cell? ⟨V1.heap.size, 8, none⟩ = some (.slice S1.p.va S1.p.vn S1.p.vc) := blk_cell h9 8
          have f19 : V11.cell? ⟨V1.heap.size, 19, none⟩ = some (.slice S1.ta S1.tn S1.tc) := blk_cell h9 19
          have f13 : V11.cell? ⟨V1.heap.size, 13, none⟩ = some (.slice S1.va S1.vk S1.vc) := blk_cell h9 13
          have f18 : V11.cell? ⟨V1.heap.size, 18, none⟩ = some (.slice S1.ua S1.uk S1.uc) := blk_cell h9 18
          have g0 : V11.cell? ⟨V5.heap.size, 0, none⟩ = some (.slice S2.p.sa S2.p.sn S2.p.sc) := blk_cell h12 0
          have g8 : V11.cell? ⟨V5.heap.size, 8, none⟩ = some (.slice S2.p.va S2.p.vn S2.p.vc) := blk_cell h12 8
          have g19 : V11.cell? ⟨V5.heap.size, 19, none⟩ = some (.slice S2.ta S2.tn S2.tc) := blk_cell h12 19
          have g13 : V11.cell? ⟨V5.heap.size, 13, none⟩ = some (.slice S2.va S2.vk S2.vc) := blk_cell h12 13
          have g18 : V11.cell? ⟨V5.heap.size, 18, none⟩ = some (.slice S2.ua S2.uk S2.uc) := blk_cell h12 18
          have v4 : V11.cell? ⟨vb, 4, none⟩ = some (.slice ma mn mc) := blk_cell hv 4
          clear h9 h12 hv K110 K210 KV10 HR110 HR210 HIs K10
          have HCk11 : Hid (Ck w V11 W1.heap.size sb b n s inc w.heap.size #[.int .i64 (n : Int), .int .i64 (s : Int), .int .i64 inc, .int .i64 fl, .slice oa on oc] A' S k ⟨ta, tn, tc⟩ ⟨ma, mn, mc⟩ ts ms β0 V0.heap.size V4.heap.size V7.heap.size S1 S2 S3) := HCk.out.still B11.out
          clear HCk B11
          go_upto_region 22 with (first
            | (refine wl_bsl rfl 36 29 7 _ rfl Try.underlying36 #[.slice ta tn tc, .slice S1.p.sa S1.p.sn S1.p.sc, .slice S1.p.va S1.p.vn S1.p.vc, .slice S1.ta S1.tn S1.tc, .slice S2.p.sa S2.p.sn S2.p.sc, .slice S2.p.va S2.p.vn S2.p.vc, .slice S2.ta S2.tn S2.tc] (bsl_eq (by kernel_rfl) (bsN7 _ _ _ _ _ _ _ _ _ _ _ _ _ _ _ _ _ _ _ _ _)) ?_; intro V12 kv bv sv; have KA : Hid (V12.heap[V11.heap.size]? = some (.cells (rv 7 fun q => (nx ⟨ta, tn, tc⟩ S1 S2 q).v).toArray 29 (0, 0))) := kv; have B12 : Hid (Below V11.heap.size V11 V12) := bv; have l13 := below_at bv f13; have l18 := below_at bv f18; have m13 := below_at bv g13; have m18 := below_at bv g18; have l4 := below_at bv v4; clear kv sv bv f0 f8 f19 f13 f18 g0 g8 g19 g13 g18 v4)
            | (refine wl_bsl rfl 37 40 5 _ rfl Try.underlying37 #[.slice ma mn mc, .slice S1.va S1.vk S1.vc, .slice S1.ua S1.uk S1.uc, .slice S2.va S2.vk S2.vc, .slice S2.ua S2.uk S2.uc] (bsl_eq (by kernel_rfl) (bsN5 _ _ _ _ _ _ _ _ _ _ _ _ _ _ _)) ?_; intro V13 kv bv sv; have KB : Hid (V13.heap[V12.heap.size]? = some (.cells (rv 5 fun q => (my ⟨ma, mn, mc⟩ S1 S2 q).v).toArray 40 (0, 0))) := kv; have B13 : Hid (Below V12.heap.size V12 V13) := bv; clear kv sv bv l13 l18 m13 m18 l4; have HPt := hidJ (HCk11.out.put (by omega) (bstep B12.out B13.out) ((B13.out.block _ (lt_heap KA.out)).trans KA.out) KB.out (Nat.le_refl _) B12.out.size))
            | (go_at_call 13; refine HPt.out.mono ?_; rintro e V14 ⟨rfl, S', hw, h3, hkt, hsz⟩; have HW14 : Hid (Wm w V14 W1.heap.size sb b n s inc w.heap.size #[.int .i64 (n : Int), .int .i64 (s : Int), .int .i64 inc, .int .i64 fl, .slice oa on oc] A' S' (k + 1)) := hw; have HS3 : Hid (So V7.heap.size S3 V14) := h3; have K14 : Hid (V14.heap[V8.heap.size]? = some (.cells S3.cs.toArray 50 (0, 0))) := hkt _ _ _ (by decide) (by decide) (by decide) (by decide) (by decide) (((bstep B12.out B13.out).block _ (lt_heap K13.out)).trans K13.out); clear HPt hw h3 hkt hsz)
            | fail)
          have HR3 : Hid (∀ X, Below V14.heap.size V14 X → X.rangeAt V8.heap.size 0 S3.cs) := fun X hX => Ln.blk_range ((hX.block _ (lt_heap K14.out)).trans K14.out)
          have HLk : Hid (∀ X, Below V14.heap.size V14 X → Calls Try.prog 9 #[.pointer (some ⟨b, 0, none⟩)] X fun e w' => ∃ S4 : Si, e = .returned (.agg S4.cs.toArray) ∧ So X.heap.size S4 w' ∧ S4.sg = A'.sg ∧ Below X.heap.size X w') := fun X hX => (HW14.out.still hX).look
          have HWl : Hid (∀ X, Below V14.heap.size V14 X → Calls Try.prog 14 #[.pointer (some ⟨sb, 0, none⟩)] X fun e w' => e = .returned (.bool true) ∧ Below X.heap.size X w') := fun X hX => whole_any ((HW14.out.still hX).st) (HW14.out.fit (by omega))
          clear HCk11 KA KB B12 B13 K13 K14 HLs1 HLs2
          refine wp_region_held_drew (S := (fun w' => w'.rangeAt V8.heap.size 0 S3.cs)) (by kernel_rfl) (HR3.out _ (drew_bel _)) (fun hHeld => ?_)
          simp only [Act.put, List.size_toArray, List.length_cons, List.length_nil, Nat.zero_add]
          refine takeD (i := 0) (d := 125) (v := .agg S3.cs.toArray) rfl (by kernel_rfl) (by kernel_rfl) (by kernel_rfl) (by kernel_rfl) (fun _ _ _ h => h) (Or.inl ⟨by rfl, fun w' hS => by (exact Lo.run_loadop 50 _ rfl rfl hS Try.underlying50 rfl (by rw [HLs3.out]; exact info_sight))⟩) hHeld ?_
          simp only [Act.put, sA9, sZ9, sC9]
          refine takeD (i := 1) (d := 126) (v := .pointer (some ⟨b, 0, none⟩)) rfl (by kernel_rfl) (by kernel_rfl) (by kernel_rfl) (by kernel_rfl) (fun _ _ _ h => h) (Or.inl ⟨by rfl, fun w' hS => by go_simp⟩) hHeld ?_
          simp only [Act.put, sA9, sZ9, sC9]
          have hbD1 : Below V14.heap.size V14 V14.drew := drew_bel _
          generalize V14.drew = D1 at *
          refine wpAnyH_ready (rs := [2]) (by kernel_rfl) (by simp) ?_
          refine AllReadyH.cons rfl (fun K hK => ?_) AllReadyH.nil
          go_simp
          refine (HLk.out D1 hbD1).mono ?_
          rintro e W9 ⟨S4, rfl, hs4, hg4, b9⟩
          refine hK.out _ _ (HR3.out _ (bstep hbD1 b9)) (fun hHeld => ?_)
          clear hK K
          refine wpAnyH_ready (rs := [3]) (by kernel_rfl) (by simp) ?_
          refine AllReadyH.cons rfl (fun K hK => ?_) AllReadyH.nil
          go_simp
          refine (is_yes S3 S4 (HS3.out.still (bstep hbD1 b9)).rd hs4.rd (HG3.out.trans hg4.symm)).mono ?_
          rintro e W8 ⟨rfl, b8⟩
          refine hK.out _ _ (HR3.out _ (bstep (bstep hbD1 b9) b8)) (fun hHeld => ?_)
          clear hK K
          refine takeD (i := 4) (d := 129) (v := .bool false) rfl (by kernel_rfl) (by kernel_rfl) (by kernel_rfl) (by kernel_rfl) (fun _ _ _ h => h) (Or.inl ⟨by rfl, fun w' hS => by go_simp⟩) hHeld ?_
          simp only [Act.put, sA9, sZ9, sC9]
          refine takeD (i := 5) (d := 130) (v := .bool false) rfl (by kernel_rfl) (by kernel_rfl) (by kernel_rfl) (by kernel_rfl) (fun _ _ _ h => h) (Or.inl ⟨by rfl, fun w' hS => by go_simp⟩) hHeld ?_
          simp only [Act.put, sA9, sZ9, sC9]
          refine takeD (i := 6) (d := 131) (v := .pointer (some ⟨sb, 0, none⟩)) rfl (by kernel_rfl) (by kernel_rfl) (by kernel_rfl) (by kernel_rfl) (fun _ _ _ h => h) (Or.inl ⟨by kernel_rfl, fun w' hS => by go_simp⟩) hHeld ?_
          simp only [Act.put, sA9, sZ9, sC9]
          refine wpAnyH_ready (rs := [7]) (by kernel_rfl) (by simp) ?_
          refine AllReadyH.cons rfl (fun K hK => ?_) AllReadyH.nil
          go_simp
          refine (HWl.out W8 (bstep (bstep hbD1 b9) b8)).mono ?_
          rintro e W7 ⟨rfl, b7⟩
          refine hK.out _ _ (HR3.out _ (bstep (bstep (bstep hbD1 b9) b8) b7)) (fun hHeld => ?_)
          clear hK K
          refine takeD (i := 8) (d := 133) (v := .bool false) rfl (by kernel_rfl) (by kernel_rfl) (by kernel_rfl) (by kernel_rfl) (fun _ _ _ h => h) (Or.inl ⟨by kernel_rfl, fun w' hS => by go_simp⟩) hHeld ?_
          simp only [Act.put, sA9, sZ9, sC9]
          refine takeD (i := 9) (d := 134) (v := .bool false) rfl (by kernel_rfl) (by kernel_rfl) (by kernel_rfl) (by kernel_rfl) (fun _ _ _ h => h) (Or.inl ⟨by rfl, fun w' hS => by go_simp⟩) hHeld ?_
          simp only [Act.put, sA9, sZ9, sC9]
          refine wpAnyH_done (by kernel_rfl) ?_ _
          clear hHeld
          have HQ : Hid (Wm w W7 W1.heap.size sb b n s inc w.heap.size #[.int .i64 (n : Int), .int .i64 (s : Int), .int .i64 inc, .int .i64 fl, .slice oa on oc] A' S' (k + 1)) := HW14.out.still (bstep (bstep (bstep hbD1 b9) b8) b7)
          clear hbD1 b9 b8 b7 hs4 hg4 HR3 HLk HWl HS3 HG3
          go_wp2_with (fail)
          exact ⟨⟨k + 1, A', S', by omega, by omega, by go_num, HQ.out⟩, by simp [intOf]; omega⟩
        · have k5b : (o.kind == 5) = false := by simpa using k5
          have HCl := hidJ (HWv.out.call o (HopG.out V' HWv.out.lw) k5)
          go_upto_region 15 with (first
            | (refine load_mid 44 (.tmp 68) HRv.out _ Try.underlying44 rfl (by rw [HLo.out]; kernel_rfl) rfl rfl rfl ?_)
            | (go_at_call 8; refine HCl.out.mono ?_; rintro e V0 ⟨E, A', rfl, hw2, hk2⟩; have HWm : Hid (Wm w V0 W1.heap.size sb b n s inc w.heap.size #[.int .i64 (n : Int), .int .i64 (s : Int), .int .i64 inc, .int .i64 fl, .slice oa on oc] A' S k) := hw2; have KV : Hid (V0.heap[wr.heap.size]? = some (.cells #[.int .i64 0, .int .i64 0, .int .i64 0, .int .i64 0, .slice none 0 0] 42 (0, 0))) := hk2.obj KV'.out (fun e => by have e' : wr.heap.size = b := e; have := Hvb0.out; omega); have Hor : Hid (W1.heap.size ≤ V'.heap.size ∧ V'.heap.size ≤ V0.heap.size) := ⟨HWv.out.hB, hk2.size⟩; clear hw2 hk2 HCl)
            | fail)
          have HHm : Hid (Hm V0 V'.heap.size A' ⟨none, 0, 0⟩ ⟨none, 0, 0⟩ [] []) := hm_nil _ _ _
          have Hbβ : Hid (b < V'.heap.size) := (show b < V'.heap.size from by have := Hvb0.out; omega)
          have Hvb : Hid (b < wr.heap.size) := Hvb0.out.2
          have Hso : Hid (∀ j, S.own sb j → j < V'.heap.size) := Hso0.out
          have Htl : Hid (∀ j, ((Sl.v ⟨none, 0, 0⟩).ownBlock = some j ∨ (Sl.v ⟨none, 0, 0⟩).ownBlock = some j) → j < V0.heap.size) := fun j hj => hj.elim (fun e => (World.ownsRow.lt HHm.out.ot j e).2) (fun e => (World.ownsRow.lt HHm.out.om j e).2)
          have Hml : Hid (∀ g, A'.msv.ownBlock = some g → g < V0.heap.size) := fun g hg => (World.ownsRow.lt HWm.out.f.ok.mem g hg).2
          generalize wr.heap.size = vb at *
          generalize V'.heap.size = β0 at *
          clear KV' HWv Hvb0 HRv Hso0 k5 k5b z0 z4 HopG HLo
          have HbV : Hid (b < V0.heap.size) := by
            obtain ⟨C, hC⟩ := HWm.out.f.blk
            exact lt_heap hC
          go_upto_region 16 with (first
            | (go_at_call 9; refine HWm.out.look.mono ?_; rintro e V1 ⟨S1, rfl, hS, hg, hb⟩; have HS1 : Hid (So V0.heap.size S1 V1) := hS; have HG1 : Hid (S1.sg = A'.sg) := hg; have B1 : Hid (Below V0.heap.size V0 V1) := hb; have HLs1 : Hid (S1.cs.length = 22) := rfl; clear hS hg hb)
            | (refine wl_allocZ rfl 50 rfl zSight ?_; intro V2 k1 b1 s1; have K2 : Hid (V2.heap[V1.heap.size]? = some (.cells zSi 50 (0, 0))) := k1; have B2 : Hid (Below V1.heap.size V1 V2) := b1; clear k1 b1 s1)
            | (refine wl_storeZ rfl 50 _ _ rfl (L := S1.cs) rfl rfl K2.out (by rw [HLs1.out]; exact info_sight) (by rw [HLs1.out]; rfl) S1.one ?_; intro V3 k2 kk2; have K3 : Hid (V3.heap[V1.heap.size]? = some (.cells S1.cs.toArray 50 (0, 0))) := k2; have B3 : Hid (Below V1.heap.size V1 V3) := (show Below V1.heap.size V1 V3 from B2.out.trans (kk2.below B2.out.size (fun q hq e => by have e' : q = V1.heap.size := e; omega))); clear k2 kk2)
            | fail)
          have hb13 := bstep B1.out B3.out
          have HW3 : Hid (Wm w V3 W1.heap.size sb b n s inc w.heap.size #[.int .i64 (n : Int), .int .i64 (s : Int), .int .i64 inc, .int .i64 fl, .slice oa on oc] A' S k) := HWm.out.still hb13
          have HS13 : Hid (So V0.heap.size S1 V3) := HS1.out.still B3.out
          have HL1 : Hid (∀ j, Sok S1 j → j < V1.heap.size) := fun j hj => (HS1.out.lt hj).2
          have HH3 : Hid (Hm V3 β0 A' ⟨none, 0, 0⟩ ⟨none, 0, 0⟩ [] []) := HHm.out.still hb13
          have KV3 : Hid (V3.heap[vb]? = some (.cells #[.int .i64 0, .int .i64 0, .int .i64 0, .int .i64 0, .slice none 0 0] 42 (0, 0))) := (hb13.block _ (lt_heap KV.out)).trans KV.out
          have H01 : Hid (V0.heap.size ≤ V1.heap.size ∧ V1.heap.size < V3.heap.size) := ⟨B1.out.size, lt_heap K3.out⟩
          clear hb13 K2 B2 HS1 HHm KV
          go_upto_region 17 with (first
            | (go_at_call 10; refine HW3.out.est.mono ?_; rintro e V4 ⟨rfl, hw, hk⟩; have HW4 : Hid (Wm w V4 W1.heap.size sb b n s inc w.heap.size #[.int .i64 (n : Int), .int .i64 (s : Int), .int .i64 inc, .int .i64 fl, .slice oa on oc] A' S k) := hw; have HK4 : Hid (Kept V3 V4 (fun j => j = b)) := hk; clear hw hk)
            | fail)
          have hbV := HbV.out
          have hbβ := Hbβ.out
          have h01 := H01.out
          have HS14 : Hid (So V0.heap.size S1 V4) := HS13.out.keep HK4.out (fun j hj e => by have e' : j = b := e; omega)
          have HH4 : Hid (Hm V4 β0 A' ⟨none, 0, 0⟩ ⟨none, 0, 0⟩ [] []) := { HH3.out with ot := HK4.out.owns HH3.out.ot (fun j hj e => by have := (World.ownsRow.lt HH3.out.ot j hj).1; have e' : j = b := e; omega), om := HK4.out.owns HH3.out.om (fun j hj e => by have := (World.ownsRow.lt HH3.out.om j hj).1; have e' : j = b := e; omega) }
          have K4 : Hid (V4.heap[V1.heap.size]? = some (.cells S1.cs.toArray 50 (0, 0))) := HK4.out.obj K3.out (fun e => by have e' : V1.heap.size = b := e; omega)
          have KV4 : Hid (V4.heap[vb]? = some (.cells #[.int .i64 0, .int .i64 0, .int .i64 0, .int .i64 0, .slice none 0 0] 42 (0, 0))) := HK4.out.obj KV3.out (fun e => by have e' : vb = b := e; have := Hvb.out; omega)
          have H34 : Hid (V3.heap.size ≤ V4.heap.size) := HK4.out.size
          clear HW3 HS13 HH3 K3 KV3 HK4 hbV hbβ h01
          go_upto_region 18 with (first
            | (go_at_call 9; refine HW4.out.look.mono ?_; rintro e V5 ⟨S2, rfl, hS, hg, hb⟩; have HS2 : Hid (So V4.heap.size S2 V5) := hS; have HG2 : Hid (S2.sg = A'.sg) := hg; have B5 : Hid (Below V4.heap.size V4 V5) := hb; have HLs2 : Hid (S2.cs.length = 22) := rfl; clear hS hg hb)
            | (refine wl_allocZ rfl 50 rfl zSight ?_; intro V6 k1 b1 s1; have K6 : Hid (V6.heap[V5.heap.size]? = some (.cells zSi 50 (0, 0))) := k1; have B6 : Hid (Below V5.heap.size V5 V6) := b1; clear k1 b1 s1)
            | (refine wl_storeZ rfl 50 _ _ rfl (L := S2.cs) rfl rfl K6.out (by rw [HLs2.out]; exact info_sight) (by rw [HLs2.out]; rfl) S2.one ?_; intro V7 k2 kk2; have K7 : Hid (V7.heap[V5.heap.size]? = some (.cells S2.cs.toArray 50 (0, 0))) := k2; have B7 : Hid (Below V5.heap.size V5 V7) := (show Below V5.heap.size V5 V7 from B6.out.trans (kk2.below B6.out.size (fun q hq e => by have e' : q = V5.heap.size := e; omega))); clear k2 kk2)
            | fail)
          have hb57 := bstep B5.out B7.out
          have HW7 : Hid (Wm w V7 W1.heap.size sb b n s inc w.heap.size #[.int .i64 (n : Int), .int .i64 (s : Int), .int .i64 inc, .int .i64 fl, .slice oa on oc] A' S k) := HW4.out.still hb57
          have HS17 : Hid (So V0.heap.size S1 V7) := HS14.out.still hb57
          have HS27 : Hid (So V4.heap.size S2 V7) := HS2.out.still B7.out
          have HL2 : Hid (∀ j, Sok S2 j → j < V5.heap.size) := fun j hj => (HS2.out.lt hj).2
          have HH7 : Hid (Hm V7 β0 A' ⟨none, 0, 0⟩ ⟨none, 0, 0⟩ [] []) := HH4.out.still hb57
          have K17 : Hid (V7.heap[V1.heap.size]? = some (.cells S1.cs.toArray 50 (0, 0))) := (hb57.block _ (lt_heap K4.out)).trans K4.out
          have KV7 : Hid (V7.heap[vb]? = some (.cells #[.int .i64 0, .int .i64 0, .int .i64 0, .int .i64 0, .slice none 0 0] 42 (0, 0))) := (hb57.block _ (lt_heap KV4.out)).trans KV4.out
          have H47 : Hid (V4.heap.size ≤ V5.heap.size ∧ V5.heap.size < V7.heap.size) := ⟨B5.out.size, lt_heap K7.out⟩
          have HR17 : Hid (V7.rangeAt V1.heap.size 0 S1.cs) := Ln.blk_range K17.out
          have HHo : Hid (Calls Try.prog 11 #[.agg S1.cs.toArray] V7 fun e w' => ∃ S3 : Si, e = .returned (.agg S3.cs.toArray) ∧ So V7.heap.size S3 w' ∧ S3.sg = S1.sg ∧ Below V7.heap.size V7 w') := hold_any HS17.out (by have := H01.out; have := H34.out; have := H47.out; omega)
          clear hb57 K6 B6 HW4 HS14 HH4 K4 KV4 HS2 B5 B7
          go_upto_region 19 with (first
            | (refine load_mid 50 (.tmp 9) HR17.out _ Try.underlying50 rfl (by rw [HLs1.out]; exact info_sight) rfl rfl rfl ?_)
            | (go_at_call 11; refine HHo.out.mono ?_; rintro e V8 ⟨S3, rfl, hS, hg, hb⟩; have HS38 : Hid (So V7.heap.size S3 V8) := hS; have HG3 : Hid (S3.sg = A'.sg) := hg.trans HG1.out; have B8 : Hid (Below V7.heap.size V7 V8) := hb; have HLs3 : Hid (S3.cs.length = 22) := rfl; clear hS hg hb HHo)
            | (refine wl_allocZ rfl 50 rfl zSight ?_; intro V9 k1 b1 s1; have K9 : Hid (V9.heap[V8.heap.size]? = some (.cells zSi 50 (0, 0))) := k1; have B9 : Hid (Below V8.heap.size V8 V9) := b1; clear k1 b1 s1)
            | (refine wl_storeZ rfl 50 _ _ rfl (L := S3.cs) rfl rfl K9.out (by rw [HLs3.out]; exact info_sight) (by rw [HLs3.out]; rfl) S3.one ?_; intro V10 k2 kk2; have K10 : Hid (V10.heap[V8.heap.size]? = some (.cells S3.cs.toArray 50 (0, 0))) := k2; have B10 : Hid (Below V8.heap.size V8 V10) := (show Below V8.heap.size V8 V10 from B9.out.trans (kk2.below B9.out.size (fun q hq e => by have e' : q = V8.heap.size := e; omega))); clear k2 kk2)
            | fail)
          have hb710 := bstep B8.out B10.out
          have HCk : Hid (Ck w V10 W1.heap.size sb b n s inc w.heap.size #[.int .i64 (n : Int), .int .i64 (s : Int), .int .i64 inc, .int .i64 fl, .slice oa on oc] A' S k ⟨none, 0, 0⟩ ⟨none, 0, 0⟩ [] [] β0 V0.heap.size V4.heap.size V7.heap.size S1 S2 S3) := ⟨HW7.out.still hb710, HH7.out.still hb710, Hso.out, Htl.out, Hml.out, HS17.out.still hb710, fun j hj => by have := HL1.out j hj; have := H01.out; have := H34.out; omega, HS27.out.still hb710, fun j hj => by have := HL2.out j hj; have := H47.out; omega, HS38.out.still B10.out, HG3.out, Hbβ.out, by have := H01.out; have := H34.out; have := H47.out; have := hb710.size; have := Hor.out; omega⟩
          have K110 : Hid (V10.heap[V1.heap.size]? = some (.cells S1.cs.toArray 50 (0, 0))) := (hb710.block _ (lt_heap K17.out)).trans K17.out
          have K210 : Hid (V10.heap[V5.heap.size]? = some (.cells S2.cs.toArray 50 (0, 0))) := (hb710.block _ (lt_heap K7.out)).trans K7.out
          have KV10 : Hid (V10.heap[vb]? = some (.cells #[.int .i64 0, .int .i64 0, .int .i64 0, .int .i64 0, .slice none 0 0] 42 (0, 0))) := (hb710.block _ (lt_heap KV7.out)).trans KV7.out
          have HR110 : Hid (V10.rangeAt V1.heap.size 0 S1.cs) := Ln.blk_range K110.out
          have HR210 : Hid (V10.rangeAt V5.heap.size 0 S2.cs) := Ln.blk_range K210.out
          have HIs : Hid (Calls Try.prog 12 #[.agg S1.cs.toArray, .agg S2.cs.toArray] V10 fun e w' => e = .returned (.bool true) ∧ Below V10.heap.size V10 w') := is_yes S1 S2 HCk.out.s1.rd HCk.out.s2.rd (HG1.out.trans HG2.out.symm)
          clear hb710 K9 B9 B8 B10 HW7 HH7 HS17 HS27 HS38 K17 K7 KV7 HR17 HL1 HL2 Hso Htl Hml
          go_upto_region 21 with (first
            | (refine load_mid 50 (.tmp 9) HR110.out _ Try.underlying50 rfl (by rw [HLs1.out]; exact info_sight) rfl rfl rfl ?_)
            | (refine load_mid 50 (.tmp 12) HR210.out _ Try.underlying50 rfl (by rw [HLs2.out]; exact info_sight) rfl rfl rfl ?_)
            | (go_at_call 12; refine HIs.out.mono ?_; rintro e V11 ⟨rfl, hb⟩; have B11 : Hid (Below V10.heap.size V10 V11) := hb; clear hb)
            | fail)
          have h9 := (B11.out.block _ (lt_heap K110.out)).trans K110.out
          have h12 := (B11.out.block _ (lt_heap K210.out)).trans K210.out
          have hv := (B11.out.block _ (lt_heap KV10.out)).trans KV10.out
          have K13 : Hid (V11.heap[V8.heap.size]? = some (.cells S3.cs.toArray 50 (0, 0))) := (B11.out.block _ (lt_heap K10.out)).trans K10.out
          have f0 : V11.cell? ⟨V1.heap.size, 0, none⟩ = some (.slice S1.p.sa S1.p.sn S1.p.sc) := blk_cell h9 0
          have f8 : V11.cell? ⟨V1.heap.size, 8, none⟩ = some (.slice S1.p.va S1.p.vn S1.p.vc) := blk_cell h9 8
          have f19 : V11.cell? ⟨V1.heap.size, 19, none⟩ = some (.slice S1.ta S1.tn S1.tc) := blk_cell h9 19
          have f13 : V11.cell? ⟨V1.heap.size, 13, none⟩ = some (.slice S1.va S1.vk S1.vc) := blk_cell h9 13
          have f18 : V11.cell? ⟨V1.heap.size, 18, none⟩ = some (.slice S1.ua S1.uk S1.uc) := blk_cell h9 18
          have g0 : V11.cell? ⟨V5.heap.size, 0, none⟩ = some (.slice S2.p.sa S2.p.sn S2.p.sc) := blk_cell h12 0
          have g8 : V11.cell? ⟨V5.heap.size, 8, none⟩ = some (.slice S2.p.va S2.p.vn S2.p.vc) := blk_cell h12 8
          have g19 : V11.cell? ⟨V5.heap.size, 19, none⟩ = some (.slice S2.ta S2.tn S2.tc) := blk_cell h12 19
          have g13 : V11.cell? ⟨V5.heap.size, 13, none⟩ = some (.slice S2.va S2.vk S2.vc) := blk_cell h12 13
          have g18 : V11.cell? ⟨V5.heap.size, 18, none⟩ = some (.slice S2.ua S2.uk S2.uc) := blk_cell h12 18
          have v4 : V11.cell? ⟨vb, 4, none⟩ = some (.slice none 0 0) := blk_cell hv 4
          clear h9 h12 hv K110 K210 KV10 HR110 HR210 HIs K10
          have HCk11 : Hid (Ck w V11 W1.heap.size sb b n s inc w.heap.size #[.int .i64 (n : Int), .int .i64 (s : Int), .int .i64 inc, .int .i64 fl, .slice oa on oc] A' S k ⟨none, 0, 0⟩ ⟨none, 0, 0⟩ [] [] β0 V0.heap.size V4.heap.size V7.heap.size S1 S2 S3) := HCk.out.still B11.out
          clear HCk B11
          go_upto_region 22 with (first
            | (refine wl_bsl rfl 36 29 7 _ rfl Try.underlying36 #[.slice none 0 0, .slice S1.p.sa S1.p.sn S1.p.sc, .slice S1.p.va S1.p.vn S1.p.vc, .slice S1.ta S1.tn S1.tc, .slice S2.p.sa S2.p.sn S2.p.sc, .slice S2.p.va S2.p.vn S2.p.vc, .slice S2.ta S2.tn S2.tc] (bsl_eq (by kernel_rfl) (bsN7 _ _ _ _ _ _ _ _ _ _ _ _ _ _ _ _ _ _ _ _ _)) ?_; intro V12 kv bv sv; have KA : Hid (V12.heap[V11.heap.size]? = some (.cells (rv 7 fun q => (nx ⟨none, 0, 0⟩ S1 S2 q).v).toArray 29 (0, 0))) := kv; have B12 : Hid (Below V11.heap.size V11 V12) := bv; have l13 := below_at bv f13; have l18 := below_at bv f18; have m13 := below_at bv g13; have m18 := below_at bv g18; have l4 := below_at bv v4; clear kv sv bv f0 f8 f19 f13 f18 g0 g8 g19 g13 g18 v4)
            | (refine wl_bsl rfl 37 40 5 _ rfl Try.underlying37 #[.slice none 0 0, .slice S1.va S1.vk S1.vc, .slice S1.ua S1.uk S1.uc, .slice S2.va S2.vk S2.vc, .slice S2.ua S2.uk S2.uc] (bsl_eq (by kernel_rfl) (bsN5 _ _ _ _ _ _ _ _ _ _ _ _ _ _ _)) ?_; intro V13 kv bv sv; have KB : Hid (V13.heap[V12.heap.size]? = some (.cells (rv 5 fun q => (my ⟨none, 0, 0⟩ S1 S2 q).v).toArray 40 (0, 0))) := kv; have B13 : Hid (Below V12.heap.size V12 V13) := bv; clear kv sv bv l13 l18 m13 m18 l4; have HPt := hidJ (HCk11.out.put (by omega) (bstep B12.out B13.out) ((B13.out.block _ (lt_heap KA.out)).trans KA.out) KB.out (Nat.le_refl _) B12.out.size))
            | (go_at_call 13; refine HPt.out.mono ?_; rintro e V14 ⟨rfl, S', hw, h3, hkt, hsz⟩; have HW14 : Hid (Wm w V14 W1.heap.size sb b n s inc w.heap.size #[.int .i64 (n : Int), .int .i64 (s : Int), .int .i64 inc, .int .i64 fl, .slice oa on oc] A' S' (k + 1)) := hw; have HS3 : Hid (So V7.heap.size S3 V14) := h3; have K14 : Hid (V14.heap[V8.heap.size]? = some (.cells S3.cs.toArray 50 (0, 0))) := hkt _ _ _ (by decide) (by decide) (by decide) (by decide) (by decide) (((bstep B12.out B13.out).block _ (lt_heap K13.out)).trans K13.out); clear HPt hw h3 hkt hsz)
            | fail)
          have HR3 : Hid (∀ X, Below V14.heap.size V14 X → X.rangeAt V8.heap.size 0 S3.cs) := fun X hX => Ln.blk_range ((hX.block _ (lt_heap K14.out)).trans K14.out)
          have HLk : Hid (∀ X, Below V14.heap.size V14 X → Calls Try.prog 9 #[.pointer (some ⟨b, 0, none⟩)] X fun e w' => ∃ S4 : Si, e = .returned (.agg S4.cs.toArray) ∧ So X.heap.size S4 w' ∧ S4.sg = A'.sg ∧ Below X.heap.size X w') := fun X hX => (HW14.out.still hX).look
          have HWl : Hid (∀ X, Below V14.heap.size V14 X → Calls Try.prog 14 #[.pointer (some ⟨sb, 0, none⟩)] X fun e w' => e = .returned (.bool true) ∧ Below X.heap.size X w') := fun X hX => whole_any ((HW14.out.still hX).st) (HW14.out.fit (by omega))
          clear HCk11 KA KB B12 B13 K13 K14 HLs1 HLs2
          refine wp_region_held_drew (S := (fun w' => w'.rangeAt V8.heap.size 0 S3.cs)) (by kernel_rfl) (HR3.out _ (drew_bel _)) (fun hHeld => ?_)
          simp only [Act.put, List.size_toArray, List.length_cons, List.length_nil, Nat.zero_add]
          refine takeD (i := 0) (d := 125) (v := .agg S3.cs.toArray) rfl (by kernel_rfl) (by kernel_rfl) (by kernel_rfl) (by kernel_rfl) (fun _ _ _ h => h) (Or.inl ⟨by rfl, fun w' hS => by (exact Lo.run_loadop 50 _ rfl rfl hS Try.underlying50 rfl (by rw [HLs3.out]; exact info_sight))⟩) hHeld ?_
          simp only [Act.put, sA9, sZ9, sC9]
          refine takeD (i := 1) (d := 126) (v := .pointer (some ⟨b, 0, none⟩)) rfl (by kernel_rfl) (by kernel_rfl) (by kernel_rfl) (by kernel_rfl) (fun _ _ _ h => h) (Or.inl ⟨by rfl, fun w' hS => by go_simp⟩) hHeld ?_
          simp only [Act.put, sA9, sZ9, sC9]
          have hbD1 : Below V14.heap.size V14 V14.drew := drew_bel _
          generalize V14.drew = D1 at *
          refine wpAnyH_ready (rs := [2]) (by kernel_rfl) (by simp) ?_
          refine AllReadyH.cons rfl (fun K hK => ?_) AllReadyH.nil
          go_simp
          refine (HLk.out D1 hbD1).mono ?_
          rintro e W9 ⟨S4, rfl, hs4, hg4, b9⟩
          refine hK.out _ _ (HR3.out _ (bstep hbD1 b9)) (fun hHeld => ?_)
          clear hK K
          refine wpAnyH_ready (rs := [3]) (by kernel_rfl) (by simp) ?_
          refine AllReadyH.cons rfl (fun K hK => ?_) AllReadyH.nil
          go_simp
          refine (is_yes S3 S4 (HS3.out.still (bstep hbD1 b9)).rd hs4.rd (HG3.out.trans hg4.symm)).mono ?_
          rintro e W8 ⟨rfl, b8⟩
          refine hK.out _ _ (HR3.out _ (bstep (bstep hbD1 b9) b8)) (fun hHeld => ?_)
          clear hK K
          refine takeD (i := 4) (d := 129) (v := .bool false) rfl (by kernel_rfl) (by kernel_rfl) (by kernel_rfl) (by kernel_rfl) (fun _ _ _ h => h) (Or.inl ⟨by rfl, fun w' hS => by go_simp⟩) hHeld ?_
          simp only [Act.put, sA9, sZ9, sC9]
          refine takeD (i := 5) (d := 130) (v := .bool false) rfl (by kernel_rfl) (by kernel_rfl) (by kernel_rfl) (by kernel_rfl) (fun _ _ _ h => h) (Or.inl ⟨by rfl, fun w' hS => by go_simp⟩) hHeld ?_
          simp only [Act.put, sA9, sZ9, sC9]
          refine takeD (i := 6) (d := 131) (v := .pointer (some ⟨sb, 0, none⟩)) rfl (by kernel_rfl) (by kernel_rfl) (by kernel_rfl) (by kernel_rfl) (fun _ _ _ h => h) (Or.inl ⟨by kernel_rfl, fun w' hS => by go_simp⟩) hHeld ?_
          simp only [Act.put, sA9, sZ9, sC9]
          refine wpAnyH_ready (rs := [7]) (by kernel_rfl) (by simp) ?_
          refine AllReadyH.cons rfl (fun K hK => ?_) AllReadyH.nil
          go_simp
          refine (HWl.out W8 (bstep (bstep hbD1 b9) b8)).mono ?_
          rintro e W7 ⟨rfl, b7⟩
          refine hK.out _ _ (HR3.out _ (bstep (bstep (bstep hbD1 b9) b8) b7)) (fun hHeld => ?_)
          clear hK K
          refine takeD (i := 8) (d := 133) (v := .bool false) rfl (by kernel_rfl) (by kernel_rfl) (by kernel_rfl) (by kernel_rfl) (fun _ _ _ h => h) (Or.inl ⟨by kernel_rfl, fun w' hS => by go_simp⟩) hHeld ?_
          simp only [Act.put, sA9, sZ9, sC9]
          refine takeD (i := 9) (d := 134) (v := .bool false) rfl (by kernel_rfl) (by kernel_rfl) (by kernel_rfl) (by kernel_rfl) (fun _ _ _ h => h) (Or.inl ⟨by rfl, fun w' hS => by go_simp⟩) hHeld ?_
          simp only [Act.put, sA9, sZ9, sC9]
          refine wpAnyH_done (by kernel_rfl) ?_ _
          clear hHeld
          have HQ : Hid (Wm w W7 W1.heap.size sb b n s inc w.heap.size #[.int .i64 (n : Int), .int .i64 (s : Int), .int .i64 inc, .int .i64 fl, .slice oa on oc] A' S' (k + 1)) := HW14.out.still (bstep (bstep (bstep hbD1 b9) b8) b7)
          clear hbD1 b9 b8 b7 hs4 hg4 HR3 HLk HWl HS3 HG3
          go_wp2_with (fail)
          exact ⟨⟨k + 1, A', S', by omega, by omega, by go_num, HQ.out⟩, by simp [intOf]; omega⟩
      · obtain rfl : k = 40 := by omega
        clear HO
        go_wp2_with fail
        go_ret
        exact ⟨rfl, HW.out.lw⟩
    · obtain rfl : k = on := by omega
      clear HO
      go_wp2_with fail
      go_ret
      exact ⟨rfl, HW.out.lw⟩
end
end Go.Proofs.Ytdegjhkjmgimpaa.Ms
