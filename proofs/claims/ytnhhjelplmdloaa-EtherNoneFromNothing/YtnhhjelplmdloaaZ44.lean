import Derived.Test.YtnhhjelplmdloaaZ43
import Derived.Test.YtnhhjelplmdloaaZ32
namespace Go.Proofs.Ytnhhjelplmdloaa.Et
open Go.RowKit Go.Maps
set_option linter.unusedVariables false
set_option linter.unusedSimpArgs false
set_option maxRecDepth 100000
section
variable {E E1 E' : En} {w w' w1 w2 w3 : World} {B K m : Nat}
theorem hidI {p : Prop} (h : p) : Hid p := h
theorem bU12 : Try.prog.builtSlice 5 2 [(0, .int .u8 1), (1, .int .u8 2)] = some #[.int .u8 1, .int .u8 2] := by kernel_rfl
set_option maxHeartbeats 1000000 in
theorem none_no (nd rm : Int) (oa : Option Addr) (n oc : Nat) (hb : badNew nd rm) : Calls Try.prog 3 #[.agg (kc nd rm oa n oc)] w fun e w' => e = .returned (.bool true) ∧ Below w.heap.size w w' := by
  generalize hW : w.alloc (.cells #[.int .i64 nd, .int .i64 rm, .slice oa n oc] 24) = W
  have hbW : Below w.heap.size w W := by rw [← hW]; exact balloc (Below.refl _ w)
  have hblk : W.heap[w.heap.size]? = some (.cells #[.int .i64 nd, .int .i64 rm, .slice oa n oc] 24 (0, 0)) := by rw [← hW]; exact heap_alloc_new w _
  have c0 : W.cell? ⟨w.heap.size, 0, none⟩ = some (.int .i64 nd) := blk_cell hblk 0
  have c1 : W.cell? ⟨w.heap.size, 1, none⟩ = some (.int .i64 rm) := blk_cell hblk 1
  have HA : Hid (Calls Try.prog 6 #[.int .i64 nd, .int .i64 rm] W fun e w' => e = .returned (.tuple #[.pointer none, .int .i64 1]) ∧ W = w') := new_no nd rm hb
  have Hb : Hid (Below w.heap.size w W) := hbW
  unfold kc
  unfold badNew at hb
  clear hbW hblk
  go_enter Try.func3, Try.ntmps3
  go_upto_region 2 with (first
    | (go_at_call 6; refine HA.out.mono ?_; rintro e w1 ⟨rfl, rfl⟩)
    | fail)
  by_cases q1 : nd < 2
  · clear hb
    go_wp2
    go_ret
    exact ⟨rfl, Hb.out⟩
  by_cases q2 : 16 < nd
  · clear hb
    go_wp2
    go_ret
    exact ⟨rfl, Hb.out⟩
  by_cases q3 : rm < 1
  · clear hb
    go_wp2
    go_ret
    exact ⟨rfl, Hb.out⟩
  have q4 : 20000 < rm := by omega
  clear hb
  go_wp2
  go_ret
  exact ⟨rfl, Hb.out⟩
set_option maxHeartbeats 1000000 in
theorem none_one (rm : Int) (oa : Option Addr) (n oc : Nat) (h3 : 1 ≤ rm) (h4 : rm ≤ 20000) : Calls Try.prog 3 #[.agg (kc 1 rm oa n oc)] w fun e w' => e = .returned (.bool true) ∧ Below w.heap.size w w' := by
  generalize hW : w.alloc (.cells #[.int .i64 1, .int .i64 rm, .slice oa n oc] 24) = W
  have hbW : Below w.heap.size w W := by rw [← hW]; exact balloc (Below.refl _ w)
  have hblk : W.heap[w.heap.size]? = some (.cells #[.int .i64 1, .int .i64 rm, .slice oa n oc] 24 (0, 0)) := by rw [← hW]; exact heap_alloc_new w _
  have c0 : W.cell? ⟨w.heap.size, 0, none⟩ = some (.int .i64 1) := blk_cell hblk 0
  have c1 : W.cell? ⟨w.heap.size, 1, none⟩ = some (.int .i64 rm) := blk_cell hblk 1
  have HA : Hid (Calls Try.prog 6 #[.int .i64 1, .int .i64 rm] W fun e w' => ∃ b, e = .returned (.tuple #[.pointer (some ⟨b, 0, none⟩), .int .i64 0]) ∧ Below W.heap.size W w') := (new_ok 1 rm (by omega) (by omega) h3 h4).mono fun e w' ⟨b, bn, bc, bd, x1, x2, x3⟩ => ⟨b, x1, x3⟩
  have Hb : Hid (Below w.heap.size w W) := hbW
  have HC : Hid (∀ X, Below W.heap.size W X → X.cell? ⟨w.heap.size, 0, none⟩ = some (.int .i64 1) ∧ X.cell? ⟨w.heap.size, 1, none⟩ = some (.int .i64 rm)) := fun X hX => ⟨below_at hX c0, below_at hX c1⟩
  unfold kc
  clear hbW hblk
  go_enter Try.func3, Try.ntmps3
  go_upto_region 2 with (first
    | (go_at_call 6; refine HA.out.mono ?_; rintro e w1 ⟨b, rfl, hb1⟩; have HB1 : Hid (Below W.heap.size W w1) := hb1; clear hb1)
    | fail)
  clear c0 c1 HA
  obtain ⟨c0, c1⟩ := HC.out w1 HB1.out
  go_wp2
  go_ret
  exact ⟨rfl, bstep Hb.out HB1.out⟩
set_option maxHeartbeats 8000000 in
theorem none_ok (k : Nat) (rm : Int) (oa : Option Addr) (n oc : Nat) (os : Nat → Opx) (h1 : 1 ≤ k) (h2 : k ≤ 15) (h3 : 1 ≤ rm) (h4 : rm ≤ 20000) (ho : RdOps w oa n os) (hn : n ≤ 1759218604390) : Calls Try.prog 3 #[.agg (kc ((k : Int) + 1) rm oa n oc)] w fun e w' => e = .returned (.bool true) ∧ Below w.heap.size w w' := by
  generalize hW : w.alloc (.cells #[.int .i64 ((k : Int) + 1), .int .i64 rm, .slice oa n oc] 24) = W
  have hbW : Below w.heap.size w W := by rw [← hW]; exact balloc (Below.refl _ w)
  have hblk : W.heap[w.heap.size]? = some (.cells #[.int .i64 ((k : Int) + 1), .int .i64 rm, .slice oa n oc] 24 (0, 0)) := by rw [← hW]; exact heap_alloc_new w _
  have HCs : Hid (∀ X, Below W.heap.size W X → X.cell? ⟨w.heap.size, 0, none⟩ = some (.int .i64 ((k : Int) + 1)) ∧ X.cell? ⟨w.heap.size, 1, none⟩ = some (.int .i64 rm) ∧ X.cell? ⟨w.heap.size, 2, none⟩ = some (.slice oa n oc)) := fun X hX => ⟨below_at hX (blk_cell hblk 0), below_at hX (blk_cell hblk 1), below_at hX (blk_cell hblk 2)⟩
  have HO : Hid (RdOps W oa n os) := ho.stay hbW
  have HA : Hid (Calls Try.prog 6 #[.int .i64 ((k : Int) + 1), .int .i64 rm] W fun e w' => ∃ b bn bc bd, e = .returned (.tuple #[.pointer (some ⟨b, 0, none⟩), .int .i64 0]) ∧ En.Ok (newE b bn bc bd (k + 1) rm (k + 1)) w' W.heap.size 0 ∧ Below W.heap.size W w') := by
    have := new_ok (w := W) (k + 1) rm (by omega) (by omega) h3 h4
    rwa [show ((k + 1 : Nat) : Int) = (k : Int) + 1 by omega] at this
  have Hb : Hid (Below w.heap.size w W) := hbW
  obtain ⟨c0, c1, -⟩ := HCs.out W (Below.refl _ _)
  unfold kc
  clear hbW hblk ho
  go_enter Try.func3, Try.ntmps3
  go_upto_region 2 with (first
    | (go_at_call 6; refine HA.out.mono ?_; rintro e w1 ⟨b, bn, bc, bd, rfl, hE, hb1⟩; have HE : Hid (En.Ok (newE b bn bc bd (k + 1) rm (k + 1)) w1 W.heap.size 0) := hE; have HB1 : Hid (Below W.heap.size W w1) := hb1; clear hE hb1)
    | fail)
  clear c0 c1 HA
  obtain ⟨c0, c1, -⟩ := HCs.out w1 HB1.out
  have n0 : (0 : Int) ≤ (k : Int) := Int.natCast_nonneg _
  have n1 : ¬ (k : Int) + 1 < 2 := by omega
  have n2 : ¬ (16 : Int) < (k : Int) + 1 := by omega
  have n3 : ¬ rm < 1 := by omega
  have n4 : ¬ (20000 : Int) < rm := by omega
  have n5 : IntKind.i64.wrap ((k : Int) + 1 - 1) = (k : Int) := by rw [show (k : Int) + 1 - 1 = (k : Int) by omega]; exact wrap_id (by omega) (by omega)
  have HJ0 : Hid (Jm (w1.alloc (.cells #[(.slice none 0 0), (.slice none 0 0), (.slice none 0 0), (.slice none 0 0)] 34)) (newE b bn bc bd (k + 1) rm (k + 1)) W.heap.size 0 w1.heap.size (.slice none 0 0) (.slice none 0 0) (.slice none 0 0) (.slice none 0 0) []) := jm0 HE.out HB1.out.size h3 h4
  go_upto_region 7 with fail
  generalize hWb : w1.alloc (.cells #[(.slice none 0 0), (.slice none 0 0), (.slice none 0 0), (.slice none 0 0)] 34) = Wb at *
  have HBb : Hid (Below W.heap.size W Wb) := hWb ▸ balloc HB1.out
  clear hWb c0 c1
  go_upto_region 8 with (first
    | (refine wl_bsl rfl 35 5 2 _ rfl Try.underlying35 #[.int .u8 1, .int .u8 2] (bsl_eq (by kernel_rfl) bU12) ?_; intro V1 kv bv1 sv1; have KV : Hid (V1.heap[Wb.heap.size]? = some (.cells #[.int .u8 1, .int .u8 2] 5 (0, 0))) := kv; have BV : Hid (Below Wb.heap.size Wb V1) := bv1; clear kv bv1 sv1)
    | fail)
  have HBV : Hid (Below W.heap.size W V1) := bstep HBb.out BV.out
  have HFst := first_x (HJ0.out.still BV.out) h1 h2 h3 h4 KV.out (fun e => by have := HJ0.out.e.ltOwn e; omega) (fun e => by have := (HJ0.out.b.m.lt e).1; omega)
  have HF := hidI HFst
  clear HFst HJ0 KV BV HBb HE HB1
  generalize w1.heap.size = bb at *
  generalize Wb.heap.size = q at *
  obtain ⟨c0, -, -⟩ := HCs.out V1 HBV.out
  go_upto_region 9 with (first
    | (go_at_call 7; refine HF.out.mono ?_; rintro e w2 ⟨rfl, hl2, hput⟩; have HL2 : Hid (Below W.heap.size W w2) := HBV.out.trans hl2; have HPut := hidI hput; clear hl2 hput)
    | fail)
  clear c0 HF HBV
  obtain ⟨c0, -, -⟩ := HCs.out w2 HL2.out
  go_upto_region 11 with (first
    | (go_at_call 8; refine HPut.out.mono ?_; rintro e w3 ⟨rfl, E1, sv, dv, bv, cv, es, hJ, hb, hf, hl3⟩; have HJ3 : Hid (Jm w3 E1 W.heap.size 1 bb sv dv bv cv es) := hJ; have HL3 : Hid (Below W.heap.size W w3) := HL2.out.trans hl3; have HEb : Hid (E1.b = b) := hb; have HFl : Hid ((E1.fs.filter (comes E1)).length = 1) := hf; clear hJ hb hf hl3)
    | fail)
  clear c0 HPut HL2
  have HSec := second_x HJ3.out HFl.out
  rw [HEb.out] at HSec
  have HS := hidI HSec
  clear HSec
  go_upto_region 12 with (first
    | (go_at_call 9; refine HS.out.mono ?_; rintro e w4 ⟨g, c, rfl, ⟨f, hrow, hcm⟩, hl4⟩; have HRw : Hid (w4.rangeAt g 0 f.cs.toList) := hrow; have HCm := hidI hcm; clear hrow hcm hl4)
    | fail)
  clear HS
  go_upto_region 15 with (first
    | (refine Ln.load_mid 43 _ HRw.out _ Try.underlying43 rfl iFl rfl rfl rfl ?_)
    | (go_at_call 10; refine HCm.out.mono ?_; rintro e w5 ⟨rfl, hr⟩; have HR5 : Hid (RunQ w3 w5 E1 W.heap.size 1 bb) := hr; clear hr)
    | fail)
  clear HRw HCm
  go_loopw [9] (fun i wr => ∃ (j : Nat) (E : En) (sv dv bv cv : Value) (es : List Be), j ≤ n ∧ i = .int .i64 (j : Int) ∧ Jm wr E W.heap.size (j + 2) bb sv dv bv cv es ∧ E.b = b ∧ Below W.heap.size W wr) (fun i _ => n - (intOf i).toNat)
  case atStart =>
    obtain ⟨E2, sv2, dv2, bv2, cv2, es2, q1, q2, q3, q4⟩ := HR5.out
    exact ⟨0, E2, sv2, dv2, bv2, cv2, es2, Nat.zero_le _, rfl, q1, q2.trans HEb.out, HL3.out.trans q4⟩
  case round =>
    as_aux_lemma =>
    obtain ⟨j, E, sv, dv, bv, cv, es, hj, rfl, hJ, hb, hl⟩ := hrel
    have HL : Hid (Below W.heap.size W wr) := hl
    have i1 : (0 : Int) ≤ (j : Int) := Int.natCast_nonneg _
    obtain ⟨-, -, c2⟩ := HCs.out wr HL.out
    by_cases hlt : j < n
    · have i2 : (j : Int) < (n : Int) := by omega
      obtain ⟨ob, off, rfl⟩ := ops_block HO.out hlt
      have hopin := HO.out.2 j hlt
      have HRg : Hid (wr.rangeAt ob (off + j * 6) (os j).cs.toList) := ops_range HO.out hlt HL.out rfl
      obtain ⟨⟨bs, hbs⟩, ⟨xs, hxs⟩⟩ := hopin.low (Below.refl W.heap.size W)
      have hrun := run_any hJ (by omega) (os j) bs xs (fun X hX => hbs X (hl.trans hX)) (fun X hX => hxs X (hl.trans hX)) hopin.2.2.1 hopin.2.2.2.1 hopin.2.2.2.2
      rw [hb] at hrun
      have HRun := hidI hrun
      have HEb2 : Hid (E.b = b) := hb
      clear hrun hbs hxs hopin hJ hl hb HR5 HJ3 HL3 HFl HEb
      generalize os j = o at *
      go_upto_region 17 with fail
      go_wp2_with (first
        | (refine Ln.load_mid 46 (.tmp 96) HRg.out _ Try.underlying46 rfl iOp rfl rfl rfl ?_)
        | (go_at_call 11; refine HRun.out.mono ?_; rintro e w6 ⟨rfl, hr⟩; have HR6 : Hid (RunQ wr w6 E W.heap.size (j + 2) bb) := hr; clear hr)
        | fail)
      obtain ⟨E2, sv2, dv2, bv2, cv2, es2, q1, q2, q3, q4⟩ := HR6.out
      exact ⟨⟨j + 1, E2, sv2, dv2, bv2, cv2, es2, by omega, by go_num, q1, q2.trans HEb2.out, HL.out.trans q4⟩, by simp [intOf]; omega⟩
    · obtain rfl : j = n := by omega
      go_wp2
      go_ret
      exact ⟨rfl, bstep Hb.out HL.out⟩
theorem none_any (nd rm : Int) (oa : Option Addr) (n oc : Nat) (os : Nat → Opx) (ho : RdOps w oa n os) (hn : n ≤ 1759218604390) : Calls Try.prog 3 #[.agg (kc nd rm oa n oc)] w fun e w' => e = .returned (.bool true) ∧ Below w.heap.size w w' := by
  by_cases hb : badNew nd rm
  · exact none_no nd rm oa n oc hb
  · unfold badNew at hb
    by_cases h1 : nd = 1
    · subst h1
      exact none_one rm oa n oc (by omega) (by omega)
    · obtain ⟨k, rfl⟩ : ∃ k : Nat, nd = (k : Int) + 1 := ⟨(nd - 1).toNat, by omega⟩
      exact none_ok k rm oa n oc os (by omega) (by omega) (by omega) (by omega) ho hn
end
end Go.Proofs.Ytnhhjelplmdloaa.Et
