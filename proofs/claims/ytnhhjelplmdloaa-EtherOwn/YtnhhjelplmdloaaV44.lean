import Derived.Test.YtnhhjelplmdloaaV43
namespace Go.Proofs.Ytnhhjelplmdloaa.Et
open Go.RowKit Go.Maps
set_option linter.unusedVariables false
set_option linter.unusedSimpArgs false
set_option maxRecDepth 100000
section
variable {E E1 E' : En} {w w' w1 w2 w3 : World} {B K m : Nat}
set_option maxHeartbeats 1000000 in
theorem own_no (nd rm : Int) (oa : Option Addr) (n oc : Nat) (hb : nd < 2 ∨ 16 < nd) : Calls Try.prog 5 #[.agg (kc nd rm oa n oc)] w fun e w' => e = .returned (.bool true) ∧ Below w.heap.size w w' := by
  generalize hW : w.alloc (.cells #[.int .i64 nd, .int .i64 rm, .slice oa n oc] 24) = W
  have hbW : Below w.heap.size w W := by rw [← hW]; exact balloc (Below.refl _ w)
  have hblk : W.heap[w.heap.size]? = some (.cells #[.int .i64 nd, .int .i64 rm, .slice oa n oc] 24 (0, 0)) := by rw [← hW]; exact heap_alloc_new w _
  have c0 : W.cell? ⟨w.heap.size, 0, none⟩ = some (.int .i64 nd) := blk_cell hblk 0
  have HCs : Hid (∀ X, Below W.heap.size W X → X.cell? ⟨w.heap.size, 0, none⟩ = some (.int .i64 nd)) := fun X hX => below_at hX (blk_cell hblk 0)
  have Hb : Hid (Below w.heap.size w W) := hbW
  by_cases h1 : nd = 1
  · subst h1
    have HA : Hid (Calls Try.prog 6 #[.int .i64 1, .int .i64 50] W fun e w' => ∃ b bn bc bd, e = .returned (.tuple #[.pointer (some ⟨b, 0, none⟩), .int .i64 0]) ∧ En.Ok (newE b bn bc bd 1 50 1) w' W.heap.size 0 ∧ Below W.heap.size W w') := new_ok 1 50 (by omega) (by omega) (by omega) (by omega)
    unfold kc
    clear hbW hblk hb
    go_enter Try.func5, Try.ntmps5
    go_upto_region 2 with (first
      | (go_at_call 6; refine HA.out.mono ?_; rintro e w1 ⟨b, bn, bc, bd, rfl, -, hb1⟩; have HB1 : Hid (Below W.heap.size W w1) := hb1; clear hb1)
      | fail)
    clear c0
    have c0 := HCs.out w1 HB1.out
    go_wp2
    go_ret
    exact ⟨rfl, bstep Hb.out HB1.out⟩
  · have HA : Hid (Calls Try.prog 6 #[.int .i64 nd, .int .i64 50] W fun e w' => e = .returned (.tuple #[.pointer none, .int .i64 1]) ∧ W = w') := new_no nd 50 (by unfold badNew; omega)
    unfold kc
    clear hbW hblk
    go_enter Try.func5, Try.ntmps5
    go_upto_region 2 with (first
      | (go_at_call 6; refine HA.out.mono ?_; rintro e w1 ⟨rfl, rfl⟩)
      | fail)
    by_cases q1 : nd < 2
    · clear hb
      go_wp2
      go_ret
      exact ⟨rfl, Hb.out⟩
    have q2 : 16 < nd := by omega
    clear hb
    go_wp2
    go_ret
    exact ⟨rfl, Hb.out⟩
set_option maxHeartbeats 16000000 in
theorem own_ok (nd : Nat) (rm : Int) (oa : Option Addr) (n oc : Nat) (os : Nat → Opx) (h1 : 2 ≤ nd) (h2 : nd ≤ 16) (ho : RdOps w oa n os) : Calls Try.prog 5 #[.agg (kc (nd : Int) rm oa n oc)] w fun e w' => e = .returned (.bool true) ∧ Below w.heap.size w w' := by
  obtain ⟨fi, fih, fiz0, fiz1, fiz2⟩ := tFl5
  generalize hW : w.alloc (.cells #[.int .i64 (nd : Int), .int .i64 rm, .slice oa n oc] 24) = W
  have hbW : Below w.heap.size w W := by rw [← hW]; exact balloc (Below.refl _ w)
  have hblk : W.heap[w.heap.size]? = some (.cells #[.int .i64 (nd : Int), .int .i64 rm, .slice oa n oc] 24 (0, 0)) := by rw [← hW]; exact heap_alloc_new w _
  have hWs : w.heap.size < W.heap.size := lt_heap hblk
  have HCs : Hid (∀ X, Below W.heap.size W X → X.cell? ⟨w.heap.size, 0, none⟩ = some (.int .i64 (nd : Int)) ∧ X.cell? ⟨w.heap.size, 2, none⟩ = some (.slice oa n oc)) := fun X hX => ⟨below_at hX (blk_cell hblk 0), below_at hX (blk_cell hblk 2)⟩
  have HO : Hid (RdOps W oa n os) := ho.stay hbW
  have HA : Hid (Calls Try.prog 6 #[.int .i64 (nd : Int), .int .i64 50] W fun e w' => ∃ b bn bc bd, e = .returned (.tuple #[.pointer (some ⟨b, 0, none⟩), .int .i64 0]) ∧ En.Ok (newE b bn bc bd nd 50 nd) w' W.heap.size 0 ∧ Below W.heap.size W w') := new_ok nd 50 (by omega) h2 (by omega) (by omega)
  have Hb : Hid (Below w.heap.size w W) := hbW
  obtain ⟨c0, -⟩ := HCs.out W (Below.refl _ _)
  unfold kc
  clear hbW hblk ho
  go_enter Try.func5, Try.ntmps5
  go_upto_region 2 with (first
    | (go_at_call 6; refine HA.out.mono ?_; rintro e w1 ⟨b, bn, bc, bd, rfl, hE, hb1⟩; have HE : Hid (En.Ok (newE b bn bc bd nd 50 nd) w1 W.heap.size 0) := hE; have HB1 : Hid (Below W.heap.size W w1) := hb1; clear hE hb1)
    | fail)
  clear c0 HA
  obtain ⟨c0, -⟩ := HCs.out w1 HB1.out
  have n1 : ¬ (nd : Int) < 2 := by omega
  have n2 : ¬ (16 : Int) < (nd : Int) := by omega
  have HP0 : Hid (Pr W w1 W.heap.size (newE b bn bc bd nd 50 nd) nd 0) := ⟨HE.out, ⟨⟨by show (1 : Int) ≤ 50; omega, by show (50 : Int) ≤ 20000; omega⟩, by show ((0 : Nat) : Int) ≤ 50; omega, Nat.le_refl _, fun f hf => by simp [newE] at hf, ⟨Int.le_refl _, Int.le_refl _⟩, List.Pairwise.nil, fun f hf => by simp [newE] at hf, ⟨Int.le_refl _, Int.le_refl _⟩, fun f hf => by simp [newE] at hf⟩, rfl, by simp [newE]; omega, rfl, rfl, rfl, rfl, rfl, HB1.out.size, HB1.out⟩
  go_upto_region 6 with fail
  clear c0 n1 n2 HE HB1
  go_wp2_with fail
  go_loopw [5] (fun i wr => ∃ (k : Nat) (E : En), k ≤ 3 ∧ i = .int .i64 ((k : Int) + 1) ∧ Pr W wr W.heap.size E nd k ∧ E.b = b) (fun i _ => 4 - (intOf i).toNat)
  case atStart => exact ⟨0, _, by omega, rfl, HP0.out, rfl⟩
  case round =>
    as_aux_lemma =>
    obtain ⟨k, E, hk, rfl, hp, rfl⟩ := hrel
    have HP : Hid (Pr W wr W.heap.size E nd k) := hp
    clear hp HP0
    by_cases hlt : k < 3
    · have HPo : Hid (∀ X q bs, Below wr.heap.size wr X → Rd X (some ⟨q, 0, none⟩) 2 2 bs → Calls Try.prog 7 #[.pointer (some ⟨E.b, 0, none⟩), .int .i64 0, .int .i64 1, .slice (some ⟨q, 0, none⟩) 2 2] X fun e w2 => e = .returned (.tuple #[.int .i64 ((k : Int) + 1), .int .i64 0]) ∧
          Calls Try.prog 15 #[.pointer (some ⟨E.b, 0, none⟩)] w2 fun e w3 => ∃ a E1, e = .returned (.slice a (k + 1) (k + 1)) ∧ Pr W w3 W.heap.size E1 nd (k + 1) ∧ E1.b = E.b) := fun X q bs hX hr => post3 HP.out hlt h1 hX hr
      rcases (show k = 0 ∨ k = 1 ∨ k = 2 by omega) with rfl | rfl | rfl
      · go_wp2_with (first
          | (refine wl_bsl rfl 35 5 2 _ rfl Try.underlying35 #[.int .u8 1, .int .u8 9] (bsl_eq (by kernel_rfl) (bsU2 1 9)) ?_; intro V kv bv sv; have HC := hidJ (HPo.out V _ _ bv (rd_two kv (by omega) (by omega))); clear kv sv HPo)
          | (go_at_call 7; refine HC.out.mono ?_; rintro e V2 ⟨rfl, hl⟩; have HF := hidJ hl; clear HC hl)
          | (go_at_call 15; refine HF.out.mono ?_; rintro e V3 ⟨a3, E1, rfl, hp, hEb⟩; have HP1 : Hid (Pr W V3 W.heap.size E1 nd (0 + 1) ∧ E1.b = E.b) := ⟨hp, hEb⟩; clear HF hp hEb)
          | fail)
        exact ⟨⟨0 + 1, E1, by omega, by go_num, HP1.out.1, HP1.out.2⟩, by simp [intOf]⟩
      · go_wp2_with (first
          | (refine wl_bsl rfl 35 5 2 _ rfl Try.underlying35 #[.int .u8 2, .int .u8 9] (bsl_eq (by kernel_rfl) (bsU2 2 9)) ?_; intro V kv bv sv; have HC := hidJ (HPo.out V _ _ bv (rd_two kv (by omega) (by omega))); clear kv sv HPo)
          | (go_at_call 7; refine HC.out.mono ?_; rintro e V2 ⟨rfl, hl⟩; have HF := hidJ hl; clear HC hl)
          | (go_at_call 15; refine HF.out.mono ?_; rintro e V3 ⟨a3, E1, rfl, hp, hEb⟩; have HP1 : Hid (Pr W V3 W.heap.size E1 nd (1 + 1) ∧ E1.b = E.b) := ⟨hp, hEb⟩; clear HF hp hEb)
          | fail)
        exact ⟨⟨1 + 1, E1, by omega, by go_num, HP1.out.1, HP1.out.2⟩, by simp [intOf]⟩
      · go_wp2_with (first
          | (refine wl_bsl rfl 35 5 2 _ rfl Try.underlying35 #[.int .u8 3, .int .u8 9] (bsl_eq (by kernel_rfl) (bsU2 3 9)) ?_; intro V kv bv sv; have HC := hidJ (HPo.out V _ _ bv (rd_two kv (by omega) (by omega))); clear kv sv HPo)
          | (go_at_call 7; refine HC.out.mono ?_; rintro e V2 ⟨rfl, hl⟩; have HF := hidJ hl; clear HC hl)
          | (go_at_call 15; refine HF.out.mono ?_; rintro e V3 ⟨a3, E1, rfl, hp, hEb⟩; have HP1 : Hid (Pr W V3 W.heap.size E1 nd (2 + 1) ∧ E1.b = E.b) := ⟨hp, hEb⟩; clear HF hp hEb)
          | fail)
        exact ⟨⟨2 + 1, E1, by omega, by go_num, HP1.out.1, HP1.out.2⟩, by simp [intOf]⟩
    · have i0 : ¬ (k : Int) + 1 ≤ 3 := by omega
      have hk3 : k = 3 := by omega
      have HWd : Hid (Wd W (wr.alloc (.cells #[.slice none 0 0, .slice none 0 0, .slice none 0 0, .slice none 0 0] 64)) W.heap.size wr.heap.size E S0 3 0) := by
        have h3 := HP.out
        rw [hk3] at h3
        exact wd0 h3
      clear HP hk3 hk hlt
      generalize (k : Int) + 1 = z5 at *
      go_wp2_with fail
      clear i0
      generalize wr.alloc (.cells #[.slice none 0 0, .slice none 0 0, .slice none 0 0, .slice none 0 0] 64) = W3 at *
      generalize wr.heap.size = sb at *
      go_loopw [9] (fun i wr => ∃ (k : Nat) (E1 : En) (S : St), k ≤ n ∧ k ≤ 60 ∧ i = .int .i64 (k : Int) ∧ Wd W wr W.heap.size sb E1 S (k + 3) k ∧ E1.b = E.b) (fun i _ => 60 - (intOf i).toNat)
      case atStart => exact ⟨0, E, S0, Nat.zero_le _, by omega, rfl, HWd.out, rfl⟩
      case round =>
        as_aux_lemma =>
        obtain ⟨k, E2, S, hk, hk60, rfl, hw, hEb⟩ := hrel
        have HW : Hid (Wd W wr W.heap.size sb E2 S (k + 3) k) := hw
        have HE2 : Hid (E2.b = E.b) := hEb
        clear hw hEb HWd
        have i1 : (0 : Int) ≤ (k : Int) := Int.natCast_nonneg _
        have HLw : Hid (Below W.heap.size W wr) := HW.out.lw
        obtain ⟨-, c2⟩ := HCs.out wr HLw.out
        have HWh : Hid (Calls Try.prog 24 #[.pointer (some ⟨sb, 0, none⟩), .int .i64 0, .int .i64 0] wr fun e w' => e = .returned (.bool true) ∧ Below wr.heap.size wr w') := whole_any (b := 0) (f := 0) HW.out.s (HW.out.fit hk60) (Nat.zero_le _) (Nat.zero_le _)
        by_cases hlt : k < n
        · have i2 : (k : Int) < (n : Int) := by omega
          by_cases hl6 : k < 60
          · have i3 : (k : Int) < 60 := by omega
            obtain ⟨ob, off, rfl⟩ := ops_block HO.out hlt
            have hopin := HO.out.2 k hlt
            have HRg : Hid (∀ X, Below W.heap.size W X → X.rangeAt ob (off + k * 6) (os k).cs.toList) := fun X hX => ops_range HO.out hlt hX rfl
            have d0 : wr.cell? ⟨ob, off + k * 6, none⟩ = some (.int .i64 (os k).k) := HRg.out wr HLw.out 0 _ rfl
            have d1 : wr.cell? ⟨ob, off + k * 6 + 1, none⟩ = some (.int .i64 (os k).p) := HRg.out wr HLw.out 1 _ rfl
            obtain ⟨⟨bs, hbs⟩, ⟨xs, hxs⟩⟩ := hopin.low (Below.refl W.heap.size W)
            have HPl : Hid (Calls Try.prog 20 #[.pointer (some ⟨E.b, 0, none⟩), .agg (os k).cs] wr fun e w' => e = .returned (.tuple #[]) ∧ Goes wr w' E2 W.heap.size (k + 3)) := by
              have h1 := play_any HW.out.e HW.out.hB HW.out.inv (by omega) (os k) bs xs (fun w' h => hbs w' (HLw.out.trans h)) (fun w' h => hxs w' (HLw.out.trans h)) hopin.2.2.1 hopin.2.2.2.1 hopin.2.2.2.2
              rw [HE2.out] at h1
              exact h1
            have HRd := hidJ (by have h1 := mid_round HW.out (by omega); rw [HE2.out] at h1; exact h1)
            have HTk := hidJ (by have h1 := mid_take HW.out (os k).p; rw [HE2.out] at h1; exact h1)
            clear hbs hxs hopin HWh
            generalize os k = o at *
            by_cases k13 : o.k = 13
            · have g13 : (o.k == 13) = true := by simpa using k13
              have HM : Hid (Md W wr W.heap.size sb E2 S (k + 3 + 1) k ⟨none, 0, 0⟩ []) := HW.out.up.none
              have HEb : Hid (E2.b = E.b) := HE2.out
              go_upto_region 26 with fail
              clear c2 d0 d1 HRg HPl HRd HTk
              have HF1 := hidJ (by have h1 := body_any (i := k) (by omega) HM.out; rw [HEb.out] at h1; exact h1)
              go_upto_region 32 with (first
                | (go_at_call 15; refine HF1.out.mono ?_; rintro e V1 ⟨a1, rfl, hl⟩; have HL1 := hidJ hl; clear HF1 hl)
                | (go_at_call 17; refine HL1.out.mono ?_; rintro e V2 ⟨⟨lv, rfl⟩, hl⟩; have HF2 := hidJ hl; clear HL1 hl)
                | (go_at_call 15; refine HF2.out.mono ?_; rintro e V3 ⟨a2, rfl, hl⟩; have HAp := hidJ hl; clear HF2 hl)
                | (go_at_call 21; refine HAp.out.mono ?_; rintro e V4 ⟨a4, c4, rfl, hl⟩; have HLs := hidJ hl; clear HAp hl)
                | (go_at_call 22; refine HLs.out.mono ?_; rintro e V5 ⟨rfl, hl⟩; have HBd := hidJ hl; clear HLs hl)
                | fail)
              have s0 := HBd.out.c0
              have s2 := HBd.out.c2
              go_upto_region 34 with fail
              clear s0 s2
              go_wp2_with (first
                | (refine wl_bsl rfl 62 39 3 _ rfl Try.underlying62 #[.slice none 0 0, .slice a1 E2.fs.length E2.fs.length, .slice a2 E2.fs.length E2.fs.length] (bsl_eq (by kernel_rfl) (bsF3 _ _ _ _ _ _ _ _ _)) ?_; intro V kv bv sv; have HPt := hidJ (by have h1 := HBd.out.put V kv bv sv; rw [HEb.out] at h1; exact h1); clear HBd kv bv sv)
                | (go_at_call 23; refine HPt.out.mono ?_; rintro e V6 ⟨rfl, hl⟩; have HF7 := hidJ hl; clear HPt hl)
                | (go_at_call 15; refine HF7.out.mono ?_; rintro e V7 ⟨a7, rfl, hl⟩; have HL8 := hidJ hl; clear HF7 hl)
                | (go_at_call 22; refine HL8.out.mono ?_; rintro e V8 ⟨rfl, hl⟩; have HWh := hidJ hl; clear HL8 hl)
                | (go_at_call 24; refine HWh.out.mono ?_; rintro e V9 ⟨rfl, S', hw⟩; have HWd := hidJ hw; clear HWh hw)
                | fail)
              exact ⟨⟨k + 1, E2, S', by omega, by omega, by go_num, (show Wd W V9 W.heap.size sb E2 S' (k + 1 + 3) (k + 1) from by have h1 := HWd.out; rwa [show k + 3 + 1 = k + 1 + 3 by omega] at h1), HEb.out⟩, by simp [intOf]; omega⟩
            have g13 : (o.k == 13) = false := by simpa using k13
            by_cases k11 : o.k = 11
            · have g11 : (o.k == 11) = true := by simpa using k11
              go_upto_region 26 with (first
                | (go_at_call 9; refine HRd.out.mono ?_; rintro e V0 ⟨a, nn, c, L, E1, rfl, hm, hEb⟩; have HM : Hid (Md W V0 W.heap.size sb E1 S (k + 3 + 1) k ⟨a, nn, c⟩ L) := hm; have HEb : Hid (E1.b = E.b) := hEb; clear hm hEb)
                | fail)
              clear c2 d0 d1 HRg HPl HRd HTk
              have HF1 := hidJ (by have h1 := body_any (i := k) (by omega) HM.out; rw [HEb.out] at h1; exact h1)
              go_upto_region 32 with (first
                | (go_at_call 15; refine HF1.out.mono ?_; rintro e V1 ⟨a1, rfl, hl⟩; have HL1 := hidJ hl; clear HF1 hl)
                | (go_at_call 17; refine HL1.out.mono ?_; rintro e V2 ⟨⟨lv, rfl⟩, hl⟩; have HF2 := hidJ hl; clear HL1 hl)
                | (go_at_call 15; refine HF2.out.mono ?_; rintro e V3 ⟨a2, rfl, hl⟩; have HAp := hidJ hl; clear HF2 hl)
                | (go_at_call 21; refine HAp.out.mono ?_; rintro e V4 ⟨a4, c4, rfl, hl⟩; have HLs := hidJ hl; clear HAp hl)
                | (go_at_call 22; refine HLs.out.mono ?_; rintro e V5 ⟨rfl, hl⟩; have HBd := hidJ hl; clear HLs hl)
                | fail)
              have s0 := HBd.out.c0
              have s2 := HBd.out.c2
              go_upto_region 34 with fail
              clear s0 s2
              go_wp2_with (first
                | (refine wl_bsl rfl 62 39 3 _ rfl Try.underlying62 #[.slice a nn c, .slice a1 E1.fs.length E1.fs.length, .slice a2 E1.fs.length E1.fs.length] (bsl_eq (by kernel_rfl) (bsF3 _ _ _ _ _ _ _ _ _)) ?_; intro V kv bv sv; have HPt := hidJ (by have h1 := HBd.out.put V kv bv sv; rw [HEb.out] at h1; exact h1); clear HBd kv bv sv)
                | (go_at_call 23; refine HPt.out.mono ?_; rintro e V6 ⟨rfl, hl⟩; have HF7 := hidJ hl; clear HPt hl)
                | (go_at_call 15; refine HF7.out.mono ?_; rintro e V7 ⟨a7, rfl, hl⟩; have HL8 := hidJ hl; clear HF7 hl)
                | (go_at_call 22; refine HL8.out.mono ?_; rintro e V8 ⟨rfl, hl⟩; have HWh := hidJ hl; clear HL8 hl)
                | (go_at_call 24; refine HWh.out.mono ?_; rintro e V9 ⟨rfl, S', hw⟩; have HWd := hidJ hw; clear HWh hw)
                | fail)
              exact ⟨⟨k + 1, E1, S', by omega, by omega, by go_num, (show Wd W V9 W.heap.size sb E1 S' (k + 1 + 3) (k + 1) from by have h1 := HWd.out; rwa [show k + 3 + 1 = k + 1 + 3 by omega] at h1), HEb.out⟩, by simp [intOf]; omega⟩
            have g11 : (o.k == 11) = false := by simpa using k11
            by_cases k12 : o.k = 12
            · have g12 : (o.k == 12) = true := by simpa using k12
              go_upto_region 24 with (first
                | (go_at_call 19; refine HTk.out.mono ?_; rintro e V0 ⟨ff, y, E1, rfl, hw1, hEb, hty⟩; have HW1 : Hid (Wd W V0 W.heap.size sb E1 S (k + 3 + 1) k) := hw1; have HEb : Hid (E1.b = E.b) := hEb; have HTy : Hid (y = 0 → TkY V0 W.heap.size sb E1 S ff) := hty; clear hw1 hEb hty)
                | (refine wl_allocZ rfl 43 rfl zFl ?_; intro W1 k1 b1 s1; have K1 : Hid (W1.heap[V0.heap.size]? = some (.cells f0.cs 43 (0, 0))) := k1; have B1 : Hid (Below V0.heap.size V0 W1) := b1; clear k1 b1 s1)
                | (refine wl_storeZ rfl 43 _ _ rfl (L := ff.cs.toList) rfl rfl K1.out iFl rfl (fx_one ff) ?_; intro W2 k2 kk2; have K2 : Hid (W2.heap[V0.heap.size]? = some (.cells ff.cs 43 (0, 0))) := k2; have KK2 : Hid (Mb.Kept W1 W2 (fun j => j = V0.heap.size)) := kk2; clear k2 kk2)
                | fail)
              have B2 : Hid (Below V0.heap.size V0 W2) := (show Below V0.heap.size V0 W2 from B1.out.trans (KK2.out.below B1.out.size (fun q hq e => by have e' : q = V0.heap.size := e; omega)))
              have HW2 : Hid (Wd W W2 W.heap.size sb E1 S (k + 3 + 1) k) := HW1.out.still B2.out
              have HT2 : Hid (y = 0 → TkY W2 W.heap.size sb E1 S ff) := fun hy => ⟨(HTy.out hy).byt.keep (Kept.ofBelow B2.out (fun _ => False)) (fun _ _ => id), (HTy.out hy).sz, (HTy.out hy).off⟩
              have HR2 : Hid (W2.rangeAt V0.heap.size 0 [.int .i64 ff.id, .int .i64 ff.src, .int .i64 ff.dst, .int .i64 ff.due, .slice ff.a ff.n ff.c]) := Ln.blk_range (L := [.int .i64 ff.id, .int .i64 ff.src, .int .i64 ff.dst, .int .i64 ff.due, .slice ff.a ff.n ff.c]) K2.out
              clear c2 d0 d1 HRg HPl HRd HTk K1 B1 K2 KK2 B2 HW1 HTy
              by_cases hy : y = 0
              · subst hy
                have HT3 : Hid (TkY W2 W.heap.size sb E1 S ff) := HT2.out rfl
                go_upto_region 26 with (first
                  | (refine Ln.load_mid 43 (.tmp 11) HR2.out _ Try.underlying43 rfl iFl5 rfl rfl rfl ?_)
                  | (refine wl_bsl rfl 39 43 1 _ rfl Try.underlying39 #[.int .i64 ff.id, .int .i64 ff.src, .int .i64 ff.dst, .int .i64 ff.due, .slice ff.a ff.n ff.c] (bsl_eq (by kernel_rfl) (bsFl ff.id ff.src ff.dst ff.due ff.a ff.n ff.c)) ?_; intro V kv bv sv)
                  | (refine app_g rfl _ _ 39 rfl W2.heap.size 43 fi (.agg #[.int .i64 0, .int .i64 0, .int .i64 0, .int .i64 0, .slice none 0 0]) 5 56 Try.underlying39 fih fiz0 fiz1 fiz2 rfl (by omega) (.slice none 0 0) 0 [] rfl (own_nil _ _) (some ⟨W2.heap.size, 0, none⟩) 1 1 [.int .i64 ff.id, .int .i64 ff.src, .int .i64 ff.dst, .int .i64 ff.due, .slice ff.a ff.n ff.c] rfl (fun h => by cases h) rfl (fun ad had j u hu => by cases had; rw [Addr.add_lit, Nat.zero_add, blk_cell kv]; simpa using hu) (one5f _ _ _ _ _ _ _) (by unfold maxLen; omega) (by omega) bv.size ?_; intro v1 Y ho2 hk2 he2; rw [Nat.zero_add, List.nil_append] at ho2; obtain ⟨a, c, rfl⟩ := own_sh ho2.out; have HM : Hid (Md W Y W.heap.size sb E1 S (k + 3 + 1) k ⟨a, 1, c⟩ [ff]) := HW2.out.one HT3.out (bv.trans (hk2.out.below bv.size (fun q hq e => by simp [Value.ownBlock] at e))) ho2.out; clear ho2 hk2 he2 kv bv sv)
                  | fail)
                clear HT3 HT2 HR2 HW2
                have HF1 := hidJ (by have h1 := body_any (i := k) (by omega) HM.out; rw [HEb.out] at h1; exact h1)
                go_upto_region 32 with (first
                  | (go_at_call 15; refine HF1.out.mono ?_; rintro e V1 ⟨a1, rfl, hl⟩; have HL1 := hidJ hl; clear HF1 hl)
                  | (go_at_call 17; refine HL1.out.mono ?_; rintro e V2 ⟨⟨lv, rfl⟩, hl⟩; have HF2 := hidJ hl; clear HL1 hl)
                  | (go_at_call 15; refine HF2.out.mono ?_; rintro e V3 ⟨a2, rfl, hl⟩; have HAp := hidJ hl; clear HF2 hl)
                  | (go_at_call 21; refine HAp.out.mono ?_; rintro e V4 ⟨a4, c4, rfl, hl⟩; have HLs := hidJ hl; clear HAp hl)
                  | (go_at_call 22; refine HLs.out.mono ?_; rintro e V5 ⟨rfl, hl⟩; have HBd := hidJ hl; clear HLs hl)
                  | fail)
                have s0 := HBd.out.c0
                have s2 := HBd.out.c2
                go_upto_region 34 with fail
                clear s0 s2
                go_wp2_with (first
                  | (refine wl_bsl rfl 62 39 3 _ rfl Try.underlying62 #[.slice a 1 c, .slice a1 E1.fs.length E1.fs.length, .slice a2 E1.fs.length E1.fs.length] (bsl_eq (by kernel_rfl) (bsF3 _ _ _ _ _ _ _ _ _)) ?_; intro V kv bv sv; have HPt := hidJ (by have h1 := HBd.out.put V kv bv sv; rw [HEb.out] at h1; exact h1); clear HBd kv bv sv)
                  | (go_at_call 23; refine HPt.out.mono ?_; rintro e V6 ⟨rfl, hl⟩; have HF7 := hidJ hl; clear HPt hl)
                  | (go_at_call 15; refine HF7.out.mono ?_; rintro e V7 ⟨a7, rfl, hl⟩; have HL8 := hidJ hl; clear HF7 hl)
                  | (go_at_call 22; refine HL8.out.mono ?_; rintro e V8 ⟨rfl, hl⟩; have HWh := hidJ hl; clear HL8 hl)
                  | (go_at_call 24; refine HWh.out.mono ?_; rintro e V9 ⟨rfl, S', hw⟩; have HWd := hidJ hw; clear HWh hw)
                  | fail)
                exact ⟨⟨k + 1, E1, S', by omega, by omega, by go_num, (show Wd W V9 W.heap.size sb E1 S' (k + 1 + 3) (k + 1) from by have h1 := HWd.out; rwa [show k + 3 + 1 = k + 1 + 3 by omega] at h1), HEb.out⟩, by simp [intOf]; omega⟩
              · have y1 : (y == 0) = false := by simpa using hy
                have HM : Hid (Md W W2 W.heap.size sb E1 S (k + 3 + 1) k ⟨none, 0, 0⟩ []) := HW2.out.none
                go_upto_region 26 with fail
                clear HT2 HR2 HW2 hy y1
                have HF1 := hidJ (by have h1 := body_any (i := k) (by omega) HM.out; rw [HEb.out] at h1; exact h1)
                go_upto_region 32 with (first
                  | (go_at_call 15; refine HF1.out.mono ?_; rintro e V1 ⟨a1, rfl, hl⟩; have HL1 := hidJ hl; clear HF1 hl)
                  | (go_at_call 17; refine HL1.out.mono ?_; rintro e V2 ⟨⟨lv, rfl⟩, hl⟩; have HF2 := hidJ hl; clear HL1 hl)
                  | (go_at_call 15; refine HF2.out.mono ?_; rintro e V3 ⟨a2, rfl, hl⟩; have HAp := hidJ hl; clear HF2 hl)
                  | (go_at_call 21; refine HAp.out.mono ?_; rintro e V4 ⟨a4, c4, rfl, hl⟩; have HLs := hidJ hl; clear HAp hl)
                  | (go_at_call 22; refine HLs.out.mono ?_; rintro e V5 ⟨rfl, hl⟩; have HBd := hidJ hl; clear HLs hl)
                  | fail)
                have s0 := HBd.out.c0
                have s2 := HBd.out.c2
                go_upto_region 34 with fail
                clear s0 s2
                go_wp2_with (first
                  | (refine wl_bsl rfl 62 39 3 _ rfl Try.underlying62 #[.slice none 0 0, .slice a1 E1.fs.length E1.fs.length, .slice a2 E1.fs.length E1.fs.length] (bsl_eq (by kernel_rfl) (bsF3 _ _ _ _ _ _ _ _ _)) ?_; intro V kv bv sv; have HPt := hidJ (by have h1 := HBd.out.put V kv bv sv; rw [HEb.out] at h1; exact h1); clear HBd kv bv sv)
                  | (go_at_call 23; refine HPt.out.mono ?_; rintro e V6 ⟨rfl, hl⟩; have HF7 := hidJ hl; clear HPt hl)
                  | (go_at_call 15; refine HF7.out.mono ?_; rintro e V7 ⟨a7, rfl, hl⟩; have HL8 := hidJ hl; clear HF7 hl)
                  | (go_at_call 22; refine HL8.out.mono ?_; rintro e V8 ⟨rfl, hl⟩; have HWh := hidJ hl; clear HL8 hl)
                  | (go_at_call 24; refine HWh.out.mono ?_; rintro e V9 ⟨rfl, S', hw⟩; have HWd := hidJ hw; clear HWh hw)
                  | fail)
                exact ⟨⟨k + 1, E1, S', by omega, by omega, by go_num, (show Wd W V9 W.heap.size sb E1 S' (k + 1 + 3) (k + 1) from by have h1 := HWd.out; rwa [show k + 3 + 1 = k + 1 + 3 by omega] at h1), HEb.out⟩, by simp [intOf]; omega⟩
            have g12 : (o.k == 12) = false := by simpa using k12
            have HRw : Hid (wr.rangeAt ob (off + k * 6) o.cs.toList) := HRg.out wr HLw.out
            go_upto_region 26 with (first
              | (refine Ln.load_mid 46 (.tmp 92) HRw.out _ Try.underlying46 rfl iOp rfl rfl rfl ?_)
              | (go_at_call 20; refine HPl.out.mono ?_; rintro e V0 ⟨rfl, hg⟩; have HG : Hid (Goes wr V0 E2 W.heap.size (k + 3)) := hg; clear hg)
              | fail)
            obtain ⟨E1, hw1, hEb⟩ := HW.out.goes HG.out
            have HM : Hid (Md W V0 W.heap.size sb E1 S (k + 3 + 1) k ⟨none, 0, 0⟩ []) := hw1.none
            have HEb : Hid (E1.b = E.b) := hEb.trans HE2.out
            clear c2 d0 d1 HRg HRw HPl HRd HTk HG hw1 hEb
            have HF1 := hidJ (by have h1 := body_any (i := k) (by omega) HM.out; rw [HEb.out] at h1; exact h1)
            go_upto_region 32 with (first
              | (go_at_call 15; refine HF1.out.mono ?_; rintro e V1 ⟨a1, rfl, hl⟩; have HL1 := hidJ hl; clear HF1 hl)
              | (go_at_call 17; refine HL1.out.mono ?_; rintro e V2 ⟨⟨lv, rfl⟩, hl⟩; have HF2 := hidJ hl; clear HL1 hl)
              | (go_at_call 15; refine HF2.out.mono ?_; rintro e V3 ⟨a2, rfl, hl⟩; have HAp := hidJ hl; clear HF2 hl)
              | (go_at_call 21; refine HAp.out.mono ?_; rintro e V4 ⟨a4, c4, rfl, hl⟩; have HLs := hidJ hl; clear HAp hl)
              | (go_at_call 22; refine HLs.out.mono ?_; rintro e V5 ⟨rfl, hl⟩; have HBd := hidJ hl; clear HLs hl)
              | fail)
            have s0 := HBd.out.c0
            have s2 := HBd.out.c2
            go_upto_region 34 with fail
            clear s0 s2
            go_wp2_with (first
              | (refine wl_bsl rfl 62 39 3 _ rfl Try.underlying62 #[.slice none 0 0, .slice a1 E1.fs.length E1.fs.length, .slice a2 E1.fs.length E1.fs.length] (bsl_eq (by kernel_rfl) (bsF3 _ _ _ _ _ _ _ _ _)) ?_; intro V kv bv sv; have HPt := hidJ (by have h1 := HBd.out.put V kv bv sv; rw [HEb.out] at h1; exact h1); clear HBd kv bv sv)
              | (go_at_call 23; refine HPt.out.mono ?_; rintro e V6 ⟨rfl, hl⟩; have HF7 := hidJ hl; clear HPt hl)
              | (go_at_call 15; refine HF7.out.mono ?_; rintro e V7 ⟨a7, rfl, hl⟩; have HL8 := hidJ hl; clear HF7 hl)
              | (go_at_call 22; refine HL8.out.mono ?_; rintro e V8 ⟨rfl, hl⟩; have HWh := hidJ hl; clear HL8 hl)
              | (go_at_call 24; refine HWh.out.mono ?_; rintro e V9 ⟨rfl, S', hw⟩; have HWd := hidJ hw; clear HWh hw)
              | fail)
            exact ⟨⟨k + 1, E1, S', by omega, by omega, by go_num, (show Wd W V9 W.heap.size sb E1 S' (k + 1 + 3) (k + 1) from by have h1 := HWd.out; rwa [show k + 3 + 1 = k + 1 + 3 by omega] at h1), HEb.out⟩, by simp [intOf]; omega⟩
          · obtain rfl : k = 60 := by omega
            go_wp2_with (first
              | (go_at_call 24; refine HWh.out.mono ?_; rintro e V ⟨rfl, hb⟩; have HV : Hid (Below wr.heap.size wr V) := hb; clear hb)
              | fail)
            go_ret
            exact ⟨rfl, bstep Hb.out (bstep HLw.out HV.out)⟩
        · obtain rfl : k = n := by omega
          go_wp2_with (first
            | (go_at_call 24; refine HWh.out.mono ?_; rintro e V ⟨rfl, hb⟩; have HV : Hid (Below wr.heap.size wr V) := hb; clear hb)
            | fail)
          go_ret
          exact ⟨rfl, bstep Hb.out (bstep HLw.out HV.out)⟩
theorem own_any (nd rm : Int) (oa : Option Addr) (n oc : Nat) (os : Nat → Opx) (ho : RdOps w oa n os) : Calls Try.prog 5 #[.agg (kc nd rm oa n oc)] w fun e w' => e = .returned (.bool true) ∧ Below w.heap.size w w' := by
  by_cases hb : nd < 2 ∨ 16 < nd
  · exact own_no nd rm oa n oc hb
  · obtain ⟨k, rfl⟩ : ∃ k : Nat, nd = k := ⟨nd.toNat, by omega⟩
    exact own_ok k rm oa n oc os (by omega) (by omega) ho
end
end Go.Proofs.Ytnhhjelplmdloaa.Et
