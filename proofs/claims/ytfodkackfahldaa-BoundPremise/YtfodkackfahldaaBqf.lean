import Derived.Test.YtfodkackfahldaaBqe
namespace Go.Proofs.Ytfodkackfahldaa.Lo
open Go.RowKit
set_option linter.unusedVariables false
set_option linter.unusedSimpArgs false

set_option maxRecDepth 100000 in
set_option maxHeartbeats 4000000 in
theorem premise_any (no wi ba st ca ro fl : Int) (va : Option Addr) (vn vc : Nat) (vs : List Int) (r : Bool) (E : Int) (ea : Option Addr) (en ec : Nat) (es : List Em) (ao : Option Addr) (n c : Nat) (xs : List Int) (w : World) (h : Cf w no wi ba st ca ro fl va vn vc vs r E) (hev : EvR w ea en es) (hr : Ri w ao n c xs) (hn : n ≤ 140737488355328) : Calls Try.prog 9 #[.agg #[.int .i64 no, .int .i64 wi, .int .i64 ba, .int .i64 st, .int .i64 ca, .int .i64 ro, .int .i64 fl, .slice va vn vc, .slice ea en ec], .slice ao n c] w fun e w' => e = .returned (.tuple #[.int .i64 (pm E en no ba fl es xs).1, .int .i64 (pm E en no ba fl es xs).2.1, .int .i64 (pm E en no ba fl es xs).2.2]) ∧ Below w.heap.size w w' := by
  have HB : Hid (Below w.heap.size w (w.alloc (.cells #[.int .i64 no, .int .i64 wi, .int .i64 ba, .int .i64 st, .int .i64 ca, .int .i64 ro, .int .i64 fl, .slice va vn vc, .slice ea en ec] 27))) := bsp _ _ _
  have hk := heap_new w #[.int .i64 no, .int .i64 wi, .int .i64 ba, .int .i64 st, .int .i64 ca, .int .i64 ro, .int .i64 fl, .slice va vn vc, .slice ea en ec] 27
  have hWs : w.heap.size < (w.alloc (.cells #[.int .i64 no, .int .i64 wi, .int .i64 ba, .int .i64 st, .int .i64 ca, .int .i64 ro, .int .i64 fl, .slice va vn vc, .slice ea en ec] 27)).heap.size := by simp
  generalize hW : w.alloc (.cells #[.int .i64 no, .int .i64 wi, .int .i64 ba, .int .i64 st, .int .i64 ca, .int .i64 ro, .int .i64 fl, .slice va vn vc, .slice ea en ec] 27) = W at *
  have c0 : W.cell? ⟨w.heap.size, 0, none⟩ = some (.int .i64 no) := blk_cell hk 0
  have c1 : W.cell? ⟨w.heap.size, 1, none⟩ = some (.int .i64 wi) := blk_cell hk 1
  have c2 : W.cell? ⟨w.heap.size, 2, none⟩ = some (.int .i64 ba) := blk_cell hk 2
  have c3 : W.cell? ⟨w.heap.size, 3, none⟩ = some (.int .i64 st) := blk_cell hk 3
  have c4 : W.cell? ⟨w.heap.size, 4, none⟩ = some (.int .i64 ca) := blk_cell hk 4
  have c5 : W.cell? ⟨w.heap.size, 5, none⟩ = some (.int .i64 ro) := blk_cell hk 5
  have c6 : W.cell? ⟨w.heap.size, 6, none⟩ = some (.int .i64 fl) := blk_cell hk 6
  have c7 : W.cell? ⟨w.heap.size, 7, none⟩ = some (.slice va vn vc) := blk_cell hk 7
  have c8 : W.cell? ⟨w.heap.size, 8, none⟩ = some (.slice ea en ec) := blk_cell hk 8
  have hCW := h.below HB.out
  have hRW := hr.below HB.out
  have HCk : Hid (Calls Try.prog 21 #[.agg #[.int .i64 no, .int .i64 wi, .int .i64 ba, .int .i64 st, .int .i64 ca, .int .i64 ro, .int .i64 fl, .slice va vn vc, .slice ea en ec], .slice ao n c] W fun e w' => e = .returned (.int .i64 (pE E en no fl xs)) ∧ Below W.heap.size W w') := checkPremise_any no wi ba st ca ro fl va vn vc vs r E ea en ec ao n c xs W hCW hRW hn
  unfold pm
  by_cases hE : pE E en no fl xs ≠ 0
  · rw [if_pos hE]
    have hE1 : (pE E en no fl xs != 0) = true := by simpa using hE
    generalize pE E en no fl xs = E2 at *
    clear hk h hr hCW hRW hev hE
    go_enter Try.func9, Try.ntmps9
    go_wp2_with fail
    refine HCk.out.mono ?_
    rintro e w1 ⟨rfl, hb1⟩
    have HB1 : Hid (Below w.heap.size w w1) := bst HB.out hb1
    clear hb1 HCk
    go_wp2_with fail
    (try simp only [Exit.inBlock, Exit.then])
    refine bodyPost_ret (results_tmp3 rfl _ _ _) rfl ?_
    exact ⟨rfl, HB1.out⟩
  · rw [if_neg hE]
    have hE0 : pE E en no fl xs = 0 := by omega
    rw [hE0] at HCk
    have hE0' : E = 0 := by
      unfold pE at hE0
      by_cases h0 : E = 0
      · exact h0
      · rw [if_pos h0] at hE0; exact absurd hE0 h0
    subst hE0'
    have hen : en ≤ 4000 := by
      unfold pE at hE0
      rw [if_neg (by simp)] at hE0
      by_cases h1 : 4000 < en
      · rw [if_pos h1] at hE0; cases hE0
      · omega
    have hset : setB no 0 xs = true := by
      unfold pE at hE0
      rw [if_neg (by simp), if_neg (by omega)] at hE0
      by_cases h1 : (setB no 0 xs && decide (fl ≤ 2305843009213693952)) = true
      · simp at h1; exact h1.1
      · rw [if_neg h1] at hE0; cases hE0
    have hgd : headC no wi ba st ca ro fl vn = true := by
      rcases h.two with h1 | h1
      · omega
      · exact h1.2
    have hh := headC_true hgd
    obtain ⟨N, rfl⟩ : ∃ N : Nat, no = (N : Int) := ⟨no.toNat, by omega⟩
    have n1 : 1 ≤ N := by omega
    have n2 : N ≤ 16 := by omega
    rw [show ((N : Int).toNat) = N from rfl]
    have hxm : ∀ p ∈ xs, 0 ≤ p ∧ p < 16 := fun p hp => by have := setB_mem xs (Int.le_refl 0) hset p hp; omega
    have HNW : Hid (∀ w1, Below W.heap.size W w1 → Calls Try.prog 22 #[.agg #[.int .i64 (N : Int), .int .i64 wi, .int .i64 ba, .int .i64 st, .int .i64 ca, .int .i64 ro, .int .i64 fl, .slice va vn vc], .slice ao n c] w1 fun e w' => ∃ b, e = .returned (.pointer (some ⟨b, 0, none⟩)) ∧ w1.heap.size ≤ b ∧ Nb w' b (inF (wtF N ba) xs) ∧ Below w1.heap.size w1 w') := (show ∀ w1, _ from fun w1 hb => newWatch_any N wi ba st ca ro fl va vn vc ao n c xs w1 n1 n2 (hRW.below hb) hn hxm)
    have HI0 : Hid (Iv N (inF (wtF N ba) xs)) := (show Iv _ _ from Iv.inF xs (Iv.wt N ba) (fun p hp => (hxm p hp).1))
    have HEW : Hid (EvR W ea en es) := (show EvR _ _ _ _ from hev.on HB.out)
    have HBc : Hid (∀ w1, Below W.heap.size W w1 → ∀ (i : Nat) v, W.cell? ⟨w.heap.size, i, none⟩ = some v → w1.cell? ⟨w.heap.size, i, none⟩ = some v) := (show ∀ w1, _ from fun w1 hb i v hc => below_at hb hc)
    unfold pmF
    generalize hf00 : inF (wtF N ba) xs = f0 at *
    generalize hq : (if prK N f0 es en 290 = -1 then ((0 : Int), (0 : Int), (180 : Int)) else (prK N f0 es en 290, prK N f0 es en 291, 0)) = qq at *
    have HQ : Hid ((if prK N f0 es en 290 = -1 then ((0 : Int), (0 : Int), (180 : Int)) else (prK N f0 es en 290, prK N f0 es en 291, 0)) = qq) := hq
    clear hq
    clear hf00 hE0 hE hk h hr hCW hRW hev hset hgd hh hxm
    go_enter Try.func9, Try.ntmps9
    go_wp2_with fail
    refine HCk.out.mono ?_
    rintro e w1 ⟨rfl, hb1⟩
    have hw1 := HNW.out w1 hb1
    have HW1 : Hid (Calls Try.prog 22 #[.agg #[.int .i64 (N : Int), .int .i64 wi, .int .i64 ba, .int .i64 st, .int .i64 ca, .int .i64 ro, .int .i64 fl, .slice va vn vc], .slice ao n c] w1 fun e w' => ∃ b, e = .returned (.pointer (some ⟨b, 0, none⟩)) ∧ w1.heap.size ≤ b ∧ Nb w' b f0 ∧ Below w1.heap.size w1 w') := hw1
    have HB1 : Hid (Below W.heap.size W w1) := hb1
    have d0 := HBc.out w1 hb1 0 _ c0
    have d1 := HBc.out w1 hb1 1 _ c1
    have d2 := HBc.out w1 hb1 2 _ c2
    have d3 := HBc.out w1 hb1 3 _ c3
    have d4 := HBc.out w1 hb1 4 _ c4
    have d5 := HBc.out w1 hb1 5 _ c5
    have d6 := HBc.out w1 hb1 6 _ c6
    have d7 := HBc.out w1 hb1 7 _ c7
    have HC8 : Hid (W.cell? ⟨w.heap.size, 8, none⟩ = some (.slice ea en ec)) := c8
    clear hb1 HCk HNW hw1 c0 c1 c2 c3 c4 c5 c6 c7 c8
    go_wp2_with fail
    refine HW1.out.mono ?_
    rintro e w2 ⟨b, rfl, hble, hnb2, hb2⟩
    have hb02 : Below W.heap.size W w2 := HB1.out.trans (hb2.mono HB1.out.size)
    have hBb : W.heap.size ≤ b := Nat.le_trans HB1.out.size hble
    have HL0 : Hid (Calls Try.prog 23 #[.pointer (some ⟨b, 0, none⟩), .int .i64 0] w2 fun r w' => r = .returned (.tuple #[]) ∧ Nb w' b (loF f0 N 0) ∧ Below W.heap.size w2 w') := look_any b W.heap.size f0 N 0 w2 hnb2 hBb HI0.out.n n1 n2
    have HB2 : Hid (Below W.heap.size W w2) := hb02
    clear hnb2 hb2 hb02 HW1 HB1 d0 d1 d2 d3 d4 d5 d6 d7 hble
    go_wp2_with fail
    refine HL0.out.mono ?_
    rintro e w3 ⟨rfl, hnb3, hb3⟩
    have HN3 : Hid (Nb w3 b (prK N f0 es 0)) := hnb3
    have HB3 : Hid (Below W.heap.size W w3) := HB2.out.trans hb3
    have d8 := HBc.out w3 HB3.out 8 _ HC8.out
    clear hnb3 hb3 HB2 HL0
    go_wp2_with fail
    clear d8
    go_loopw [25] (fun x wr => ∃ (j : Nat), j ≤ en ∧ x = .int .i64 j ∧ Hid (Nb wr b (prK N f0 es j)) ∧ Hid (Below W.heap.size W wr)) (fun x _ => en - (intOf x).toNat)
    case atStart => exact ⟨0, Nat.zero_le _, rfl, HN3, HB3⟩
    case round =>
      obtain ⟨j, hj, rfl, h1, hbl⟩ := hrel
      have hIv : Hid (Iv N (prK N f0 es j)) := (show Iv _ _ from HI0.out.pr n2 es j)
      by_cases hjn : j < en
      · have j1 : (0 : Int) ≤ (j : Int) := Int.natCast_nonneg _
        have j2 : (j : Int) < (en : Int) := by omega
        rcases HEW.out.row with h0 | ⟨eb, eo, rfl, hrow⟩
        · omega
        have HEVW : Hid (W.rangeAt eb (eo + j * 13) (es.getD j em0).cs) := hrow j hjn
        have hsdj := HEW.out.sd j hjn
        have hstep : Hid (prK N f0 es (j + 1) = loF (haE (diF (prK N f0 es j) (es.getD j em0)) N (es.getD j em0)) N ((j : Int) + 1)) := (show _ = _ from rfl)
        have d8w := HBc.out wr hbl.out 8 _ HC8.out
        clear hrow
        generalize es.getD j em0 = e at *
        have hebB : eb < W.heap.size := World.block_lt_of_cell? W _ (HEVW.out 0 _ rfl)
        have HSdW : Hid (Sd W W.heap.size e.sa e.sn e.sc e.xs) := (show Sd _ _ _ _ _ _ from Sd.of hsdj.1 (Nat.le_refl _))
        have HSl : Hid (e.sn ≤ 140737488355328) := (show _ ≤ _ from hsdj.2)
        have HEV0 : Hid (wr.rangeAt eb (eo + j * 13) e.cs) := (show wr.rangeAt _ _ _ from belowB_range hbl.out hebB HEVW.out)
        clear hsdj
        obtain ⟨f, hff⟩ : ∃ f, prK N f0 es j = f := ⟨_, rfl⟩
        rw [hff] at h1 hIv hstep
        clear hff
        cases hdi : diB f e.k e.a
        · have hfd : diF f e = f := by unfold diF; rw [if_neg (by rw [hdi]; exact Bool.false_ne_true)]
          have HD1 : Hid (Calls Try.prog 24 #[.pointer (some ⟨b, 0, none⟩), .agg (e.cs).toArray] wr fun r w' => r = .returned (.bool false) ∧ Below wr.heap.size wr w') := (show Calls _ _ _ _ _ from by
            have := disturbs_any b f e.k e.a e.b e.n e.v4 e.v5 e.v6 e.v7 e.v8 e.v9 e.v10 e.v11 (.slice e.sa e.sn e.sc) wr h1.out (by have := hIv.out.n; omega)
            rw [hdi] at this
            exact this)
          clear hdi
          go_wp2_with (first | (refine Ln.at_load 36 _ rfl ?_; refine Ln.load_mid 36 _ HEV0.out _ Try.underlying36 rfl (iEv e) rfl rfl rfl ?_) | fail)
          refine HD1.out.mono ?_
          rintro r1 wr2 ⟨rfl, hb1⟩
          have hNb1 : Nb wr2 b f := h1.out.on hb1
          have hBr1 : Below W.heap.size W wr2 := hbl.out.trans (hb1.mono hbl.out.size)
          have d8a := below_at hb1 d8w
          have HD2 : Hid (Nb wr2 b (diF f e)) := (show Nb _ _ _ from by rw [hfd]; exact hNb1)
          have HBr2 : Hid (Below W.heap.size W wr2) := hBr1
          have d8 := d8a
          clear d8a hNb1 hBr1 hb1 h1 hbl HD1 d8w
          go_wp2_with fail
          have hBwr2 : W.heap.size ≤ wr2.heap.size := HBr2.out.size
          have HEV : Hid (wr2.rangeAt eb (eo + j * 13) e.cs) := (show wr2.rangeAt _ _ _ from belowB_range HBr2.out hebB HEVW.out)
          have HSd : Hid (Sd wr2 W.heap.size e.sa e.sn e.sc e.xs) := (show Sd _ _ _ _ _ _ from HSdW.out.on HBr2.out)
          have hf0 : Hid (diF f e 0 = (N : Int)) := (show _ = _ from (hIv.out.di e).n)
          have HP2 : Hid (∀ i, 17 ≤ i → i < 273 → -16 ≤ diF f e i ∧ diF f e i ≤ 16) := (hIv.out.di e).p
          clear hfd
          refine wp_region_held_drew (S := (fun w' => w'.cell? ⟨w.heap.size, 8, none⟩ = some (.slice (some ⟨eb, eo, none⟩) en ec) ∧ w'.rangeAt eb (eo + j * 13) e.cs)) (by kernel_rfl) ⟨(below_at (drew_bel _) d8), (range_on HEV.out (drew_bel _))⟩ (fun hHeld => ?_)
          simp only [Act.put, List.size_toArray, List.length_cons, List.length_nil, Nat.zero_add]
          refine takeD (i := 0) (d := 38) (v := .pointer (some ⟨b, 0, none⟩)) rfl (by kernel_rfl) (by kernel_rfl) (by kernel_rfl) (by kernel_rfl) (fun _ _ _ h => h) (Or.inl ⟨by rfl, fun w' hS => by go_simp⟩) hHeld ?_
          simp only [Act.put, List.setIfInBounds_toArray, List.set_cons_zero, List.set_cons_succ]
          refine takeD (i := 1) (d := 39) (v := .pointer (some ⟨b, 0, none⟩)) rfl (by kernel_rfl) (by kernel_rfl) (by kernel_rfl) (by kernel_rfl) (fun _ _ _ h => h) (Or.inl ⟨by rfl, fun w' hS => by go_simp⟩) hHeld ?_
          simp only [Act.put, List.setIfInBounds_toArray, List.set_cons_zero, List.set_cons_succ]
          refine takeD (i := 2) (d := 40) (v := .pointer (some ⟨b, 0, none⟩)) rfl (by kernel_rfl) (by kernel_rfl) (by kernel_rfl) (by kernel_rfl) (fun _ _ _ h => h) (Or.inl ⟨by rfl, fun w' hS => by go_simp⟩) hHeld ?_
          simp only [Act.put, List.setIfInBounds_toArray, List.set_cons_zero, List.set_cons_succ]
          refine takeD (i := 3) (d := 41) (v := .pointer (some ⟨w.heap.size, 8, none⟩)) rfl (by kernel_rfl) (by kernel_rfl) (by kernel_rfl) (by kernel_rfl) (fun _ _ _ h => h) (Or.inl ⟨by rfl, fun w' hS => by go_simp⟩) hHeld ?_
          simp only [Act.put, List.setIfInBounds_toArray, List.set_cons_zero, List.set_cons_succ]
          refine takeD (i := 4) (d := 42) (v := .slice (some ⟨eb, eo, none⟩) en ec) rfl (by kernel_rfl) (by kernel_rfl) (by kernel_rfl) (by kernel_rfl) (fun _ _ _ h => h) (Or.inl ⟨by rfl, fun w' hS => by (obtain ⟨s0, s1⟩ := hS; go_simp)⟩) hHeld ?_
          simp only [Act.put, List.setIfInBounds_toArray, List.set_cons_zero, List.set_cons_succ]
          refine takeD (i := 5) (d := 43) (v := .int .i64 (j : Int)) rfl (by kernel_rfl) (by kernel_rfl) (by kernel_rfl) (by kernel_rfl) (fun _ _ _ h => h) (Or.inl ⟨by rfl, fun w' hS => by go_simp⟩) hHeld ?_
          simp only [Act.put, List.setIfInBounds_toArray, List.set_cons_zero, List.set_cons_succ]
          refine takeD (i := 6) (d := 44) (v := .pointer (some ⟨eb, eo + j * 13, none⟩)) rfl (by kernel_rfl) (by kernel_rfl) (by kernel_rfl) (by kernel_rfl) (fun _ _ _ h => h) (Or.inl ⟨by rfl, fun w' hS => by go_simp⟩) hHeld ?_
          simp only [Act.put, List.setIfInBounds_toArray, List.set_cons_zero, List.set_cons_succ]
          refine takeD (i := 7) (d := 45) (v := .agg (e.cs).toArray) rfl (by kernel_rfl) (by kernel_rfl) (by kernel_rfl) (by kernel_rfl) (fun _ _ _ h => h) (Or.inl ⟨by rfl, fun w' hS => by (obtain ⟨s0, s1⟩ := hS; exact run_loadop 36 _ rfl rfl s1 Try.underlying36 rfl (iEv e))⟩) hHeld ?_
          simp only [Act.put, List.setIfInBounds_toArray, List.set_cons_zero, List.set_cons_succ]
          have hbD1 : Below wr2.heap.size wr2 wr2.drew := drew_bel _
          have q0 := below_at hbD1 d8
          generalize wr2.drew = D1 at *
          refine wpAnyH_ready (rs := [8]) (by kernel_rfl) (by simp) ?_
          refine AllReadyH.cons rfl (fun K hK => ?_) AllReadyH.nil
          go_simp
          refine (happen_any b W.heap.size (diF f e) N e _ (HD2.out.on hbD1) hBb hf0.out n1 n2 HP2.out (HSd.out.on (hbD1.mono hBwr2)) HSl.out).mono ?_
          rintro r5 w5 ⟨rfl, hn5, hb5⟩
          refine hK.out _ _ ⟨(belowB_at hb5 hWs q0), (belowB_range hb5 hebB (range_on HEV.out hbD1))⟩ (fun hHeld => ?_)
          clear hK K
          refine wpAnyH_done (by kernel_rfl) ?_ _
          clear hHeld
          have HN5 : Hid (Nb w5 b (haE (diF f e) N e)) := hn5
          have HB5 : Hid (Below W.heap.size W w5) := (show Below _ _ _ from (HBr2.out.trans (hbD1.mono hBwr2)).trans hb5)
          clear q0 hn5 hb5 hbD1 HD2 HBr2 HEV d8 hBwr2
          clear hf0 HP2 HSd
          have HLk : Hid (Calls Try.prog 23 #[.pointer (some ⟨b, 0, none⟩), .int .i64 ((j : Int) + 1)] w5 fun r w' => r = .returned (.tuple #[]) ∧ Nb w' b (loF (haE (diF f e) N e) N ((j : Int) + 1)) ∧ Below W.heap.size w5 w') := look_any b W.heap.size _ N _ w5 HN5.out hBb ((hIv.out.di e).ha n2 e).n n1 n2
          go_wp2_with fail
          refine HLk.out.mono ?_
          rintro r6 w6 ⟨rfl, hn6, hb6⟩
          have HN6 : Hid (Nb w6 b (prK N f0 es (j + 1))) := (show Nb _ _ _ from by
            rw [hstep.out]
            exact hn6)
          have HB6 : Hid (Below W.heap.size W w6) := HB5.out.trans hb6
          clear hn6 hb6 HN5 HB5 HLk
          go_wp2_with fail
          go_roundw
          case rel => exact ⟨j + 1, by omega, by go_num, HN6, HB6⟩
          case measure => simp [intOf]; omega
        · have hfd : diF f e = upF f 290 (-1) := by unfold diF; rw [if_pos hdi]
          have HD1 : Hid (Calls Try.prog 24 #[.pointer (some ⟨b, 0, none⟩), .agg (e.cs).toArray] wr fun r w' => r = .returned (.bool true) ∧ Below wr.heap.size wr w') := (show Calls _ _ _ _ _ from by
            have := disturbs_any b f e.k e.a e.b e.n e.v4 e.v5 e.v6 e.v7 e.v8 e.v9 e.v10 e.v11 (.slice e.sa e.sn e.sc) wr h1.out (by have := hIv.out.n; omega)
            rw [hdi] at this
            exact this)
          clear hdi
          go_wp2_with (first | (refine Ln.at_load 36 _ rfl ?_; refine Ln.load_mid 36 _ HEV0.out _ Try.underlying36 rfl (iEv e) rfl rfl rfl ?_) | fail)
          refine HD1.out.mono ?_
          rintro r1 wr1 ⟨rfl, hb1⟩
          have hNb1 : Nb wr1 b f := h1.out.on hb1
          have hBr1 : Below W.heap.size W wr1 := hbl.out.trans (hb1.mono hbl.out.size)
          have d8a := below_at hb1 d8w
          have z290 := hNb1.fz 290
          have c290 := hNb1.cell (i := 290) (by omega)
          have HD2 : Hid (Nb (wr1.setCell ⟨b, 290, none⟩ (.int .i64 (-1))) b (diF f e)) := (show Nb _ _ _ from by rw [hfd]; exact hNb1.set (by omega) (-1))
          have HBr2 : Hid (Below W.heap.size W (wr1.setCell ⟨b, 290, none⟩ (.int .i64 (-1)))) := (show Below _ _ _ from hBr1.setCell hBb _)
          have d8 : (wr1.setCell ⟨b, 290, none⟩ (.int .i64 (-1))).cell? ⟨w.heap.size, 8, none⟩ = some (.slice (some ⟨eb, eo, none⟩) en ec) := cell_ne (by omega) d8a
          clear d8a hNb1 hBr1 hb1 h1 hbl HD1 d8w
          go_wp2_with fail
          clear z290 c290
          generalize wr1.setCell ⟨b, 290, none⟩ (.int .i64 (-1)) = wr2 at *
          have hBwr2 : W.heap.size ≤ wr2.heap.size := HBr2.out.size
          have HEV : Hid (wr2.rangeAt eb (eo + j * 13) e.cs) := (show wr2.rangeAt _ _ _ from belowB_range HBr2.out hebB HEVW.out)
          have HSd : Hid (Sd wr2 W.heap.size e.sa e.sn e.sc e.xs) := (show Sd _ _ _ _ _ _ from HSdW.out.on HBr2.out)
          have hf0 : Hid (diF f e 0 = (N : Int)) := (show _ = _ from (hIv.out.di e).n)
          have HP2 : Hid (∀ i, 17 ≤ i → i < 273 → -16 ≤ diF f e i ∧ diF f e i ≤ 16) := (hIv.out.di e).p
          clear hfd
          refine wp_region_held_drew (S := (fun w' => w'.cell? ⟨w.heap.size, 8, none⟩ = some (.slice (some ⟨eb, eo, none⟩) en ec) ∧ w'.rangeAt eb (eo + j * 13) e.cs)) (by kernel_rfl) ⟨(below_at (drew_bel _) d8), (range_on HEV.out (drew_bel _))⟩ (fun hHeld => ?_)
          simp only [Act.put, List.size_toArray, List.length_cons, List.length_nil, Nat.zero_add]
          refine takeD (i := 0) (d := 38) (v := .pointer (some ⟨b, 0, none⟩)) rfl (by kernel_rfl) (by kernel_rfl) (by kernel_rfl) (by kernel_rfl) (fun _ _ _ h => h) (Or.inl ⟨by rfl, fun w' hS => by go_simp⟩) hHeld ?_
          simp only [Act.put, List.setIfInBounds_toArray, List.set_cons_zero, List.set_cons_succ]
          refine takeD (i := 1) (d := 39) (v := .pointer (some ⟨b, 0, none⟩)) rfl (by kernel_rfl) (by kernel_rfl) (by kernel_rfl) (by kernel_rfl) (fun _ _ _ h => h) (Or.inl ⟨by rfl, fun w' hS => by go_simp⟩) hHeld ?_
          simp only [Act.put, List.setIfInBounds_toArray, List.set_cons_zero, List.set_cons_succ]
          refine takeD (i := 2) (d := 40) (v := .pointer (some ⟨b, 0, none⟩)) rfl (by kernel_rfl) (by kernel_rfl) (by kernel_rfl) (by kernel_rfl) (fun _ _ _ h => h) (Or.inl ⟨by rfl, fun w' hS => by go_simp⟩) hHeld ?_
          simp only [Act.put, List.setIfInBounds_toArray, List.set_cons_zero, List.set_cons_succ]
          refine takeD (i := 3) (d := 41) (v := .pointer (some ⟨w.heap.size, 8, none⟩)) rfl (by kernel_rfl) (by kernel_rfl) (by kernel_rfl) (by kernel_rfl) (fun _ _ _ h => h) (Or.inl ⟨by rfl, fun w' hS => by go_simp⟩) hHeld ?_
          simp only [Act.put, List.setIfInBounds_toArray, List.set_cons_zero, List.set_cons_succ]
          refine takeD (i := 4) (d := 42) (v := .slice (some ⟨eb, eo, none⟩) en ec) rfl (by kernel_rfl) (by kernel_rfl) (by kernel_rfl) (by kernel_rfl) (fun _ _ _ h => h) (Or.inl ⟨by rfl, fun w' hS => by (obtain ⟨s0, s1⟩ := hS; go_simp)⟩) hHeld ?_
          simp only [Act.put, List.setIfInBounds_toArray, List.set_cons_zero, List.set_cons_succ]
          refine takeD (i := 5) (d := 43) (v := .int .i64 (j : Int)) rfl (by kernel_rfl) (by kernel_rfl) (by kernel_rfl) (by kernel_rfl) (fun _ _ _ h => h) (Or.inl ⟨by rfl, fun w' hS => by go_simp⟩) hHeld ?_
          simp only [Act.put, List.setIfInBounds_toArray, List.set_cons_zero, List.set_cons_succ]
          refine takeD (i := 6) (d := 44) (v := .pointer (some ⟨eb, eo + j * 13, none⟩)) rfl (by kernel_rfl) (by kernel_rfl) (by kernel_rfl) (by kernel_rfl) (fun _ _ _ h => h) (Or.inl ⟨by rfl, fun w' hS => by go_simp⟩) hHeld ?_
          simp only [Act.put, List.setIfInBounds_toArray, List.set_cons_zero, List.set_cons_succ]
          refine takeD (i := 7) (d := 45) (v := .agg (e.cs).toArray) rfl (by kernel_rfl) (by kernel_rfl) (by kernel_rfl) (by kernel_rfl) (fun _ _ _ h => h) (Or.inl ⟨by rfl, fun w' hS => by (obtain ⟨s0, s1⟩ := hS; exact run_loadop 36 _ rfl rfl s1 Try.underlying36 rfl (iEv e))⟩) hHeld ?_
          simp only [Act.put, List.setIfInBounds_toArray, List.set_cons_zero, List.set_cons_succ]
          have hbD1 : Below wr2.heap.size wr2 wr2.drew := drew_bel _
          have q0 := below_at hbD1 d8
          generalize wr2.drew = D1 at *
          refine wpAnyH_ready (rs := [8]) (by kernel_rfl) (by simp) ?_
          refine AllReadyH.cons rfl (fun K hK => ?_) AllReadyH.nil
          go_simp
          refine (happen_any b W.heap.size (diF f e) N e _ (HD2.out.on hbD1) hBb hf0.out n1 n2 HP2.out (HSd.out.on (hbD1.mono hBwr2)) HSl.out).mono ?_
          rintro r5 w5 ⟨rfl, hn5, hb5⟩
          refine hK.out _ _ ⟨(belowB_at hb5 hWs q0), (belowB_range hb5 hebB (range_on HEV.out hbD1))⟩ (fun hHeld => ?_)
          clear hK K
          refine wpAnyH_done (by kernel_rfl) ?_ _
          clear hHeld
          have HN5 : Hid (Nb w5 b (haE (diF f e) N e)) := hn5
          have HB5 : Hid (Below W.heap.size W w5) := (show Below _ _ _ from (HBr2.out.trans (hbD1.mono hBwr2)).trans hb5)
          clear q0 hn5 hb5 hbD1 HD2 HBr2 HEV d8 hBwr2
          clear hf0 HP2 HSd
          have HLk : Hid (Calls Try.prog 23 #[.pointer (some ⟨b, 0, none⟩), .int .i64 ((j : Int) + 1)] w5 fun r w' => r = .returned (.tuple #[]) ∧ Nb w' b (loF (haE (diF f e) N e) N ((j : Int) + 1)) ∧ Below W.heap.size w5 w') := look_any b W.heap.size _ N _ w5 HN5.out hBb ((hIv.out.di e).ha n2 e).n n1 n2
          go_wp2_with fail
          refine HLk.out.mono ?_
          rintro r6 w6 ⟨rfl, hn6, hb6⟩
          have HN6 : Hid (Nb w6 b (prK N f0 es (j + 1))) := (show Nb _ _ _ from by
            rw [hstep.out]
            exact hn6)
          have HB6 : Hid (Below W.heap.size W w6) := HB5.out.trans hb6
          clear hn6 hb6 HN5 HB5 HLk
          go_wp2_with fail
          go_roundw
          case rel => exact ⟨j + 1, by omega, by go_num, HN6, HB6⟩
          case measure => simp [intOf]; omega
      · have hjN : j = en := by omega
        subst hjN
        obtain ⟨f, hff⟩ : ∃ f, prK N f0 es j = f := ⟨_, rfl⟩
        rw [hff] at h1 hIv HQ
        have c90 := h1.out.cell (i := 290) (by omega)
        have c91 := h1.out.cell (i := 291) (by omega)
        have HBX : Hid (Below w.heap.size w wr) := bst HB.out hbl.out
        by_cases e9 : f 290 = -1
        · have HQ2 : Hid (((0 : Int), (0 : Int), (180 : Int)) = qq) := (show _ = _ from by rw [← HQ.out, if_pos e9])
          rw [e9] at c90
          clear hff e9 h1 hbl hIv HQ
          go_wp2_with fail
          (try simp only [Exit.inBlock, Exit.then])
          refine bodyPost_ret (results_tmp3 rfl _ _ _) rfl ?_
          exact ⟨by rw [← HQ2.out]; rfl, HBX.out⟩
        · have HQ2 : Hid ((f 290, f 291, (0 : Int)) = qq) := (show _ = _ from by rw [← HQ.out, if_neg e9])
          clear HQ
          have e9' : (f 290 == -1) = false := by rw [beq_eq_false_iff_ne]; exact e9
          generalize f 290 = y0 at *
          generalize f 291 = y1 at *
          clear hff e9 h1 hbl hIv
          go_wp2_with fail
          go_quiet (fail)
          go_wp2_with fail
          (try simp only [Exit.inBlock, Exit.then])
          refine bodyPost_ret (results_tmp3 rfl _ _ _) rfl ?_
          exact ⟨by rw [← HQ2.out]; rfl, below_drewN HBX.out _⟩
end Go.Proofs.Ytfodkackfahldaa.Lo
