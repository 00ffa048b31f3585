import Derived.Test.YtbdefhagpgpoiaaCq
import Derived.Test.YtbdefhagpgpoiaaBq
namespace Go.Proofs.Ytbdefhagpgpoiaa.Mb
open Go.RowKit Oe
set_option linter.unusedVariables false
set_option maxRecDepth 100000
set_option linter.unusedSimpArgs false
section
variable {A A' D D' : Ag} {w w' W : World} {B : Nat} {T : Int}
set_option maxHeartbeats 80000000 in
theorem orderless_yes (n s : Nat) (inc fl : Int) (oa : Option Addr) (on oc : Nat) (os : Nat → Opx) (ta : Option Addr) (tn tc : Nat) (ts : Nat → Tx) (ho : RdOps w oa on os) (hon : on ≤ 925904528653) (hts : RdTs w ta tn ts) (htn : tn ≤ 1172812402927) (h16 : 1 ≤ n ∧ n ≤ 16 ∧ s < n) (hi : 1 ≤ inc ∧ inc ≤ 4611686018427387904) (hf : 0 ≤ fl ∧ fl < 4611686018427387904) : Calls Try.prog 5 #[.agg #[.int .i64 (n : Int), .int .i64 (s : Int), .int .i64 inc, .int .i64 fl, .slice oa on oc], .slice ta tn tc] w fun e w' => e = .returned (.bool true) ∧ Below w.heap.size w w' := by
  generalize hW1 : w.alloc (.cells #[.int .i64 (n : Int), .int .i64 (s : Int), .int .i64 inc, .int .i64 fl, .slice oa on oc] 24) = W1
  have b1 : Below w.heap.size w W1 := hW1 ▸ balloc (Below.refl _ _)
  have k1 : W1.heap[w.heap.size]? = some (.cells #[.int .i64 (n : Int), .int .i64 (s : Int), .int .i64 inc, .int .i64 fl, .slice oa on oc] 24 (0, 0)) := by rw [← hW1]; exact heap_alloc_new w _
  have c0 : W1.cell? ⟨w.heap.size, 0, none⟩ = some (.int .i64 (n : Int)) := blk_cell k1 0
  have c1 : W1.cell? ⟨w.heap.size, 1, none⟩ = some (.int .i64 (s : Int)) := blk_cell k1 1
  have c2 : W1.cell? ⟨w.heap.size, 2, none⟩ = some (.int .i64 inc) := blk_cell k1 2
  have c3 : W1.cell? ⟨w.heap.size, 3, none⟩ = some (.int .i64 fl) := blk_cell k1 3
  have c4 : W1.cell? ⟨w.heap.size, 4, none⟩ = some (.slice oa on oc) := blk_cell k1 4
  have HK1 : Hid (W1.heap[w.heap.size]? = some (.cells #[.int .i64 (n : Int), .int .i64 (s : Int), .int .i64 inc, .int .i64 fl, .slice oa on oc] 24 (0, 0))) := k1
  have HB1 : Hid (Below w.heap.size w W1) := b1
  have HO : Hid (RdOps w oa on os) := ho
  have HTs : Hid (RdTs w ta tn ts) := hts
  have HN := begun_yes (w := W1) n s inc fl oa on oc h16 hi hf
  have HN2 : Hid (∀ W : World, Calls Try.prog 9 #[.agg #[.int .i64 (n : Int), .int .i64 (s : Int), .int .i64 inc, .int .i64 fl, .slice oa on oc]] W fun e w' => ∃ b, e = .returned (.tuple #[.pointer (some ⟨b, 0, none⟩), .bool true]) ∧ (newA b n s inc fl).Ok w' b 4611686018427387903 ∧ W.heap.size ≤ b ∧ (newA b n s inc fl).b = b ∧ Below W.heap.size W w') := fun W => begun_yes n s inc fl oa on oc h16 hi hf
  have H16 : Hid (1 ≤ n ∧ n ≤ 16 ∧ s < n) := h16
  have Hi : Hid (1 ≤ inc ∧ inc ≤ 4611686018427387904) := hi
  have Hf : Hid (0 ≤ fl ∧ fl < 4611686018427387904) := hf
  clear b1 k1 ho h16 hi hf hts
  go_enter Try.func5, Try.ntmps5
  go_wp2_with (fail)
  refine HN.mono ?_
  rintro e w0 ⟨a, rfl, hA, hge, hAb, hb2⟩
  rw [newA_eq a n s inc fl Hf.out.2] at hA
  have HF0 : Hid (Fs w0 a n s inc w.heap.size #[.int .i64 (n : Int), .int .i64 (s : Int), .int .i64 inc, .int .i64 fl, .slice oa on oc] (A1 a n s inc fl)) := Fs.first a n s inc fl H16.out Hi.out hA ((hb2.block _ (lt_heap HK1.out)).trans HK1.out)
  have HB0 : Hid (Below w.heap.size w w0) := bstep HB1.out hb2
  have hale : w.heap.size ≤ a := by have := HB1.out.size; omega
  have hk0 : w0.heap[w.heap.size]? = some (.cells #[.int .i64 (n : Int), .int .i64 (s : Int), .int .i64 inc, .int .i64 fl, .slice oa on oc] 24 (0, 0)) := HF0.out.m1
  have d0 : w0.cell? ⟨w.heap.size, 0, none⟩ = some (.int .i64 (n : Int)) := blk_cell hk0 0
  have d1 : w0.cell? ⟨w.heap.size, 1, none⟩ = some (.int .i64 (s : Int)) := blk_cell hk0 1
  have d2 : w0.cell? ⟨w.heap.size, 2, none⟩ = some (.int .i64 inc) := blk_cell hk0 2
  have d3 : w0.cell? ⟨w.heap.size, 3, none⟩ = some (.int .i64 fl) := blk_cell hk0 3
  have d4 : w0.cell? ⟨w.heap.size, 4, none⟩ = some (.slice oa on oc) := blk_cell hk0 4
  have hal : a < w0.heap.size := by have := HF0.out.ok.lt_b; have h2 := HF0.out.b; omega
  clear HN c0 c1 c2 c3 c4 hW1 hA hge hAb hb2 hk0
  go_wp2_with (fail)
  refine (HN2.out w0).mono ?_
  rintro e u0 ⟨b, rfl, hA, hge, hAb, hb2⟩
  rw [newA_eq b n s inc fl Hf.out.2] at hA
  have hne : a ≠ b := by omega
  have HP0 : Hid (Pr u0 a b n s inc w.heap.size #[.int .i64 (n : Int), .int .i64 (s : Int), .int .i64 inc, .int .i64 fl, .slice oa on oc] (A1 a n s inc fl) (A1 b n s inc fl)) := ⟨HF0.out.still hb2, Fs.first b n s inc fl H16.out Hi.out hA ((hb2.block _ (lt_heap HF0.out.m1)).trans HF0.out.m1), hne⟩
  have HBu : Hid (Below w.heap.size w u0) := bstep HB0.out hb2
  have hble : w.heap.size ≤ b := by have := HB0.out.size; omega
  clear d0 d1 d2 d3 d4 hA hge hAb hb2 HF0 HB0 hal
  go_wp2
  have HPd : Hid (Pr u0.drew a b n s inc w.heap.size #[.int .i64 (n : Int), .int .i64 (s : Int), .int .i64 inc, .int .i64 fl, .slice oa on oc] (A1 a n s inc fl) (A1 b n s inc fl)) := HP0.out.still (Below.refl _ _).drew
  have D0 : u0.drew.cell? ⟨w.heap.size, 0, none⟩ = some (.int .i64 (n : Int)) := blk_cell HPd.out.fa.m1 0
  have HCh : Hid (Calls Try.prog 17 #[.pointer (some ⟨a, 0, none⟩)] u0.drew fun e w' => e = .returned (.bool true) ∧ u0.drew = w') := HPd.out.fa.chg
  have HPa : Hid (∀ W, Below u0.drew.heap.size u0.drew W → Calls Try.prog 14 #[.pointer (some ⟨a, 0, none⟩)] W fun e w' => ∃ g3 g4, e = .returned (.agg [.slice (some ⟨g3, 0, none⟩) n n, .int .i64 (A1 a n s inc fl).own.cid, .int .i64 (A1 a n s inc fl).own.rev, .int .i64 (A1 a n s inc fl).own.top, .int .i64 ((A1 a n s inc fl).own.prev[0]?.getD 0), .int .i64 ((A1 a n s inc fl).own.prev[1]?.getD 0), .int .i64 ((A1 a n s inc fl).own.prev[2]?.getD 0), .int .i64 ((A1 a n s inc fl).own.prev[3]?.getD 0), .slice (some ⟨g4, 0, none⟩) n n].toArray) ∧ Rw w' g3 3 ((A1 a n s inc fl).own.set.take n) ∧ Rw w' g4 3 ((A1 a n s inc fl).own.vec.take n) ∧ Below W.heap.size W w') := fun W hW => (HPd.out.fa.still hW).prop
  have HPb : Hid (∀ W, Below u0.drew.heap.size u0.drew W → Calls Try.prog 14 #[.pointer (some ⟨b, 0, none⟩)] W fun e w' => ∃ g3 g4, e = .returned (.agg [.slice (some ⟨g3, 0, none⟩) n n, .int .i64 (A1 b n s inc fl).own.cid, .int .i64 (A1 b n s inc fl).own.rev, .int .i64 (A1 b n s inc fl).own.top, .int .i64 ((A1 b n s inc fl).own.prev[0]?.getD 0), .int .i64 ((A1 b n s inc fl).own.prev[1]?.getD 0), .int .i64 ((A1 b n s inc fl).own.prev[2]?.getD 0), .int .i64 ((A1 b n s inc fl).own.prev[3]?.getD 0), .slice (some ⟨g4, 0, none⟩) n n].toArray) ∧ Rw w' g3 3 ((A1 b n s inc fl).own.set.take n) ∧ Rw w' g4 3 ((A1 b n s inc fl).own.vec.take n) ∧ Below W.heap.size W w') := fun W hW => (HPd.out.fb.still hW).prop
  have HPs : Hid (∀ W g1 g2 g3 g4, Rw W g1 3 ((A1 a n s inc fl).own.set.take n) → Rw W g2 3 ((A1 a n s inc fl).own.vec.take n) → Rw W g3 3 ((A1 b n s inc fl).own.set.take n) → Rw W g4 3 ((A1 b n s inc fl).own.vec.take n) → Calls Try.prog 19 #[.agg [.slice (some ⟨g1, 0, none⟩) n n, .int .i64 (A1 a n s inc fl).own.cid, .int .i64 (A1 a n s inc fl).own.rev, .int .i64 (A1 a n s inc fl).own.top, .int .i64 ((A1 a n s inc fl).own.prev[0]?.getD 0), .int .i64 ((A1 a n s inc fl).own.prev[1]?.getD 0), .int .i64 ((A1 a n s inc fl).own.prev[2]?.getD 0), .int .i64 ((A1 a n s inc fl).own.prev[3]?.getD 0), .slice (some ⟨g2, 0, none⟩) n n].toArray, .agg [.slice (some ⟨g3, 0, none⟩) n n, .int .i64 (A1 b n s inc fl).own.cid, .int .i64 (A1 b n s inc fl).own.rev, .int .i64 (A1 b n s inc fl).own.top, .int .i64 ((A1 b n s inc fl).own.prev[0]?.getD 0), .int .i64 ((A1 b n s inc fl).own.prev[1]?.getD 0), .int .i64 ((A1 b n s inc fl).own.prev[2]?.getD 0), .int .i64 ((A1 b n s inc fl).own.prev[3]?.getD 0), .slice (some ⟨g4, 0, none⟩) n n].toArray] W fun e w' => e = .returned (.bool true) ∧ Below W.heap.size W w') := fun W g1 g2 g3 g4 r1 r2 r3 r4 => by
    have hh := props_any ((A1 a n s inc fl).pq g1 g2) ((A1 b n s inc fl).pq g3 g4) (pq_rd HPd.out.fa.iv g1 g2 r1 r2) (pq_rd HPd.out.fb.iv g3 g4 r3 r4)
    have ht : ((A1 a n s inc fl).pq g1 g2).same ((A1 b n s inc fl).pq g3 g4) = true := by
      have e : (A1 b n s inc fl).own = (A1 a n s inc fl).own := rfl
      have e2 : (A1 b n s inc fl).n = (A1 a n s inc fl).n := rfl
      unfold Pq.same Ag.pq
      simp only
      rw [e, e2]
      simp
    rw [ht] at hh
    exact hh
  refine wp_region_held_drew (S := (fun w' => w'.cell? ⟨w.heap.size, 0, none⟩ = some (.int .i64 (n : Int)))) (by kernel_rfl) D0 (fun hHeld => ?_)
  simp only [Act.put, List.size_toArray, List.length_cons, List.length_nil, Nat.zero_add]
  refine wpAnyH_take (i := 0) (v := .pointer (some ⟨a, 0, none⟩)) rfl (by kernel_rfl) (by kernel_rfl) (by kernel_rfl) (fun _ _ _ h => h) (Or.inl ⟨by rfl, fun w' hS => by go_simp⟩) hHeld ?_
  simp only [Act.put, List.getElem_toArray, List.getElem_cons_zero, List.getElem_cons_succ, List.setIfInBounds_toArray, List.set_cons_zero, List.set_cons_succ]
  refine wpAnyH_ready (rs := [1]) (by kernel_rfl) (by simp) ?_
  refine AllReadyH.cons rfl (fun K hK => ?_) AllReadyH.nil
  go_simp
  refine (HCh.out).mono ?_
  rintro e y0 ⟨rfl, rfl⟩
  refine hK.out _ _ D0 (fun hHeld => ?_)
  clear hK K
  refine wpAnyH_take (i := 2) (v := .bool false) rfl (by kernel_rfl) (by kernel_rfl) (by kernel_rfl) (fun _ _ _ h => h) (Or.inl ⟨by rfl, fun w' hS => by go_simp⟩) hHeld ?_
  simp only [Act.put, List.getElem_toArray, List.getElem_cons_zero, List.getElem_cons_succ, List.setIfInBounds_toArray, List.set_cons_zero, List.set_cons_succ]
  refine wpAnyH_take (i := 3) (v := .bool false) rfl (by kernel_rfl) (by kernel_rfl) (by kernel_rfl) (fun _ _ _ h => h) (Or.inl ⟨by rfl, fun w' hS => by go_simp⟩) hHeld ?_
  simp only [Act.put, List.getElem_toArray, List.getElem_cons_zero, List.getElem_cons_succ, List.setIfInBounds_toArray, List.set_cons_zero, List.set_cons_succ]
  refine wpAnyH_take (i := 4) (v := .pointer (some ⟨a, 0, none⟩)) rfl (by kernel_rfl) (by kernel_rfl) (by kernel_rfl) (fun _ _ _ h => h) (Or.inl ⟨by rfl, fun w' hS => by go_simp⟩) hHeld ?_
  simp only [Act.put, List.getElem_toArray, List.getElem_cons_zero, List.getElem_cons_succ, List.setIfInBounds_toArray, List.set_cons_zero, List.set_cons_succ]
  refine wpAnyH_take (i := 6) (v := .pointer (some ⟨b, 0, none⟩)) rfl (by kernel_rfl) (by kernel_rfl) (by kernel_rfl) (fun _ _ _ h => h) (Or.inl ⟨by rfl, fun w' hS => by go_simp⟩) hHeld ?_
  simp only [Act.put, List.getElem_toArray, List.getElem_cons_zero, List.getElem_cons_succ, List.setIfInBounds_toArray, List.set_cons_zero, List.set_cons_succ]
  refine wpAnyH_ready (rs := [5]) (by kernel_rfl) (by simp) ?_
  refine AllReadyH.cons rfl (fun K hK => ?_) AllReadyH.nil
  go_simp
  refine (HPa.out u0.drew (Below.refl _ _)).mono ?_
  rintro e y1 ⟨g1, g2, rfl, r1, r2, hc1⟩
  have HC1 : Hid (Below u0.drew.heap.size u0.drew y1) := hc1
  refine hK.out _ _ (below_at hc1 D0) (fun hHeld => ?_)
  clear hK K
  refine wpAnyH_ready (rs := [7]) (by kernel_rfl) (by simp) ?_
  refine AllReadyH.cons rfl (fun K hK => ?_) AllReadyH.nil
  go_simp
  refine (HPb.out y1 HC1.out).mono ?_
  rintro e y2 ⟨g3, g4, rfl, r3, r4, hc2⟩
  have HC2 : Hid (Below u0.drew.heap.size u0.drew y2) := bstep HC1.out hc2
  have HPs2 := HPs.out y2 g1 g2 g3 g4 (r1.still hc2) (r2.still hc2) r3 r4
  clear r1 r2 r3 r4
  refine hK.out _ _ (below_at (bstep HC1.out hc2) D0) (fun hHeld => ?_)
  clear hK K
  refine wpAnyH_ready (rs := [8]) (by kernel_rfl) (by simp) ?_
  refine AllReadyH.cons rfl (fun K hK => ?_) AllReadyH.nil
  go_simp
  refine (HPs2).mono ?_
  rintro e y3 ⟨rfl, hc3⟩
  have HC3 : Hid (Below u0.drew.heap.size u0.drew y3) := bstep HC2.out hc3
  refine hK.out _ _ (below_at (bstep HC2.out hc3) D0) (fun hHeld => ?_)
  clear hK K
  refine wpAnyH_take (i := 9) (v := .bool false) rfl (by kernel_rfl) (by kernel_rfl) (by kernel_rfl) (fun _ _ _ h => h) (Or.inl ⟨by rfl, fun w' hS => by go_simp⟩) hHeld ?_
  simp only [Act.put, List.getElem_toArray, List.getElem_cons_zero, List.getElem_cons_succ, List.setIfInBounds_toArray, List.set_cons_zero, List.set_cons_succ]
  refine wpAnyH_take (i := 10) (v := .bool false) rfl (by kernel_rfl) (by kernel_rfl) (by kernel_rfl) (fun _ _ _ h => h) (Or.inl ⟨by rfl, fun w' hS => by go_simp⟩) hHeld ?_
  simp only [Act.put, List.getElem_toArray, List.getElem_cons_zero, List.getElem_cons_succ, List.setIfInBounds_toArray, List.set_cons_zero, List.set_cons_succ]
  refine wpAnyH_take (i := 11) (v := .bool false) rfl (by kernel_rfl) (by kernel_rfl) (by kernel_rfl) (fun _ _ _ h => h) (Or.inl ⟨by rfl, fun w' hS => by go_simp⟩) hHeld ?_
  simp only [Act.put, List.getElem_toArray, List.getElem_cons_zero, List.getElem_cons_succ, List.setIfInBounds_toArray, List.set_cons_zero, List.set_cons_succ]
  refine wpAnyH_take (i := 12) (v := .pointer (some ⟨a, 0, none⟩)) rfl (by kernel_rfl) (by kernel_rfl) (by kernel_rfl) (fun _ _ _ h => h) (Or.inl ⟨by rfl, fun w' hS => by go_simp⟩) hHeld ?_
  simp only [Act.put, List.getElem_toArray, List.getElem_cons_zero, List.getElem_cons_succ, List.setIfInBounds_toArray, List.set_cons_zero, List.set_cons_succ]
  refine wpAnyH_take (i := 16) (v := .pointer (some ⟨w.heap.size, 0, none⟩)) rfl (by kernel_rfl) (by kernel_rfl) (by kernel_rfl) (fun _ _ _ h => h) (Or.inl ⟨by rfl, fun w' hS => by go_simp⟩) hHeld ?_
  simp only [Act.put, List.getElem_toArray, List.getElem_cons_zero, List.getElem_cons_succ, List.setIfInBounds_toArray, List.set_cons_zero, List.set_cons_succ]
  refine wpAnyH_take (i := 17) (v := .int .i64 (n : Int)) rfl (by kernel_rfl) (by kernel_rfl) (by kernel_rfl) (fun _ _ _ h => h) (Or.inl ⟨by rfl, fun w' hS => by (obtain s0 := hS; go_simp)⟩) hHeld ?_
  simp only [Act.put, List.getElem_toArray, List.getElem_cons_zero, List.getElem_cons_succ, List.setIfInBounds_toArray, List.set_cons_zero, List.set_cons_succ]
  refine wpAnyH_ready (rs := [13]) (by kernel_rfl) (by simp) ?_
  refine AllReadyH.cons rfl (fun K hK => ?_) AllReadyH.nil
  go_simp
  refine (HPa.out y3 HC3.out).mono ?_
  rintro e y4 ⟨g5, g6, rfl, r5, r6, hc4⟩
  have HC4 : Hid (Below u0.drew.heap.size u0.drew y4) := bstep HC3.out hc4
  clear r5 r6
  refine hK.out _ _ (below_at (bstep HC3.out hc4) D0) (fun hHeld => ?_)
  clear hK K
  refine wpAnyH_take (i := 14) (v := .slice (some ⟨g5, 0, none⟩) n n) rfl (by kernel_rfl) (by kernel_rfl) (by kernel_rfl) (fun _ _ _ h => h) (Or.inl ⟨by rfl, fun w' hS => run_fieldop 41 (.tmp 57) 0 (fld_prop undef _ _ _ _ _ _ _ _ _ _ _ _ _) rfl (by rfl)⟩) hHeld ?_
  simp only [Act.put, List.getElem_toArray, List.getElem_cons_zero, List.getElem_cons_succ, List.setIfInBounds_toArray, List.set_cons_zero, List.set_cons_succ]
  refine wpAnyH_take (i := 15) (v := .int .i64 (n : Int)) rfl (by kernel_rfl) (by kernel_rfl) (by kernel_rfl) (fun _ _ _ h => h) (Or.inl ⟨by rfl, fun w' hS => by go_simp⟩) hHeld ?_
  simp only [Act.put, List.getElem_toArray, List.getElem_cons_zero, List.getElem_cons_succ, List.setIfInBounds_toArray, List.set_cons_zero, List.set_cons_succ]
  refine wpAnyH_take (i := 18) (v := .bool false) rfl (by kernel_rfl) (by kernel_rfl) (by kernel_rfl) (fun _ _ _ h => h) (Or.inl ⟨by rfl, fun w' hS => by go_simp⟩) hHeld ?_
  simp only [Act.put, List.getElem_toArray, List.getElem_cons_zero, List.getElem_cons_succ, List.setIfInBounds_toArray, List.set_cons_zero, List.set_cons_succ]
  refine wpAnyH_take (i := 19) (v := .bool false) rfl (by kernel_rfl) (by kernel_rfl) (by kernel_rfl) (fun _ _ _ h => h) (Or.inl ⟨by rfl, fun w' hS => by go_simp⟩) hHeld ?_
  simp only [Act.put, List.getElem_toArray, List.getElem_cons_zero, List.getElem_cons_succ, List.setIfInBounds_toArray, List.set_cons_zero, List.set_cons_succ]
  refine wpAnyH_done (by kernel_rfl) ?_ _
  clear hHeld
  have HP4 : Hid (Pr y4 a b n s inc w.heap.size #[.int .i64 (n : Int), .int .i64 (s : Int), .int .i64 inc, .int .i64 fl, .slice oa on oc] (A1 a n s inc fl) (A1 b n s inc fl)) := HPd.out.still HC4.out
  have HB4 : Hid (Below w.heap.size w y4) := bstep (bstep HBu.out (Below.refl _ _).drew) HC4.out
  clear D0 HCh HPa HPb HPs HPs2 HP0 HPd HBu HN2
  go_wp2
  go_loopw [9] (fun v9 wr => ∃ (k : Nat) (A D : Ag), k ≤ on ∧ v9 = .int .i64 (k : Int) ∧ Pr wr a b n s inc w.heap.size #[.int .i64 (n : Int), .int .i64 (s : Int), .int .i64 inc, .int .i64 fl, .slice oa on oc] A D ∧ A.un = D.un ∧ A.Iz ∧ Below w.heap.size w wr) (fun v9 _ => on - (intOf v9).toNat)
  case atStart => exact ⟨0, _, _, Nat.zero_le _, rfl, HP4.out, rfl, A1_iz a n s inc fl, HB4.out⟩
  case round =>
    clear HP4 HB4
    obtain ⟨k, A, D, hk, rfl, hR, hun, hiz, hlw⟩ := hrel
    have x4 : wr.cell? ⟨w.heap.size, 4, none⟩ = some (.slice oa on oc) := blk_cell hR.fa.m1 4
    by_cases hlt : k < on
    · obtain ⟨ob, off, hoa, hrg, hop⟩ := HO.out.at hlw hlt
      have HopG : Hid (∀ W, Below w.heap.size w W → (os k).Rd W ∧ W.rangeAt ob (off + k * 13) (os k).cs.toList) := fun W hW => ⟨(HO.out.2 k hlt).still hW, by
        obtain ⟨ob', off', e', hr', _⟩ := HO.out.at hW hlt
        rw [hoa] at e'
        cases e'
        exact hr'⟩
      rw [hoa] at x4
      have i1' : (0 : Int) ≤ (k : Int) := Int.natCast_nonneg _
      have i2' : (k : Int) < (on : Int) := by omega
      have HR : Hid (Pr wr.drew a b n s inc w.heap.size #[.int .i64 (n : Int), .int .i64 (s : Int), .int .i64 inc, .int .i64 fl, .slice oa on oc] A D) := hR.still (Below.refl _ _).drew
      have Hun : Hid (A.un = D.un ∧ A.Iz) := ⟨hun, hiz⟩
      have Hl : Hid (Below w.heap.size w wr.drew) := bstep hlw (Below.refl _ _).drew
      have m1d : wr.drew.heap[w.heap.size]? = some (.cells #[.int .i64 (n : Int), .int .i64 (s : Int), .int .i64 inc, .int .i64 fl, .slice oa on oc] 24 (0, 0)) := HR.out.fa.m1
      have D4 : wr.drew.cell? ⟨w.heap.size, 4, none⟩ = some (.slice (some ⟨ob, off, none⟩) on oc) := by rw [← hoa]; exact blk_cell m1d 4
      have Hoa : Hid (oa = some ⟨ob, off, none⟩) := hoa
      clear hoa hrg hop hR hun hiz hlw m1d
      generalize os k = o at HopG
      have D5 : Hid (wr.drew.rangeAt ob (off + k * 13) [.int .i64 o.kind, .int .i64 o.q, .int .i64 o.inc, .slice o.sa o.sn o.sc, .slice o.p.sa o.p.sn o.p.sc, .int .i64 o.p.cid, .int .i64 o.p.rev, .int .i64 o.p.top, .int .i64 (o.p.prev[0]?.getD 0), .int .i64 (o.p.prev[1]?.getD 0), .int .i64 (o.p.prev[2]?.getD 0), .int .i64 (o.p.prev[3]?.getD 0), .slice o.p.va o.p.vn o.p.vc]) := (HopG.out _ Hl.out).2
      have HCa : Hid (Calls Try.prog 18 #[.pointer (some ⟨a, 0, none⟩), .agg [.int .i64 o.kind, .int .i64 o.q, .int .i64 o.inc, .slice o.sa o.sn o.sc, .slice o.p.sa o.p.sn o.p.sc, .int .i64 o.p.cid, .int .i64 o.p.rev, .int .i64 o.p.top, .int .i64 (o.p.prev[0]?.getD 0), .int .i64 (o.p.prev[1]?.getD 0), .int .i64 (o.p.prev[2]?.getD 0), .int .i64 (o.p.prev[3]?.getD 0), .slice o.p.va o.p.vn o.p.vc].toArray] wr.drew fun e w' => ∃ E A', e = .returned (.int .i64 E) ∧ Fs w' a n s inc w.heap.size #[.int .i64 (n : Int), .int .i64 (s : Int), .int .i64 inc, .int .i64 fl, .slice oa on oc] A' ∧ Kept wr.drew w' (fun j => j = a) ∧ Stp A o E A') := HR.out.fa.call o (HopG.out _ Hl.out).1
      go_wp2
      refine wp_region_held_drew (S := (fun w' => w'.cell? ⟨w.heap.size, 4, none⟩ = some (.slice (some ⟨ob, off, none⟩) on oc) ∧ w'.rangeAt ob (off + k * 13) [.int .i64 o.kind, .int .i64 o.q, .int .i64 o.inc, .slice o.sa o.sn o.sc, .slice o.p.sa o.p.sn o.p.sc, .int .i64 o.p.cid, .int .i64 o.p.rev, .int .i64 o.p.top, .int .i64 (o.p.prev[0]?.getD 0), .int .i64 (o.p.prev[1]?.getD 0), .int .i64 (o.p.prev[2]?.getD 0), .int .i64 (o.p.prev[3]?.getD 0), .slice o.p.va o.p.vn o.p.vc])) (by kernel_rfl) ⟨D4, D5.out⟩ (fun hHeld => ?_)
      simp only [Act.put, List.size_toArray, List.length_cons, List.length_nil, Nat.zero_add]
      refine wpAnyH_take (i := 0) (v := .pointer (some ⟨a, 0, none⟩)) rfl (by kernel_rfl) (by kernel_rfl) (by kernel_rfl) (fun _ _ _ h => h) (Or.inl ⟨by rfl, fun w' hS => by go_simp⟩) hHeld ?_
      simp only [Act.put, List.getElem_toArray, List.getElem_cons_zero, List.getElem_cons_succ, List.setIfInBounds_toArray, List.set_cons_zero, List.set_cons_succ]
      refine wpAnyH_take (i := 1) (v := .pointer (some ⟨w.heap.size, 4, none⟩)) rfl (by kernel_rfl) (by kernel_rfl) (by kernel_rfl) (fun _ _ _ h => h) (Or.inl ⟨by rfl, fun w' hS => by go_simp⟩) hHeld ?_
      simp only [Act.put, List.getElem_toArray, List.getElem_cons_zero, List.getElem_cons_succ, List.setIfInBounds_toArray, List.set_cons_zero, List.set_cons_succ]
      refine wpAnyH_take (i := 2) (v := .slice (some ⟨ob, off, none⟩) on oc) rfl (by kernel_rfl) (by kernel_rfl) (by kernel_rfl) (fun _ _ _ h => h) (Or.inl ⟨by rfl, fun w' hS => by (obtain ⟨s0, s1⟩ := hS; go_simp)⟩) hHeld ?_
      simp only [Act.put, List.getElem_toArray, List.getElem_cons_zero, List.getElem_cons_succ, List.setIfInBounds_toArray, List.set_cons_zero, List.set_cons_succ]
      refine wpAnyH_take (i := 3) (v := .int .i64 (k : Int)) rfl (by kernel_rfl) (by kernel_rfl) (by kernel_rfl) (fun _ _ _ h => h) (Or.inl ⟨by rfl, fun w' hS => by go_simp⟩) hHeld ?_
      simp only [Act.put, List.getElem_toArray, List.getElem_cons_zero, List.getElem_cons_succ, List.setIfInBounds_toArray, List.set_cons_zero, List.set_cons_succ]
      refine wpAnyH_take (i := 4) (v := .pointer (some ⟨ob, off + k * 13, none⟩)) rfl (by kernel_rfl) (by kernel_rfl) (by kernel_rfl) (fun _ _ _ h => h) (Or.inl ⟨by rfl, fun w' hS => by (go_simp <;> first | omega | simp_all | (simp; omega))⟩) hHeld ?_
      simp only [Act.put, List.getElem_toArray, List.getElem_cons_zero, List.getElem_cons_succ, List.setIfInBounds_toArray, List.set_cons_zero, List.set_cons_succ]
      refine wpAnyH_take (i := 5) (v := .agg ([.int .i64 o.kind, .int .i64 o.q, .int .i64 o.inc, .slice o.sa o.sn o.sc, .slice o.p.sa o.p.sn o.p.sc, .int .i64 o.p.cid, .int .i64 o.p.rev, .int .i64 o.p.top, .int .i64 (o.p.prev[0]?.getD 0), .int .i64 (o.p.prev[1]?.getD 0), .int .i64 (o.p.prev[2]?.getD 0), .int .i64 (o.p.prev[3]?.getD 0), .slice o.p.va o.p.vn o.p.vc]).toArray) rfl (by kernel_rfl) (by kernel_rfl) (by kernel_rfl) (fun _ _ _ h => h) (yieldsIf_load_mid (by rfl) 44 (.tmp 75) rfl ob (off + k * 13) (by rfl) ([.int .i64 o.kind, .int .i64 o.q, .int .i64 o.inc, .slice o.sa o.sn o.sc, .slice o.p.sa o.p.sn o.p.sc, .int .i64 o.p.cid, .int .i64 o.p.rev, .int .i64 o.p.top, .int .i64 (o.p.prev[0]?.getD 0), .int .i64 (o.p.prev[1]?.getD 0), .int .i64 (o.p.prev[2]?.getD 0), .int .i64 (o.p.prev[3]?.getD 0), .slice o.p.va o.p.vn o.p.vc]) _ (fun w' hS => hS.2) Try.underlying44 rfl info_op) hHeld ?_
      simp only [Act.put, List.getElem_toArray, List.getElem_cons_zero, List.getElem_cons_succ, List.setIfInBounds_toArray, List.set_cons_zero, List.set_cons_succ]
      refine wpAnyH_take (i := 7) (v := .pointer (some ⟨b, 0, none⟩)) rfl (by kernel_rfl) (by kernel_rfl) (by kernel_rfl) (fun _ _ _ h => h) (Or.inl ⟨by rfl, fun w' hS => by go_simp⟩) hHeld ?_
      simp only [Act.put, List.getElem_toArray, List.getElem_cons_zero, List.getElem_cons_succ, List.setIfInBounds_toArray, List.set_cons_zero, List.set_cons_succ]
      refine wpAnyH_take (i := 8) (v := .pointer (some ⟨w.heap.size, 4, none⟩)) rfl (by kernel_rfl) (by kernel_rfl) (by kernel_rfl) (fun _ _ _ h => h) (Or.inl ⟨by rfl, fun w' hS => by go_simp⟩) hHeld ?_
      simp only [Act.put, List.getElem_toArray, List.getElem_cons_zero, List.getElem_cons_succ, List.setIfInBounds_toArray, List.set_cons_zero, List.set_cons_succ]
      refine wpAnyH_take (i := 9) (v := .slice (some ⟨ob, off, none⟩) on oc) rfl (by kernel_rfl) (by kernel_rfl) (by kernel_rfl) (fun _ _ _ h => h) (Or.inl ⟨by rfl, fun w' hS => by (obtain ⟨s0, s1⟩ := hS; go_simp)⟩) hHeld ?_
      simp only [Act.put, List.getElem_toArray, List.getElem_cons_zero, List.getElem_cons_succ, List.setIfInBounds_toArray, List.set_cons_zero, List.set_cons_succ]
      refine wpAnyH_take (i := 10) (v := .int .i64 (k : Int)) rfl (by kernel_rfl) (by kernel_rfl) (by kernel_rfl) (fun _ _ _ h => h) (Or.inl ⟨by rfl, fun w' hS => by go_simp⟩) hHeld ?_
      simp only [Act.put, List.getElem_toArray, List.getElem_cons_zero, List.getElem_cons_succ, List.setIfInBounds_toArray, List.set_cons_zero, List.set_cons_succ]
      refine wpAnyH_take (i := 11) (v := .pointer (some ⟨ob, off + k * 13, none⟩)) rfl (by kernel_rfl) (by kernel_rfl) (by kernel_rfl) (fun _ _ _ h => h) (Or.inl ⟨by rfl, fun w' hS => by (go_simp <;> first | omega | simp_all | (simp; omega))⟩) hHeld ?_
      simp only [Act.put, List.getElem_toArray, List.getElem_cons_zero, List.getElem_cons_succ, List.setIfInBounds_toArray, List.set_cons_zero, List.set_cons_succ]
      refine wpAnyH_take (i := 12) (v := .agg ([.int .i64 o.kind, .int .i64 o.q, .int .i64 o.inc, .slice o.sa o.sn o.sc, .slice o.p.sa o.p.sn o.p.sc, .int .i64 o.p.cid, .int .i64 o.p.rev, .int .i64 o.p.top, .int .i64 (o.p.prev[0]?.getD 0), .int .i64 (o.p.prev[1]?.getD 0), .int .i64 (o.p.prev[2]?.getD 0), .int .i64 (o.p.prev[3]?.getD 0), .slice o.p.va o.p.vn o.p.vc]).toArray) rfl (by kernel_rfl) (by kernel_rfl) (by kernel_rfl) (fun _ _ _ h => h) (yieldsIf_load_mid (by rfl) 44 (.tmp 82) rfl ob (off + k * 13) (by rfl) ([.int .i64 o.kind, .int .i64 o.q, .int .i64 o.inc, .slice o.sa o.sn o.sc, .slice o.p.sa o.p.sn o.p.sc, .int .i64 o.p.cid, .int .i64 o.p.rev, .int .i64 o.p.top, .int .i64 (o.p.prev[0]?.getD 0), .int .i64 (o.p.prev[1]?.getD 0), .int .i64 (o.p.prev[2]?.getD 0), .int .i64 (o.p.prev[3]?.getD 0), .slice o.p.va o.p.vn o.p.vc]) _ (fun w' hS => hS.2) Try.underlying44 rfl info_op) hHeld ?_
      simp only [Act.put, List.getElem_toArray, List.getElem_cons_zero, List.getElem_cons_succ, List.setIfInBounds_toArray, List.set_cons_zero, List.set_cons_succ]
      refine wpAnyH_ready (rs := [6]) (by kernel_rfl) (by simp) ?_
      refine AllReadyH.cons rfl (fun K hK => ?_) AllReadyH.nil
      go_simp
      refine (HCa.out).mono ?_
      rintro e z1 ⟨E, A', rfl, hF1, hK1, hst⟩
      have Hl1 : Hid (Below w.heap.size w z1) := Hl.out.trans (hK1.below Hl.out.size (fun k hk e => by omega))
      have D4' : z1.cell? ⟨w.heap.size, 4, none⟩ = some (.slice (some ⟨ob, off, none⟩) on oc) := (by rw [← Hoa.out]; exact blk_cell hF1.m1 4)
      have HR1 : Hid (Pr z1 a b n s inc w.heap.size #[.int .i64 (n : Int), .int .i64 (s : Int), .int .i64 inc, .int .i64 fl, .slice oa on oc] A' D) := ⟨hF1, HR.out.fb.other HR.out.fa HR.out.ne hK1, HR.out.ne⟩
      have Hst1 : Hid (Stp A o E A') := hst
      have HCb : Hid (Calls Try.prog 18 #[.pointer (some ⟨b, 0, none⟩), .agg [.int .i64 o.kind, .int .i64 o.q, .int .i64 o.inc, .slice o.sa o.sn o.sc, .slice o.p.sa o.p.sn o.p.sc, .int .i64 o.p.cid, .int .i64 o.p.rev, .int .i64 o.p.top, .int .i64 (o.p.prev[0]?.getD 0), .int .i64 (o.p.prev[1]?.getD 0), .int .i64 (o.p.prev[2]?.getD 0), .int .i64 (o.p.prev[3]?.getD 0), .slice o.p.va o.p.vn o.p.vc].toArray] z1 fun e w' => ∃ E A', e = .returned (.int .i64 E) ∧ Fs w' b n s inc w.heap.size #[.int .i64 (n : Int), .int .i64 (s : Int), .int .i64 inc, .int .i64 fl, .slice oa on oc] A' ∧ Kept z1 w' (fun j => j = b) ∧ Stp D o E A') := HR1.out.fb.call o (HopG.out _ Hl1.out).1
      clear hF1 hK1 hst
      refine hK.out _ _ ⟨D4', (HopG.out _ Hl1.out).2⟩ (fun hHeld => ?_)
      clear hK K
      refine wpAnyH_ready (rs := [13]) (by kernel_rfl) (by simp) ?_
      refine AllReadyH.cons rfl (fun K hK => ?_) AllReadyH.nil
      go_simp
      refine (HCb.out).mono ?_
      rintro e z2 ⟨E2, D', rfl, hF2, hK2, hst2⟩
      have Hl2 : Hid (Below w.heap.size w z2) := Hl1.out.trans (hK2.below Hl1.out.size (fun k hk e => by omega))
      have D4'' : z2.cell? ⟨w.heap.size, 4, none⟩ = some (.slice (some ⟨ob, off, none⟩) on oc) := (by rw [← Hoa.out]; exact blk_cell hF2.m1 4)
      have HR2 : Hid (Pr z2 a b n s inc w.heap.size #[.int .i64 (n : Int), .int .i64 (s : Int), .int .i64 inc, .int .i64 fl, .slice oa on oc] A' D') := ⟨HR1.out.fa.other HR1.out.fb (fun e => HR1.out.ne e.symm) hK2, hF2, HR1.out.ne⟩
      have hu1 := stp_un Hst1.out
      have hu2 := stp_un hst2
      rw [← Hun.out.1] at hu2
      obtain rfl : E2 = E := hu2.1.trans hu1.1.symm
      have Hun2 : Hid (A'.un = D'.un ∧ A'.Iz) := ⟨hu1.2.trans hu2.2.symm, Hun.out.2.stp HR.out.fa.iv.ol HR.out.fa.ok.il Hst1.out⟩
      clear hF2 hK2 hst2 hu1 hu2
      refine hK.out _ _ ⟨D4'', (HopG.out _ Hl2.out).2⟩ (fun hHeld => ?_)
      clear hK K
      refine wpAnyH_take (i := 14) (v := .bool false) rfl (by kernel_rfl) (by kernel_rfl) (by kernel_rfl) (fun _ _ _ h => h) (Or.inl ⟨by rfl, fun w' hS => by (go_simp <;> simp)⟩) hHeld ?_
      simp only [Act.put, List.getElem_toArray, List.getElem_cons_zero, List.getElem_cons_succ, List.setIfInBounds_toArray, List.set_cons_zero, List.set_cons_succ]
      refine wpAnyH_done (by kernel_rfl) ?_ _
      clear hHeld
      have HE : Hid (∃ (k_1 : Nat) (A D : Ag), k_1 ≤ on ∧ Value.int .i64 ((k : Int) + 1) = .int .i64 (k_1 : Int) ∧ Pr z2 a b n s inc w.heap.size #[.int .i64 (n : Int), .int .i64 (s : Int), .int .i64 inc, .int .i64 fl, .slice oa on oc] A D ∧ A.un = D.un ∧ A.Iz ∧ Below w.heap.size w z2) := ⟨k + 1, A', D', by omega, by simp, HR2.out, Hun2.out.1, Hun2.out.2, Hl2.out⟩
      clear D4 D4' D4'' D5 HCa HCb
      go_wp2
      first
        | exact ⟨HE.out, by simp [intOf]; omega⟩
        | (go_roundw
           case rel => exact HE.out
           case measure => simp [intOf]; omega)
    · have hko : on = k := by omega
      subst hko
      have j2 : decide ((on : Int) < (on : Int)) = false := decide_eq_false (by omega)
      have HR : Hid (Pr wr a b n s inc w.heap.size #[.int .i64 (n : Int), .int .i64 (s : Int), .int .i64 inc, .int .i64 fl, .slice oa on oc] A D) := hR
      have Hun : Hid (A.un = D.un ∧ A.Iz) := ⟨hun, hiz⟩
      have Hl : Hid (Below w.heap.size w wr) := hlw
      have HCh : Hid (Calls Try.prog 17 #[.pointer (some ⟨a, 0, none⟩)] wr fun e w' => e = .returned (.bool A.chg) ∧ wr = w') := hR.fa.chg
      have HPa : Hid (Calls Try.prog 14 #[.pointer (some ⟨a, 0, none⟩)] wr fun e w' => ∃ g3 g4, e = .returned (.agg [.slice (some ⟨g3, 0, none⟩) n n, .int .i64 A.own.cid, .int .i64 A.own.rev, .int .i64 A.own.top, .int .i64 (A.own.prev[0]?.getD 0), .int .i64 (A.own.prev[1]?.getD 0), .int .i64 (A.own.prev[2]?.getD 0), .int .i64 (A.own.prev[3]?.getD 0), .slice (some ⟨g4, 0, none⟩) n n].toArray) ∧ Rw w' g3 3 (A.own.set.take n) ∧ Rw w' g4 3 (A.own.vec.take n) ∧ Below wr.heap.size wr w') := hR.fa.prop
      clear hR hun hiz hlw
      cases hc : A.chg with
      | false =>
        rw [hc] at HCh
        clear hc
        go_wp2_with (fail)
        refine HCh.out.mono ?_
        rintro e z0 ⟨rfl, rfl⟩
        go_wp2
        go_ret
        exact ⟨rfl, Hl.out⟩
      | true =>
        rw [hc] at HCh
        have Hc : Hid (A.chg = true) := hc
        clear hc
        go_wp2_with (fail)
        refine HCh.out.mono ?_
        rintro e z0 ⟨rfl, rfl⟩
        go_wp2_with (fail)
        refine HPa.out.mono ?_
        rintro e z1 ⟨g3, g4, rfl, r3, r4, hb1⟩
        have HR1 : Hid (Pr z1 a b n s inc w.heap.size #[.int .i64 (n : Int), .int .i64 (s : Int), .int .i64 inc, .int .i64 fl, .slice oa on oc] A D) := HR.out.still hb1
        have Hl1 : Hid (Below w.heap.size w z1) := bstep Hl.out hb1
        clear r3 r4 hb1 HPa HCh
        by_cases hrev : 4611686018427387804 < A.own.rev
        · go_wp2_with (first | (refine field_step 41 (.tmp 91) 2 (fld_rev _ _ _ _ _ _ _ _ _ _ _ _ _) rfl rfl rfl ?_) | fail)
          go_ret
          exact ⟨rfl, Hl1.out⟩
        · have hrd : decide (4611686018427387804 < A.own.rev) = false := decide_eq_false hrev
          have Hrev : Hid (A.own.rev ≤ 4611686018427387804) := by show A.own.rev ≤ _; omega
          clear hrev
          generalize hY : z1.alloc (.cells #[.bool false, .bool false, .bool false, .bool false, .bool false, .bool false, .bool false, .bool false, .bool false, .bool false, .bool false, .bool false, .bool false, .bool false, .bool false, .bool false] 59) = Y
          have hbY : Below z1.heap.size z1 Y := by rw [← hY]; exact balloc (Below.refl _ _)
          have hkY : Y.heap[z1.heap.size]? = some (.cells #[.bool false, .bool false, .bool false, .bool false, .bool false, .bool false, .bool false, .bool false, .bool false, .bool false, .bool false, .bool false, .bool false, .bool false, .bool false, .bool false] 59 (0, 0)) := by rw [← hY]; exact heap_alloc_new z1 _
          have HL0 : Hid (Ls w Y a b n s inc w.heap.size z1.heap.size #[.int .i64 (n : Int), .int .i64 (s : Int), .int .i64 inc, .int .i64 fl, .slice oa on oc] A D (.slice none 0 0) [] (fun _ => false)) := ⟨HR1.out.still hbY, ⟨rfl, .inl ⟨rfl, rfl⟩⟩, by simp, ⟨_, hkY, rfl, fun i hi => by
            match i, hi with
            | 0, _ => rfl
            | 1, _ => rfl
            | 2, _ => rfl
            | 3, _ => rfl
            | 4, _ => rfl
            | 5, _ => rfl
            | 6, _ => rfl
            | 7, _ => rfl
            | 8, _ => rfl
            | 9, _ => rfl
            | 10, _ => rfl
            | 11, _ => rfl
            | 12, _ => rfl
            | 13, _ => rfl
            | 14, _ => rfl
            | 15, _ => rfl
            | i + 16, h => omega⟩, (fun t ht => by cases ht), List.Pairwise.nil, (fun t ht => by cases ht), bstep Hl1.out hbY⟩
          have hkb : w.heap.size ≤ z1.heap.size := Hl1.out.size
          obtain ⟨ti0, thi, thz0, thz1, thz2⟩ := info_parts info_told
          clear hbY hkY
          go_wp2_with (first | (refine field_step 41 (.tmp 91) 2 (fld_rev _ _ _ _ _ _ _ _ _ _ _ _ _) rfl rfl rfl ?_) | fail)
          clear hY hrd
          go_loopw [11, 12] (fun v11 v12 wr => ∃ (i : Nat) (ls : List Tx) (f : Nat → Bool), i ≤ tn ∧ v12 = .int .i64 (i : Int) ∧ Ls w wr a b n s inc w.heap.size z1.heap.size #[.int .i64 (n : Int), .int .i64 (s : Int), .int .i64 inc, .int .i64 fl, .slice oa on oc] A D v11 ls f) (fun _ v12 _ => tn - (intOf v12).toNat)
          case atStart => exact ⟨0, [], _, Nat.zero_le _, rfl, HL0.out⟩
          case round =>
            clear HL0
            obtain ⟨i, ls, f, hi, rfl, hL⟩ := hrel
            obtain ⟨la, lc, rfl⟩ := own_slice hL.row
            by_cases hit : i < tn
            · have t1' : (0 : Int) ≤ (i : Int) := Int.natCast_nonneg _
              have t2' : (i : Int) < (tn : Int) := by omega
              by_cases hl : ls.length < 16
              · have l2' : (ls.length : Int) < 16 := by omega
                obtain ⟨tb, toff, hta, hrg⟩ := HTs.out.at hit
                have Hrdt : Hid (∀ W, Below w.heap.size w W → (ts i).p.Rd W) := fun W hW => (HTs.out.2 i hit).still hW
                subst hta
                generalize ts i = t at hrg Hrdt
                have HRt : Hid (wr.rangeAt tb (toff + i * 11) [.int .i64 t.q, .int .i64 t.inc, .slice t.p.sa t.p.sn t.p.sc, .int .i64 t.p.cid, .int .i64 t.p.rev, .int .i64 t.p.top, .int .i64 (t.p.prev[0]?.getD 0), .int .i64 (t.p.prev[1]?.getD 0), .int .i64 (t.p.prev[2]?.getD 0), .int .i64 (t.p.prev[3]?.getD 0), .slice t.p.va t.p.vn t.p.vc]) := hrg wr hL.lw
                have cq : wr.cell? ⟨tb, toff + i * 11, none⟩ = some (.int .i64 t.q) := HRt.out 0 _ rfl
                have HL : Hid (Ls w wr a b n s inc w.heap.size z1.heap.size #[.int .i64 (n : Int), .int .i64 (s : Int), .int .i64 inc, .int .i64 fl, .slice oa on oc] A D (.slice la ls.length lc) ls f) := hL
                by_cases h0 : 0 ≤ t.q
                · by_cases h6 : t.q < 16
                  · obtain ⟨q, hq⟩ : ∃ q : Nat, t.q = (q : Int) := ⟨t.q.toNat, by omega⟩
                    have q16 : q < 16 := by omega
                    have cb := hL.byb.cell q q16
                    have zb := hL.byb.fz q
                    have Hq : Hid (t.q = (q : Int)) := hq
                    have g1 : (0 : Int) ≤ (q : Int) := Int.natCast_nonneg _
                    have g2 : (q : Int) < 16 := by omega
                    rw [hq] at cq
                    have HRtG : Hid (∀ W, Below w.heap.size w W → W.rangeAt tb (toff + i * 11) [.int .i64 t.q, .int .i64 t.inc, .slice t.p.sa t.p.sn t.p.sc, .int .i64 t.p.cid, .int .i64 t.p.rev, .int .i64 t.p.top, .int .i64 (t.p.prev[0]?.getD 0), .int .i64 (t.p.prev[1]?.getD 0), .int .i64 (t.p.prev[2]?.getD 0), .int .i64 (t.p.prev[3]?.getD 0), .slice t.p.va t.p.vn t.p.vc]) := hrg
                    clear hrg hL h0 h6 hq
                    cases hf : f q with
                    | false =>
                      have Hf' : Hid (f q = false) := hf
                      rw [hf] at cb
                      clear hf
                      generalize hV1 : wr.setCell ⟨z1.heap.size, q, none⟩ (.bool true) = V1
                      obtain ⟨Cb, hCb, _⟩ := HL.out.byb
                      have hk1 : Kept wr V1 (fun j => j = z1.heap.size) := by rw [← hV1]; exact kset wr _ q _ rfl
                      have lV : Below w.heap.size w V1 := HL.out.lw.trans (hk1.below HL.out.lw.size (fun k hk e => by omega))
                      have HO2 : Hid (V1.ownsRow w.heap.size 61 11 (.slice la ls.length lc) ls.length (tCells ls)) := hk1.owns HL.out.row (own_ne HL.out.row hCb (by decide))
                      have HRt1 : Hid (V1.rangeAt tb (toff + i * 11) [.int .i64 t.q, .int .i64 t.inc, .slice t.p.sa t.p.sn t.p.sc, .int .i64 t.p.cid, .int .i64 t.p.rev, .int .i64 t.p.top, .int .i64 (t.p.prev[0]?.getD 0), .int .i64 (t.p.prev[1]?.getD 0), .int .i64 (t.p.prev[2]?.getD 0), .int .i64 (t.p.prev[3]?.getD 0), .slice t.p.va t.p.vn t.p.vc]) := HRtG.out V1 lV
                      have hs1 := lV.size
                      have HV1 : Hid (wr.setCell ⟨z1.heap.size, q, none⟩ (.bool true) = V1) := hV1
                      clear hCb hk1 lV
                      go_wp2_with (first
                        | (refine load_mid 61 (.tmp 128) HRt1.out _ Try.underlying61 rfl (by kernel_rfl) rfl rfl rfl ?_)
                        | (at_builtin; refine wpList_append_lies _ rfl _ _ 58 rfl w.heap.size 61 ti0 (.agg #[.int .i64 0, .int .i64 0, .slice none 0 0, .int .i64 0, .int .i64 0, .int .i64 0, .int .i64 0, .int .i64 0, .int .i64 0, .int .i64 0, .slice none 0 0]) 11 120 Try.underlying58 thi thz0 thz1 thz2 rfl (by omega) (.slice la ls.length lc) ls.length (tCells ls) rfl (World.ownsRow.alloc HO2.out _) _ 1 1 _ rfl rfl (World.news_of_block (heap_alloc_new _ _)) (by simp [Value.oneCell']) (by omega) (by unfold maxLen; omega) (by omega) (by simp; omega) _ rfl ?_; intro g3 cap3 w3 hown3 hgrow3 hat3 hlt3)
                        | fail)
                      have HLe : Hid (Ls w w3 a b n s inc w.heap.size z1.heap.size #[.int .i64 (n : Int), .int .i64 (s : Int), .int .i64 inc, .int .i64 fl, .slice oa on oc] A D (.slice (some ⟨g3, 0, none⟩) (ls.length + 1) cap3) (ls ++ [t]) (upd f q true)) := HL.out.push t q Hq.out q16 Hf'.out hl Hrdt.out HV1.out hkb (balloc (Below.refl _ _)) hgrow3 hown3
                      clear hown3 hgrow3 hat3 hlt3 cb zb cq
                      have HE : Hid (∃ (i_1 : Nat) (lx : List Tx) (fx : Nat → Bool), i_1 ≤ tn ∧ Value.int .i64 ((i : Int) + 1) = .int .i64 (i_1 : Int) ∧ Ls w w3 a b n s inc w.heap.size z1.heap.size #[.int .i64 (n : Int), .int .i64 (s : Int), .int .i64 inc, .int .i64 fl, .slice oa on oc] A D (.slice (some ⟨g3, 0, none⟩) (ls.length + 1) cap3) lx fx) := ⟨i + 1, ls ++ [t], upd f q true, by omega, by simp, HLe.out⟩
                      clear HLe
                      go_wp2
                      first
                        | exact ⟨HE.out, by simp [intOf]; omega⟩
                        | (go_roundw
                           case rel => exact HE.out
                           case measure => simp [intOf]; omega)
                    | true =>
                      rw [hf] at cb
                      have HLe := HL
                      clear hf
                      have HE : Hid (∃ (i_1 : Nat) (lx : List Tx) (fx : Nat → Bool), i_1 ≤ tn ∧ Value.int .i64 ((i : Int) + 1) = .int .i64 (i_1 : Int) ∧ Ls w wr a b n s inc w.heap.size z1.heap.size #[.int .i64 (n : Int), .int .i64 (s : Int), .int .i64 inc, .int .i64 fl, .slice oa on oc] A D (.slice la ls.length lc) lx fx) := ⟨i + 1, ls, f, by omega, by simp, HLe.out⟩
                      clear HLe
                      go_wp2
                      first
                        | exact ⟨HE.out, by simp [intOf]; omega⟩
                        | (go_roundw
                           case rel => exact HE.out
                           case measure => simp [intOf]; omega)
                  · have h6' : decide (t.q < 16) = false := decide_eq_false h6
                    have HLe := HL
                    clear hL hrg h6
                    have HE : Hid (∃ (i_1 : Nat) (lx : List Tx) (fx : Nat → Bool), i_1 ≤ tn ∧ Value.int .i64 ((i : Int) + 1) = .int .i64 (i_1 : Int) ∧ Ls w wr a b n s inc w.heap.size z1.heap.size #[.int .i64 (n : Int), .int .i64 (s : Int), .int .i64 inc, .int .i64 fl, .slice oa on oc] A D (.slice la ls.length lc) lx fx) := ⟨i + 1, ls, f, by omega, by simp, HLe.out⟩
                    clear HLe
                    go_wp2
                    first
                      | exact ⟨HE.out, by simp [intOf]; omega⟩
                      | (go_roundw
                         case rel => exact HE.out
                         case measure => simp [intOf]; omega)
                · have h0' : decide (0 ≤ t.q) = false := decide_eq_false h0
                  have HLe := HL
                  clear hL hrg h0
                  have HE : Hid (∃ (i_1 : Nat) (lx : List Tx) (fx : Nat → Bool), i_1 ≤ tn ∧ Value.int .i64 ((i : Int) + 1) = .int .i64 (i_1 : Int) ∧ Ls w wr a b n s inc w.heap.size z1.heap.size #[.int .i64 (n : Int), .int .i64 (s : Int), .int .i64 inc, .int .i64 fl, .slice oa on oc] A D (.slice la ls.length lc) lx fx) := ⟨i + 1, ls, f, by omega, by simp, HLe.out⟩
                  clear HLe
                  go_wp2
                  first
                    | exact ⟨HE.out, by simp [intOf]; omega⟩
                    | (go_roundw
                       case rel => exact HE.out
                       case measure => simp [intOf]; omega)
              · have l2' : decide ((ls.length : Int) < 16) = false := decide_eq_false (by omega)
                have HLt : Hid (Lt w wr a b n s inc w.heap.size #[.int .i64 (n : Int), .int .i64 (s : Int), .int .i64 inc, .int .i64 fl, .slice oa on oc] A.un A D (.slice la ls.length lc) ls 0) := ⟨hL.pr, hL.row, rfl, by show D.un = A.un; exact Hun.out.1.symm, hL.lw⟩
                have Hlf : Hid (ls.length ≤ 16 ∧ (∀ t ∈ ls, (0 ≤ t.q ∧ t.q < 16)) ∧ ls.Pairwise (fun x y => x.q ≠ y.q) ∧ (∀ t ∈ ls, ∀ W, Below w.heap.size w W → t.p.Rd W)) := ⟨hL.len, fun t ht => (hL.inr t ht).1, hL.pw, hL.rd⟩
                clear hL
                go_wp2
                go_loopw [14] (fun v14 wr => ∃ (j : Nat) (A' D' : Ag), j ≤ ls.length ∧ v14 = .int .i64 (j : Int) ∧ Lt w wr a b n s inc w.heap.size #[.int .i64 (n : Int), .int .i64 (s : Int), .int .i64 inc, .int .i64 fl, .slice oa on oc] A.un A' D' (.slice la ls.length lc) ls j) (fun v14 _ => ls.length - (intOf v14).toNat)
                case atStart => exact ⟨0, A, D, Nat.zero_le _, rfl, HLt.out⟩
                case round =>
                  clear HLt
                  obtain ⟨j, A', D', hj, rfl, hT⟩ := hrel
                  by_cases hjl : j < ls.length
                  · obtain ⟨g, c, hv, hr1⟩ := hT.row.at hjl
                    obtain ⟨g', c', hv', hr2⟩ := hT.row.at (show ls.length - 1 - j < ls.length by omega)
                    have hgg : g' = g := by have h := hv.symm.trans hv'; simp at h; exact h.1.symm
                    subst hgg
                    have hla : la = some ⟨g', 0, none⟩ := by have h := hv; simp at h; exact h.1
                    have hmem1 : ls.getD j t0 ∈ ls := by simp [List.getD, hjl]
                    have hmem2 : ls.getD (ls.length - 1 - j) t0 ∈ ls := by simp [List.getD, show ls.length - 1 - j < ls.length by omega]
                    have hn1 := fd_next A.un ls j hjl
                    have hn2 := fd_next A.un ls.reverse j (by simpa using hjl)
                    rw [rev_getD ls j hjl] at hn2
                    have Hrd1 : Hid (∀ W, Below w.heap.size w W → (ls.getD j t0).p.Rd W) := Hlf.out.2.2.2 _ hmem1
                    have Hrd2 : Hid (∀ W, Below w.heap.size w W → (ls.getD (ls.length - 1 - j) t0).p.Rd W) := Hlf.out.2.2.2 _ hmem2
                    obtain ⟨m, hm⟩ : ∃ m : Nat, ls.length - 1 - j = m := ⟨_, rfl⟩
                    have hmi : (ls.length : Int) - 1 - (j : Int) = (m : Int) := by omega
                    rw [hm] at hr2 hn2 Hrd2
                    have Hn1 : Hid (A.un.fd (ls.take (j + 1)) = (A.un.fd (ls.take j)).tx (ls.getD j t0)) := hn1
                    have Hn2 : Hid (A.un.fd (ls.reverse.take (j + 1)) = (A.un.fd (ls.reverse.take j)).tx (ls.getD m t0)) := hn2
                    generalize ls.getD j t0 = t1 at hr1 Hrd1 Hn1
                    generalize ls.getD m t0 = t2 at hr2 Hrd2 Hn2
                    have HT : Hid (Lt w wr.drew a b n s inc w.heap.size #[.int .i64 (n : Int), .int .i64 (s : Int), .int .i64 inc, .int .i64 fl, .slice oa on oc] A.un A' D' (.slice la ls.length lc) ls j) := ⟨hT.pr.still (Below.refl _ _).drew, hT.row.still (Below.refl _ _).drew, hT.ua, hT.ud, bstep hT.lw (Below.refl _ _).drew⟩
                    have h16l := Hlf.out.1
                    have jj1 : (0 : Int) ≤ (j : Int) := Int.natCast_nonneg _
                    have jj2 : (j : Int) < (ls.length : Int) := by omega
                    have mm1 : (0 : Int) ≤ (m : Int) := Int.natCast_nonneg _
                    have mm2 : (m : Int) < (ls.length : Int) := by omega
                    have Hr2 : Hid (wr.rangeAt g' (m * 11) [.int .i64 t2.q, .int .i64 t2.inc, .slice t2.p.sa t2.p.sn t2.p.sc, .int .i64 t2.p.cid, .int .i64 t2.p.rev, .int .i64 t2.p.top, .int .i64 (t2.p.prev[0]?.getD 0), .int .i64 (t2.p.prev[1]?.getD 0), .int .i64 (t2.p.prev[2]?.getD 0), .int .i64 (t2.p.prev[3]?.getD 0), .slice t2.p.va t2.p.vn t2.p.vc]) := hr2
                    have s0 : wr.drew.cell? ⟨g', j * 11, none⟩ = some (.int .i64 t1.q) := below_at (Below.refl _ _).drew (hr1 0 _ rfl)
                    have s1 : wr.drew.cell? ⟨g', j * 11 + 1, none⟩ = some (.int .i64 t1.inc) := below_at (Below.refl _ _).drew (hr1 1 _ rfl)
                    have S2 : Hid (wr.drew.rangeAt g' (j * 11 + 2) [.slice t1.p.sa t1.p.sn t1.p.sc, .int .i64 t1.p.cid, .int .i64 t1.p.rev, .int .i64 t1.p.top, .int .i64 (t1.p.prev[0]?.getD 0), .int .i64 (t1.p.prev[1]?.getD 0), .int .i64 (t1.p.prev[2]?.getD 0), .int .i64 (t1.p.prev[3]?.getD 0), .slice t1.p.va t1.p.vn t1.p.vc]) := rng_below (rng_two hr1) (Below.refl _ _).drew
                    have HTk : Hid (Calls Try.prog 22 #[.pointer (some ⟨a, 0, none⟩), .int .i64 t1.q, .int .i64 t1.inc, .agg [.slice t1.p.sa t1.p.sn t1.p.sc, .int .i64 t1.p.cid, .int .i64 t1.p.rev, .int .i64 t1.p.top, .int .i64 (t1.p.prev[0]?.getD 0), .int .i64 (t1.p.prev[1]?.getD 0), .int .i64 (t1.p.prev[2]?.getD 0), .int .i64 (t1.p.prev[3]?.getD 0), .slice t1.p.va t1.p.vn t1.p.vc].toArray] wr.drew fun e w' => ∃ (x : Bool) (E : Int), e = .returned (.tuple #[.bool x, .int .i64 E]) ∧ Fs w' a n s inc w.heap.size #[.int .i64 (n : Int), .int .i64 (s : Int), .int .i64 inc, .int .i64 fl, .slice oa on oc] (A'.tx t1) ∧ Kept wr.drew w' (fun j => j = a)) := HT.out.pr.fa.take t1 (Hrd1.out _ HT.out.lw)
                    subst hla
                    clear hr1 hr2 hv hv' hn1 hn2 hmem1 hmem2 hT hm
                    go_wp2
                    refine wp_region_held_drew (S := (fun w' => w'.cell? ⟨g', j * 11, none⟩ = some (.int .i64 t1.q) ∧ w'.cell? ⟨g', j * 11 + 1, none⟩ = some (.int .i64 t1.inc) ∧ w'.rangeAt g' (j * 11 + 2) [.slice t1.p.sa t1.p.sn t1.p.sc, .int .i64 t1.p.cid, .int .i64 t1.p.rev, .int .i64 t1.p.top, .int .i64 (t1.p.prev[0]?.getD 0), .int .i64 (t1.p.prev[1]?.getD 0), .int .i64 (t1.p.prev[2]?.getD 0), .int .i64 (t1.p.prev[3]?.getD 0), .slice t1.p.va t1.p.vn t1.p.vc])) (by kernel_rfl) ⟨s0, s1, S2.out⟩ (fun hHeld => ?_)
                    simp only [Act.put, List.size_toArray, List.length_cons, List.length_nil, Nat.zero_add]
                    refine wpAnyH_take (i := 0) (v := .pointer (some ⟨a, 0, none⟩)) rfl (by kernel_rfl) (by kernel_rfl) (by kernel_rfl) (fun _ _ _ h => h) (Or.inl ⟨by rfl, fun w' hS => by go_simp⟩) hHeld ?_
                    simp only [Act.put, List.getElem_toArray, List.getElem_cons_zero, List.getElem_cons_succ, List.setIfInBounds_toArray, List.set_cons_zero, List.set_cons_succ]
                    refine wpAnyH_take (i := 1) (v := .slice (some ⟨g', 0, none⟩) ls.length lc) rfl (by kernel_rfl) (by kernel_rfl) (by kernel_rfl) (fun _ _ _ h => h) (Or.inl ⟨by rfl, fun w' hS => by go_simp⟩) hHeld ?_
                    simp only [Act.put, List.getElem_toArray, List.getElem_cons_zero, List.getElem_cons_succ, List.setIfInBounds_toArray, List.set_cons_zero, List.set_cons_succ]
                    refine wpAnyH_take (i := 2) (v := .int .i64 (j : Int)) rfl (by kernel_rfl) (by kernel_rfl) (by kernel_rfl) (fun _ _ _ h => h) (Or.inl ⟨by rfl, fun w' hS => by go_simp⟩) hHeld ?_
                    simp only [Act.put, List.getElem_toArray, List.getElem_cons_zero, List.getElem_cons_succ, List.setIfInBounds_toArray, List.set_cons_zero, List.set_cons_succ]
                    refine wpAnyH_take (i := 3) (v := .pointer (some ⟨g', j * 11, none⟩)) rfl (by kernel_rfl) (by kernel_rfl) (by kernel_rfl) (fun _ _ _ h => h) (Or.inl ⟨by rfl, fun w' hS => by (go_simp <;> first | omega | simp_all | (simp; omega))⟩) hHeld ?_
                    simp only [Act.put, List.getElem_toArray, List.getElem_cons_zero, List.getElem_cons_succ, List.setIfInBounds_toArray, List.set_cons_zero, List.set_cons_succ]
                    refine wpAnyH_take (i := 4) (v := .pointer (some ⟨g', j * 11, none⟩)) rfl (by kernel_rfl) (by kernel_rfl) (by kernel_rfl) (fun _ _ _ h => h) (Or.inl ⟨by rfl, fun w' hS => by go_simp⟩) hHeld ?_
                    simp only [Act.put, List.getElem_toArray, List.getElem_cons_zero, List.getElem_cons_succ, List.setIfInBounds_toArray, List.set_cons_zero, List.set_cons_succ]
                    refine wpAnyH_take (i := 5) (v := .int .i64 t1.q) rfl (by kernel_rfl) (by kernel_rfl) (by kernel_rfl) (fun _ _ _ h => h) (Or.inl ⟨by rfl, fun w' hS => by (obtain ⟨x0, x1, x2⟩ := hS; go_simp)⟩) hHeld ?_
                    simp only [Act.put, List.getElem_toArray, List.getElem_cons_zero, List.getElem_cons_succ, List.setIfInBounds_toArray, List.set_cons_zero, List.set_cons_succ]
                    refine wpAnyH_take (i := 6) (v := .slice (some ⟨g', 0, none⟩) ls.length lc) rfl (by kernel_rfl) (by kernel_rfl) (by kernel_rfl) (fun _ _ _ h => h) (Or.inl ⟨by rfl, fun w' hS => by go_simp⟩) hHeld ?_
                    simp only [Act.put, List.getElem_toArray, List.getElem_cons_zero, List.getElem_cons_succ, List.setIfInBounds_toArray, List.set_cons_zero, List.set_cons_succ]
                    refine wpAnyH_take (i := 7) (v := .int .i64 (j : Int)) rfl (by kernel_rfl) (by kernel_rfl) (by kernel_rfl) (fun _ _ _ h => h) (Or.inl ⟨by rfl, fun w' hS => by go_simp⟩) hHeld ?_
                    simp only [Act.put, List.getElem_toArray, List.getElem_cons_zero, List.getElem_cons_succ, List.setIfInBounds_toArray, List.set_cons_zero, List.set_cons_succ]
                    refine wpAnyH_take (i := 8) (v := .pointer (some ⟨g', j * 11, none⟩)) rfl (by kernel_rfl) (by kernel_rfl) (by kernel_rfl) (fun _ _ _ h => h) (Or.inl ⟨by rfl, fun w' hS => by (go_simp <;> first | omega | simp_all | (simp; omega))⟩) hHeld ?_
                    simp only [Act.put, List.getElem_toArray, List.getElem_cons_zero, List.getElem_cons_succ, List.setIfInBounds_toArray, List.set_cons_zero, List.set_cons_succ]
                    refine wpAnyH_take (i := 9) (v := .pointer (some ⟨g', j * 11 + 1, none⟩)) rfl (by kernel_rfl) (by kernel_rfl) (by kernel_rfl) (fun _ _ _ h => h) (Or.inl ⟨by rfl, fun w' hS => by go_simp⟩) hHeld ?_
                    simp only [Act.put, List.getElem_toArray, List.getElem_cons_zero, List.getElem_cons_succ, List.setIfInBounds_toArray, List.set_cons_zero, List.set_cons_succ]
                    refine wpAnyH_take (i := 10) (v := .int .i64 t1.inc) rfl (by kernel_rfl) (by kernel_rfl) (by kernel_rfl) (fun _ _ _ h => h) (Or.inl ⟨by rfl, fun w' hS => by (obtain ⟨x0, x1, x2⟩ := hS; go_simp)⟩) hHeld ?_
                    simp only [Act.put, List.getElem_toArray, List.getElem_cons_zero, List.getElem_cons_succ, List.setIfInBounds_toArray, List.set_cons_zero, List.set_cons_succ]
                    refine wpAnyH_take (i := 11) (v := .slice (some ⟨g', 0, none⟩) ls.length lc) rfl (by kernel_rfl) (by kernel_rfl) (by kernel_rfl) (fun _ _ _ h => h) (Or.inl ⟨by rfl, fun w' hS => by go_simp⟩) hHeld ?_
                    simp only [Act.put, List.getElem_toArray, List.getElem_cons_zero, List.getElem_cons_succ, List.setIfInBounds_toArray, List.set_cons_zero, List.set_cons_succ]
                    refine wpAnyH_take (i := 12) (v := .int .i64 (j : Int)) rfl (by kernel_rfl) (by kernel_rfl) (by kernel_rfl) (fun _ _ _ h => h) (Or.inl ⟨by rfl, fun w' hS => by go_simp⟩) hHeld ?_
                    simp only [Act.put, List.getElem_toArray, List.getElem_cons_zero, List.getElem_cons_succ, List.setIfInBounds_toArray, List.set_cons_zero, List.set_cons_succ]
                    refine wpAnyH_take (i := 13) (v := .pointer (some ⟨g', j * 11, none⟩)) rfl (by kernel_rfl) (by kernel_rfl) (by kernel_rfl) (fun _ _ _ h => h) (Or.inl ⟨by rfl, fun w' hS => by (go_simp <;> first | omega | simp_all | (simp; omega))⟩) hHeld ?_
                    simp only [Act.put, List.getElem_toArray, List.getElem_cons_zero, List.getElem_cons_succ, List.setIfInBounds_toArray, List.set_cons_zero, List.set_cons_succ]
                    refine wpAnyH_take (i := 14) (v := .pointer (some ⟨g', j * 11 + 2, none⟩)) rfl (by kernel_rfl) (by kernel_rfl) (by kernel_rfl) (fun _ _ _ h => h) (Or.inl ⟨by rfl, fun w' hS => by go_simp⟩) hHeld ?_
                    simp only [Act.put, List.getElem_toArray, List.getElem_cons_zero, List.getElem_cons_succ, List.setIfInBounds_toArray, List.set_cons_zero, List.set_cons_succ]
                    refine wpAnyH_take (i := 15) (v := .agg ([.slice t1.p.sa t1.p.sn t1.p.sc, .int .i64 t1.p.cid, .int .i64 t1.p.rev, .int .i64 t1.p.top, .int .i64 (t1.p.prev[0]?.getD 0), .int .i64 (t1.p.prev[1]?.getD 0), .int .i64 (t1.p.prev[2]?.getD 0), .int .i64 (t1.p.prev[3]?.getD 0), .slice t1.p.va t1.p.vn t1.p.vc]).toArray) rfl (by kernel_rfl) (by kernel_rfl) (by kernel_rfl) (fun _ _ _ h => h) (yieldsIf_load_mid (by rfl) 41 (.tmp 152) rfl g' (j * 11 + 2) (by rfl) ([.slice t1.p.sa t1.p.sn t1.p.sc, .int .i64 t1.p.cid, .int .i64 t1.p.rev, .int .i64 t1.p.top, .int .i64 (t1.p.prev[0]?.getD 0), .int .i64 (t1.p.prev[1]?.getD 0), .int .i64 (t1.p.prev[2]?.getD 0), .int .i64 (t1.p.prev[3]?.getD 0), .slice t1.p.va t1.p.vn t1.p.vc]) _ (fun w' hS => hS.2.2) Try.underlying41 rfl info_propose) hHeld ?_
                    simp only [Act.put, List.getElem_toArray, List.getElem_cons_zero, List.getElem_cons_succ, List.setIfInBounds_toArray, List.set_cons_zero, List.set_cons_succ]
                    refine wpAnyH_ready (rs := [16]) (by kernel_rfl) (by simp) ?_
                    refine AllReadyH.cons rfl (fun K hK => ?_) AllReadyH.nil
                    go_simp
                    refine (HTk.out).mono ?_
                    rintro e z1 ⟨xb, E, rfl, hF1, hK1⟩
                    obtain ⟨Ca, hCa⟩ := HT.out.pr.fa.blk
                    have hgne : ¬ g' = a := own_ne HT.out.row hCa (by decide) g' rfl
                    have rk1 : ∀ (k i : Nat) (v : Value), wr.drew.cell? ⟨g', i, none⟩ = some v → z1.cell? ⟨g', i, none⟩ = some v := fun k i v hc => hK1.cell hc hgne
                    have HT1 : Hid (Lt w z1 a b n s inc w.heap.size #[.int .i64 (n : Int), .int .i64 (s : Int), .int .i64 inc, .int .i64 fl, .slice oa on oc] A.un (A'.tx t1) D' (.slice (some ⟨g', 0, none⟩) ls.length lc) ls j ∨ True) := .inr trivial
                    have Hpr1 : Hid (Pr z1 a b n s inc w.heap.size #[.int .i64 (n : Int), .int .i64 (s : Int), .int .i64 inc, .int .i64 fl, .slice oa on oc] (A'.tx t1) D') := ⟨hF1, HT.out.pr.fb.other HT.out.pr.fa HT.out.pr.ne hK1, HT.out.pr.ne⟩
                    have Hrow1 : Hid (RowT z1 w.heap.size (.slice (some ⟨g', 0, none⟩) ls.length lc) ls) := hK1.owns HT.out.row (fun k hk e => own_ne HT.out.row hCa (by decide) k hk e)
                    have Hlw1 : Hid (Below w.heap.size w z1) := HT.out.lw.trans (hK1.below HT.out.lw.size (fun k hk e => by omega))
                    have Hr21 : Hid (z1.rangeAt g' (m * 11) [.int .i64 t2.q, .int .i64 t2.inc, .slice t2.p.sa t2.p.sn t2.p.sc, .int .i64 t2.p.cid, .int .i64 t2.p.rev, .int .i64 t2.p.top, .int .i64 (t2.p.prev[0]?.getD 0), .int .i64 (t2.p.prev[1]?.getD 0), .int .i64 (t2.p.prev[2]?.getD 0), .int .i64 (t2.p.prev[3]?.getD 0), .slice t2.p.va t2.p.vn t2.p.vc]) := fun x v hv => hK1.cell (below_at (Below.refl _ _).drew (Hr2.out x v hv)) hgne
                    refine hK.out _ _ ⟨(rk1 0 _ _ s0), (rk1 0 _ _ s1), (fun x v hv => rk1 0 _ _ (S2.out x v hv))⟩ (fun hHeld => ?_)
                    clear hK K
                    refine wpAnyH_done (by kernel_rfl) ?_ _
                    clear hHeld
                    clear s0 s1 S2 HTk hF1 hK1 rk1 hCa hgne
                    generalize hX : z1.alloc (.cells [.int .i64 t2.q, .int .i64 t2.inc, .slice t2.p.sa t2.p.sn t2.p.sc, .int .i64 t2.p.cid, .int .i64 t2.p.rev, .int .i64 t2.p.top, .int .i64 (t2.p.prev[0]?.getD 0), .int .i64 (t2.p.prev[1]?.getD 0), .int .i64 (t2.p.prev[2]?.getD 0), .int .i64 (t2.p.prev[3]?.getD 0), .slice t2.p.va t2.p.vn t2.p.vc].toArray 61) = X
                    have hbX : Below z1.heap.size z1 X := by rw [← hX]; exact balloc (Below.refl _ _)
                    have hkX : X.heap[z1.heap.size]? = some (.cells [.int .i64 t2.q, .int .i64 t2.inc, .slice t2.p.sa t2.p.sn t2.p.sc, .int .i64 t2.p.cid, .int .i64 t2.p.rev, .int .i64 t2.p.top, .int .i64 (t2.p.prev[0]?.getD 0), .int .i64 (t2.p.prev[1]?.getD 0), .int .i64 (t2.p.prev[2]?.getD 0), .int .i64 (t2.p.prev[3]?.getD 0), .slice t2.p.va t2.p.vn t2.p.vc].toArray 61 (0, 0)) := by rw [← hX]; exact heap_alloc_new z1 _
                    have v0 : X.cell? ⟨z1.heap.size, 0, none⟩ = some (.int .i64 t2.q) := blk_cell hkX 0
                    have v1 : X.cell? ⟨z1.heap.size, 1, none⟩ = some (.int .i64 t2.inc) := blk_cell hkX 1
                    have V2 : Hid (X.rangeAt z1.heap.size 2 [.slice t2.p.sa t2.p.sn t2.p.sc, .int .i64 t2.p.cid, .int .i64 t2.p.rev, .int .i64 t2.p.top, .int .i64 (t2.p.prev[0]?.getD 0), .int .i64 (t2.p.prev[1]?.getD 0), .int .i64 (t2.p.prev[2]?.getD 0), .int .i64 (t2.p.prev[3]?.getD 0), .slice t2.p.va t2.p.vn t2.p.vc]) := range_sub hkX rfl
                    have HprX : Hid (Pr X a b n s inc w.heap.size #[.int .i64 (n : Int), .int .i64 (s : Int), .int .i64 inc, .int .i64 fl, .slice oa on oc] (A'.tx t1) D') := Hpr1.out.still hbX
                    have HrowX : Hid (RowT X w.heap.size (.slice (some ⟨g', 0, none⟩) ls.length lc) ls) := Hrow1.out.still hbX
                    have HlwX : Hid (Below w.heap.size w X) := bstep Hlw1.out hbX
                    have HTk2 : Hid (Calls Try.prog 22 #[.pointer (some ⟨b, 0, none⟩), .int .i64 t2.q, .int .i64 t2.inc, .agg [.slice t2.p.sa t2.p.sn t2.p.sc, .int .i64 t2.p.cid, .int .i64 t2.p.rev, .int .i64 t2.p.top, .int .i64 (t2.p.prev[0]?.getD 0), .int .i64 (t2.p.prev[1]?.getD 0), .int .i64 (t2.p.prev[2]?.getD 0), .int .i64 (t2.p.prev[3]?.getD 0), .slice t2.p.va t2.p.vn t2.p.vc].toArray] X fun e w' => ∃ (x : Bool) (E : Int), e = .returned (.tuple #[.bool x, .int .i64 E]) ∧ Fs w' b n s inc w.heap.size #[.int .i64 (n : Int), .int .i64 (s : Int), .int .i64 inc, .int .i64 fl, .slice oa on oc] (D'.tx t2) ∧ Kept X w' (fun j => j = b)) := HprX.out.fb.take t2 (Hrd2.out _ HlwX.out)
                    simp only [List.toArray] at hX
                    clear hbX hkX
                    go_wp2_with (first | (refine load_mid 61 (.tmp 161) Hr21.out _ Try.underlying61 rfl (by kernel_rfl) rfl rfl rfl ?_) | (refine load_mid 41 (.tmp 168) V2.out _ Try.underlying41 rfl (by kernel_rfl) rfl rfl rfl ?_) | fail)
                    refine HTk2.out.mono ?_
                    rintro e z2 ⟨xb2, E2, rfl, hF2, hK2⟩
                    obtain ⟨Cb, hCb⟩ := HprX.out.fb.blk
                    have HE : Hid (∃ (j_1 : Nat) (A'' D'' : Ag), j_1 ≤ ls.length ∧ Value.int .i64 ((j : Int) + 1) = .int .i64 (j_1 : Int) ∧ Lt w z2 a b n s inc w.heap.size #[.int .i64 (n : Int), .int .i64 (s : Int), .int .i64 inc, .int .i64 fl, .slice oa on oc] A.un A'' D'' (.slice (some ⟨g', 0, none⟩) ls.length lc) ls j_1) := ⟨j + 1, A'.tx t1, D'.tx t2, by omega, by simp, ⟨HprX.out.fa.other HprX.out.fb (fun e => HprX.out.ne e.symm) hK2, hF2, HprX.out.ne⟩, hK2.owns HrowX.out (fun k hk e => own_ne HrowX.out hCb (by decide) k hk e), by rw [un_tx, HT.out.ua, Hn1.out], by rw [un_tx, HT.out.ud, Hn2.out], HlwX.out.trans (hK2.below HlwX.out.size (fun k hk e => by omega))⟩
                    clear v0 v1 V2 HTk2 hF2 hK2 hCb hX
                    go_wp2
                    first
                      | exact ⟨HE.out, by simp [intOf]; omega⟩
                      | (go_roundw
                         case rel => exact HE.out
                         case measure => simp [intOf]; omega)
                  · have hje : j = ls.length := by omega
                    have jj2 : decide ((j : Int) < (ls.length : Int)) = false := decide_eq_false (by omega)
                    have hsg : A'.sg = D'.sg := by
                      have h1 := hT.ua
                      have h2 := hT.ud
                      rw [hje, List.take_length] at h1
                      rw [hje, List.take_of_length_le (by simp)] at h2
                      have hrd : Rdy A.un ls.length := rdy_un HR1.out.fa.iv Hun.out.2 Hc.out (by have := Hrev.out; have := Hlf.out.1; omega)
                      rw [fd_reverse ls A.un hrd Hlf.out.2.1 Hlf.out.2.2.1, ← h1] at h2
                      rw [← un_sg A', ← un_sg D', h2]
                    have Hsg : Hid (A'.sg = D'.sg) := hsg
                    have HT : Hid (Lt w wr a b n s inc w.heap.size #[.int .i64 (n : Int), .int .i64 (s : Int), .int .i64 inc, .int .i64 fl, .slice oa on oc] A.un A' D' (.slice la ls.length lc) ls j) := hT
                    clear hT hsg hje
                    go_wp2_with (fail)
                    refine HT.out.pr.fa.look.mono ?_
                    rintro e p1 ⟨S1, rfl, hS1, hg1, hp1⟩
                    clear jj2
                    go_wp2_with (fail)
                    refine (HT.out.pr.fb.still hp1).look.mono ?_
                    rintro e p2 ⟨S2, rfl, hS2, hg2, hp2⟩
                    have HIs := is_yes S1 S2 (hS1.still hp2).rd hS2.rd (by rw [hg1, hg2]; exact Hsg.out)
                    have Hlp : Hid (Below w.heap.size w p2) := bstep (bstep HT.out.lw hp1) hp2
                    clear hS1 hg1 hp1 hS2 hg2 hp2
                    go_wp2_with (fail)
                    refine HIs.mono ?_
                    rintro e p3 ⟨rfl, hp3⟩
                    go_wp2
                    go_ret
                    exact ⟨rfl, bstep Hlp.out hp3⟩
            · have t2' : decide ((i : Int) < (tn : Int)) = false := decide_eq_false (by omega)
              have HLt : Hid (Lt w wr a b n s inc w.heap.size #[.int .i64 (n : Int), .int .i64 (s : Int), .int .i64 inc, .int .i64 fl, .slice oa on oc] A.un A D (.slice la ls.length lc) ls 0) := ⟨hL.pr, hL.row, rfl, by show D.un = A.un; exact Hun.out.1.symm, hL.lw⟩
              have Hlf : Hid (ls.length ≤ 16 ∧ (∀ t ∈ ls, (0 ≤ t.q ∧ t.q < 16)) ∧ ls.Pairwise (fun x y => x.q ≠ y.q) ∧ (∀ t ∈ ls, ∀ W, Below w.heap.size w W → t.p.Rd W)) := ⟨hL.len, fun t ht => (hL.inr t ht).1, hL.pw, hL.rd⟩
              clear hL
              go_wp2
              go_loopw [14] (fun v14 wr => ∃ (j : Nat) (A' D' : Ag), j ≤ ls.length ∧ v14 = .int .i64 (j : Int) ∧ Lt w wr a b n s inc w.heap.size #[.int .i64 (n : Int), .int .i64 (s : Int), .int .i64 inc, .int .i64 fl, .slice oa on oc] A.un A' D' (.slice la ls.length lc) ls j) (fun v14 _ => ls.length - (intOf v14).toNat)
              case atStart => exact ⟨0, A, D, Nat.zero_le _, rfl, HLt.out⟩
              case round =>
                clear HLt
                obtain ⟨j, A', D', hj, rfl, hT⟩ := hrel
                by_cases hjl : j < ls.length
                · obtain ⟨g, c, hv, hr1⟩ := hT.row.at hjl
                  obtain ⟨g', c', hv', hr2⟩ := hT.row.at (show ls.length - 1 - j < ls.length by omega)
                  have hgg : g' = g := by have h := hv.symm.trans hv'; simp at h; exact h.1.symm
                  subst hgg
                  have hla : la = some ⟨g', 0, none⟩ := by have h := hv; simp at h; exact h.1
                  have hmem1 : ls.getD j t0 ∈ ls := by simp [List.getD, hjl]
                  have hmem2 : ls.getD (ls.length - 1 - j) t0 ∈ ls := by simp [List.getD, show ls.length - 1 - j < ls.length by omega]
                  have hn1 := fd_next A.un ls j hjl
                  have hn2 := fd_next A.un ls.reverse j (by simpa using hjl)
                  rw [rev_getD ls j hjl] at hn2
                  have Hrd1 : Hid (∀ W, Below w.heap.size w W → (ls.getD j t0).p.Rd W) := Hlf.out.2.2.2 _ hmem1
                  have Hrd2 : Hid (∀ W, Below w.heap.size w W → (ls.getD (ls.length - 1 - j) t0).p.Rd W) := Hlf.out.2.2.2 _ hmem2
                  obtain ⟨m, hm⟩ : ∃ m : Nat, ls.length - 1 - j = m := ⟨_, rfl⟩
                  have hmi : (ls.length : Int) - 1 - (j : Int) = (m : Int) := by omega
                  rw [hm] at hr2 hn2 Hrd2
                  have Hn1 : Hid (A.un.fd (ls.take (j + 1)) = (A.un.fd (ls.take j)).tx (ls.getD j t0)) := hn1
                  have Hn2 : Hid (A.un.fd (ls.reverse.take (j + 1)) = (A.un.fd (ls.reverse.take j)).tx (ls.getD m t0)) := hn2
                  generalize ls.getD j t0 = t1 at hr1 Hrd1 Hn1
                  generalize ls.getD m t0 = t2 at hr2 Hrd2 Hn2
                  have HT : Hid (Lt w wr.drew a b n s inc w.heap.size #[.int .i64 (n : Int), .int .i64 (s : Int), .int .i64 inc, .int .i64 fl, .slice oa on oc] A.un A' D' (.slice la ls.length lc) ls j) := ⟨hT.pr.still (Below.refl _ _).drew, hT.row.still (Below.refl _ _).drew, hT.ua, hT.ud, bstep hT.lw (Below.refl _ _).drew⟩
                  have h16l := Hlf.out.1
                  have jj1 : (0 : Int) ≤ (j : Int) := Int.natCast_nonneg _
                  have jj2 : (j : Int) < (ls.length : Int) := by omega
                  have mm1 : (0 : Int) ≤ (m : Int) := Int.natCast_nonneg _
                  have mm2 : (m : Int) < (ls.length : Int) := by omega
                  have Hr2 : Hid (wr.rangeAt g' (m * 11) [.int .i64 t2.q, .int .i64 t2.inc, .slice t2.p.sa t2.p.sn t2.p.sc, .int .i64 t2.p.cid, .int .i64 t2.p.rev, .int .i64 t2.p.top, .int .i64 (t2.p.prev[0]?.getD 0), .int .i64 (t2.p.prev[1]?.getD 0), .int .i64 (t2.p.prev[2]?.getD 0), .int .i64 (t2.p.prev[3]?.getD 0), .slice t2.p.va t2.p.vn t2.p.vc]) := hr2
                  have s0 : wr.drew.cell? ⟨g', j * 11, none⟩ = some (.int .i64 t1.q) := below_at (Below.refl _ _).drew (hr1 0 _ rfl)
                  have s1 : wr.drew.cell? ⟨g', j * 11 + 1, none⟩ = some (.int .i64 t1.inc) := below_at (Below.refl _ _).drew (hr1 1 _ rfl)
                  have S2 : Hid (wr.drew.rangeAt g' (j * 11 + 2) [.slice t1.p.sa t1.p.sn t1.p.sc, .int .i64 t1.p.cid, .int .i64 t1.p.rev, .int .i64 t1.p.top, .int .i64 (t1.p.prev[0]?.getD 0), .int .i64 (t1.p.prev[1]?.getD 0), .int .i64 (t1.p.prev[2]?.getD 0), .int .i64 (t1.p.prev[3]?.getD 0), .slice t1.p.va t1.p.vn t1.p.vc]) := rng_below (rng_two hr1) (Below.refl _ _).drew
                  have HTk : Hid (Calls Try.prog 22 #[.pointer (some ⟨a, 0, none⟩), .int .i64 t1.q, .int .i64 t1.inc, .agg [.slice t1.p.sa t1.p.sn t1.p.sc, .int .i64 t1.p.cid, .int .i64 t1.p.rev, .int .i64 t1.p.top, .int .i64 (t1.p.prev[0]?.getD 0), .int .i64 (t1.p.prev[1]?.getD 0), .int .i64 (t1.p.prev[2]?.getD 0), .int .i64 (t1.p.prev[3]?.getD 0), .slice t1.p.va t1.p.vn t1.p.vc].toArray] wr.drew fun e w' => ∃ (x : Bool) (E : Int), e = .returned (.tuple #[.bool x, .int .i64 E]) ∧ Fs w' a n s inc w.heap.size #[.int .i64 (n : Int), .int .i64 (s : Int), .int .i64 inc, .int .i64 fl, .slice oa on oc] (A'.tx t1) ∧ Kept wr.drew w' (fun j => j = a)) := HT.out.pr.fa.take t1 (Hrd1.out _ HT.out.lw)
                  subst hla
                  clear hr1 hr2 hv hv' hn1 hn2 hmem1 hmem2 hT hm
                  go_wp2
                  refine wp_region_held_drew (S := (fun w' => w'.cell? ⟨g', j * 11, none⟩ = some (.int .i64 t1.q) ∧ w'.cell? ⟨g', j * 11 + 1, none⟩ = some (.int .i64 t1.inc) ∧ w'.rangeAt g' (j * 11 + 2) [.slice t1.p.sa t1.p.sn t1.p.sc, .int .i64 t1.p.cid, .int .i64 t1.p.rev, .int .i64 t1.p.top, .int .i64 (t1.p.prev[0]?.getD 0), .int .i64 (t1.p.prev[1]?.getD 0), .int .i64 (t1.p.prev[2]?.getD 0), .int .i64 (t1.p.prev[3]?.getD 0), .slice t1.p.va t1.p.vn t1.p.vc])) (by kernel_rfl) ⟨s0, s1, S2.out⟩ (fun hHeld => ?_)
                  simp only [Act.put, List.size_toArray, List.length_cons, List.length_nil, Nat.zero_add]
                  refine wpAnyH_take (i := 0) (v := .pointer (some ⟨a, 0, none⟩)) rfl (by kernel_rfl) (by kernel_rfl) (by kernel_rfl) (fun _ _ _ h => h) (Or.inl ⟨by rfl, fun w' hS => by go_simp⟩) hHeld ?_
                  simp only [Act.put, List.getElem_toArray, List.getElem_cons_zero, List.getElem_cons_succ, List.setIfInBounds_toArray, List.set_cons_zero, List.set_cons_succ]
                  refine wpAnyH_take (i := 1) (v := .slice (some ⟨g', 0, none⟩) ls.length lc) rfl (by kernel_rfl) (by kernel_rfl) (by kernel_rfl) (fun _ _ _ h => h) (Or.inl ⟨by rfl, fun w' hS => by go_simp⟩) hHeld ?_
                  simp only [Act.put, List.getElem_toArray, List.getElem_cons_zero, List.getElem_cons_succ, List.setIfInBounds_toArray, List.set_cons_zero, List.set_cons_succ]
                  refine wpAnyH_take (i := 2) (v := .int .i64 (j : Int)) rfl (by kernel_rfl) (by kernel_rfl) (by kernel_rfl) (fun _ _ _ h => h) (Or.inl ⟨by rfl, fun w' hS => by go_simp⟩) hHeld ?_
                  simp only [Act.put, List.getElem_toArray, List.getElem_cons_zero, List.getElem_cons_succ, List.setIfInBounds_toArray, List.set_cons_zero, List.set_cons_succ]
                  refine wpAnyH_take (i := 3) (v := .pointer (some ⟨g', j * 11, none⟩)) rfl (by kernel_rfl) (by kernel_rfl) (by kernel_rfl) (fun _ _ _ h => h) (Or.inl ⟨by rfl, fun w' hS => by (go_simp <;> first | omega | simp_all | (simp; omega))⟩) hHeld ?_
                  simp only [Act.put, List.getElem_toArray, List.getElem_cons_zero, List.getElem_cons_succ, List.setIfInBounds_toArray, List.set_cons_zero, List.set_cons_succ]
                  refine wpAnyH_take (i := 4) (v := .pointer (some ⟨g', j * 11, none⟩)) rfl (by kernel_rfl) (by kernel_rfl) (by kernel_rfl) (fun _ _ _ h => h) (Or.inl ⟨by rfl, fun w' hS => by go_simp⟩) hHeld ?_
                  simp only [Act.put, List.getElem_toArray, List.getElem_cons_zero, List.getElem_cons_succ, List.setIfInBounds_toArray, List.set_cons_zero, List.set_cons_succ]
                  refine wpAnyH_take (i := 5) (v := .int .i64 t1.q) rfl (by kernel_rfl) (by kernel_rfl) (by kernel_rfl) (fun _ _ _ h => h) (Or.inl ⟨by rfl, fun w' hS => by (obtain ⟨x0, x1, x2⟩ := hS; go_simp)⟩) hHeld ?_
                  simp only [Act.put, List.getElem_toArray, List.getElem_cons_zero, List.getElem_cons_succ, List.setIfInBounds_toArray, List.set_cons_zero, List.set_cons_succ]
                  refine wpAnyH_take (i := 6) (v := .slice (some ⟨g', 0, none⟩) ls.length lc) rfl (by kernel_rfl) (by kernel_rfl) (by kernel_rfl) (fun _ _ _ h => h) (Or.inl ⟨by rfl, fun w' hS => by go_simp⟩) hHeld ?_
                  simp only [Act.put, List.getElem_toArray, List.getElem_cons_zero, List.getElem_cons_succ, List.setIfInBounds_toArray, List.set_cons_zero, List.set_cons_succ]
                  refine wpAnyH_take (i := 7) (v := .int .i64 (j : Int)) rfl (by kernel_rfl) (by kernel_rfl) (by kernel_rfl) (fun _ _ _ h => h) (Or.inl ⟨by rfl, fun w' hS => by go_simp⟩) hHeld ?_
                  simp only [Act.put, List.getElem_toArray, List.getElem_cons_zero, List.getElem_cons_succ, List.setIfInBounds_toArray, List.set_cons_zero, List.set_cons_succ]
                  refine wpAnyH_take (i := 8) (v := .pointer (some ⟨g', j * 11, none⟩)) rfl (by kernel_rfl) (by kernel_rfl) (by kernel_rfl) (fun _ _ _ h => h) (Or.inl ⟨by rfl, fun w' hS => by (go_simp <;> first | omega | simp_all | (simp; omega))⟩) hHeld ?_
                  simp only [Act.put, List.getElem_toArray, List.getElem_cons_zero, List.getElem_cons_succ, List.setIfInBounds_toArray, List.set_cons_zero, List.set_cons_succ]
                  refine wpAnyH_take (i := 9) (v := .pointer (some ⟨g', j * 11 + 1, none⟩)) rfl (by kernel_rfl) (by kernel_rfl) (by kernel_rfl) (fun _ _ _ h => h) (Or.inl ⟨by rfl, fun w' hS => by go_simp⟩) hHeld ?_
                  simp only [Act.put, List.getElem_toArray, List.getElem_cons_zero, List.getElem_cons_succ, List.setIfInBounds_toArray, List.set_cons_zero, List.set_cons_succ]
                  refine wpAnyH_take (i := 10) (v := .int .i64 t1.inc) rfl (by kernel_rfl) (by kernel_rfl) (by kernel_rfl) (fun _ _ _ h => h) (Or.inl ⟨by rfl, fun w' hS => by (obtain ⟨x0, x1, x2⟩ := hS; go_simp)⟩) hHeld ?_
                  simp only [Act.put, List.getElem_toArray, List.getElem_cons_zero, List.getElem_cons_succ, List.setIfInBounds_toArray, List.set_cons_zero, List.set_cons_succ]
                  refine wpAnyH_take (i := 11) (v := .slice (some ⟨g', 0, none⟩) ls.length lc) rfl (by kernel_rfl) (by kernel_rfl) (by kernel_rfl) (fun _ _ _ h => h) (Or.inl ⟨by rfl, fun w' hS => by go_simp⟩) hHeld ?_
                  simp only [Act.put, List.getElem_toArray, List.getElem_cons_zero, List.getElem_cons_succ, List.setIfInBounds_toArray, List.set_cons_zero, List.set_cons_succ]
                  refine wpAnyH_take (i := 12) (v := .int .i64 (j : Int)) rfl (by kernel_rfl) (by kernel_rfl) (by kernel_rfl) (fun _ _ _ h => h) (Or.inl ⟨by rfl, fun w' hS => by go_simp⟩) hHeld ?_
                  simp only [Act.put, List.getElem_toArray, List.getElem_cons_zero, List.getElem_cons_succ, List.setIfInBounds_toArray, List.set_cons_zero, List.set_cons_succ]
                  refine wpAnyH_take (i := 13) (v := .pointer (some ⟨g', j * 11, none⟩)) rfl (by kernel_rfl) (by kernel_rfl) (by kernel_rfl) (fun _ _ _ h => h) (Or.inl ⟨by rfl, fun w' hS => by (go_simp <;> first | omega | simp_all | (simp; omega))⟩) hHeld ?_
                  simp only [Act.put, List.getElem_toArray, List.getElem_cons_zero, List.getElem_cons_succ, List.setIfInBounds_toArray, List.set_cons_zero, List.set_cons_succ]
                  refine wpAnyH_take (i := 14) (v := .pointer (some ⟨g', j * 11 + 2, none⟩)) rfl (by kernel_rfl) (by kernel_rfl) (by kernel_rfl) (fun _ _ _ h => h) (Or.inl ⟨by rfl, fun w' hS => by go_simp⟩) hHeld ?_
                  simp only [Act.put, List.getElem_toArray, List.getElem_cons_zero, List.getElem_cons_succ, List.setIfInBounds_toArray, List.set_cons_zero, List.set_cons_succ]
                  refine wpAnyH_take (i := 15) (v := .agg ([.slice t1.p.sa t1.p.sn t1.p.sc, .int .i64 t1.p.cid, .int .i64 t1.p.rev, .int .i64 t1.p.top, .int .i64 (t1.p.prev[0]?.getD 0), .int .i64 (t1.p.prev[1]?.getD 0), .int .i64 (t1.p.prev[2]?.getD 0), .int .i64 (t1.p.prev[3]?.getD 0), .slice t1.p.va t1.p.vn t1.p.vc]).toArray) rfl (by kernel_rfl) (by kernel_rfl) (by kernel_rfl) (fun _ _ _ h => h) (yieldsIf_load_mid (by rfl) 41 (.tmp 152) rfl g' (j * 11 + 2) (by rfl) ([.slice t1.p.sa t1.p.sn t1.p.sc, .int .i64 t1.p.cid, .int .i64 t1.p.rev, .int .i64 t1.p.top, .int .i64 (t1.p.prev[0]?.getD 0), .int .i64 (t1.p.prev[1]?.getD 0), .int .i64 (t1.p.prev[2]?.getD 0), .int .i64 (t1.p.prev[3]?.getD 0), .slice t1.p.va t1.p.vn t1.p.vc]) _ (fun w' hS => hS.2.2) Try.underlying41 rfl info_propose) hHeld ?_
                  simp only [Act.put, List.getElem_toArray, List.getElem_cons_zero, List.getElem_cons_succ, List.setIfInBounds_toArray, List.set_cons_zero, List.set_cons_succ]
                  refine wpAnyH_ready (rs := [16]) (by kernel_rfl) (by simp) ?_
                  refine AllReadyH.cons rfl (fun K hK => ?_) AllReadyH.nil
                  go_simp
                  refine (HTk.out).mono ?_
                  rintro e z1 ⟨xb, E, rfl, hF1, hK1⟩
                  obtain ⟨Ca, hCa⟩ := HT.out.pr.fa.blk
                  have hgne : ¬ g' = a := own_ne HT.out.row hCa (by decide) g' rfl
                  have rk1 : ∀ (k i : Nat) (v : Value), wr.drew.cell? ⟨g', i, none⟩ = some v → z1.cell? ⟨g', i, none⟩ = some v := fun k i v hc => hK1.cell hc hgne
                  have HT1 : Hid (Lt w z1 a b n s inc w.heap.size #[.int .i64 (n : Int), .int .i64 (s : Int), .int .i64 inc, .int .i64 fl, .slice oa on oc] A.un (A'.tx t1) D' (.slice (some ⟨g', 0, none⟩) ls.length lc) ls j ∨ True) := .inr trivial
                  have Hpr1 : Hid (Pr z1 a b n s inc w.heap.size #[.int .i64 (n : Int), .int .i64 (s : Int), .int .i64 inc, .int .i64 fl, .slice oa on oc] (A'.tx t1) D') := ⟨hF1, HT.out.pr.fb.other HT.out.pr.fa HT.out.pr.ne hK1, HT.out.pr.ne⟩
                  have Hrow1 : Hid (RowT z1 w.heap.size (.slice (some ⟨g', 0, none⟩) ls.length lc) ls) := hK1.owns HT.out.row (fun k hk e => own_ne HT.out.row hCa (by decide) k hk e)
                  have Hlw1 : Hid (Below w.heap.size w z1) := HT.out.lw.trans (hK1.below HT.out.lw.size (fun k hk e => by omega))
                  have Hr21 : Hid (z1.rangeAt g' (m * 11) [.int .i64 t2.q, .int .i64 t2.inc, .slice t2.p.sa t2.p.sn t2.p.sc, .int .i64 t2.p.cid, .int .i64 t2.p.rev, .int .i64 t2.p.top, .int .i64 (t2.p.prev[0]?.getD 0), .int .i64 (t2.p.prev[1]?.getD 0), .int .i64 (t2.p.prev[2]?.getD 0), .int .i64 (t2.p.prev[3]?.getD 0), .slice t2.p.va t2.p.vn t2.p.vc]) := fun x v hv => hK1.cell (below_at (Below.refl _ _).drew (Hr2.out x v hv)) hgne
                  refine hK.out _ _ ⟨(rk1 0 _ _ s0), (rk1 0 _ _ s1), (fun x v hv => rk1 0 _ _ (S2.out x v hv))⟩ (fun hHeld => ?_)
                  clear hK K
                  refine wpAnyH_done (by kernel_rfl) ?_ _
                  clear hHeld
                  clear s0 s1 S2 HTk hF1 hK1 rk1 hCa hgne
                  generalize hX : z1.alloc (.cells [.int .i64 t2.q, .int .i64 t2.inc, .slice t2.p.sa t2.p.sn t2.p.sc, .int .i64 t2.p.cid, .int .i64 t2.p.rev, .int .i64 t2.p.top, .int .i64 (t2.p.prev[0]?.getD 0), .int .i64 (t2.p.prev[1]?.getD 0), .int .i64 (t2.p.prev[2]?.getD 0), .int .i64 (t2.p.prev[3]?.getD 0), .slice t2.p.va t2.p.vn t2.p.vc].toArray 61) = X
                  have hbX : Below z1.heap.size z1 X := by rw [← hX]; exact balloc (Below.refl _ _)
                  have hkX : X.heap[z1.heap.size]? = some (.cells [.int .i64 t2.q, .int .i64 t2.inc, .slice t2.p.sa t2.p.sn t2.p.sc, .int .i64 t2.p.cid, .int .i64 t2.p.rev, .int .i64 t2.p.top, .int .i64 (t2.p.prev[0]?.getD 0), .int .i64 (t2.p.prev[1]?.getD 0), .int .i64 (t2.p.prev[2]?.getD 0), .int .i64 (t2.p.prev[3]?.getD 0), .slice t2.p.va t2.p.vn t2.p.vc].toArray 61 (0, 0)) := by rw [← hX]; exact heap_alloc_new z1 _
                  have v0 : X.cell? ⟨z1.heap.size, 0, none⟩ = some (.int .i64 t2.q) := blk_cell hkX 0
                  have v1 : X.cell? ⟨z1.heap.size, 1, none⟩ = some (.int .i64 t2.inc) := blk_cell hkX 1
                  have V2 : Hid (X.rangeAt z1.heap.size 2 [.slice t2.p.sa t2.p.sn t2.p.sc, .int .i64 t2.p.cid, .int .i64 t2.p.rev, .int .i64 t2.p.top, .int .i64 (t2.p.prev[0]?.getD 0), .int .i64 (t2.p.prev[1]?.getD 0), .int .i64 (t2.p.prev[2]?.getD 0), .int .i64 (t2.p.prev[3]?.getD 0), .slice t2.p.va t2.p.vn t2.p.vc]) := range_sub hkX rfl
                  have HprX : Hid (Pr X a b n s inc w.heap.size #[.int .i64 (n : Int), .int .i64 (s : Int), .int .i64 inc, .int .i64 fl, .slice oa on oc] (A'.tx t1) D') := Hpr1.out.still hbX
                  have HrowX : Hid (RowT X w.heap.size (.slice (some ⟨g', 0, none⟩) ls.length lc) ls) := Hrow1.out.still hbX
                  have HlwX : Hid (Below w.heap.size w X) := bstep Hlw1.out hbX
                  have HTk2 : Hid (Calls Try.prog 22 #[.pointer (some ⟨b, 0, none⟩), .int .i64 t2.q, .int .i64 t2.inc, .agg [.slice t2.p.sa t2.p.sn t2.p.sc, .int .i64 t2.p.cid, .int .i64 t2.p.rev, .int .i64 t2.p.top, .int .i64 (t2.p.prev[0]?.getD 0), .int .i64 (t2.p.prev[1]?.getD 0), .int .i64 (t2.p.prev[2]?.getD 0), .int .i64 (t2.p.prev[3]?.getD 0), .slice t2.p.va t2.p.vn t2.p.vc].toArray] X fun e w' => ∃ (x : Bool) (E : Int), e = .returned (.tuple #[.bool x, .int .i64 E]) ∧ Fs w' b n s inc w.heap.size #[.int .i64 (n : Int), .int .i64 (s : Int), .int .i64 inc, .int .i64 fl, .slice oa on oc] (D'.tx t2) ∧ Kept X w' (fun j => j = b)) := HprX.out.fb.take t2 (Hrd2.out _ HlwX.out)
                  simp only [List.toArray] at hX
                  clear hbX hkX
                  go_wp2_with (first | (refine load_mid 61 (.tmp 161) Hr21.out _ Try.underlying61 rfl (by kernel_rfl) rfl rfl rfl ?_) | (refine load_mid 41 (.tmp 168) V2.out _ Try.underlying41 rfl (by kernel_rfl) rfl rfl rfl ?_) | fail)
                  refine HTk2.out.mono ?_
                  rintro e z2 ⟨xb2, E2, rfl, hF2, hK2⟩
                  obtain ⟨Cb, hCb⟩ := HprX.out.fb.blk
                  have HE : Hid (∃ (j_1 : Nat) (A'' D'' : Ag), j_1 ≤ ls.length ∧ Value.int .i64 ((j : Int) + 1) = .int .i64 (j_1 : Int) ∧ Lt w z2 a b n s inc w.heap.size #[.int .i64 (n : Int), .int .i64 (s : Int), .int .i64 inc, .int .i64 fl, .slice oa on oc] A.un A'' D'' (.slice (some ⟨g', 0, none⟩) ls.length lc) ls j_1) := ⟨j + 1, A'.tx t1, D'.tx t2, by omega, by simp, ⟨HprX.out.fa.other HprX.out.fb (fun e => HprX.out.ne e.symm) hK2, hF2, HprX.out.ne⟩, hK2.owns HrowX.out (fun k hk e => own_ne HrowX.out hCb (by decide) k hk e), by rw [un_tx, HT.out.ua, Hn1.out], by rw [un_tx, HT.out.ud, Hn2.out], HlwX.out.trans (hK2.below HlwX.out.size (fun k hk e => by omega))⟩
                  clear v0 v1 V2 HTk2 hF2 hK2 hCb hX
                  go_wp2
                  first
                    | exact ⟨HE.out, by simp [intOf]; omega⟩
                    | (go_roundw
                       case rel => exact HE.out
                       case measure => simp [intOf]; omega)
                · have hje : j = ls.length := by omega
                  have jj2 : decide ((j : Int) < (ls.length : Int)) = false := decide_eq_false (by omega)
                  have hsg : A'.sg = D'.sg := by
                    have h1 := hT.ua
                    have h2 := hT.ud
                    rw [hje, List.take_length] at h1
                    rw [hje, List.take_of_length_le (by simp)] at h2
                    have hrd : Rdy A.un ls.length := rdy_un HR1.out.fa.iv Hun.out.2 Hc.out (by have := Hrev.out; have := Hlf.out.1; omega)
                    rw [fd_reverse ls A.un hrd Hlf.out.2.1 Hlf.out.2.2.1, ← h1] at h2
                    rw [← un_sg A', ← un_sg D', h2]
                  have Hsg : Hid (A'.sg = D'.sg) := hsg
                  have HT : Hid (Lt w wr a b n s inc w.heap.size #[.int .i64 (n : Int), .int .i64 (s : Int), .int .i64 inc, .int .i64 fl, .slice oa on oc] A.un A' D' (.slice la ls.length lc) ls j) := hT
                  clear hT hsg hje
                  go_wp2_with (fail)
                  refine HT.out.pr.fa.look.mono ?_
                  rintro e p1 ⟨S1, rfl, hS1, hg1, hp1⟩
                  clear jj2
                  go_wp2_with (fail)
                  refine (HT.out.pr.fb.still hp1).look.mono ?_
                  rintro e p2 ⟨S2, rfl, hS2, hg2, hp2⟩
                  have HIs := is_yes S1 S2 (hS1.still hp2).rd hS2.rd (by rw [hg1, hg2]; exact Hsg.out)
                  have Hlp : Hid (Below w.heap.size w p2) := bstep (bstep HT.out.lw hp1) hp2
                  clear hS1 hg1 hp1 hS2 hg2 hp2
                  go_wp2_with (fail)
                  refine HIs.mono ?_
                  rintro e p3 ⟨rfl, hp3⟩
                  go_wp2
                  go_ret
                  exact ⟨rfl, bstep Hlp.out hp3⟩
end
end Go.Proofs.Ytbdefhagpgpoiaa.Mb
namespace Go.Proofs.Ytbdefhagpgpoiaa.Mb
open Go.RowKit Oe
set_option linter.unusedVariables false
set_option maxRecDepth 100000
set_option linter.unusedSimpArgs false
section
variable {A A' : Ag} {w w' W : World} {B : Nat} {T : Int}
theorem oko_of (n s inc fl : Int) (h : newOk n s inc fl = true) : ∃ n' s' : Nat, n = (n' : Int) ∧ s = (s' : Int) ∧ (1 ≤ n' ∧ n' ≤ 16 ∧ s' < n') ∧ (1 ≤ inc ∧ inc ≤ 4611686018427387904) ∧ 0 ≤ fl ∧ fl ≤ 4611686018427387904 := by
  unfold newOk wB at h
  simp only [Bool.and_eq_true, decide_eq_true_eq] at h
  obtain ⟨⟨⟨h1, h2⟩, h3⟩, h4⟩ := h
  exact ⟨n.toNat, s.toNat, by omega, by omega, by omega, h3, h4⟩
set_option maxHeartbeats 2000000 in
theorem orderless_none (n s inc fl : Int) (oa : Option Addr) (on oc : Nat) (ta : Option Addr) (tn tc : Nat) (HN : ∀ W : World, Calls Try.prog 9 #[.agg #[.int .i64 n, .int .i64 s, .int .i64 inc, .int .i64 fl, .slice oa on oc]] W fun e w' => e = .returned (.tuple #[.pointer none, .bool true]) ∧ Below W.heap.size W w') : Calls Try.prog 5 #[.agg #[.int .i64 n, .int .i64 s, .int .i64 inc, .int .i64 fl, .slice oa on oc], .slice ta tn tc] w fun e w' => e = .returned (.bool true) ∧ Below w.heap.size w w' := by
  generalize hW1 : w.alloc (.cells #[.int .i64 n, .int .i64 s, .int .i64 inc, .int .i64 fl, .slice oa on oc] 24) = W1
  have b1 : Below w.heap.size w W1 := hW1 ▸ balloc (Below.refl _ _)
  have k1 : W1.heap[w.heap.size]? = some (.cells #[.int .i64 n, .int .i64 s, .int .i64 inc, .int .i64 fl, .slice oa on oc] 24 (0, 0)) := by rw [← hW1]; exact heap_alloc_new w _
  have c0 : W1.cell? ⟨w.heap.size, 0, none⟩ = some (.int .i64 n) := blk_cell k1 0
  have c1 : W1.cell? ⟨w.heap.size, 1, none⟩ = some (.int .i64 s) := blk_cell k1 1
  have c2 : W1.cell? ⟨w.heap.size, 2, none⟩ = some (.int .i64 inc) := blk_cell k1 2
  have c3 : W1.cell? ⟨w.heap.size, 3, none⟩ = some (.int .i64 fl) := blk_cell k1 3
  have c4 : W1.cell? ⟨w.heap.size, 4, none⟩ = some (.slice oa on oc) := blk_cell k1 4
  have HB1 : Hid (Below w.heap.size w W1) := b1
  have HN1 := HN W1
  have HNG : Hid (∀ W : World, Calls Try.prog 9 #[.agg #[.int .i64 n, .int .i64 s, .int .i64 inc, .int .i64 fl, .slice oa on oc]] W fun e w' => e = .returned (.tuple #[.pointer none, .bool true]) ∧ Below W.heap.size W w') := HN
  clear b1 HN
  go_enter Try.func5, Try.ntmps5
  go_wp2_with (fail)
  refine HN1.mono ?_
  rintro e w2 ⟨rfl, hb2⟩
  have k2 := (hb2.block _ (lt_heap k1)).trans k1
  have d0 : w2.cell? ⟨w.heap.size, 0, none⟩ = some (.int .i64 n) := blk_cell k2 0
  have d1 : w2.cell? ⟨w.heap.size, 1, none⟩ = some (.int .i64 s) := blk_cell k2 1
  have d2 : w2.cell? ⟨w.heap.size, 2, none⟩ = some (.int .i64 inc) := blk_cell k2 2
  have d3 : w2.cell? ⟨w.heap.size, 3, none⟩ = some (.int .i64 fl) := blk_cell k2 3
  have d4 : w2.cell? ⟨w.heap.size, 4, none⟩ = some (.slice oa on oc) := blk_cell k2 4
  have HB2 : Hid (Below w.heap.size w w2) := bstep HB1.out hb2
  clear k1 k2 hb2 HN1
  go_wp2_with (fail)
  refine (HNG.out w2).mono ?_
  rintro e w3 ⟨rfl, hb3⟩
  have HB3 : Hid (Below w.heap.size w w3) := bstep HB2.out hb3
  clear hb3
  go_wp2
  go_ret
  exact ⟨rfl, HB3.out⟩
theorem orderless_any (n s inc fl : Int) (oa : Option Addr) (on oc : Nat) (os : Nat → Opx) (ta : Option Addr) (tn tc : Nat) (ts : Nat → Tx) (hn : -9223372036854775808 ≤ n ∧ n ≤ 9223372036854775807) (ho : RdOps w oa on os) (hon : on ≤ 925904528653) (hts : RdTs w ta tn ts) (htn : tn ≤ 1172812402927) : Calls Try.prog 5 #[.agg #[.int .i64 n, .int .i64 s, .int .i64 inc, .int .i64 fl, .slice oa on oc], .slice ta tn tc] w fun e w' => e = .returned (.bool true) ∧ Below w.heap.size w w' := by
  cases hok : newOk n s inc fl with
  | false => exact orderless_none n s inc fl oa on oc ta tn tc fun W => begun_no n s inc fl oa on oc hn hok
  | true =>
    obtain ⟨n', s', rfl, rfl, h16, hi, hf⟩ := oko_of n s inc fl hok
    by_cases hm : fl = 4611686018427387904
    · subst hm
      exact orderless_none n' s' inc _ oa on oc ta tn tc fun W => begun_spent n' s' inc oa on oc h16 hi
    · exact orderless_yes n' s' inc fl oa on oc os ta tn tc ts ho hon hts htn h16 hi ⟨hf.1, by omega⟩
end
end Go.Proofs.Ytbdefhagpgpoiaa.Mb
