import Derived.Test.YtbdefhagpgpoiaaBx
namespace Go.Proofs.Ytbdefhagpgpoiaa.Mb
open Go.RowKit Oe
set_option linter.unusedVariables false
set_option maxRecDepth 100000
set_option linter.unusedSimpArgs false
section
variable {A A' : Ag} {w w' W : World} {B : Nat} {T : Int}
set_option maxHeartbeats 80000000 in
theorem rises_yes (n s : Nat) (inc fl : Int) (oa : Option Addr) (on oc : Nat) (os : Nat → Opx) (ho : RdOps w oa on os) (hon : on ≤ 925904528653) (h16 : 1 ≤ n ∧ n ≤ 16 ∧ s < n) (hi : 1 ≤ inc ∧ inc ≤ 4611686018427387904) (hf : 0 ≤ fl ∧ fl < 4611686018427387904) : Calls Try.prog 3 #[.agg #[.int .i64 (n : Int), .int .i64 (s : Int), .int .i64 inc, .int .i64 fl, .slice oa on oc]] w fun e w' => e = .returned (.bool true) ∧ Below w.heap.size w w' := by
  generalize hW1 : w.alloc (.cells #[.int .i64 (n : Int), .int .i64 (s : Int), .int .i64 inc, .int .i64 fl, .slice oa on oc] 24) = W1
  have b1 : Below w.heap.size w W1 := hW1 ▸ balloc (Below.refl _ _)
  have k1 : W1.heap[w.heap.size]? = some (.cells #[.int .i64 (n : Int), .int .i64 (s : Int), .int .i64 inc, .int .i64 fl, .slice oa on oc] 24 (0, 0)) := by rw [← hW1]; exact heap_alloc_new w _
  have c0 : W1.cell? ⟨w.heap.size, 0, none⟩ = some (.int .i64 (n : Int)) := blk_cell k1 0
  have c1 : W1.cell? ⟨w.heap.size, 1, none⟩ = some (.int .i64 (s : Int)) := blk_cell k1 1
  have c2 : W1.cell? ⟨w.heap.size, 2, none⟩ = some (.int .i64 inc) := blk_cell k1 2
  have c3 : W1.cell? ⟨w.heap.size, 3, none⟩ = some (.int .i64 fl) := blk_cell k1 3
  have c4 : W1.cell? ⟨w.heap.size, 4, none⟩ = some (.slice oa on oc) := blk_cell k1 4
  have hl1 := lt_heap k1
  have HK1 : Hid (W1.heap[w.heap.size]? = some (.cells #[.int .i64 (n : Int), .int .i64 (s : Int), .int .i64 inc, .int .i64 fl, .slice oa on oc] 24 (0, 0))) := k1
  have HB1 : Hid (Below w.heap.size w W1) := b1
  have HO : Hid (RdOps w oa on os) := ho
  have HN := begun_yes (w := W1) n s inc fl oa on oc h16 hi hf
  have H16 : Hid (1 ≤ n ∧ n ≤ 16 ∧ s < n) := h16
  have Hi : Hid (1 ≤ inc ∧ inc ≤ 4611686018427387904) := hi
  have Hf : Hid (0 ≤ fl ∧ fl < 4611686018427387904) := hf
  clear b1 k1 ho h16 hi
  go_enter Try.func3, Try.ntmps3
  go_wp2_with (first | (go_at_call 9; refine HN.mono ?_; rintro e w2 ⟨b, rfl, hA, hge, hAb, hb2⟩) | fail)
  clear HN c0 c1 c2 c3 c4 hW1
  rw [newA_eq b n s inc fl hf.2] at hA
  have HI := inst1 b n s inc fl H16.out Hi.out hf hA
  have HK2 : Hid (w2.heap[w.heap.size]? = some (.cells #[.int .i64 (n : Int), .int .i64 (s : Int), .int .i64 inc, .int .i64 fl, .slice oa on oc] 24 (0, 0))) := (hb2.block _ hl1).trans HK1.out
  have HB2 : Hid (Below w.heap.size w w2) := bstep HB1.out hb2
  have hbne : w.heap.size ≠ b := by omega
  have hble : w.heap.size ≤ b := by have := HB1.out.size; omega
  clear hA hAb hb2 HK1 hge hl1
  go_wp2_with (first | (go_at_call 10; refine HI.mono ?_; rintro e w3 ⟨g', c', ao, cp, A2, rfl, hG, hid, hk1, ho1, hh, hrd, hK⟩; (have HG : Hid (Gd A2 b n s inc w3) := hG); (have Hid1 : Hid (A2.id = [fl + 1, (s : Int), inc, fl + 1] ∧ A2.k = 1) := ⟨hid, hk1⟩); (have Ho1 : Hid (w3.ownsRow 0 86 3 (.slice (some ⟨g', 0, none⟩) 1 c') 1 (ints A2.ms)) := ho1); (have Hh : Hid (hld A2.ms s inc 1 = fl + 1) := hh); (have Hrd : Hid (RdI w3 ao 1 [(s : Int)]) := hrd); (have HK3 : Hid (w3.heap[w.heap.size]? = some (.cells #[.int .i64 (n : Int), .int .i64 (s : Int), .int .i64 inc, .int .i64 fl, .slice oa on oc] 24 (0, 0))) := hK.obj HK2.out hbne); (have HB3 : Hid (Below w.heap.size w w3) := HB2.out.trans (hK.below HB2.out.size (fun k hk e => by omega))); clear HI hG hid hk1 ho1 hh hrd hK; obtain ⟨X, hX⟩ : ∃ X, w3.alloc (.cells [.int .i64 (fl + 1), .int .i64 (s : Int), .int .i64 inc, .int .i64 (fl + 1), .slice (some ⟨g', 0, none⟩) 1 c'].toArray 32) = X := ⟨_, rfl⟩; simp only [List.toArray] at hX) | fail)
  have hbX : Below w3.heap.size w3 X := by rw [← hX]; exact balloc (Below.refl _ _)
  have hkX : X.heap[w3.heap.size]? = some (.cells [.int .i64 (fl + 1), .int .i64 (s : Int), .int .i64 inc, .int .i64 (fl + 1), .slice (some ⟨g', 0, none⟩) 1 c'].toArray 32 (0, 0)) := by rw [← hX]; exact heap_alloc_new w3 _
  have hkc : X.drew.heap[w.heap.size]? = some (.cells #[.int .i64 (n : Int), .int .i64 (s : Int), .int .i64 inc, .int .i64 fl, .slice oa on oc] 24 (0, 0)) := (hbX.block _ (lt_heap HK3.out)).trans HK3.out
  have d1 : X.drew.cell? ⟨w.heap.size, 1, none⟩ = some (.int .i64 (s : Int)) := blk_cell hkc 1
  have d2 : X.drew.cell? ⟨w.heap.size, 2, none⟩ = some (.int .i64 inc) := blk_cell hkc 2
  have d3 : X.drew.cell? ⟨w.heap.size, 3, none⟩ = some (.int .i64 fl) := blk_cell hkc 3
  have d4 : X.drew.cell? ⟨w3.heap.size, 4, none⟩ = some (.slice (some ⟨g', 0, none⟩) 1 c') := blk_cell (show X.drew.heap[w3.heap.size]? = _ from hkX) 4
  have D5 : Hid (X.drew.rangeAt w3.heap.size 0 [.int .i64 (fl + 1), .int .i64 (s : Int), .int .i64 inc, .int .i64 (fl + 1), .slice (some ⟨g', 0, none⟩) 1 c']) := fun j v hv => by rw [blk_cell (show X.drew.heap[w3.heap.size]? = _ from hkX), Nat.zero_add]; rw [← hv]; exact (Array.getElem?_toList).symm
  have D9 : Hid (Below X.drew.heap.size X.drew (X.drew.alloc (.cells #[.int .i64 (s : Int)] 3))) := balloc (Below.refl _ _)
  have hk9 : (X.drew.alloc (.cells #[.int .i64 (s : Int)] 3)).heap[X.drew.heap.size]? = some (.cells #[.int .i64 (s : Int)] 3 (0, 0)) := heap_alloc_new _ _
  have HC : Hid (Calls Try.prog 11 #[.slice ao 1 cp, .slice (some ⟨X.drew.heap.size, 0, none⟩) 1 1] (X.drew.alloc (.cells #[.int .i64 (s : Int)] 3)) fun e w' => e = .returned (.bool true) ∧ Below (X.drew.alloc (.cells #[.int .i64 (s : Int)] 3)).heap.size (X.drew.alloc (.cells #[.int .i64 (s : Int)] 3)) w') := by
    have h2 : RdI (X.drew.alloc (.cells #[.int .i64 (s : Int)] 3)) (some ⟨X.drew.heap.size, 0, none⟩) 1 [(s : Int)] := ⟨rfl, .inr ⟨_, 0, rfl, fun i hi => by rw [show i = 0 by omega]; exact blk_cell hk9 0⟩⟩
    have := ints_any (c1 := cp) (c2 := 1) (((Hrd.out.still hbX).still (w' := X.drew) (Below.refl _ _).drew).still D9.out) h2 (by omega)
    rw [decide_eq_true rfl] at this
    exact this
  have HD : Hid (∀ W, Below X.drew.heap.size X.drew W → Calls Try.prog 12 #[.agg [.int .i64 (fl + 1), .int .i64 (s : Int), .int .i64 inc, .int .i64 (fl + 1), .slice (some ⟨g', 0, none⟩) 1 c'].toArray, .int .i64 (s : Int), .int .i64 inc] W fun e w' => e = .returned (.int .i64 (fl + 1)) ∧ Below W.heap.size W w') := fun W hW => by
    have h1 : RdM X.drew (some ⟨g', 0, none⟩) 1 A2.ms := ((own_rdM Ho1.out).still hbX).still (w' := X.drew) (Below.refl _ _).drew
    have := holds_any (c1 := c') (fl + 1) (s : Int) inc (fl + 1) (s : Int) inc (h1.still hW) (by omega)
    rw [Hh.out] at this
    exact this
  have HkX : Hid (X.heap[w3.heap.size]? = some (.cells [.int .i64 (fl + 1), .int .i64 (s : Int), .int .i64 inc, .int .i64 (fl + 1), .slice (some ⟨g', 0, none⟩) 1 c'].toArray 32 (0, 0))) := hkX
  have HBX : Hid (Below w3.heap.size w3 X) := hbX
  have Hkc : Hid (X.drew.heap[w.heap.size]? = some (.cells #[.int .i64 (n : Int), .int .i64 (s : Int), .int .i64 inc, .int .i64 fl, .slice oa on oc] 24 (0, 0))) := hkc
  have Hk5w : Hid (w.heap.size ≤ w3.heap.size) := HB3.out.size
  clear hbX hkX hkc hk9 hX
  refine wp_region_held_drew (S := (fun w' => w'.cell? ⟨w.heap.size, 1, none⟩ = some (.int .i64 (s : Int)) ∧ w'.cell? ⟨w.heap.size, 2, none⟩ = some (.int .i64 inc) ∧ w'.cell? ⟨w.heap.size, 3, none⟩ = some (.int .i64 fl) ∧ w'.cell? ⟨w3.heap.size, 4, none⟩ = some (.slice (some ⟨g', 0, none⟩) 1 c') ∧ w'.rangeAt w3.heap.size 0 [.int .i64 (fl + 1), .int .i64 (s : Int), .int .i64 inc, .int .i64 (fl + 1), .slice (some ⟨g', 0, none⟩) 1 c'])) (by kernel_rfl) ⟨d1, d2, d3, d4, D5.out⟩ (fun hHeld => ?_)
  simp only [Act.put, List.size_toArray, List.length_cons, List.length_nil, Nat.zero_add]
  refine wpAnyH_take (i := 0) (v := .int .i64 0) rfl (by kernel_rfl) (by kernel_rfl) (by kernel_rfl) (fun _ _ _ h => h) (Or.inl ⟨by rfl, fun w' hS => by go_simp⟩) hHeld ?_
  simp only [Act.put, List.getElem_toArray, List.getElem_cons_zero, List.getElem_cons_succ, List.setIfInBounds_toArray, List.set_cons_zero, List.set_cons_succ]
  refine wpAnyH_take (i := 1) (v := .bool false) rfl (by kernel_rfl) (by kernel_rfl) (by kernel_rfl) (fun _ _ _ h => h) (Or.inl ⟨by rfl, fun w' hS => by go_simp⟩) hHeld ?_
  simp only [Act.put, List.getElem_toArray, List.getElem_cons_zero, List.getElem_cons_succ, List.setIfInBounds_toArray, List.set_cons_zero, List.set_cons_succ]
  refine wpAnyH_take (i := 2) (v := .bool false) rfl (by kernel_rfl) (by kernel_rfl) (by kernel_rfl) (fun _ _ _ h => h) (Or.inl ⟨by rfl, fun w' hS => by go_simp⟩) hHeld ?_
  simp only [Act.put, List.getElem_toArray, List.getElem_cons_zero, List.getElem_cons_succ, List.setIfInBounds_toArray, List.set_cons_zero, List.set_cons_succ]
  refine wpAnyH_take (i := 3) (v := .pointer (some ⟨w3.heap.size, 4, none⟩)) rfl (by kernel_rfl) (by kernel_rfl) (by kernel_rfl) (fun _ _ _ h => h) (Or.inl ⟨by rfl, fun w' hS => by go_simp⟩) hHeld ?_
  simp only [Act.put, List.getElem_toArray, List.getElem_cons_zero, List.getElem_cons_succ, List.setIfInBounds_toArray, List.set_cons_zero, List.set_cons_succ]
  refine wpAnyH_take (i := 4) (v := .slice (some ⟨g', 0, none⟩) 1 c') rfl (by kernel_rfl) (by kernel_rfl) (by kernel_rfl) (fun _ _ _ h => h) (Or.inl ⟨by rfl, fun w' hS => by (obtain ⟨s0, s1, s2, s3, s4⟩ := hS; go_simp)⟩) hHeld ?_
  simp only [Act.put, List.getElem_toArray, List.getElem_cons_zero, List.getElem_cons_succ, List.setIfInBounds_toArray, List.set_cons_zero, List.set_cons_succ]
  refine wpAnyH_take (i := 5) (v := .int .i64 1) rfl (by kernel_rfl) (by kernel_rfl) (by kernel_rfl) (fun _ _ _ h => h) (Or.inl ⟨by rfl, fun w' hS => by go_simp⟩) hHeld ?_
  simp only [Act.put, List.getElem_toArray, List.getElem_cons_zero, List.getElem_cons_succ, List.setIfInBounds_toArray, List.set_cons_zero, List.set_cons_succ]
  refine wpAnyH_take (i := 6) (v := .bool false) rfl (by kernel_rfl) (by kernel_rfl) (by kernel_rfl) (fun _ _ _ h => h) (Or.inl ⟨by rfl, fun w' hS => by go_simp⟩) hHeld ?_
  simp only [Act.put, List.getElem_toArray, List.getElem_cons_zero, List.getElem_cons_succ, List.setIfInBounds_toArray, List.set_cons_zero, List.set_cons_succ]
  refine wpAnyH_take (i := 7) (v := .bool false) rfl (by kernel_rfl) (by kernel_rfl) (by kernel_rfl) (fun _ _ _ h => h) (Or.inl ⟨by rfl, fun w' hS => by go_simp⟩) hHeld ?_
  simp only [Act.put, List.getElem_toArray, List.getElem_cons_zero, List.getElem_cons_succ, List.setIfInBounds_toArray, List.set_cons_zero, List.set_cons_succ]
  refine wpAnyH_take (i := 8) (v := .bool false) rfl (by kernel_rfl) (by kernel_rfl) (by kernel_rfl) (fun _ _ _ h => h) (Or.inl ⟨by rfl, fun w' hS => by go_simp⟩) hHeld ?_
  simp only [Act.put, List.getElem_toArray, List.getElem_cons_zero, List.getElem_cons_succ, List.setIfInBounds_toArray, List.set_cons_zero, List.set_cons_succ]
  refine wpAnyH_take (i := 9) (v := .slice ao 1 cp) rfl (by kernel_rfl) (by kernel_rfl) (by kernel_rfl) (fun _ _ _ h => h) (Or.inl ⟨by rfl, fun w' hS => by go_simp⟩) hHeld ?_
  simp only [Act.put, List.getElem_toArray, List.getElem_cons_zero, List.getElem_cons_succ, List.setIfInBounds_toArray, List.set_cons_zero, List.set_cons_succ]
  refine wpAnyH_take (i := 10) (v := .pointer (some ⟨w.heap.size, 1, none⟩)) rfl (by kernel_rfl) (by kernel_rfl) (by kernel_rfl) (fun _ _ _ h => h) (Or.inl ⟨by rfl, fun w' hS => by go_simp⟩) hHeld ?_
  simp only [Act.put, List.getElem_toArray, List.getElem_cons_zero, List.getElem_cons_succ, List.setIfInBounds_toArray, List.set_cons_zero, List.set_cons_succ]
  refine wpAnyH_take (i := 11) (v := .int .i64 (s : Int)) rfl (by kernel_rfl) (by kernel_rfl) (by kernel_rfl) (fun _ _ _ h => h) (Or.inl ⟨by rfl, fun w' hS => by (obtain ⟨s0, s1, s2, s3, s4⟩ := hS; go_simp)⟩) hHeld ?_
  simp only [Act.put, List.getElem_toArray, List.getElem_cons_zero, List.getElem_cons_succ, List.setIfInBounds_toArray, List.set_cons_zero, List.set_cons_succ]
  refine wpAnyH_ready (rs := [12]) (by kernel_rfl) (by simp) ?_
  refine AllReadyH.cons rfl (fun K hK => ?_) AllReadyH.nil
  go_simp
  refine hK.out _ _ ⟨below_at D9.out d1, below_at D9.out d2, below_at D9.out d3, below_at D9.out d4, rng_below D5.out D9.out⟩ (fun hHeld => ?_)
  clear hK K
  refine wpAnyH_ready (rs := [13]) (by kernel_rfl) (by simp) ?_
  refine AllReadyH.cons rfl (fun K hK => ?_) AllReadyH.nil
  go_simp
  refine (HC.out).mono ?_
  rintro e w4 ⟨rfl, hb4⟩
  have HB4 : Hid (Below X.drew.heap.size X.drew w4) := bstep D9.out hb4
  refine hK.out _ _ ⟨below_at hb4 (below_at D9.out d1), below_at hb4 (below_at D9.out d2), below_at hb4 (below_at D9.out d3), below_at hb4 (below_at D9.out d4), rng_below (rng_below D5.out D9.out) hb4⟩ (fun hHeld => ?_)
  clear hK K
  refine wpAnyH_take (i := 14) (v := .bool false) rfl (by kernel_rfl) (by kernel_rfl) (by kernel_rfl) (fun _ _ _ h => h) (Or.inl ⟨by rfl, fun w' hS => by go_simp⟩) hHeld ?_
  simp only [Act.put, List.getElem_toArray, List.getElem_cons_zero, List.getElem_cons_succ, List.setIfInBounds_toArray, List.set_cons_zero, List.set_cons_succ]
  refine wpAnyH_take (i := 15) (v := .bool false) rfl (by kernel_rfl) (by kernel_rfl) (by kernel_rfl) (fun _ _ _ h => h) (Or.inl ⟨by rfl, fun w' hS => by go_simp⟩) hHeld ?_
  simp only [Act.put, List.getElem_toArray, List.getElem_cons_zero, List.getElem_cons_succ, List.setIfInBounds_toArray, List.set_cons_zero, List.set_cons_succ]
  refine wpAnyH_take (i := 16) (v := .bool false) rfl (by kernel_rfl) (by kernel_rfl) (by kernel_rfl) (fun _ _ _ h => h) (Or.inl ⟨by rfl, fun w' hS => by go_simp⟩) hHeld ?_
  simp only [Act.put, List.getElem_toArray, List.getElem_cons_zero, List.getElem_cons_succ, List.setIfInBounds_toArray, List.set_cons_zero, List.set_cons_succ]
  refine wpAnyH_take (i := 17) (v := .agg ([.int .i64 (fl + 1), .int .i64 (s : Int), .int .i64 inc, .int .i64 (fl + 1), .slice (some ⟨g', 0, none⟩) 1 c']).toArray) rfl (by kernel_rfl) (by kernel_rfl) (by kernel_rfl) (fun _ _ _ h => h) (yieldsIf_load_mid (by rfl) 32 (.tmp 5) rfl w3.heap.size (0) (by rfl) ([.int .i64 (fl + 1), .int .i64 (s : Int), .int .i64 inc, .int .i64 (fl + 1), .slice (some ⟨g', 0, none⟩) 1 c']) _ (fun w' hS => hS.2.2.2.2) Try.underlying32 rfl info_view) hHeld ?_
  simp only [Act.put, List.getElem_toArray, List.getElem_cons_zero, List.getElem_cons_succ, List.setIfInBounds_toArray, List.set_cons_zero, List.set_cons_succ]
  refine wpAnyH_take (i := 18) (v := .pointer (some ⟨w.heap.size, 1, none⟩)) rfl (by kernel_rfl) (by kernel_rfl) (by kernel_rfl) (fun _ _ _ h => h) (Or.inl ⟨by rfl, fun w' hS => by go_simp⟩) hHeld ?_
  simp only [Act.put, List.getElem_toArray, List.getElem_cons_zero, List.getElem_cons_succ, List.setIfInBounds_toArray, List.set_cons_zero, List.set_cons_succ]
  refine wpAnyH_take (i := 19) (v := .int .i64 (s : Int)) rfl (by kernel_rfl) (by kernel_rfl) (by kernel_rfl) (fun _ _ _ h => h) (Or.inl ⟨by rfl, fun w' hS => by (obtain ⟨s0, s1, s2, s3, s4⟩ := hS; go_simp)⟩) hHeld ?_
  simp only [Act.put, List.getElem_toArray, List.getElem_cons_zero, List.getElem_cons_succ, List.setIfInBounds_toArray, List.set_cons_zero, List.set_cons_succ]
  refine wpAnyH_take (i := 20) (v := .pointer (some ⟨w.heap.size, 2, none⟩)) rfl (by kernel_rfl) (by kernel_rfl) (by kernel_rfl) (fun _ _ _ h => h) (Or.inl ⟨by rfl, fun w' hS => by go_simp⟩) hHeld ?_
  simp only [Act.put, List.getElem_toArray, List.getElem_cons_zero, List.getElem_cons_succ, List.setIfInBounds_toArray, List.set_cons_zero, List.set_cons_succ]
  refine wpAnyH_take (i := 21) (v := .int .i64 inc) rfl (by kernel_rfl) (by kernel_rfl) (by kernel_rfl) (fun _ _ _ h => h) (Or.inl ⟨by rfl, fun w' hS => by (obtain ⟨s0, s1, s2, s3, s4⟩ := hS; go_simp)⟩) hHeld ?_
  simp only [Act.put, List.getElem_toArray, List.getElem_cons_zero, List.getElem_cons_succ, List.setIfInBounds_toArray, List.set_cons_zero, List.set_cons_succ]
  refine wpAnyH_take (i := 23) (v := .pointer (some ⟨w.heap.size, 3, none⟩)) rfl (by kernel_rfl) (by kernel_rfl) (by kernel_rfl) (fun _ _ _ h => h) (Or.inl ⟨by rfl, fun w' hS => by go_simp⟩) hHeld ?_
  simp only [Act.put, List.getElem_toArray, List.getElem_cons_zero, List.getElem_cons_succ, List.setIfInBounds_toArray, List.set_cons_zero, List.set_cons_succ]
  refine wpAnyH_take (i := 24) (v := .int .i64 fl) rfl (by kernel_rfl) (by kernel_rfl) (by kernel_rfl) (fun _ _ _ h => h) (Or.inl ⟨by rfl, fun w' hS => by (obtain ⟨s0, s1, s2, s3, s4⟩ := hS; go_simp)⟩) hHeld ?_
  simp only [Act.put, List.getElem_toArray, List.getElem_cons_zero, List.getElem_cons_succ, List.setIfInBounds_toArray, List.set_cons_zero, List.set_cons_succ]
  refine wpAnyH_take (i := 25) (v := .int .i64 (fl + 1)) rfl (by kernel_rfl) (by kernel_rfl) (by kernel_rfl) (fun _ _ _ h => h) (Or.inl ⟨by rfl, fun w' hS => by (go_simp <;> first | omega | (rw [wrap_id (by omega) (by omega)]) | (trace_state; fail))⟩) hHeld ?_
  simp only [Act.put, List.getElem_toArray, List.getElem_cons_zero, List.getElem_cons_succ, List.setIfInBounds_toArray, List.set_cons_zero, List.set_cons_succ]
  refine wpAnyH_ready (rs := [22]) (by kernel_rfl) (by simp) ?_
  refine AllReadyH.cons rfl (fun K hK => ?_) AllReadyH.nil
  go_simp
  refine (HD.out w4 HB4.out).mono ?_
  rintro e w5 ⟨rfl, hb5⟩
  have HB5 : Hid (Below X.drew.heap.size X.drew w5) := bstep HB4.out hb5
  refine hK.out _ _ ⟨below_at hb5 (below_at HB4.out d1), below_at hb5 (below_at HB4.out d2), below_at hb5 (below_at HB4.out d3), below_at hb5 (below_at HB4.out d4), rng_below (rng_below D5.out HB4.out) hb5⟩ (fun hHeld => ?_)
  clear hK K
  refine wpAnyH_take (i := 26) (v := .bool false) rfl (by kernel_rfl) (by kernel_rfl) (by kernel_rfl) (fun _ _ _ h => h) (Or.inl ⟨by rfl, fun w' hS => by go_simp⟩) hHeld ?_
  simp only [Act.put, List.getElem_toArray, List.getElem_cons_zero, List.getElem_cons_succ, List.setIfInBounds_toArray, List.set_cons_zero, List.set_cons_succ]
  refine wpAnyH_take (i := 27) (v := .bool false) rfl (by kernel_rfl) (by kernel_rfl) (by kernel_rfl) (fun _ _ _ h => h) (Or.inl ⟨by rfl, fun w' hS => by go_simp⟩) hHeld ?_
  simp only [Act.put, List.getElem_toArray, List.getElem_cons_zero, List.getElem_cons_succ, List.setIfInBounds_toArray, List.set_cons_zero, List.set_cons_succ]
  refine wpAnyH_done (by kernel_rfl) ?_ _
  clear hHeld
  clear d1 d2 d3 d4 HC HD
  have hkc5 : w5.heap[w.heap.size]? = some (.cells #[.int .i64 (n : Int), .int .i64 (s : Int), .int .i64 inc, .int .i64 fl, .slice oa on oc] 24 (0, 0)) := (HB5.out.block _ (lt_heap Hkc.out)).trans Hkc.out
  have hkv5 : w5.heap[w3.heap.size]? = some (.cells [.int .i64 (fl + 1), .int .i64 (s : Int), .int .i64 inc, .int .i64 (fl + 1), .slice (some ⟨g', 0, none⟩) 1 c'].toArray 32 (0, 0)) := (HB5.out.block _ (lt_heap HkX.out)).trans HkX.out
  have e1 : w5.cell? ⟨w.heap.size, 1, none⟩ = some (.int .i64 (s : Int)) := blk_cell hkc5 1
  have e2 : w5.cell? ⟨w.heap.size, 2, none⟩ = some (.int .i64 inc) := blk_cell hkc5 2
  have e3 : w5.cell? ⟨w.heap.size, 3, none⟩ = some (.int .i64 fl) := blk_cell hkc5 3
  have E5 : Hid (w5.rangeAt w3.heap.size 0 (ints [fl + 1, (s : Int), inc, fl + 1])) := fun j v hv => by
    rw [blk_cell hkv5, Nat.zero_add]
    match j, hv with
    | 0, hv => exact hv
    | 1, hv => exact hv
    | 2, hv => exact hv
    | 3, hv => exact hv
    | j + 4, hv => cases hv
  have HS : Hid (Calls Try.prog 13 #[.agg #[.int .i64 (fl + 1), .int .i64 (s : Int), .int .i64 inc, .int .i64 (fl + 1)], .agg #[.int .i64 (fl + 1), .int .i64 (s : Int), .int .i64 inc, .int .i64 (fl + 1)]] w5 fun e w' => e = .returned (.bool true) ∧ Below w5.heap.size w5 w') := by
    have := sid_any (w := w5) [fl + 1, (s : Int), inc, fl + 1] [fl + 1, (s : Int), inc, fl + 1] rfl rfl
    rw [decide_eq_true rfl] at this
    exact this
  have HG5 : Hid (Gd A2 b n s inc w5) := ((HG.out.still HBX.out).still (w' := X.drew) (Below.refl _ _).drew).still HB5.out
  have Ho5 : Hid (w5.ownsRow 0 86 3 (.slice (some ⟨g', 0, none⟩) 1 c') 1 (ints A2.ms)) := own_still (own_still (own_still Ho1.out HBX.out) (W' := X.drew) (Below.refl _ _).drew) HB5.out
  have HBw5 : Hid (Below w.heap.size w w5) := bstep (bstep (bstep HB3.out HBX.out) (Below.refl _ _).drew) HB5.out
  have HKC5 : Hid (w5.heap[w.heap.size]? = some (.cells #[.int .i64 (n : Int), .int .i64 (s : Int), .int .i64 inc, .int .i64 fl, .slice oa on oc] 24 (0, 0))) := hkc5
  have HKV5 : Hid (w5.heap[w3.heap.size]? = some (.cells [.int .i64 (fl + 1), .int .i64 (s : Int), .int .i64 inc, .int .i64 (fl + 1), .slice (some ⟨g', 0, none⟩) 1 c'].toArray 32 (0, 0))) := hkv5
  have hw1 : IntKind.i64.wrap (fl + 1) = fl + 1 := wrap_id (by omega) (by omega)
  clear hkc5 hkv5 HG Ho1 HB4 HB5 HBX HkX Hkc D5 D9 Hrd HK3 HB3
  go_wp2_with (first
    | (refine load_mid 29 (.tmp 63) E5.out _ Try.underlying29 rfl (by kernel_rfl) rfl rfl rfl ?_)
    | (go_at_call 13; refine HS.out.mono ?_; rintro e w6 ⟨rfl, hb6⟩; have HP : Calls Try.prog 14 #[.pointer (some ⟨b, 0, none⟩)] w6 (fun e w' => ∃ g1 g2, e = .returned (.agg [.slice (some ⟨g1, 0, none⟩) A2.n A2.n, .int .i64 A2.own.cid, .int .i64 A2.own.rev, .int .i64 A2.own.top, .int .i64 (A2.own.prev[0]?.getD 0), .int .i64 (A2.own.prev[1]?.getD 0), .int .i64 (A2.own.prev[2]?.getD 0), .int .i64 (A2.own.prev[3]?.getD 0), .slice (some ⟨g2, 0, none⟩) A2.n A2.n].toArray) ∧ w6.heap.size ≤ g1 ∧ g1 < g2 ∧ Rw w' g1 3 (A2.own.set.take A2.n) ∧ Rw w' g2 3 (A2.own.vec.take A2.n) ∧ Below w6.heap.size w6 w') := (by have h := proposal_any (HG5.out.still hb6).ok; rw [HG5.out.b] at h; exact h); have HB6 : Hid (Below w5.heap.size w5 w6) := hb6; clear hb6)
    | (go_at_call 14; refine HP.mono ?_; rintro e w7 ⟨g1, g2, rfl, hg1, hg12, r1, r2, hb7⟩; obtain ⟨Y, hY⟩ : ∃ Y, w7.alloc (.cells [.slice (some ⟨g1, 0, none⟩) A2.n A2.n, .int .i64 A2.own.cid, .int .i64 A2.own.rev, .int .i64 A2.own.top, .int .i64 (A2.own.prev[0]?.getD 0), .int .i64 (A2.own.prev[1]?.getD 0), .int .i64 (A2.own.prev[2]?.getD 0), .int .i64 (A2.own.prev[3]?.getD 0), .slice (some ⟨g2, 0, none⟩) A2.n A2.n].toArray 41) = Y := ⟨_, rfl⟩)
    | fail)
  have hb57 := bstep HB6.out hb7
  have hbY : Below w7.heap.size w7 Y := (by rw [← hY]; exact balloc (Below.refl _ _))
  have hb5Y := bstep hb57 hbY
  have HBY : Hid (Below w.heap.size w Y) := bstep HBw5.out hb5Y
  have hnn : A2.n = n := HG5.out.n
  have HR0 : Hid (Tst Y b n s inc w.heap.size w3.heap.size w7.heap.size #[.int .i64 (n : Int), .int .i64 (s : Int), .int .i64 inc, .int .i64 fl, .slice oa on oc] A2 A2 g1 g2 g' c' (fl + 1) (s : Int) inc (fl + 1)) := ⟨HG5.out.still hb5Y, HG5.out.iv, hnn, (by rw [Hid1.out.1]; intro h; have h0 : fl + 1 = 0 := (List.cons.inj h).1; omega), Hid1.out.1, (hb5Y.block _ (lt_heap HKC5.out)).trans HKC5.out, (by rw [Hid1.out.2]; exact (hb5Y.block _ (lt_heap HKV5.out)).trans HKV5.out), (by rw [← hY]; unfold pC; rw [← hnn]; exact heap_alloc_new w7 _), (by rw [Hid1.out.2]; exact own_still Ho5.out hb5Y), (by rw [← hnn]; exact r1.still hbY), (by rw [← hnn]; exact r2.still hbY), .inl rfl, HG5.out.ok.rev⟩
  have hk5w : w.heap.size ≤ w3.heap.size := Hk5w.out
  have hk8w : w.heap.size ≤ w7.heap.size := (bstep HBw5.out hb57).size
  clear r1 r2 hb7 hb57 hbY hb5Y hg1 hg12 hnn
  clear HB1 HK2 HB2 HG5 Ho5 HBw5 HKC5 HKV5 HS E5 e1 e2 e3 HB6 HP hY Hid1 Hh hw1
  go_wp2
  go_loopw [9] (fun v9 wr => ∃ (k : Nat) (A : Ag) (g1 g2 gv cv : Nat) (i0 i1 i2 i3 : Int), k ≤ on ∧ v9 = .int .i64 (k : Int) ∧ Tst wr b n s inc w.heap.size w3.heap.size w7.heap.size #[.int .i64 (n : Int), .int .i64 (s : Int), .int .i64 inc, .int .i64 fl, .slice oa on oc] A A g1 g2 gv cv i0 i1 i2 i3 ∧ Below w.heap.size w wr) (fun v9 _ => on - (intOf v9).toNat)
  case atStart => exact ⟨0, A2, g1, g2, g', c', fl + 1, (s : Int), inc, fl + 1, Nat.zero_le _, rfl, HR0.out, HBY.out⟩
  case round =>
    clear HR0 HBY
    obtain ⟨k, A, g1, g2, gv, cv, i0, i1, i2, i3, hk, rfl, hR, hlw⟩ := hrel
    have x4 : wr.cell? ⟨w.heap.size, 4, none⟩ = some (.slice oa on oc) := blk_cell hR.m1 4
    by_cases hlt : k < on
    · obtain ⟨ob, off, hoa, hrg, hop⟩ := HO.out.at hlw hlt
      rw [hoa] at x4
      clear hoa
      generalize os k = o at hrg hop
      have i1' : (0 : Int) ≤ (k : Int) := Int.natCast_nonneg _
      have i2' : (k : Int) < (on : Int) := by omega
      have HRg : Hid (wr.rangeAt ob (off + k * 13) [.int .i64 o.kind, .int .i64 o.q, .int .i64 o.inc, .slice o.sa o.sn o.sc, .slice o.p.sa o.p.sn o.p.sc, .int .i64 o.p.cid, .int .i64 o.p.rev, .int .i64 o.p.top, .int .i64 (o.p.prev[0]?.getD 0), .int .i64 (o.p.prev[1]?.getD 0), .int .i64 (o.p.prev[2]?.getD 0), .int .i64 (o.p.prev[3]?.getD 0), .slice o.p.va o.p.vn o.p.vc]) := hrg
      generalize hX : wr.alloc (.cells [.int .i64 o.kind, .int .i64 o.q, .int .i64 o.inc, .slice o.sa o.sn o.sc, .slice o.p.sa o.p.sn o.p.sc, .int .i64 o.p.cid, .int .i64 o.p.rev, .int .i64 o.p.top, .int .i64 (o.p.prev[0]?.getD 0), .int .i64 (o.p.prev[1]?.getD 0), .int .i64 (o.p.prev[2]?.getD 0), .int .i64 (o.p.prev[3]?.getD 0), .slice o.p.va o.p.vn o.p.vc].toArray 44) = X
      have hbX : Below wr.heap.size wr X := by rw [← hX]; exact balloc (Below.refl _ _)
      have hkX : X.heap[wr.heap.size]? = some (.cells [.int .i64 o.kind, .int .i64 o.q, .int .i64 o.inc, .slice o.sa o.sn o.sc, .slice o.p.sa o.p.sn o.p.sc, .int .i64 o.p.cid, .int .i64 o.p.rev, .int .i64 o.p.top, .int .i64 (o.p.prev[0]?.getD 0), .int .i64 (o.p.prev[1]?.getD 0), .int .i64 (o.p.prev[2]?.getD 0), .int .i64 (o.p.prev[3]?.getD 0), .slice o.p.va o.p.vn o.p.vc].toArray 44 (0, 0)) := by rw [← hX]; exact heap_alloc_new wr _
      have y0 : X.cell? ⟨wr.heap.size, 0, none⟩ = some (.int .i64 o.kind) := blk_cell hkX 0
      have HRX : Hid (Tst X b n s inc w.heap.size w3.heap.size w7.heap.size #[.int .i64 (n : Int), .int .i64 (s : Int), .int .i64 inc, .int .i64 fl, .slice oa on oc] A A g1 g2 gv cv i0 i1 i2 i3) := hR.still hbX
      have HkX : Hid (X.rangeAt wr.heap.size 0 [.int .i64 o.kind, .int .i64 o.q, .int .i64 o.inc, .slice o.sa o.sn o.sc, .slice o.p.sa o.p.sn o.p.sc, .int .i64 o.p.cid, .int .i64 o.p.rev, .int .i64 o.p.top, .int .i64 (o.p.prev[0]?.getD 0), .int .i64 (o.p.prev[1]?.getD 0), .int .i64 (o.p.prev[2]?.getD 0), .int .i64 (o.p.prev[3]?.getD 0), .slice o.p.va o.p.vn o.p.vc]) := blk_range hkX
      have HlX : Hid (Below w.heap.size w X) := bstep hlw hbX
      have HoX : Hid (o.Rd X) := hop.still hbX
      simp only [List.toArray] at hX
      clear hrg hop hR hlw hbX hkX
      by_cases e5 : o.kind = 5
      · rw [e5] at y0
        clear e5
        cases hg : A.agr with
        | true =>
          have HI : Hid (Calls Try.prog 10 #[.pointer (some ⟨b, 0, none⟩)] X fun e w' => ∃ gw cw ao tn cp A' j0 j1 j2 j3, e = .returned (.tuple #[.agg #[.int .i64 j0, .int .i64 j1, .int .i64 j2, .int .i64 j3, .slice (some ⟨gw, 0, none⟩) A'.k cw], .slice ao tn cp, .int .i64 0]) ∧ Gd A' b n s inc w' ∧ A'.id = [j0, j1, j2, j3] ∧ A'.id ≠ [0, 0, 0, 0] ∧ w'.ownsRow 0 86 3 (.slice (some ⟨gw, 0, none⟩) A'.k cw) A'.k (ints A'.ms) ∧ 0 < tn ∧ tn ≤ 16 ∧ i0 < j0 ∧ hld A.ms s inc A.k < hld A'.ms s inc A'.k ∧ A'.own = A.own ∧ A'.chg = false ∧ Kept X w' (fun j => j = b)) := inst2 HRX.out hg
          clear hg
          go_wp2_with (first | (refine load_mid 44 (.tmp 90) HRg.out _ Try.underlying44 rfl (by kernel_rfl) rfl rfl rfl ?_) | fail)
          refine HI.out.mono ?_
          rintro e w4 ⟨gw, cw, ao, tn, cp, A', j0, j1, j2, j3, rfl, hG, hid, hnz, hrv, htn, ht16, hij, hhl, hown, hchg, hK⟩
          generalize hZ : w4.alloc (.cells [.int .i64 j0, .int .i64 j1, .int .i64 j2, .int .i64 j3, .slice (some ⟨gw, 0, none⟩) A'.k cw].toArray 32) = Z
          have bZ : Below w4.heap.size w4 Z := by rw [← hZ]; exact balloc (Below.refl _ _)
          have kZ : Z.heap[w4.heap.size]? = some (.cells [.int .i64 j0, .int .i64 j1, .int .i64 j2, .int .i64 j3, .slice (some ⟨gw, 0, none⟩) A'.k cw].toArray 32 (0, 0)) := by rw [← hZ]; exact heap_alloc_new w4 _
          obtain ⟨Cb, hCb, _⟩ := HRX.out.gd.ok.blk
          rw [HRX.out.gd.b] at hCb
          have m1 := (bZ.block _ (lt_heap (hK.obj HRX.out.m1 (fun e => blk_ne HRX.out.m1 hCb (by decide) e)))).trans (hK.obj HRX.out.m1 (fun e => blk_ne HRX.out.m1 hCb (by decide) e))
          have m5 := (bZ.block _ (lt_heap (hK.obj HRX.out.m5 (fun e => blk_ne HRX.out.m5 hCb (by decide) e)))).trans (hK.obj HRX.out.m5 (fun e => blk_ne HRX.out.m5 hCb (by decide) e))
          have rvZ : Z.ownsRow 0 86 3 (.slice (some ⟨gv, 0, none⟩) A.k cv) A.k (ints A.ms) := own_still (hK.owns HRX.out.rv (fun g hg e => by
            rcases HRX.out.rv.2 with ⟨h1, _⟩ | ⟨g', cap, cur, h1, _, h3, _⟩
            · cases h1
            · cases h1
              cases hg
              exact blk_ne h3 hCb (by decide) e)) bZ
          have c1 : Z.cell? ⟨w.heap.size, 1, none⟩ = some (.int .i64 (s : Int)) := blk_cell m1 1
          have c2 : Z.cell? ⟨w.heap.size, 2, none⟩ = some (.int .i64 inc) := blk_cell m1 2
          have R11 : Hid (Z.rangeAt w4.heap.size 0 [.int .i64 j0, .int .i64 j1, .int .i64 j2, .int .i64 j3, .slice (some ⟨gw, 0, none⟩) A'.k cw]) := blk_range kZ
          have HGZ : Hid (Gd A' b n s inc Z) := hG.still bZ
          have HrZ : Hid (Z.ownsRow 0 86 3 (.slice (some ⟨gw, 0, none⟩) A'.k cw) A'.k (ints A'.ms)) := own_still hrv bZ
          have HrV : Hid (Z.ownsRow 0 86 3 (.slice (some ⟨gv, 0, none⟩) A.k cv) A.k (ints A.ms)) := rvZ
          have hk16 : A'.k ≤ 16 := hG.ok.ml.2
          have hk16' : A.k ≤ 16 := HRX.out.gd.ok.ml.2
          obtain ⟨y1, hy1⟩ : ∃ y, hld A'.ms s inc A'.k = y := ⟨_, rfl⟩
          obtain ⟨y2, hy2⟩ : ∃ y, hld A.ms s inc A.k = y := ⟨_, rfl⟩
          rw [hy1, hy2] at hhl
          have HD : Hid (Calls Try.prog 12 #[.agg [.int .i64 j0, .int .i64 j1, .int .i64 j2, .int .i64 j3, .slice (some ⟨gw, 0, none⟩) A'.k cw].toArray, .int .i64 (s : Int), .int .i64 inc] Z fun e w' => e = .returned (.int .i64 y1) ∧ Below Z.heap.size Z w') := by
            have h := holds_any (c1 := cw) j0 j1 j2 j3 (s : Int) inc (own_rdM HrZ.out) hk16
            rw [hy1] at h
            exact h
          have HD2 : Hid (∀ W, Below Z.heap.size Z W → Calls Try.prog 12 #[.agg [.int .i64 i0, .int .i64 i1, .int .i64 i2, .int .i64 i3, .slice (some ⟨gv, 0, none⟩) A.k cv].toArray, .int .i64 (s : Int), .int .i64 inc] W fun e w' => e = .returned (.int .i64 y2) ∧ Below W.heap.size W w') := fun W hW => by
            have h := holds_any (c1 := cv) i0 i1 i2 i3 (s : Int) inc ((own_rdM HrV.out).still hW) hk16'
            rw [hy2] at h
            exact h
          have HV : Hid (∀ W, Below Z.heap.size Z W → Calls Try.prog 16 #[.pointer (some ⟨b, 0, none⟩)] W fun e w' => ∃ gx cx, e = .returned (.agg [.int .i64 j0, .int .i64 j1, .int .i64 j2, .int .i64 j3, .slice (some ⟨gx, 0, none⟩) A'.k cx].toArray) ∧ w'.ownsRow W.heap.size 86 3 (.slice (some ⟨gx, 0, none⟩) A'.k cx) A'.k (ints A'.ms) ∧ Below W.heap.size W w') := fun W hW => by
            have hg := HGZ.out.still hW
            rcases hg.iv.vw with ⟨h1, _⟩ | ⟨_, h2, gm, cm, h3⟩
            · exact absurd h1 hnz
            · have h := view_any hg.ok gm cm h3 h2
              rw [hg.b, hid] at h
              exact h
          have HVs : Hid (∀ W gx cx, Below Z.heap.size Z W → ∀ B, W.ownsRow B 86 3 (.slice (some ⟨gx, 0, none⟩) A'.k cx) A'.k (ints A'.ms) → Calls Try.prog 15 #[.agg [.int .i64 j0, .int .i64 j1, .int .i64 j2, .int .i64 j3, .slice (some ⟨gx, 0, none⟩) A'.k cx].toArray, .agg [.int .i64 j0, .int .i64 j1, .int .i64 j2, .int .i64 j3, .slice (some ⟨gw, 0, none⟩) A'.k cw].toArray] W fun e w' => e = .returned (.bool true) ∧ Below W.heap.size W w') := fun W gx cx hW B ho => by
            have h := views_any (c1 := cx) (c2 := cw) j0 j1 j2 j3 j0 j1 j2 j3 (own_rdM ho) ((own_rdM HrZ.out).still hW) hk16 hk16
            rw [decide_eq_true rfl, decide_eq_true rfl] at h
            exact h
          have HCh : Hid (∀ W, Below Z.heap.size Z W → Calls Try.prog 17 #[.pointer (some ⟨b, 0, none⟩)] W fun e w' => e = .returned (.bool false) ∧ W = w') := fun W hW => by
            have hg := HGZ.out.still hW
            have h := changing_any hg.ok
            rw [hg.b, hchg] at h
            exact h
          have HM1 : Hid (Z.heap[w.heap.size]? = some (.cells #[.int .i64 (n : Int), .int .i64 (s : Int), .int .i64 inc, .int .i64 fl, .slice oa on oc] 24 (0, 0))) := m1
          have HM5 : Hid (Z.heap[w3.heap.size]? = some (.cells [.int .i64 i0, .int .i64 i1, .int .i64 i2, .int .i64 i3, .slice (some ⟨gv, 0, none⟩) A.k cv].toArray 32 (0, 0))) := m5
          have HKZ : Hid (Z.heap[w4.heap.size]? = some (.cells [.int .i64 j0, .int .i64 j1, .int .i64 j2, .int .i64 j3, .slice (some ⟨gw, 0, none⟩) A'.k cw].toArray 32 (0, 0))) := kZ
          have HKK : Hid (Kept X Z (fun j => j = b)) := hK.trans (Kept.ofBelow bZ _)
          have Hfa : Hid (A'.own = A.own ∧ A'.id = [j0, j1, j2, j3] ∧ A'.id ≠ [0, 0, 0, 0]) := ⟨hown, hid, hnz⟩
          have HlZ : Hid (Below w.heap.size w Z) := (HlX.out.trans (hK.below HlX.out.size (fun k hk e => by omega))).trans (bZ.mono (by have := hK.size; have := HlX.out.size; omega))
          clear hG hid hnz hrv hown hchg hK bZ kZ m1 m5 rvZ hCb HI hy1 hy2
          go_wp2_with (first | (refine load_mid 32 (.tmp 11) R11.out _ Try.underlying32 rfl (by kernel_rfl) rfl rfl rfl ?_) | fail)
          refine HD.out.mono ?_
          rintro e z2 ⟨rfl, hb2⟩
          clear hZ c1 c2
          go_wp2
          have HB2 : Hid (Below Z.heap.size Z z2.drew) := bstep hb2 (Below.refl _ _).drew
          have d0 : z2.drew.cell? ⟨w4.heap.size, 0, none⟩ = some (.int .i64 j0) := below_at HB2.out (blk_cell HKZ.out 0)
          have d1 : z2.drew.cell? ⟨w3.heap.size, 0, none⟩ = some (.int .i64 i0) := below_at HB2.out (blk_cell HM5.out 0)
          have d2 : z2.drew.cell? ⟨w.heap.size, 1, none⟩ = some (.int .i64 (s : Int)) := below_at HB2.out (blk_cell HM1.out 1)
          have d3 : z2.drew.cell? ⟨w.heap.size, 2, none⟩ = some (.int .i64 inc) := below_at HB2.out (blk_cell HM1.out 2)
          have D4 : Hid (z2.drew.rangeAt w3.heap.size 0 [.int .i64 i0, .int .i64 i1, .int .i64 i2, .int .i64 i3, .slice (some ⟨gv, 0, none⟩) A.k cv]) := rng_below (blk_range HM5.out) HB2.out
          have D5 : Hid (z2.drew.rangeAt w4.heap.size 0 [.int .i64 j0, .int .i64 j1, .int .i64 j2, .int .i64 j3, .slice (some ⟨gw, 0, none⟩) A'.k cw]) := rng_below (blk_range HKZ.out) HB2.out
          clear hb2
          refine wp_region_held_drew (S := (fun w' => w'.cell? ⟨w4.heap.size, 0, none⟩ = some (.int .i64 j0) ∧ w'.cell? ⟨w3.heap.size, 0, none⟩ = some (.int .i64 i0) ∧ w'.cell? ⟨w.heap.size, 1, none⟩ = some (.int .i64 (s : Int)) ∧ w'.cell? ⟨w.heap.size, 2, none⟩ = some (.int .i64 inc) ∧ w'.rangeAt w3.heap.size 0 [.int .i64 i0, .int .i64 i1, .int .i64 i2, .int .i64 i3, .slice (some ⟨gv, 0, none⟩) A.k cv] ∧ w'.rangeAt w4.heap.size 0 [.int .i64 j0, .int .i64 j1, .int .i64 j2, .int .i64 j3, .slice (some ⟨gw, 0, none⟩) A'.k cw])) (by kernel_rfl) ⟨d0, d1, d2, d3, D4.out, D5.out⟩ (fun hHeld => ?_)
          simp only [Act.put, List.size_toArray, List.length_cons, List.length_nil, Nat.zero_add]
          refine wpAnyH_take (i := 0) (v := .pointer (some ⟨w4.heap.size, 0, none⟩)) rfl (by kernel_rfl) (by kernel_rfl) (by kernel_rfl) (fun _ _ _ h => h) (Or.inl ⟨by rfl, fun w' hS => by go_simp⟩) hHeld ?_
          simp only [Act.put, List.getElem_toArray, List.getElem_cons_zero, List.getElem_cons_succ, List.setIfInBounds_toArray, List.set_cons_zero, List.set_cons_succ]
          refine wpAnyH_take (i := 1) (v := .pointer (some ⟨w4.heap.size, 0, none⟩)) rfl (by kernel_rfl) (by kernel_rfl) (by kernel_rfl) (fun _ _ _ h => h) (Or.inl ⟨by rfl, fun w' hS => by go_simp⟩) hHeld ?_
          simp only [Act.put, List.getElem_toArray, List.getElem_cons_zero, List.getElem_cons_succ, List.setIfInBounds_toArray, List.set_cons_zero, List.set_cons_succ]
          refine wpAnyH_take (i := 2) (v := .int .i64 j0) rfl (by kernel_rfl) (by kernel_rfl) (by kernel_rfl) (fun _ _ _ h => h) (Or.inl ⟨by rfl, fun w' hS => by (obtain ⟨s0, s1, s2, s3, s4, s5⟩ := hS; go_simp)⟩) hHeld ?_
          simp only [Act.put, List.getElem_toArray, List.getElem_cons_zero, List.getElem_cons_succ, List.setIfInBounds_toArray, List.set_cons_zero, List.set_cons_succ]
          refine wpAnyH_take (i := 3) (v := .pointer (some ⟨w3.heap.size, 0, none⟩)) rfl (by kernel_rfl) (by kernel_rfl) (by kernel_rfl) (fun _ _ _ h => h) (Or.inl ⟨by rfl, fun w' hS => by go_simp⟩) hHeld ?_
          simp only [Act.put, List.getElem_toArray, List.getElem_cons_zero, List.getElem_cons_succ, List.setIfInBounds_toArray, List.set_cons_zero, List.set_cons_succ]
          refine wpAnyH_take (i := 4) (v := .pointer (some ⟨w3.heap.size, 0, none⟩)) rfl (by kernel_rfl) (by kernel_rfl) (by kernel_rfl) (fun _ _ _ h => h) (Or.inl ⟨by rfl, fun w' hS => by go_simp⟩) hHeld ?_
          simp only [Act.put, List.getElem_toArray, List.getElem_cons_zero, List.getElem_cons_succ, List.setIfInBounds_toArray, List.set_cons_zero, List.set_cons_succ]
          refine wpAnyH_take (i := 5) (v := .int .i64 i0) rfl (by kernel_rfl) (by kernel_rfl) (by kernel_rfl) (fun _ _ _ h => h) (Or.inl ⟨by rfl, fun w' hS => by (obtain ⟨s0, s1, s2, s3, s4, s5⟩ := hS; go_simp)⟩) hHeld ?_
          simp only [Act.put, List.getElem_toArray, List.getElem_cons_zero, List.getElem_cons_succ, List.setIfInBounds_toArray, List.set_cons_zero, List.set_cons_succ]
          refine wpAnyH_take (i := 6) (v := .bool false) rfl (by kernel_rfl) (by kernel_rfl) (by kernel_rfl) (fun _ _ _ h => h) (Or.inl ⟨by rfl, fun w' hS => by (go_simp <;> first | omega | simp_all | (simp; omega))⟩) hHeld ?_
          simp only [Act.put, List.getElem_toArray, List.getElem_cons_zero, List.getElem_cons_succ, List.setIfInBounds_toArray, List.set_cons_zero, List.set_cons_succ]
          refine wpAnyH_take (i := 7) (v := .bool false) rfl (by kernel_rfl) (by kernel_rfl) (by kernel_rfl) (fun _ _ _ h => h) (Or.inl ⟨by rfl, fun w' hS => by go_simp⟩) hHeld ?_
          simp only [Act.put, List.getElem_toArray, List.getElem_cons_zero, List.getElem_cons_succ, List.setIfInBounds_toArray, List.set_cons_zero, List.set_cons_succ]
          refine wpAnyH_take (i := 8) (v := .int .i64 y1) rfl (by kernel_rfl) (by kernel_rfl) (by kernel_rfl) (fun _ _ _ h => h) (Or.inl ⟨by rfl, fun w' hS => by go_simp⟩) hHeld ?_
          simp only [Act.put, List.getElem_toArray, List.getElem_cons_zero, List.getElem_cons_succ, List.setIfInBounds_toArray, List.set_cons_zero, List.set_cons_succ]
          refine wpAnyH_take (i := 9) (v := .agg ([.int .i64 i0, .int .i64 i1, .int .i64 i2, .int .i64 i3, .slice (some ⟨gv, 0, none⟩) A.k cv]).toArray) rfl (by kernel_rfl) (by kernel_rfl) (by kernel_rfl) (fun _ _ _ h => h) (yieldsIf_load_mid (by rfl) 32 (.tmp 5) rfl w3.heap.size (0) (by rfl) ([.int .i64 i0, .int .i64 i1, .int .i64 i2, .int .i64 i3, .slice (some ⟨gv, 0, none⟩) A.k cv]) _ (fun w' hS => hS.2.2.2.2.1) Try.underlying32 rfl info_view) hHeld ?_
          simp only [Act.put, List.getElem_toArray, List.getElem_cons_zero, List.getElem_cons_succ, List.setIfInBounds_toArray, List.set_cons_zero, List.set_cons_succ]
          refine wpAnyH_take (i := 10) (v := .pointer (some ⟨w.heap.size, 1, none⟩)) rfl (by kernel_rfl) (by kernel_rfl) (by kernel_rfl) (fun _ _ _ h => h) (Or.inl ⟨by rfl, fun w' hS => by go_simp⟩) hHeld ?_
          simp only [Act.put, List.getElem_toArray, List.getElem_cons_zero, List.getElem_cons_succ, List.setIfInBounds_toArray, List.set_cons_zero, List.set_cons_succ]
          refine wpAnyH_take (i := 11) (v := .int .i64 (s : Int)) rfl (by kernel_rfl) (by kernel_rfl) (by kernel_rfl) (fun _ _ _ h => h) (Or.inl ⟨by rfl, fun w' hS => by (obtain ⟨s0, s1, s2, s3, s4, s5⟩ := hS; go_simp)⟩) hHeld ?_
          simp only [Act.put, List.getElem_toArray, List.getElem_cons_zero, List.getElem_cons_succ, List.setIfInBounds_toArray, List.set_cons_zero, List.set_cons_succ]
          refine wpAnyH_take (i := 12) (v := .pointer (some ⟨w.heap.size, 2, none⟩)) rfl (by kernel_rfl) (by kernel_rfl) (by kernel_rfl) (fun _ _ _ h => h) (Or.inl ⟨by rfl, fun w' hS => by go_simp⟩) hHeld ?_
          simp only [Act.put, List.getElem_toArray, List.getElem_cons_zero, List.getElem_cons_succ, List.setIfInBounds_toArray, List.set_cons_zero, List.set_cons_succ]
          refine wpAnyH_take (i := 13) (v := .int .i64 inc) rfl (by kernel_rfl) (by kernel_rfl) (by kernel_rfl) (fun _ _ _ h => h) (Or.inl ⟨by rfl, fun w' hS => by (obtain ⟨s0, s1, s2, s3, s4, s5⟩ := hS; go_simp)⟩) hHeld ?_
          simp only [Act.put, List.getElem_toArray, List.getElem_cons_zero, List.getElem_cons_succ, List.setIfInBounds_toArray, List.set_cons_zero, List.set_cons_succ]
          refine wpAnyH_ready (rs := [14]) (by kernel_rfl) (by simp) ?_
          refine AllReadyH.cons rfl (fun K hK => ?_) AllReadyH.nil
          go_simp
          refine (HD2.out z2.drew HB2.out).mono ?_
          rintro e z3 ⟨rfl, hb3⟩
          have HB3 : Hid (Below z2.drew.heap.size z2.drew z3) := hb3
          refine hK.out _ _ ⟨below_at hb3 d0, below_at hb3 d1, below_at hb3 d2, below_at hb3 d3, rng_below D4.out hb3, rng_below D5.out hb3⟩ (fun hHeld => ?_)
          clear hK K
          refine wpAnyH_take (i := 15) (v := .bool false) rfl (by kernel_rfl) (by kernel_rfl) (by kernel_rfl) (fun _ _ _ h => h) (Or.inl ⟨by rfl, fun w' hS => by (go_simp <;> first | omega | simp_all | (simp; omega))⟩) hHeld ?_
          simp only [Act.put, List.getElem_toArray, List.getElem_cons_zero, List.getElem_cons_succ, List.setIfInBounds_toArray, List.set_cons_zero, List.set_cons_succ]
          refine wpAnyH_take (i := 16) (v := .bool false) rfl (by kernel_rfl) (by kernel_rfl) (by kernel_rfl) (fun _ _ _ h => h) (Or.inl ⟨by rfl, fun w' hS => by go_simp⟩) hHeld ?_
          simp only [Act.put, List.getElem_toArray, List.getElem_cons_zero, List.getElem_cons_succ, List.setIfInBounds_toArray, List.set_cons_zero, List.set_cons_succ]
          refine wpAnyH_take (i := 17) (v := .bool false) rfl (by kernel_rfl) (by kernel_rfl) (by kernel_rfl) (fun _ _ _ h => h) (Or.inl ⟨by rfl, fun w' hS => by go_simp⟩) hHeld ?_
          simp only [Act.put, List.getElem_toArray, List.getElem_cons_zero, List.getElem_cons_succ, List.setIfInBounds_toArray, List.set_cons_zero, List.set_cons_succ]
          refine wpAnyH_take (i := 18) (v := .slice ao tn cp) rfl (by kernel_rfl) (by kernel_rfl) (by kernel_rfl) (fun _ _ _ h => h) (Or.inl ⟨by rfl, fun w' hS => by go_simp⟩) hHeld ?_
          simp only [Act.put, List.getElem_toArray, List.getElem_cons_zero, List.getElem_cons_succ, List.setIfInBounds_toArray, List.set_cons_zero, List.set_cons_succ]
          refine wpAnyH_take (i := 19) (v := .int .i64 (tn : Int)) rfl (by kernel_rfl) (by kernel_rfl) (by kernel_rfl) (fun _ _ _ h => h) (Or.inl ⟨by rfl, fun w' hS => by go_simp⟩) hHeld ?_
          simp only [Act.put, List.getElem_toArray, List.getElem_cons_zero, List.getElem_cons_succ, List.setIfInBounds_toArray, List.set_cons_zero, List.set_cons_succ]
          refine wpAnyH_take (i := 20) (v := .bool false) rfl (by kernel_rfl) (by kernel_rfl) (by kernel_rfl) (fun _ _ _ h => h) (Or.inl ⟨by rfl, fun w' hS => by (go_simp <;> first | omega | simp_all | (simp; omega))⟩) hHeld ?_
          simp only [Act.put, List.getElem_toArray, List.getElem_cons_zero, List.getElem_cons_succ, List.setIfInBounds_toArray, List.set_cons_zero, List.set_cons_succ]
          refine wpAnyH_take (i := 21) (v := .bool false) rfl (by kernel_rfl) (by kernel_rfl) (by kernel_rfl) (fun _ _ _ h => h) (Or.inl ⟨by rfl, fun w' hS => by go_simp⟩) hHeld ?_
          simp only [Act.put, List.getElem_toArray, List.getElem_cons_zero, List.getElem_cons_succ, List.setIfInBounds_toArray, List.set_cons_zero, List.set_cons_succ]
          refine wpAnyH_take (i := 22) (v := .bool false) rfl (by kernel_rfl) (by kernel_rfl) (by kernel_rfl) (fun _ _ _ h => h) (Or.inl ⟨by rfl, fun w' hS => by go_simp⟩) hHeld ?_
          simp only [Act.put, List.getElem_toArray, List.getElem_cons_zero, List.getElem_cons_succ, List.setIfInBounds_toArray, List.set_cons_zero, List.set_cons_succ]
          refine wpAnyH_take (i := 23) (v := .pointer (some ⟨b, 0, none⟩)) rfl (by kernel_rfl) (by kernel_rfl) (by kernel_rfl) (fun _ _ _ h => h) (Or.inl ⟨by rfl, fun w' hS => by go_simp⟩) hHeld ?_
          simp only [Act.put, List.getElem_toArray, List.getElem_cons_zero, List.getElem_cons_succ, List.setIfInBounds_toArray, List.set_cons_zero, List.set_cons_succ]
          refine wpAnyH_take (i := 25) (v := .agg ([.int .i64 j0, .int .i64 j1, .int .i64 j2, .int .i64 j3, .slice (some ⟨gw, 0, none⟩) A'.k cw]).toArray) rfl (by kernel_rfl) (by kernel_rfl) (by kernel_rfl) (fun _ _ _ h => h) (yieldsIf_load_mid (by rfl) 32 (.tmp 11) rfl w4.heap.size (0) (by rfl) ([.int .i64 j0, .int .i64 j1, .int .i64 j2, .int .i64 j3, .slice (some ⟨gw, 0, none⟩) A'.k cw]) _ (fun w' hS => hS.2.2.2.2.2) Try.underlying32 rfl info_view) hHeld ?_
          simp only [Act.put, List.getElem_toArray, List.getElem_cons_zero, List.getElem_cons_succ, List.setIfInBounds_toArray, List.set_cons_zero, List.set_cons_succ]
          refine wpAnyH_ready (rs := [24]) (by kernel_rfl) (by simp) ?_
          refine AllReadyH.cons rfl (fun K hK => ?_) AllReadyH.nil
          go_simp
          refine (HV.out z3 (bstep HB2.out HB3.out)).mono ?_
          rintro e z4 ⟨gx, cx, rfl, hox, hb4⟩
          have HB4 : Hid (Below z2.drew.heap.size z2.drew z4) := bstep HB3.out hb4
          have Hox : Hid (z4.ownsRow z3.heap.size 86 3 (.slice (some ⟨gx, 0, none⟩) A'.k cx) A'.k (ints A'.ms)) := hox
          refine hK.out _ _ ⟨below_at (bstep HB3.out hb4) d0, below_at (bstep HB3.out hb4) d1, below_at (bstep HB3.out hb4) d2, below_at (bstep HB3.out hb4) d3, rng_below D4.out (bstep HB3.out hb4), rng_below D5.out (bstep HB3.out hb4)⟩ (fun hHeld => ?_)
          clear hK K
          refine wpAnyH_ready (rs := [26]) (by kernel_rfl) (by simp) ?_
          refine AllReadyH.cons rfl (fun K hK => ?_) AllReadyH.nil
          go_simp
          refine (HVs.out z4 gx cx (bstep HB2.out HB4.out) _ Hox.out).mono ?_
          rintro e z5 ⟨rfl, hb5⟩
          have HB5 : Hid (Below z2.drew.heap.size z2.drew z5) := bstep HB4.out hb5
          refine hK.out _ _ ⟨below_at (bstep HB4.out hb5) d0, below_at (bstep HB4.out hb5) d1, below_at (bstep HB4.out hb5) d2, below_at (bstep HB4.out hb5) d3, rng_below D4.out (bstep HB4.out hb5), rng_below D5.out (bstep HB4.out hb5)⟩ (fun hHeld => ?_)
          clear hK K
          refine wpAnyH_take (i := 27) (v := .bool false) rfl (by kernel_rfl) (by kernel_rfl) (by kernel_rfl) (fun _ _ _ h => h) (Or.inl ⟨by rfl, fun w' hS => by go_simp⟩) hHeld ?_
          simp only [Act.put, List.getElem_toArray, List.getElem_cons_zero, List.getElem_cons_succ, List.setIfInBounds_toArray, List.set_cons_zero, List.set_cons_succ]
          refine wpAnyH_take (i := 28) (v := .bool false) rfl (by kernel_rfl) (by kernel_rfl) (by kernel_rfl) (fun _ _ _ h => h) (Or.inl ⟨by rfl, fun w' hS => by go_simp⟩) hHeld ?_
          simp only [Act.put, List.getElem_toArray, List.getElem_cons_zero, List.getElem_cons_succ, List.setIfInBounds_toArray, List.set_cons_zero, List.set_cons_succ]
          refine wpAnyH_take (i := 29) (v := .bool false) rfl (by kernel_rfl) (by kernel_rfl) (by kernel_rfl) (fun _ _ _ h => h) (Or.inl ⟨by rfl, fun w' hS => by go_simp⟩) hHeld ?_
          simp only [Act.put, List.getElem_toArray, List.getElem_cons_zero, List.getElem_cons_succ, List.setIfInBounds_toArray, List.set_cons_zero, List.set_cons_succ]
          refine wpAnyH_take (i := 30) (v := .pointer (some ⟨b, 0, none⟩)) rfl (by kernel_rfl) (by kernel_rfl) (by kernel_rfl) (fun _ _ _ h => h) (Or.inl ⟨by rfl, fun w' hS => by go_simp⟩) hHeld ?_
          simp only [Act.put, List.getElem_toArray, List.getElem_cons_zero, List.getElem_cons_succ, List.setIfInBounds_toArray, List.set_cons_zero, List.set_cons_succ]
          refine wpAnyH_ready (rs := [31]) (by kernel_rfl) (by simp) ?_
          refine AllReadyH.cons rfl (fun K hK => ?_) AllReadyH.nil
          go_simp
          refine (HCh.out z5 (bstep HB2.out HB5.out)).mono ?_
          rintro e z6 ⟨rfl, rfl⟩
          refine hK.out _ _ ⟨below_at HB5.out d0, below_at HB5.out d1, below_at HB5.out d2, below_at HB5.out d3, rng_below D4.out HB5.out, rng_below D5.out HB5.out⟩ (fun hHeld => ?_)
          clear hK K
          refine wpAnyH_take (i := 32) (v := .bool false) rfl (by kernel_rfl) (by kernel_rfl) (by kernel_rfl) (fun _ _ _ h => h) (Or.inl ⟨by rfl, fun w' hS => by go_simp⟩) hHeld ?_
          simp only [Act.put, List.getElem_toArray, List.getElem_cons_zero, List.getElem_cons_succ, List.setIfInBounds_toArray, List.set_cons_zero, List.set_cons_succ]
          refine wpAnyH_done (by kernel_rfl) ?_ _
          clear hHeld
          clear d0 d1 d2 d3
          have BZ5 : Hid (Below Z.heap.size Z z5) := bstep HB2.out HB5.out
          have R15 : Hid (z5.rangeAt w4.heap.size 0 [.int .i64 j0, .int .i64 j1, .int .i64 j2, .int .i64 j3, .slice (some ⟨gw, 0, none⟩) A'.k cw]) := rng_below (blk_range HKZ.out) BZ5.out
          have Th : Hid (z5.there w3.heap.size 0 5) := blk_there ((BZ5.out.block _ (lt_heap HM5.out)).trans HM5.out) rfl
          have HTn : Hid (Tst (z5.setCells w3.heap.size 0 [.int .i64 j0, .int .i64 j1, .int .i64 j2, .int .i64 j3, .slice (some ⟨gw, 0, none⟩) A'.k cw]) b n s inc w.heap.size w3.heap.size w7.heap.size #[.int .i64 (n : Int), .int .i64 (s : Int), .int .i64 inc, .int .i64 fl, .slice oa on oc] A A' g1 g2 gw cw j0 j1 j2 j3) := HRX.out.view (HGZ.out.still BZ5.out) (HKK.out.trans (Kept.ofBelow BZ5.out _)) Hfa.out.1 Hfa.out.2.1 Hfa.out.2.2 (own_still HrZ.out BZ5.out)
          have HlT0 : Hid (Below w.heap.size w (z5.setCells w3.heap.size 0 [.int .i64 j0, .int .i64 j1, .int .i64 j2, .int .i64 j3, .slice (some ⟨gw, 0, none⟩) A'.k cw])) := bsets hk5w _ 0 (bstep HlZ.out BZ5.out)
          clear D4 D5 HD HD2 HV HVs HCh hhl hij
          generalize hWT : z5.setCells w3.heap.size 0 [.int .i64 j0, .int .i64 j1, .int .i64 j2, .int .i64 j3, .slice (some ⟨gw, 0, none⟩) A'.k cw] = WT at HTn HlT0
          have HT := HTn
          have HlT := HlT0
          go_wp2_with (first
            | (refine load_mid 32 (.tmp 11) R15.out _ Try.underlying32 rfl (by kernel_rfl) rfl rfl rfl ?_)
            | (refine store_rowL 32 (.tmp 5) (.tmp 142) (L := [.int .i64 j0, .int .i64 j1, .int .i64 j2, .int .i64 j3, .slice (some ⟨gw, 0, none⟩) A'.k cw]) Th.out info_view (by simp [Value.oneCell']) rfl rfl rfl rfl ?_; rw [hWT])
            | fail)
          clear hWT
          have HP : Hid (Calls Try.prog 14 #[.pointer (some ⟨b, 0, none⟩)] WT fun e w' => ∃ g3 g4, e = .returned (.agg [.slice (some ⟨g3, 0, none⟩) n n, .int .i64 A'.own.cid, .int .i64 A'.own.rev, .int .i64 A'.own.top, .int .i64 (A'.own.prev[0]?.getD 0), .int .i64 (A'.own.prev[1]?.getD 0), .int .i64 (A'.own.prev[2]?.getD 0), .int .i64 (A'.own.prev[3]?.getD 0), .slice (some ⟨g4, 0, none⟩) n n].toArray) ∧ WT.heap.size ≤ g3 ∧ g3 < g4 ∧ Rw w' g3 3 (A'.own.set.take n) ∧ Rw w' g4 3 (A'.own.vec.take n) ∧ Below WT.heap.size WT w') := by
            have h := proposal_any HT.out.gd.ok
            rw [HT.out.gd.b] at h
            unfold Ag.pq at h
            rw [HT.out.gd.n] at h
            exact h
          refine HP.out.mono ?_
          rintro e w5 ⟨g3, g4, rfl, hg3, hg34, r3, r4, hb5⟩
          generalize hX15 : w5.alloc (.cells [.slice (some ⟨g3, 0, none⟩) n n, .int .i64 A'.own.cid, .int .i64 A'.own.rev, .int .i64 A'.own.top, .int .i64 (A'.own.prev[0]?.getD 0), .int .i64 (A'.own.prev[1]?.getD 0), .int .i64 (A'.own.prev[2]?.getD 0), .int .i64 (A'.own.prev[3]?.getD 0), .slice (some ⟨g4, 0, none⟩) n n].toArray 41) = X15
          have b15 : Below w5.heap.size w5 X15 := by rw [← hX15]; exact balloc (Below.refl _ _)
          have k15 : X15.heap[w5.heap.size]? = some (.cells [.slice (some ⟨g3, 0, none⟩) n n, .int .i64 A'.own.cid, .int .i64 A'.own.rev, .int .i64 A'.own.top, .int .i64 (A'.own.prev[0]?.getD 0), .int .i64 (A'.own.prev[1]?.getD 0), .int .i64 (A'.own.prev[2]?.getD 0), .int .i64 (A'.own.prev[3]?.getD 0), .slice (some ⟨g4, 0, none⟩) n n].toArray 41 (0, 0)) := by rw [← hX15]; exact heap_alloc_new w5 _
          generalize hX16 : X15.alloc (.cells [.slice (some ⟨g3, 0, none⟩) n n, .int .i64 A'.own.cid, .int .i64 A'.own.rev, .int .i64 A'.own.top, .int .i64 (A'.own.prev[0]?.getD 0), .int .i64 (A'.own.prev[1]?.getD 0), .int .i64 (A'.own.prev[2]?.getD 0), .int .i64 (A'.own.prev[3]?.getD 0), .slice (some ⟨g4, 0, none⟩) n n].toArray 41) = X16
          have b16 : Below X15.heap.size X15 X16 := by rw [← hX16]; exact balloc (Below.refl _ _)
          have k16 : X16.heap[X15.heap.size]? = some (.cells [.slice (some ⟨g3, 0, none⟩) n n, .int .i64 A'.own.cid, .int .i64 A'.own.rev, .int .i64 A'.own.top, .int .i64 (A'.own.prev[0]?.getD 0), .int .i64 (A'.own.prev[1]?.getD 0), .int .i64 (A'.own.prev[2]?.getD 0), .int .i64 (A'.own.prev[3]?.getD 0), .slice (some ⟨g4, 0, none⟩) n n].toArray 41 (0, 0)) := by rw [← hX16]; exact heap_alloc_new X15 _
          generalize hX17 : X16.setCell ⟨X15.heap.size, 2, none⟩ (.int .i64 A.own.rev) = X17
          have b17 : Below X15.heap.size X15 X17 := by rw [← hX17]; exact bset b16 (Nat.le_refl _) _ _
          have k17 : X17.heap[X15.heap.size]? = some (.cells (((A'.pq g3 g4).cs).setIfInBounds 2 (.int .i64 A.own.rev)) 41 (0, 0)) := by
            rw [← hX17]
            refine blk_set k16 ?_
            unfold Ag.pq Pq.cs
            rw [HT.out.gd.n]
            rfl
          have HT15 : Hid (Tst X15 b n s inc w.heap.size w3.heap.size w7.heap.size #[.int .i64 (n : Int), .int .i64 (s : Int), .int .i64 inc, .int .i64 fl, .slice oa on oc] A A' g1 g2 gw cw j0 j1 j2 j3) := (HT.out.still hb5).still b15
          have HT16 : Hid (Tst X16 b n s inc w.heap.size w3.heap.size w7.heap.size #[.int .i64 (n : Int), .int .i64 (s : Int), .int .i64 inc, .int .i64 fl, .slice oa on oc] A A' g1 g2 gw cw j0 j1 j2 j3) := HT15.out.still b16
          have HT17 : Hid (Tst X17 b n s inc w.heap.size w3.heap.size w7.heap.size #[.int .i64 (n : Int), .int .i64 (s : Int), .int .i64 inc, .int .i64 fl, .slice oa on oc] A A' g1 g2 gw cw j0 j1 j2 j3) := HT15.out.still b17
          have R15 : Hid (X15.rangeAt w5.heap.size 0 [.slice (some ⟨g3, 0, none⟩) n n, .int .i64 A'.own.cid, .int .i64 A'.own.rev, .int .i64 A'.own.top, .int .i64 (A'.own.prev[0]?.getD 0), .int .i64 (A'.own.prev[1]?.getD 0), .int .i64 (A'.own.prev[2]?.getD 0), .int .i64 (A'.own.prev[3]?.getD 0), .slice (some ⟨g4, 0, none⟩) n n]) := blk_range k15
          have r3' : Rw X17 g3 3 (A'.own.set.take n) := (r3.still b15).still b17
          have r4' : Rw X17 g4 3 (A'.own.vec.take n) := (r4.still b15).still b17
          have k15' : X17.heap[w5.heap.size]? = some (.cells [.slice (some ⟨g3, 0, none⟩) n n, .int .i64 A'.own.cid, .int .i64 A'.own.rev, .int .i64 A'.own.top, .int .i64 (A'.own.prev[0]?.getD 0), .int .i64 (A'.own.prev[1]?.getD 0), .int .i64 (A'.own.prev[2]?.getD 0), .int .i64 (A'.own.prev[3]?.getD 0), .slice (some ⟨g4, 0, none⟩) n n].toArray 41 (0, 0)) := (b17.block _ (lt_heap k15)).trans k15
          have u2 : X16.cell? ⟨w7.heap.size, 2, none⟩ = some (.int .i64 A.own.rev) := blk_cell HT16.out.m8 2
          have v2 : X16.cell? ⟨X15.heap.size, 2, none⟩ = some (.int .i64 A'.own.rev) := blk_cell k16 2
          have z2 : X16.frozen? ⟨X15.heap.size, 2, none⟩ = false := frozen_of_row X16 _ _ _ _ k16
          have hr3 : Hid ((A'.pq g3 g4).Rd X17) := by
            have hn := HT.out.gd.n
            exact pq_rd HT.out.gd.iv g3 g4 (by rw [hn]; exact r3') (by rw [hn]; exact r4')
          have hr1 : Hid ((A.pq g1 g2).Rd X17) := pq_rd HT.out.iv g1 g2 (by rw [HT.out.an]; exact HT17.out.r1) (by rw [HT.out.an]; exact HT17.out.r2)
          obtain ⟨q1, q2, q3, q4⟩ := rise_same HT.out.iv HT.out.gd.iv (HT.out.gd.n.trans HT.out.an.symm) HT.out.mv g1 g2 g3 g4
          have hrb := HT.out.rb
          obtain ⟨bb, hbb⟩ : ∃ bb, (A'.own.rev == A.own.rev) = bb := ⟨_, rfl⟩
          rw [hbb] at q4
          have HPr : Hid (Calls Try.prog 19 #[.agg [.slice (some ⟨g1, 0, none⟩) n n, .int .i64 A.own.cid, .int .i64 A.own.rev, .int .i64 A.own.top, .int .i64 (A.own.prev[0]?.getD 0), .int .i64 (A.own.prev[1]?.getD 0), .int .i64 (A.own.prev[2]?.getD 0), .int .i64 (A.own.prev[3]?.getD 0), .slice (some ⟨g2, 0, none⟩) n n].toArray, .agg [.slice (some ⟨g3, 0, none⟩) n n, .int .i64 A'.own.cid, .int .i64 A.own.rev, .int .i64 A'.own.top, .int .i64 (A'.own.prev[0]?.getD 0), .int .i64 (A'.own.prev[1]?.getD 0), .int .i64 (A'.own.prev[2]?.getD 0), .int .i64 (A'.own.prev[3]?.getD 0), .slice (some ⟨g4, 0, none⟩) n n].toArray] X17.drew fun e w' => e = .returned (.bool bb) ∧ Below X17.drew.heap.size X17.drew w') := by
            have h := props_any (w := X17.drew) (A.pq g1 g2) { A'.pq g3 g4 with rev := A.own.rev } (hr1.out.still (Below.refl _ _).drew) { (hr3.out.still (Below.refl _ _).drew) with }
            rw [← q4] at h
            unfold Pq.cs Ag.pq at h
            rw [HT.out.gd.n] at h
            try rw [HT.out.an] at h
            exact h
          have Hr3 : Hid (Rw X17 g3 3 (A'.own.set.take n)) := r3'
          have Hr4 : Hid (Rw X17 g4 3 (A'.own.vec.take n)) := r4'
          have Hk15 : Hid (X17.heap[w5.heap.size]? = some (.cells [.slice (some ⟨g3, 0, none⟩) n n, .int .i64 A'.own.cid, .int .i64 A'.own.rev, .int .i64 A'.own.top, .int .i64 (A'.own.prev[0]?.getD 0), .int .i64 (A'.own.prev[1]?.getD 0), .int .i64 (A'.own.prev[2]?.getD 0), .int .i64 (A'.own.prev[3]?.getD 0), .slice (some ⟨g4, 0, none⟩) n n].toArray 41 (0, 0))) := k15'
          have Hk17 : Hid (X17.rangeAt X15.heap.size 0 [.slice (some ⟨g3, 0, none⟩) n n, .int .i64 A'.own.cid, .int .i64 A.own.rev, .int .i64 A'.own.top, .int .i64 (A'.own.prev[0]?.getD 0), .int .i64 (A'.own.prev[1]?.getD 0), .int .i64 (A'.own.prev[2]?.getD 0), .int .i64 (A'.own.prev[3]?.getD 0), .slice (some ⟨g4, 0, none⟩) n n]) := by
            rw [show ((A'.pq g3 g4).cs).setIfInBounds 2 (.int .i64 A.own.rev) = [.slice (some ⟨g3, 0, none⟩) n n, .int .i64 A'.own.cid, .int .i64 A.own.rev, .int .i64 A'.own.top, .int .i64 (A'.own.prev[0]?.getD 0), .int .i64 (A'.own.prev[1]?.getD 0), .int .i64 (A'.own.prev[2]?.getD 0), .int .i64 (A'.own.prev[3]?.getD 0), .slice (some ⟨g4, 0, none⟩) n n].toArray from by unfold Ag.pq Pq.cs; rw [HT.out.gd.n]; rfl] at k17
            exact blk_range k17
          have Hq4 : Hid ((A'.own.rev == A.own.rev) = bb) := hbb
          have HlX17 : Hid (Below w.heap.size w X17) := bstep (bstep (bstep HlT.out hb5) b15) b17
          simp only [List.toArray] at hX15 hX16
          clear q4 hb5 b15 b16 b17 k15 k16 k17 k15' r3 r4 r3' r4' hr3 hr1 HP hg3 hg34 hbb
          go_wp2_with (first | (refine load_mid 41 (.tmp 15) R15.out _ Try.underlying41 rfl (by kernel_rfl) rfl rfl rfl ?_) | fail)
          clear R15 hX15 hX16 hX17 u2 v2 z2
          have d0 : X17.drew.cell? ⟨w5.heap.size, 1, none⟩ = some (.int .i64 A'.own.cid) := blk_cell (show X17.drew.heap[w5.heap.size]? = _ from Hk15.out) 1
          have d1 : X17.drew.cell? ⟨w5.heap.size, 2, none⟩ = some (.int .i64 A'.own.rev) := blk_cell (show X17.drew.heap[w5.heap.size]? = _ from Hk15.out) 2
          have d2 : X17.drew.cell? ⟨w7.heap.size, 1, none⟩ = some (.int .i64 A.own.cid) := blk_cell (show X17.drew.heap[w7.heap.size]? = _ from HT17.out.m8) 1
          have d3 : X17.drew.cell? ⟨w7.heap.size, 2, none⟩ = some (.int .i64 A.own.rev) := blk_cell (show X17.drew.heap[w7.heap.size]? = _ from HT17.out.m8) 2
          have D4 : Hid (X17.drew.rangeAt w7.heap.size 0 [.slice (some ⟨g1, 0, none⟩) n n, .int .i64 A.own.cid, .int .i64 A.own.rev, .int .i64 A.own.top, .int .i64 (A.own.prev[0]?.getD 0), .int .i64 (A.own.prev[1]?.getD 0), .int .i64 (A.own.prev[2]?.getD 0), .int .i64 (A.own.prev[3]?.getD 0), .slice (some ⟨g2, 0, none⟩) n n]) := rng_below (blk_range HT17.out.m8) (Below.refl _ _).drew
          have D5 : Hid (X17.drew.rangeAt X15.heap.size 0 [.slice (some ⟨g3, 0, none⟩) n n, .int .i64 A'.own.cid, .int .i64 A.own.rev, .int .i64 A'.own.top, .int .i64 (A'.own.prev[0]?.getD 0), .int .i64 (A'.own.prev[1]?.getD 0), .int .i64 (A'.own.prev[2]?.getD 0), .int .i64 (A'.own.prev[3]?.getD 0), .slice (some ⟨g4, 0, none⟩) n n]) := rng_below Hk17.out (Below.refl _ _).drew
          refine wp_region_held_drew (S := (fun w' => w'.cell? ⟨w5.heap.size, 1, none⟩ = some (.int .i64 A'.own.cid) ∧ w'.cell? ⟨w5.heap.size, 2, none⟩ = some (.int .i64 A'.own.rev) ∧ w'.cell? ⟨w7.heap.size, 1, none⟩ = some (.int .i64 A.own.cid) ∧ w'.cell? ⟨w7.heap.size, 2, none⟩ = some (.int .i64 A.own.rev) ∧ w'.rangeAt w7.heap.size 0 [.slice (some ⟨g1, 0, none⟩) n n, .int .i64 A.own.cid, .int .i64 A.own.rev, .int .i64 A.own.top, .int .i64 (A.own.prev[0]?.getD 0), .int .i64 (A.own.prev[1]?.getD 0), .int .i64 (A.own.prev[2]?.getD 0), .int .i64 (A.own.prev[3]?.getD 0), .slice (some ⟨g2, 0, none⟩) n n] ∧ w'.rangeAt X15.heap.size 0 [.slice (some ⟨g3, 0, none⟩) n n, .int .i64 A'.own.cid, .int .i64 A.own.rev, .int .i64 A'.own.top, .int .i64 (A'.own.prev[0]?.getD 0), .int .i64 (A'.own.prev[1]?.getD 0), .int .i64 (A'.own.prev[2]?.getD 0), .int .i64 (A'.own.prev[3]?.getD 0), .slice (some ⟨g4, 0, none⟩) n n])) (by kernel_rfl) ⟨d0, d1, d2, d3, D4.out, D5.out⟩ (fun hHeld => ?_)
          simp only [Act.put, List.size_toArray, List.length_cons, List.length_nil, Nat.zero_add]
          refine wpAnyH_take (i := 0) (v := .pointer (some ⟨w5.heap.size, 1, none⟩)) rfl (by kernel_rfl) (by kernel_rfl) (by kernel_rfl) (fun _ _ _ h => h) (Or.inl ⟨by rfl, fun w' hS => by go_simp⟩) hHeld ?_
          simp only [Act.put, List.getElem_toArray, List.getElem_cons_zero, List.getElem_cons_succ, List.setIfInBounds_toArray, List.set_cons_zero, List.set_cons_succ]
          refine wpAnyH_take (i := 1) (v := .int .i64 A'.own.cid) rfl (by kernel_rfl) (by kernel_rfl) (by kernel_rfl) (fun _ _ _ h => h) (Or.inl ⟨by rfl, fun w' hS => by (obtain ⟨s0, s1, s2, s3, s4, s5⟩ := hS; go_simp)⟩) hHeld ?_
          simp only [Act.put, List.getElem_toArray, List.getElem_cons_zero, List.getElem_cons_succ, List.setIfInBounds_toArray, List.set_cons_zero, List.set_cons_succ]
          refine wpAnyH_take (i := 2) (v := .pointer (some ⟨w7.heap.size, 1, none⟩)) rfl (by kernel_rfl) (by kernel_rfl) (by kernel_rfl) (fun _ _ _ h => h) (Or.inl ⟨by rfl, fun w' hS => by go_simp⟩) hHeld ?_
          simp only [Act.put, List.getElem_toArray, List.getElem_cons_zero, List.getElem_cons_succ, List.setIfInBounds_toArray, List.set_cons_zero, List.set_cons_succ]
          refine wpAnyH_take (i := 3) (v := .int .i64 A.own.cid) rfl (by kernel_rfl) (by kernel_rfl) (by kernel_rfl) (fun _ _ _ h => h) (Or.inl ⟨by rfl, fun w' hS => by (obtain ⟨s0, s1, s2, s3, s4, s5⟩ := hS; go_simp)⟩) hHeld ?_
          simp only [Act.put, List.getElem_toArray, List.getElem_cons_zero, List.getElem_cons_succ, List.setIfInBounds_toArray, List.set_cons_zero, List.set_cons_succ]
          refine wpAnyH_take (i := 4) (v := .bool false) rfl (by kernel_rfl) (by kernel_rfl) (by kernel_rfl) (fun _ _ _ h => h) (Or.inl ⟨by rfl, fun w' hS => by (go_simp <;> first | omega | simp_all | (simp; omega))⟩) hHeld ?_
          simp only [Act.put, List.getElem_toArray, List.getElem_cons_zero, List.getElem_cons_succ, List.setIfInBounds_toArray, List.set_cons_zero, List.set_cons_succ]
          refine wpAnyH_take (i := 5) (v := .bool false) rfl (by kernel_rfl) (by kernel_rfl) (by kernel_rfl) (fun _ _ _ h => h) (Or.inl ⟨by rfl, fun w' hS => by go_simp⟩) hHeld ?_
          simp only [Act.put, List.getElem_toArray, List.getElem_cons_zero, List.getElem_cons_succ, List.setIfInBounds_toArray, List.set_cons_zero, List.set_cons_succ]
          refine wpAnyH_take (i := 6) (v := .pointer (some ⟨w5.heap.size, 2, none⟩)) rfl (by kernel_rfl) (by kernel_rfl) (by kernel_rfl) (fun _ _ _ h => h) (Or.inl ⟨by rfl, fun w' hS => by go_simp⟩) hHeld ?_
          simp only [Act.put, List.getElem_toArray, List.getElem_cons_zero, List.getElem_cons_succ, List.setIfInBounds_toArray, List.set_cons_zero, List.set_cons_succ]
          refine wpAnyH_take (i := 7) (v := .int .i64 A'.own.rev) rfl (by kernel_rfl) (by kernel_rfl) (by kernel_rfl) (fun _ _ _ h => h) (Or.inl ⟨by rfl, fun w' hS => by (obtain ⟨s0, s1, s2, s3, s4, s5⟩ := hS; go_simp)⟩) hHeld ?_
          simp only [Act.put, List.getElem_toArray, List.getElem_cons_zero, List.getElem_cons_succ, List.setIfInBounds_toArray, List.set_cons_zero, List.set_cons_succ]
          refine wpAnyH_take (i := 8) (v := .pointer (some ⟨w7.heap.size, 2, none⟩)) rfl (by kernel_rfl) (by kernel_rfl) (by kernel_rfl) (fun _ _ _ h => h) (Or.inl ⟨by rfl, fun w' hS => by go_simp⟩) hHeld ?_
          simp only [Act.put, List.getElem_toArray, List.getElem_cons_zero, List.getElem_cons_succ, List.setIfInBounds_toArray, List.set_cons_zero, List.set_cons_succ]
          refine wpAnyH_take (i := 9) (v := .int .i64 A.own.rev) rfl (by kernel_rfl) (by kernel_rfl) (by kernel_rfl) (fun _ _ _ h => h) (Or.inl ⟨by rfl, fun w' hS => by (obtain ⟨s0, s1, s2, s3, s4, s5⟩ := hS; go_simp)⟩) hHeld ?_
          simp only [Act.put, List.getElem_toArray, List.getElem_cons_zero, List.getElem_cons_succ, List.setIfInBounds_toArray, List.set_cons_zero, List.set_cons_succ]
          refine wpAnyH_take (i := 10) (v := .bool false) rfl (by kernel_rfl) (by kernel_rfl) (by kernel_rfl) (fun _ _ _ h => h) (Or.inl ⟨by rfl, fun w' hS => by (go_simp <;> first | omega | simp_all | (simp; omega))⟩) hHeld ?_
          simp only [Act.put, List.getElem_toArray, List.getElem_cons_zero, List.getElem_cons_succ, List.setIfInBounds_toArray, List.set_cons_zero, List.set_cons_succ]
          refine wpAnyH_take (i := 11) (v := .bool false) rfl (by kernel_rfl) (by kernel_rfl) (by kernel_rfl) (fun _ _ _ h => h) (Or.inl ⟨by rfl, fun w' hS => by go_simp⟩) hHeld ?_
          simp only [Act.put, List.getElem_toArray, List.getElem_cons_zero, List.getElem_cons_succ, List.setIfInBounds_toArray, List.set_cons_zero, List.set_cons_succ]
          refine wpAnyH_take (i := 12) (v := .bool false) rfl (by kernel_rfl) (by kernel_rfl) (by kernel_rfl) (fun _ _ _ h => h) (Or.inl ⟨by rfl, fun w' hS => by go_simp⟩) hHeld ?_
          simp only [Act.put, List.getElem_toArray, List.getElem_cons_zero, List.getElem_cons_succ, List.setIfInBounds_toArray, List.set_cons_zero, List.set_cons_succ]
          refine wpAnyH_take (i := 13) (v := .pointer (some ⟨w5.heap.size, 2, none⟩)) rfl (by kernel_rfl) (by kernel_rfl) (by kernel_rfl) (fun _ _ _ h => h) (Or.inl ⟨by rfl, fun w' hS => by go_simp⟩) hHeld ?_
          simp only [Act.put, List.getElem_toArray, List.getElem_cons_zero, List.getElem_cons_succ, List.setIfInBounds_toArray, List.set_cons_zero, List.set_cons_succ]
          refine wpAnyH_take (i := 14) (v := .int .i64 A'.own.rev) rfl (by kernel_rfl) (by kernel_rfl) (by kernel_rfl) (fun _ _ _ h => h) (Or.inl ⟨by rfl, fun w' hS => by (obtain ⟨s0, s1, s2, s3, s4, s5⟩ := hS; go_simp)⟩) hHeld ?_
          simp only [Act.put, List.getElem_toArray, List.getElem_cons_zero, List.getElem_cons_succ, List.setIfInBounds_toArray, List.set_cons_zero, List.set_cons_succ]
          refine wpAnyH_take (i := 15) (v := .pointer (some ⟨w7.heap.size, 2, none⟩)) rfl (by kernel_rfl) (by kernel_rfl) (by kernel_rfl) (fun _ _ _ h => h) (Or.inl ⟨by rfl, fun w' hS => by go_simp⟩) hHeld ?_
          simp only [Act.put, List.getElem_toArray, List.getElem_cons_zero, List.getElem_cons_succ, List.setIfInBounds_toArray, List.set_cons_zero, List.set_cons_succ]
          refine wpAnyH_take (i := 16) (v := .int .i64 A.own.rev) rfl (by kernel_rfl) (by kernel_rfl) (by kernel_rfl) (fun _ _ _ h => h) (Or.inl ⟨by rfl, fun w' hS => by (obtain ⟨s0, s1, s2, s3, s4, s5⟩ := hS; go_simp)⟩) hHeld ?_
          simp only [Act.put, List.getElem_toArray, List.getElem_cons_zero, List.getElem_cons_succ, List.setIfInBounds_toArray, List.set_cons_zero, List.set_cons_succ]
          refine wpAnyH_take (i := 17) (v := .int .i64 (A.own.rev + 1)) rfl (by kernel_rfl) (by kernel_rfl) (by kernel_rfl) (fun _ _ _ h => h) (Or.inl ⟨by rfl, fun w' hS => by (go_simp <;> first | omega | (rw [wrap_id (by omega) (by omega)]))⟩) hHeld ?_
          simp only [Act.put, List.getElem_toArray, List.getElem_cons_zero, List.getElem_cons_succ, List.setIfInBounds_toArray, List.set_cons_zero, List.set_cons_succ]
          refine wpAnyH_take (i := 18) (v := .bool false) rfl (by kernel_rfl) (by kernel_rfl) (by kernel_rfl) (fun _ _ _ h => h) (Or.inl ⟨by rfl, fun w' hS => by (go_simp <;> first | omega | simp_all | (simp; omega))⟩) hHeld ?_
          simp only [Act.put, List.getElem_toArray, List.getElem_cons_zero, List.getElem_cons_succ, List.setIfInBounds_toArray, List.set_cons_zero, List.set_cons_succ]
          refine wpAnyH_take (i := 19) (v := .bool false) rfl (by kernel_rfl) (by kernel_rfl) (by kernel_rfl) (fun _ _ _ h => h) (Or.inl ⟨by rfl, fun w' hS => by go_simp⟩) hHeld ?_
          simp only [Act.put, List.getElem_toArray, List.getElem_cons_zero, List.getElem_cons_succ, List.setIfInBounds_toArray, List.set_cons_zero, List.set_cons_succ]
          refine wpAnyH_take (i := 20) (v := .bool false) rfl (by kernel_rfl) (by kernel_rfl) (by kernel_rfl) (fun _ _ _ h => h) (Or.inl ⟨by rfl, fun w' hS => by go_simp⟩) hHeld ?_
          simp only [Act.put, List.getElem_toArray, List.getElem_cons_zero, List.getElem_cons_succ, List.setIfInBounds_toArray, List.set_cons_zero, List.set_cons_succ]
          refine wpAnyH_take (i := 21) (v := .pointer (some ⟨w5.heap.size, 2, none⟩)) rfl (by kernel_rfl) (by kernel_rfl) (by kernel_rfl) (fun _ _ _ h => h) (Or.inl ⟨by rfl, fun w' hS => by go_simp⟩) hHeld ?_
          simp only [Act.put, List.getElem_toArray, List.getElem_cons_zero, List.getElem_cons_succ, List.setIfInBounds_toArray, List.set_cons_zero, List.set_cons_succ]
          refine wpAnyH_take (i := 22) (v := .int .i64 A'.own.rev) rfl (by kernel_rfl) (by kernel_rfl) (by kernel_rfl) (fun _ _ _ h => h) (Or.inl ⟨by rfl, fun w' hS => by (obtain ⟨s0, s1, s2, s3, s4, s5⟩ := hS; go_simp)⟩) hHeld ?_
          simp only [Act.put, List.getElem_toArray, List.getElem_cons_zero, List.getElem_cons_succ, List.setIfInBounds_toArray, List.set_cons_zero, List.set_cons_succ]
          refine wpAnyH_take (i := 23) (v := .pointer (some ⟨w7.heap.size, 2, none⟩)) rfl (by kernel_rfl) (by kernel_rfl) (by kernel_rfl) (fun _ _ _ h => h) (Or.inl ⟨by rfl, fun w' hS => by go_simp⟩) hHeld ?_
          simp only [Act.put, List.getElem_toArray, List.getElem_cons_zero, List.getElem_cons_succ, List.setIfInBounds_toArray, List.set_cons_zero, List.set_cons_succ]
          refine wpAnyH_take (i := 24) (v := .int .i64 A.own.rev) rfl (by kernel_rfl) (by kernel_rfl) (by kernel_rfl) (fun _ _ _ h => h) (Or.inl ⟨by rfl, fun w' hS => by (obtain ⟨s0, s1, s2, s3, s4, s5⟩ := hS; go_simp)⟩) hHeld ?_
          simp only [Act.put, List.getElem_toArray, List.getElem_cons_zero, List.getElem_cons_succ, List.setIfInBounds_toArray, List.set_cons_zero, List.set_cons_succ]
          refine wpAnyH_take (i := 25) (v := .bool bb) rfl (by kernel_rfl) (by kernel_rfl) (by kernel_rfl) (fun _ _ _ h => h) (Or.inl ⟨by rfl, fun w' hS => by (go_simp <;> first | exact Hq4.out | simpa using Hq4.out)⟩) hHeld ?_
          simp only [Act.put, List.getElem_toArray, List.getElem_cons_zero, List.getElem_cons_succ, List.setIfInBounds_toArray, List.set_cons_zero, List.set_cons_succ]
          refine wpAnyH_take (i := 26) (v := .agg ([.slice (some ⟨g1, 0, none⟩) n n, .int .i64 A.own.cid, .int .i64 A.own.rev, .int .i64 A.own.top, .int .i64 (A.own.prev[0]?.getD 0), .int .i64 (A.own.prev[1]?.getD 0), .int .i64 (A.own.prev[2]?.getD 0), .int .i64 (A.own.prev[3]?.getD 0), .slice (some ⟨g2, 0, none⟩) n n]).toArray) rfl (by kernel_rfl) (by kernel_rfl) (by kernel_rfl) (fun _ _ _ h => h) (yieldsIf_load_mid (by rfl) 41 (.tmp 8) rfl w7.heap.size (0) (by rfl) ([.slice (some ⟨g1, 0, none⟩) n n, .int .i64 A.own.cid, .int .i64 A.own.rev, .int .i64 A.own.top, .int .i64 (A.own.prev[0]?.getD 0), .int .i64 (A.own.prev[1]?.getD 0), .int .i64 (A.own.prev[2]?.getD 0), .int .i64 (A.own.prev[3]?.getD 0), .slice (some ⟨g2, 0, none⟩) n n]) _ (fun w' hS => hS.2.2.2.2.1) Try.underlying41 rfl info_propose) hHeld ?_
          simp only [Act.put, List.getElem_toArray, List.getElem_cons_zero, List.getElem_cons_succ, List.setIfInBounds_toArray, List.set_cons_zero, List.set_cons_succ]
          refine wpAnyH_take (i := 27) (v := .agg ([.slice (some ⟨g3, 0, none⟩) n n, .int .i64 A'.own.cid, .int .i64 A.own.rev, .int .i64 A'.own.top, .int .i64 (A'.own.prev[0]?.getD 0), .int .i64 (A'.own.prev[1]?.getD 0), .int .i64 (A'.own.prev[2]?.getD 0), .int .i64 (A'.own.prev[3]?.getD 0), .slice (some ⟨g4, 0, none⟩) n n]).toArray) rfl (by kernel_rfl) (by kernel_rfl) (by kernel_rfl) (fun _ _ _ h => h) (yieldsIf_load_mid (by rfl) 41 (.tmp 16) rfl X15.heap.size (0) (by rfl) ([.slice (some ⟨g3, 0, none⟩) n n, .int .i64 A'.own.cid, .int .i64 A.own.rev, .int .i64 A'.own.top, .int .i64 (A'.own.prev[0]?.getD 0), .int .i64 (A'.own.prev[1]?.getD 0), .int .i64 (A'.own.prev[2]?.getD 0), .int .i64 (A'.own.prev[3]?.getD 0), .slice (some ⟨g4, 0, none⟩) n n]) _ (fun w' hS => hS.2.2.2.2.2) Try.underlying41 rfl info_propose) hHeld ?_
          simp only [Act.put, List.getElem_toArray, List.getElem_cons_zero, List.getElem_cons_succ, List.setIfInBounds_toArray, List.set_cons_zero, List.set_cons_succ]
          refine wpAnyH_ready (rs := [28]) (by kernel_rfl) (by simp) ?_
          refine AllReadyH.cons rfl (fun K hK => ?_) AllReadyH.nil
          go_simp
          refine (HPr.out).mono ?_
          rintro e w6 ⟨rfl, hb6⟩
          have HB6 : Hid (Below X17.heap.size X17 w6) := bstep (Below.refl _ _).drew hb6
          refine hK.out _ _ ⟨below_at hb6 d0, below_at hb6 d1, below_at hb6 d2, below_at hb6 d3, rng_below D4.out hb6, rng_below D5.out hb6⟩ (fun hHeld => ?_)
          clear hK K
          refine wpAnyH_take (i := 29) (v := .bool false) rfl (by kernel_rfl) (by kernel_rfl) (by kernel_rfl) (fun _ _ _ h => h) (Or.inl ⟨by rfl, fun w' hS => by (go_simp <;> simp)⟩) hHeld ?_
          simp only [Act.put, List.getElem_toArray, List.getElem_cons_zero, List.getElem_cons_succ, List.setIfInBounds_toArray, List.set_cons_zero, List.set_cons_succ]
          refine wpAnyH_take (i := 30) (v := .bool false) rfl (by kernel_rfl) (by kernel_rfl) (by kernel_rfl) (fun _ _ _ h => h) (Or.inl ⟨by rfl, fun w' hS => by go_simp⟩) hHeld ?_
          simp only [Act.put, List.getElem_toArray, List.getElem_cons_zero, List.getElem_cons_succ, List.setIfInBounds_toArray, List.set_cons_zero, List.set_cons_succ]
          refine wpAnyH_done (by kernel_rfl) ?_ _
          clear hHeld
          clear d0 d1 d2 d3 D4 D5 HPr
          have HT6 : Hid (Tst w6 b n s inc w.heap.size w3.heap.size w7.heap.size #[.int .i64 (n : Int), .int .i64 (s : Int), .int .i64 inc, .int .i64 fl, .slice oa on oc] A A' g1 g2 gw cw j0 j1 j2 j3) := HT17.out.still HB6.out
          have hk6 : w6.heap[w5.heap.size]? = some (.cells [.slice (some ⟨g3, 0, none⟩) n n, .int .i64 A'.own.cid, .int .i64 A'.own.rev, .int .i64 A'.own.top, .int .i64 (A'.own.prev[0]?.getD 0), .int .i64 (A'.own.prev[1]?.getD 0), .int .i64 (A'.own.prev[2]?.getD 0), .int .i64 (A'.own.prev[3]?.getD 0), .slice (some ⟨g4, 0, none⟩) n n].toArray 41 (0, 0)) := (HB6.out.block _ (lt_heap Hk15.out)).trans Hk15.out
          have Hr36 : Hid (Rw w6 g3 3 (A'.own.set.take n)) := Hr3.out.still HB6.out
          have Hr46 : Hid (Rw w6 g4 3 (A'.own.vec.take n)) := Hr4.out.still HB6.out
          have hsn := H16.out
          have a0 : w6.drew.cell? ⟨w5.heap.size, 0, none⟩ = some (.slice (some ⟨g3, 0, none⟩) n n) := blk_cell (show w6.drew.heap[w5.heap.size]? = _ from hk6) 0
          have a1 : w6.drew.cell? ⟨w5.heap.size, 8, none⟩ = some (.slice (some ⟨g4, 0, none⟩) n n) := blk_cell (show w6.drew.heap[w5.heap.size]? = _ from hk6) 8
          have a2 : w6.drew.cell? ⟨w5.heap.size, 1, none⟩ = some (.int .i64 A'.own.cid) := blk_cell (show w6.drew.heap[w5.heap.size]? = _ from hk6) 1
          have a3 : w6.drew.cell? ⟨w.heap.size, 0, none⟩ = some (.int .i64 (n : Int)) := blk_cell (show w6.drew.heap[w.heap.size]? = _ from HT6.out.m1) 0
          have a4 : w6.drew.cell? ⟨w.heap.size, 1, none⟩ = some (.int .i64 (s : Int)) := blk_cell (show w6.drew.heap[w.heap.size]? = _ from HT6.out.m1) 1
          have a5 : w6.drew.cell? ⟨w.heap.size, 2, none⟩ = some (.int .i64 inc) := blk_cell (show w6.drew.heap[w.heap.size]? = _ from HT6.out.m1) 2
          have a6 : w6.drew.cell? ⟨g3, s, none⟩ = some (.int .i64 inc) := by
            have h := Hr36.out.cell (i := s) (by rw [List.length_take, HT6.out.gd.iv.ol.ls]; omega)
            have e : (A'.own.set.take n).getD s 0 = inc := by
              have h2 := HT6.out.gd.iv.set
              rw [HT6.out.gd.self] at h2
              simpa [List.getD, List.getElem?_take, hsn.2.2] using h2
            rw [e] at h
            exact below_at (Below.refl _ _).drew h
          have a7 : w6.drew.cell? ⟨g4, s, none⟩ = some (.int .i64 A'.own.cid) := by
            have h := Hr46.out.cell (i := s) (by rw [List.length_take, HT6.out.gd.iv.ol.lv]; omega)
            have e : (A'.own.vec.take n).getD s 0 = A'.own.cid := by
              have h2 := HT6.out.gd.iv.vec
              rw [HT6.out.gd.self] at h2
              simpa [List.getD, List.getElem?_take, hsn.2.2] using h2
            rw [e] at h
            exact below_at (Below.refl _ _).drew h
          have Hk6 : Hid (w6.heap[w5.heap.size]? = some (.cells [.slice (some ⟨g3, 0, none⟩) n n, .int .i64 A'.own.cid, .int .i64 A'.own.rev, .int .i64 A'.own.top, .int .i64 (A'.own.prev[0]?.getD 0), .int .i64 (A'.own.prev[1]?.getD 0), .int .i64 (A'.own.prev[2]?.getD 0), .int .i64 (A'.own.prev[3]?.getD 0), .slice (some ⟨g4, 0, none⟩) n n].toArray 41 (0, 0))) := hk6
          have Hl6 : Hid (Below w.heap.size w w6) := bstep HlX17.out HB6.out
          have jj1 : (0 : Int) ≤ (s : Int) := Int.natCast_nonneg _
          have jj2 : (s : Int) < (n : Int) := by omega
          clear hk6 hsn
          go_wp2
          refine wp_region_held_drew (S := (fun w' => w'.cell? ⟨w5.heap.size, 0, none⟩ = some (.slice (some ⟨g3, 0, none⟩) n n) ∧ w'.cell? ⟨w5.heap.size, 8, none⟩ = some (.slice (some ⟨g4, 0, none⟩) n n) ∧ w'.cell? ⟨w5.heap.size, 1, none⟩ = some (.int .i64 A'.own.cid) ∧ w'.cell? ⟨w.heap.size, 0, none⟩ = some (.int .i64 (n : Int)) ∧ w'.cell? ⟨w.heap.size, 1, none⟩ = some (.int .i64 (s : Int)) ∧ w'.cell? ⟨w.heap.size, 2, none⟩ = some (.int .i64 inc) ∧ w'.cell? ⟨g3, s, none⟩ = some (.int .i64 inc) ∧ w'.cell? ⟨g4, s, none⟩ = some (.int .i64 A'.own.cid))) (by kernel_rfl) ⟨a0, a1, a2, a3, a4, a5, a6, a7⟩ (fun hHeld => ?_)
          simp only [Act.put, List.size_toArray, List.length_cons, List.length_nil, Nat.zero_add]
          refine wpAnyH_take (i := 0) (v := .pointer (some ⟨w5.heap.size, 0, none⟩)) rfl (by kernel_rfl) (by kernel_rfl) (by kernel_rfl) (fun _ _ _ h => h) (Or.inl ⟨by rfl, fun w' hS => by go_simp⟩) hHeld ?_
          simp only [Act.put, List.getElem_toArray, List.getElem_cons_zero, List.getElem_cons_succ, List.setIfInBounds_toArray, List.set_cons_zero, List.set_cons_succ]
          refine wpAnyH_take (i := 1) (v := .slice (some ⟨g3, 0, none⟩) n n) rfl (by kernel_rfl) (by kernel_rfl) (by kernel_rfl) (fun _ _ _ h => h) (Or.inl ⟨by rfl, fun w' hS => by (obtain ⟨s0, s1, s2, s3, s4, s5, s6, s7⟩ := hS; go_simp)⟩) hHeld ?_
          simp only [Act.put, List.getElem_toArray, List.getElem_cons_zero, List.getElem_cons_succ, List.setIfInBounds_toArray, List.set_cons_zero, List.set_cons_succ]
          refine wpAnyH_take (i := 2) (v := .int .i64 (n : Int)) rfl (by kernel_rfl) (by kernel_rfl) (by kernel_rfl) (fun _ _ _ h => h) (Or.inl ⟨by rfl, fun w' hS => by go_simp⟩) hHeld ?_
          simp only [Act.put, List.getElem_toArray, List.getElem_cons_zero, List.getElem_cons_succ, List.setIfInBounds_toArray, List.set_cons_zero, List.set_cons_succ]
          refine wpAnyH_take (i := 3) (v := .pointer (some ⟨w.heap.size, 0, none⟩)) rfl (by kernel_rfl) (by kernel_rfl) (by kernel_rfl) (fun _ _ _ h => h) (Or.inl ⟨by rfl, fun w' hS => by go_simp⟩) hHeld ?_
          simp only [Act.put, List.getElem_toArray, List.getElem_cons_zero, List.getElem_cons_succ, List.setIfInBounds_toArray, List.set_cons_zero, List.set_cons_succ]
          refine wpAnyH_take (i := 4) (v := .int .i64 (n : Int)) rfl (by kernel_rfl) (by kernel_rfl) (by kernel_rfl) (fun _ _ _ h => h) (Or.inl ⟨by rfl, fun w' hS => by (obtain ⟨s0, s1, s2, s3, s4, s5, s6, s7⟩ := hS; go_simp)⟩) hHeld ?_
          simp only [Act.put, List.getElem_toArray, List.getElem_cons_zero, List.getElem_cons_succ, List.setIfInBounds_toArray, List.set_cons_zero, List.set_cons_succ]
          refine wpAnyH_take (i := 5) (v := .bool false) rfl (by kernel_rfl) (by kernel_rfl) (by kernel_rfl) (fun _ _ _ h => h) (Or.inl ⟨by rfl, fun w' hS => by go_simp⟩) hHeld ?_
          simp only [Act.put, List.getElem_toArray, List.getElem_cons_zero, List.getElem_cons_succ, List.setIfInBounds_toArray, List.set_cons_zero, List.set_cons_succ]
          refine wpAnyH_take (i := 6) (v := .bool false) rfl (by kernel_rfl) (by kernel_rfl) (by kernel_rfl) (fun _ _ _ h => h) (Or.inl ⟨by rfl, fun w' hS => by go_simp⟩) hHeld ?_
          simp only [Act.put, List.getElem_toArray, List.getElem_cons_zero, List.getElem_cons_succ, List.setIfInBounds_toArray, List.set_cons_zero, List.set_cons_succ]
          refine wpAnyH_take (i := 7) (v := .pointer (some ⟨w5.heap.size, 8, none⟩)) rfl (by kernel_rfl) (by kernel_rfl) (by kernel_rfl) (fun _ _ _ h => h) (Or.inl ⟨by rfl, fun w' hS => by go_simp⟩) hHeld ?_
          simp only [Act.put, List.getElem_toArray, List.getElem_cons_zero, List.getElem_cons_succ, List.setIfInBounds_toArray, List.set_cons_zero, List.set_cons_succ]
          refine wpAnyH_take (i := 8) (v := .slice (some ⟨g4, 0, none⟩) n n) rfl (by kernel_rfl) (by kernel_rfl) (by kernel_rfl) (fun _ _ _ h => h) (Or.inl ⟨by rfl, fun w' hS => by (obtain ⟨s0, s1, s2, s3, s4, s5, s6, s7⟩ := hS; go_simp)⟩) hHeld ?_
          simp only [Act.put, List.getElem_toArray, List.getElem_cons_zero, List.getElem_cons_succ, List.setIfInBounds_toArray, List.set_cons_zero, List.set_cons_succ]
          refine wpAnyH_take (i := 9) (v := .int .i64 (n : Int)) rfl (by kernel_rfl) (by kernel_rfl) (by kernel_rfl) (fun _ _ _ h => h) (Or.inl ⟨by rfl, fun w' hS => by go_simp⟩) hHeld ?_
          simp only [Act.put, List.getElem_toArray, List.getElem_cons_zero, List.getElem_cons_succ, List.setIfInBounds_toArray, List.set_cons_zero, List.set_cons_succ]
          refine wpAnyH_take (i := 10) (v := .pointer (some ⟨w.heap.size, 0, none⟩)) rfl (by kernel_rfl) (by kernel_rfl) (by kernel_rfl) (fun _ _ _ h => h) (Or.inl ⟨by rfl, fun w' hS => by go_simp⟩) hHeld ?_
          simp only [Act.put, List.getElem_toArray, List.getElem_cons_zero, List.getElem_cons_succ, List.setIfInBounds_toArray, List.set_cons_zero, List.set_cons_succ]
          refine wpAnyH_take (i := 11) (v := .int .i64 (n : Int)) rfl (by kernel_rfl) (by kernel_rfl) (by kernel_rfl) (fun _ _ _ h => h) (Or.inl ⟨by rfl, fun w' hS => by (obtain ⟨s0, s1, s2, s3, s4, s5, s6, s7⟩ := hS; go_simp)⟩) hHeld ?_
          simp only [Act.put, List.getElem_toArray, List.getElem_cons_zero, List.getElem_cons_succ, List.setIfInBounds_toArray, List.set_cons_zero, List.set_cons_succ]
          refine wpAnyH_take (i := 12) (v := .bool false) rfl (by kernel_rfl) (by kernel_rfl) (by kernel_rfl) (fun _ _ _ h => h) (Or.inl ⟨by rfl, fun w' hS => by go_simp⟩) hHeld ?_
          simp only [Act.put, List.getElem_toArray, List.getElem_cons_zero, List.getElem_cons_succ, List.setIfInBounds_toArray, List.set_cons_zero, List.set_cons_succ]
          refine wpAnyH_take (i := 13) (v := .bool false) rfl (by kernel_rfl) (by kernel_rfl) (by kernel_rfl) (fun _ _ _ h => h) (Or.inl ⟨by rfl, fun w' hS => by go_simp⟩) hHeld ?_
          simp only [Act.put, List.getElem_toArray, List.getElem_cons_zero, List.getElem_cons_succ, List.setIfInBounds_toArray, List.set_cons_zero, List.set_cons_succ]
          refine wpAnyH_take (i := 14) (v := .bool false) rfl (by kernel_rfl) (by kernel_rfl) (by kernel_rfl) (fun _ _ _ h => h) (Or.inl ⟨by rfl, fun w' hS => by go_simp⟩) hHeld ?_
          simp only [Act.put, List.getElem_toArray, List.getElem_cons_zero, List.getElem_cons_succ, List.setIfInBounds_toArray, List.set_cons_zero, List.set_cons_succ]
          refine wpAnyH_take (i := 15) (v := .pointer (some ⟨w5.heap.size, 0, none⟩)) rfl (by kernel_rfl) (by kernel_rfl) (by kernel_rfl) (fun _ _ _ h => h) (Or.inl ⟨by rfl, fun w' hS => by go_simp⟩) hHeld ?_
          simp only [Act.put, List.getElem_toArray, List.getElem_cons_zero, List.getElem_cons_succ, List.setIfInBounds_toArray, List.set_cons_zero, List.set_cons_succ]
          refine wpAnyH_take (i := 16) (v := .slice (some ⟨g3, 0, none⟩) n n) rfl (by kernel_rfl) (by kernel_rfl) (by kernel_rfl) (fun _ _ _ h => h) (Or.inl ⟨by rfl, fun w' hS => by (obtain ⟨s0, s1, s2, s3, s4, s5, s6, s7⟩ := hS; go_simp)⟩) hHeld ?_
          simp only [Act.put, List.getElem_toArray, List.getElem_cons_zero, List.getElem_cons_succ, List.setIfInBounds_toArray, List.set_cons_zero, List.set_cons_succ]
          refine wpAnyH_take (i := 17) (v := .pointer (some ⟨w.heap.size, 1, none⟩)) rfl (by kernel_rfl) (by kernel_rfl) (by kernel_rfl) (fun _ _ _ h => h) (Or.inl ⟨by rfl, fun w' hS => by go_simp⟩) hHeld ?_
          simp only [Act.put, List.getElem_toArray, List.getElem_cons_zero, List.getElem_cons_succ, List.setIfInBounds_toArray, List.set_cons_zero, List.set_cons_succ]
          refine wpAnyH_take (i := 18) (v := .int .i64 (s : Int)) rfl (by kernel_rfl) (by kernel_rfl) (by kernel_rfl) (fun _ _ _ h => h) (Or.inl ⟨by rfl, fun w' hS => by (obtain ⟨s0, s1, s2, s3, s4, s5, s6, s7⟩ := hS; go_simp)⟩) hHeld ?_
          simp only [Act.put, List.getElem_toArray, List.getElem_cons_zero, List.getElem_cons_succ, List.setIfInBounds_toArray, List.set_cons_zero, List.set_cons_succ]
          refine wpAnyH_take (i := 19) (v := .pointer (some ⟨g3, s, none⟩)) rfl (by kernel_rfl) (by kernel_rfl) (by kernel_rfl) (fun _ _ _ h => h) (Or.inl ⟨by rfl, fun w' hS => by (go_simp <;> first | omega | simp_all | (simp; omega))⟩) hHeld ?_
          simp only [Act.put, List.getElem_toArray, List.getElem_cons_zero, List.getElem_cons_succ, List.setIfInBounds_toArray, List.set_cons_zero, List.set_cons_succ]
          refine wpAnyH_take (i := 20) (v := .int .i64 inc) rfl (by kernel_rfl) (by kernel_rfl) (by kernel_rfl) (fun _ _ _ h => h) (Or.inl ⟨by rfl, fun w' hS => by (obtain ⟨s0, s1, s2, s3, s4, s5, s6, s7⟩ := hS; go_simp)⟩) hHeld ?_
          simp only [Act.put, List.getElem_toArray, List.getElem_cons_zero, List.getElem_cons_succ, List.setIfInBounds_toArray, List.set_cons_zero, List.set_cons_succ]
          refine wpAnyH_take (i := 21) (v := .pointer (some ⟨w.heap.size, 2, none⟩)) rfl (by kernel_rfl) (by kernel_rfl) (by kernel_rfl) (fun _ _ _ h => h) (Or.inl ⟨by rfl, fun w' hS => by go_simp⟩) hHeld ?_
          simp only [Act.put, List.getElem_toArray, List.getElem_cons_zero, List.getElem_cons_succ, List.setIfInBounds_toArray, List.set_cons_zero, List.set_cons_succ]
          refine wpAnyH_take (i := 22) (v := .int .i64 inc) rfl (by kernel_rfl) (by kernel_rfl) (by kernel_rfl) (fun _ _ _ h => h) (Or.inl ⟨by rfl, fun w' hS => by (obtain ⟨s0, s1, s2, s3, s4, s5, s6, s7⟩ := hS; go_simp)⟩) hHeld ?_
          simp only [Act.put, List.getElem_toArray, List.getElem_cons_zero, List.getElem_cons_succ, List.setIfInBounds_toArray, List.set_cons_zero, List.set_cons_succ]
          refine wpAnyH_take (i := 23) (v := .bool false) rfl (by kernel_rfl) (by kernel_rfl) (by kernel_rfl) (fun _ _ _ h => h) (Or.inl ⟨by rfl, fun w' hS => by go_simp⟩) hHeld ?_
          simp only [Act.put, List.getElem_toArray, List.getElem_cons_zero, List.getElem_cons_succ, List.setIfInBounds_toArray, List.set_cons_zero, List.set_cons_succ]
          refine wpAnyH_take (i := 24) (v := .bool false) rfl (by kernel_rfl) (by kernel_rfl) (by kernel_rfl) (fun _ _ _ h => h) (Or.inl ⟨by rfl, fun w' hS => by go_simp⟩) hHeld ?_
          simp only [Act.put, List.getElem_toArray, List.getElem_cons_zero, List.getElem_cons_succ, List.setIfInBounds_toArray, List.set_cons_zero, List.set_cons_succ]
          refine wpAnyH_take (i := 25) (v := .bool false) rfl (by kernel_rfl) (by kernel_rfl) (by kernel_rfl) (fun _ _ _ h => h) (Or.inl ⟨by rfl, fun w' hS => by go_simp⟩) hHeld ?_
          simp only [Act.put, List.getElem_toArray, List.getElem_cons_zero, List.getElem_cons_succ, List.setIfInBounds_toArray, List.set_cons_zero, List.set_cons_succ]
          refine wpAnyH_take (i := 26) (v := .pointer (some ⟨w5.heap.size, 8, none⟩)) rfl (by kernel_rfl) (by kernel_rfl) (by kernel_rfl) (fun _ _ _ h => h) (Or.inl ⟨by rfl, fun w' hS => by go_simp⟩) hHeld ?_
          simp only [Act.put, List.getElem_toArray, List.getElem_cons_zero, List.getElem_cons_succ, List.setIfInBounds_toArray, List.set_cons_zero, List.set_cons_succ]
          refine wpAnyH_take (i := 27) (v := .slice (some ⟨g4, 0, none⟩) n n) rfl (by kernel_rfl) (by kernel_rfl) (by kernel_rfl) (fun _ _ _ h => h) (Or.inl ⟨by rfl, fun w' hS => by (obtain ⟨s0, s1, s2, s3, s4, s5, s6, s7⟩ := hS; go_simp)⟩) hHeld ?_
          simp only [Act.put, List.getElem_toArray, List.getElem_cons_zero, List.getElem_cons_succ, List.setIfInBounds_toArray, List.set_cons_zero, List.set_cons_succ]
          refine wpAnyH_take (i := 28) (v := .pointer (some ⟨w.heap.size, 1, none⟩)) rfl (by kernel_rfl) (by kernel_rfl) (by kernel_rfl) (fun _ _ _ h => h) (Or.inl ⟨by rfl, fun w' hS => by go_simp⟩) hHeld ?_
          simp only [Act.put, List.getElem_toArray, List.getElem_cons_zero, List.getElem_cons_succ, List.setIfInBounds_toArray, List.set_cons_zero, List.set_cons_succ]
          refine wpAnyH_take (i := 29) (v := .int .i64 (s : Int)) rfl (by kernel_rfl) (by kernel_rfl) (by kernel_rfl) (fun _ _ _ h => h) (Or.inl ⟨by rfl, fun w' hS => by (obtain ⟨s0, s1, s2, s3, s4, s5, s6, s7⟩ := hS; go_simp)⟩) hHeld ?_
          simp only [Act.put, List.getElem_toArray, List.getElem_cons_zero, List.getElem_cons_succ, List.setIfInBounds_toArray, List.set_cons_zero, List.set_cons_succ]
          refine wpAnyH_take (i := 30) (v := .pointer (some ⟨g4, s, none⟩)) rfl (by kernel_rfl) (by kernel_rfl) (by kernel_rfl) (fun _ _ _ h => h) (Or.inl ⟨by rfl, fun w' hS => by (go_simp <;> first | omega | simp_all | (simp; omega))⟩) hHeld ?_
          simp only [Act.put, List.getElem_toArray, List.getElem_cons_zero, List.getElem_cons_succ, List.setIfInBounds_toArray, List.set_cons_zero, List.set_cons_succ]
          refine wpAnyH_take (i := 31) (v := .int .i64 A'.own.cid) rfl (by kernel_rfl) (by kernel_rfl) (by kernel_rfl) (fun _ _ _ h => h) (Or.inl ⟨by rfl, fun w' hS => by (obtain ⟨s0, s1, s2, s3, s4, s5, s6, s7⟩ := hS; go_simp)⟩) hHeld ?_
          simp only [Act.put, List.getElem_toArray, List.getElem_cons_zero, List.getElem_cons_succ, List.setIfInBounds_toArray, List.set_cons_zero, List.set_cons_succ]
          refine wpAnyH_take (i := 32) (v := .pointer (some ⟨w5.heap.size, 1, none⟩)) rfl (by kernel_rfl) (by kernel_rfl) (by kernel_rfl) (fun _ _ _ h => h) (Or.inl ⟨by rfl, fun w' hS => by go_simp⟩) hHeld ?_
          simp only [Act.put, List.getElem_toArray, List.getElem_cons_zero, List.getElem_cons_succ, List.setIfInBounds_toArray, List.set_cons_zero, List.set_cons_succ]
          refine wpAnyH_take (i := 33) (v := .int .i64 A'.own.cid) rfl (by kernel_rfl) (by kernel_rfl) (by kernel_rfl) (fun _ _ _ h => h) (Or.inl ⟨by rfl, fun w' hS => by (obtain ⟨s0, s1, s2, s3, s4, s5, s6, s7⟩ := hS; go_simp)⟩) hHeld ?_
          simp only [Act.put, List.getElem_toArray, List.getElem_cons_zero, List.getElem_cons_succ, List.setIfInBounds_toArray, List.set_cons_zero, List.set_cons_succ]
          refine wpAnyH_take (i := 34) (v := .bool false) rfl (by kernel_rfl) (by kernel_rfl) (by kernel_rfl) (fun _ _ _ h => h) (Or.inl ⟨by rfl, fun w' hS => by go_simp⟩) hHeld ?_
          simp only [Act.put, List.getElem_toArray, List.getElem_cons_zero, List.getElem_cons_succ, List.setIfInBounds_toArray, List.set_cons_zero, List.set_cons_succ]
          refine wpAnyH_take (i := 35) (v := .bool false) rfl (by kernel_rfl) (by kernel_rfl) (by kernel_rfl) (fun _ _ _ h => h) (Or.inl ⟨by rfl, fun w' hS => by go_simp⟩) hHeld ?_
          simp only [Act.put, List.getElem_toArray, List.getElem_cons_zero, List.getElem_cons_succ, List.setIfInBounds_toArray, List.set_cons_zero, List.set_cons_succ]
          refine wpAnyH_done (by kernel_rfl) ?_ _
          clear hHeld
          clear a0 a1 a2 a3 a4 a5 a6 a7
          have R6 : Hid (w6.drew.rangeAt w5.heap.size 0 [.slice (some ⟨g3, 0, none⟩) n n, .int .i64 A'.own.cid, .int .i64 A'.own.rev, .int .i64 A'.own.top, .int .i64 (A'.own.prev[0]?.getD 0), .int .i64 (A'.own.prev[1]?.getD 0), .int .i64 (A'.own.prev[2]?.getD 0), .int .i64 (A'.own.prev[3]?.getD 0), .slice (some ⟨g4, 0, none⟩) n n]) := rng_below (blk_range Hk6.out) (Below.refl _ _).drew
          have Th : Hid (w6.drew.there w7.heap.size 0 9) := blk_there (show w6.drew.heap[w7.heap.size]? = _ from HT6.out.m8) rfl
          have HTd : Hid (Tst w6.drew b n s inc w.heap.size w3.heap.size w7.heap.size #[.int .i64 (n : Int), .int .i64 (s : Int), .int .i64 inc, .int .i64 fl, .slice oa on oc] A A' g1 g2 gw cw j0 j1 j2 j3) := HT6.out.still (Below.refl _ _).drew
          have HF : Hid (∃ (k_1 : Nat) (Ax : Ag) (x1 x2 x3 x4 : Nat) (xx0 xx1 xx2 xx3 : Int), k_1 ≤ on ∧ Value.int .i64 ((k : Int) + 1) = .int .i64 (k_1 : Int) ∧ Tst (w6.drew.setCells w7.heap.size 0 [.slice (some ⟨g3, 0, none⟩) n n, .int .i64 A'.own.cid, .int .i64 A'.own.rev, .int .i64 A'.own.top, .int .i64 (A'.own.prev[0]?.getD 0), .int .i64 (A'.own.prev[1]?.getD 0), .int .i64 (A'.own.prev[2]?.getD 0), .int .i64 (A'.own.prev[3]?.getD 0), .slice (some ⟨g4, 0, none⟩) n n]) b n s inc w.heap.size w3.heap.size w7.heap.size #[.int .i64 (n : Int), .int .i64 (s : Int), .int .i64 inc, .int .i64 fl, .slice oa on oc] Ax Ax x1 x2 x3 x4 xx0 xx1 xx2 xx3 ∧ Below w.heap.size w (w6.drew.setCells w7.heap.size 0 [.slice (some ⟨g3, 0, none⟩) n n, .int .i64 A'.own.cid, .int .i64 A'.own.rev, .int .i64 A'.own.top, .int .i64 (A'.own.prev[0]?.getD 0), .int .i64 (A'.own.prev[1]?.getD 0), .int .i64 (A'.own.prev[2]?.getD 0), .int .i64 (A'.own.prev[3]?.getD 0), .slice (some ⟨g4, 0, none⟩) n n])) := ⟨k + 1, A', g3, g4, gw, cw, j0, j1, j2, j3, by omega, by simp, HTd.out.next (Hr36.out.still (Below.refl _ _).drew) (Hr46.out.still (Below.refl _ _).drew), bsets (by omega) _ 0 (bstep Hl6.out (Below.refl _ _).drew)⟩
          generalize hWF : w6.drew.setCells w7.heap.size 0 [.slice (some ⟨g3, 0, none⟩) n n, .int .i64 A'.own.cid, .int .i64 A'.own.rev, .int .i64 A'.own.top, .int .i64 (A'.own.prev[0]?.getD 0), .int .i64 (A'.own.prev[1]?.getD 0), .int .i64 (A'.own.prev[2]?.getD 0), .int .i64 (A'.own.prev[3]?.getD 0), .slice (some ⟨g4, 0, none⟩) n n] = WF at HF
          go_wp2_with (first
            | (refine load_mid 41 (.tmp 15) R6.out _ Try.underlying41 rfl (by kernel_rfl) rfl rfl rfl ?_)
            | (refine store_rowL 41 (.tmp 8) (.tmp 219) (L := [.slice (some ⟨g3, 0, none⟩) n n, .int .i64 A'.own.cid, .int .i64 A'.own.rev, .int .i64 A'.own.top, .int .i64 (A'.own.prev[0]?.getD 0), .int .i64 (A'.own.prev[1]?.getD 0), .int .i64 (A'.own.prev[2]?.getD 0), .int .i64 (A'.own.prev[3]?.getD 0), .slice (some ⟨g4, 0, none⟩) n n]) Th.out info_propose (by simp [Value.oneCell']) rfl rfl rfl rfl ?_; rw [hWF])
            | fail)
          first
            | exact ⟨HF.out, by simp [intOf]; omega⟩
            | (go_roundw
               case rel => exact HF.out
               case measure => simp [intOf]; omega)
        | false =>
          have HI : Hid (Calls Try.prog 10 #[.pointer (some ⟨b, 0, none⟩)] X fun e w' => e = .returned (.tuple #[.agg #[.int .i64 0, .int .i64 0, .int .i64 0, .int .i64 0, .slice none 0 0], .slice none 0 0, .int .i64 61]) ∧ Below X.heap.size X w') := by
            have h := install_no HRX.out.gd.ok hg
            rw [HRX.out.gd.b] at h
            exact h
          clear hg
          go_wp2_with (first | (refine load_mid 44 (.tmp 90) HRg.out _ Try.underlying44 rfl (by kernel_rfl) rfl rfl rfl ?_) | fail)
          refine HI.out.mono ?_
          rintro e w4 ⟨rfl, hb4⟩
          go_wp2_with (fail)
          generalize hZ : w4.alloc (.cells #[.int .i64 0, .int .i64 0, .int .i64 0, .int .i64 0, .slice none 0 0] 32) = Z
          have bZ : Below w4.heap.size w4 Z := by rw [← hZ]; exact balloc (Below.refl _ _)
          have HT : Hid (Tst Z b n s inc w.heap.size w3.heap.size w7.heap.size #[.int .i64 (n : Int), .int .i64 (s : Int), .int .i64 inc, .int .i64 fl, .slice oa on oc] A A g1 g2 gv cv i0 i1 i2 i3) := (HRX.out.still hb4).still bZ
          have HlT : Hid (Below w.heap.size w Z) := bstep (bstep HlX.out hb4) bZ
          clear hb4 bZ HI hZ
          have HP : Hid (Calls Try.prog 14 #[.pointer (some ⟨b, 0, none⟩)] Z fun e w' => ∃ g3 g4, e = .returned (.agg [.slice (some ⟨g3, 0, none⟩) n n, .int .i64 A.own.cid, .int .i64 A.own.rev, .int .i64 A.own.top, .int .i64 (A.own.prev[0]?.getD 0), .int .i64 (A.own.prev[1]?.getD 0), .int .i64 (A.own.prev[2]?.getD 0), .int .i64 (A.own.prev[3]?.getD 0), .slice (some ⟨g4, 0, none⟩) n n].toArray) ∧ Z.heap.size ≤ g3 ∧ g3 < g4 ∧ Rw w' g3 3 (A.own.set.take n) ∧ Rw w' g4 3 (A.own.vec.take n) ∧ Below Z.heap.size Z w') := by
            have h := proposal_any HT.out.gd.ok
            rw [HT.out.gd.b] at h
            unfold Ag.pq at h
            rw [HT.out.gd.n] at h
            exact h
          refine HP.out.mono ?_
          rintro e w5 ⟨g3, g4, rfl, hg3, hg34, r3, r4, hb5⟩
          generalize hX15 : w5.alloc (.cells [.slice (some ⟨g3, 0, none⟩) n n, .int .i64 A.own.cid, .int .i64 A.own.rev, .int .i64 A.own.top, .int .i64 (A.own.prev[0]?.getD 0), .int .i64 (A.own.prev[1]?.getD 0), .int .i64 (A.own.prev[2]?.getD 0), .int .i64 (A.own.prev[3]?.getD 0), .slice (some ⟨g4, 0, none⟩) n n].toArray 41) = X15
          have b15 : Below w5.heap.size w5 X15 := by rw [← hX15]; exact balloc (Below.refl _ _)
          have k15 : X15.heap[w5.heap.size]? = some (.cells [.slice (some ⟨g3, 0, none⟩) n n, .int .i64 A.own.cid, .int .i64 A.own.rev, .int .i64 A.own.top, .int .i64 (A.own.prev[0]?.getD 0), .int .i64 (A.own.prev[1]?.getD 0), .int .i64 (A.own.prev[2]?.getD 0), .int .i64 (A.own.prev[3]?.getD 0), .slice (some ⟨g4, 0, none⟩) n n].toArray 41 (0, 0)) := by rw [← hX15]; exact heap_alloc_new w5 _
          generalize hX16 : X15.alloc (.cells [.slice (some ⟨g3, 0, none⟩) n n, .int .i64 A.own.cid, .int .i64 A.own.rev, .int .i64 A.own.top, .int .i64 (A.own.prev[0]?.getD 0), .int .i64 (A.own.prev[1]?.getD 0), .int .i64 (A.own.prev[2]?.getD 0), .int .i64 (A.own.prev[3]?.getD 0), .slice (some ⟨g4, 0, none⟩) n n].toArray 41) = X16
          have b16 : Below X15.heap.size X15 X16 := by rw [← hX16]; exact balloc (Below.refl _ _)
          have k16 : X16.heap[X15.heap.size]? = some (.cells [.slice (some ⟨g3, 0, none⟩) n n, .int .i64 A.own.cid, .int .i64 A.own.rev, .int .i64 A.own.top, .int .i64 (A.own.prev[0]?.getD 0), .int .i64 (A.own.prev[1]?.getD 0), .int .i64 (A.own.prev[2]?.getD 0), .int .i64 (A.own.prev[3]?.getD 0), .slice (some ⟨g4, 0, none⟩) n n].toArray 41 (0, 0)) := by rw [← hX16]; exact heap_alloc_new X15 _
          generalize hX17 : X16.setCell ⟨X15.heap.size, 2, none⟩ (.int .i64 A.own.rev) = X17
          have b17 : Below X15.heap.size X15 X17 := by rw [← hX17]; exact bset b16 (Nat.le_refl _) _ _
          have k17 : X17.heap[X15.heap.size]? = some (.cells (((A.pq g3 g4).cs).setIfInBounds 2 (.int .i64 A.own.rev)) 41 (0, 0)) := by
            rw [← hX17]
            refine blk_set k16 ?_
            unfold Ag.pq Pq.cs
            rw [HT.out.gd.n]
            rfl
          have HT15 : Hid (Tst X15 b n s inc w.heap.size w3.heap.size w7.heap.size #[.int .i64 (n : Int), .int .i64 (s : Int), .int .i64 inc, .int .i64 fl, .slice oa on oc] A A g1 g2 gv cv i0 i1 i2 i3) := (HT.out.still hb5).still b15
          have HT16 : Hid (Tst X16 b n s inc w.heap.size w3.heap.size w7.heap.size #[.int .i64 (n : Int), .int .i64 (s : Int), .int .i64 inc, .int .i64 fl, .slice oa on oc] A A g1 g2 gv cv i0 i1 i2 i3) := HT15.out.still b16
          have HT17 : Hid (Tst X17 b n s inc w.heap.size w3.heap.size w7.heap.size #[.int .i64 (n : Int), .int .i64 (s : Int), .int .i64 inc, .int .i64 fl, .slice oa on oc] A A g1 g2 gv cv i0 i1 i2 i3) := HT15.out.still b17
          have R15 : Hid (X15.rangeAt w5.heap.size 0 [.slice (some ⟨g3, 0, none⟩) n n, .int .i64 A.own.cid, .int .i64 A.own.rev, .int .i64 A.own.top, .int .i64 (A.own.prev[0]?.getD 0), .int .i64 (A.own.prev[1]?.getD 0), .int .i64 (A.own.prev[2]?.getD 0), .int .i64 (A.own.prev[3]?.getD 0), .slice (some ⟨g4, 0, none⟩) n n]) := blk_range k15
          have r3' : Rw X17 g3 3 (A.own.set.take n) := (r3.still b15).still b17
          have r4' : Rw X17 g4 3 (A.own.vec.take n) := (r4.still b15).still b17
          have k15' : X17.heap[w5.heap.size]? = some (.cells [.slice (some ⟨g3, 0, none⟩) n n, .int .i64 A.own.cid, .int .i64 A.own.rev, .int .i64 A.own.top, .int .i64 (A.own.prev[0]?.getD 0), .int .i64 (A.own.prev[1]?.getD 0), .int .i64 (A.own.prev[2]?.getD 0), .int .i64 (A.own.prev[3]?.getD 0), .slice (some ⟨g4, 0, none⟩) n n].toArray 41 (0, 0)) := (b17.block _ (lt_heap k15)).trans k15
          have u2 : X16.cell? ⟨w7.heap.size, 2, none⟩ = some (.int .i64 A.own.rev) := blk_cell HT16.out.m8 2
          have v2 : X16.cell? ⟨X15.heap.size, 2, none⟩ = some (.int .i64 A.own.rev) := blk_cell k16 2
          have z2 : X16.frozen? ⟨X15.heap.size, 2, none⟩ = false := frozen_of_row X16 _ _ _ _ k16
          have hr3 : Hid ((A.pq g3 g4).Rd X17) := by
            have hn := HT.out.gd.n
            exact pq_rd HT.out.gd.iv g3 g4 (by rw [hn]; exact r3') (by rw [hn]; exact r4')
          have hr1 : Hid ((A.pq g1 g2).Rd X17) := pq_rd HT.out.iv g1 g2 (by rw [HT.out.an]; exact HT17.out.r1) (by rw [HT.out.an]; exact HT17.out.r2)
          obtain ⟨q1, q2, q3, q4⟩ := rise_same HT.out.iv HT.out.gd.iv (HT.out.gd.n.trans HT.out.an.symm) HT.out.mv g1 g2 g3 g4
          have hrb := HT.out.rb
          obtain ⟨bb, hbb⟩ : ∃ bb, (A.own.rev == A.own.rev) = bb := ⟨_, rfl⟩
          rw [hbb] at q4
          have HPr : Hid (Calls Try.prog 19 #[.agg [.slice (some ⟨g1, 0, none⟩) n n, .int .i64 A.own.cid, .int .i64 A.own.rev, .int .i64 A.own.top, .int .i64 (A.own.prev[0]?.getD 0), .int .i64 (A.own.prev[1]?.getD 0), .int .i64 (A.own.prev[2]?.getD 0), .int .i64 (A.own.prev[3]?.getD 0), .slice (some ⟨g2, 0, none⟩) n n].toArray, .agg [.slice (some ⟨g3, 0, none⟩) n n, .int .i64 A.own.cid, .int .i64 A.own.rev, .int .i64 A.own.top, .int .i64 (A.own.prev[0]?.getD 0), .int .i64 (A.own.prev[1]?.getD 0), .int .i64 (A.own.prev[2]?.getD 0), .int .i64 (A.own.prev[3]?.getD 0), .slice (some ⟨g4, 0, none⟩) n n].toArray] X17.drew fun e w' => e = .returned (.bool bb) ∧ Below X17.drew.heap.size X17.drew w') := by
            have h := props_any (w := X17.drew) (A.pq g1 g2) { A.pq g3 g4 with rev := A.own.rev } (hr1.out.still (Below.refl _ _).drew) { (hr3.out.still (Below.refl _ _).drew) with }
            rw [← q4] at h
            unfold Pq.cs Ag.pq at h
            rw [HT.out.gd.n] at h
            try rw [HT.out.an] at h
            exact h
          have Hr3 : Hid (Rw X17 g3 3 (A.own.set.take n)) := r3'
          have Hr4 : Hid (Rw X17 g4 3 (A.own.vec.take n)) := r4'
          have Hk15 : Hid (X17.heap[w5.heap.size]? = some (.cells [.slice (some ⟨g3, 0, none⟩) n n, .int .i64 A.own.cid, .int .i64 A.own.rev, .int .i64 A.own.top, .int .i64 (A.own.prev[0]?.getD 0), .int .i64 (A.own.prev[1]?.getD 0), .int .i64 (A.own.prev[2]?.getD 0), .int .i64 (A.own.prev[3]?.getD 0), .slice (some ⟨g4, 0, none⟩) n n].toArray 41 (0, 0))) := k15'
          have Hk17 : Hid (X17.rangeAt X15.heap.size 0 [.slice (some ⟨g3, 0, none⟩) n n, .int .i64 A.own.cid, .int .i64 A.own.rev, .int .i64 A.own.top, .int .i64 (A.own.prev[0]?.getD 0), .int .i64 (A.own.prev[1]?.getD 0), .int .i64 (A.own.prev[2]?.getD 0), .int .i64 (A.own.prev[3]?.getD 0), .slice (some ⟨g4, 0, none⟩) n n]) := by
            rw [show ((A.pq g3 g4).cs).setIfInBounds 2 (.int .i64 A.own.rev) = [.slice (some ⟨g3, 0, none⟩) n n, .int .i64 A.own.cid, .int .i64 A.own.rev, .int .i64 A.own.top, .int .i64 (A.own.prev[0]?.getD 0), .int .i64 (A.own.prev[1]?.getD 0), .int .i64 (A.own.prev[2]?.getD 0), .int .i64 (A.own.prev[3]?.getD 0), .slice (some ⟨g4, 0, none⟩) n n].toArray from by unfold Ag.pq Pq.cs; rw [HT.out.gd.n]; rfl] at k17
            exact blk_range k17
          have Hq4 : Hid ((A.own.rev == A.own.rev) = bb) := hbb
          have HlX17 : Hid (Below w.heap.size w X17) := bstep (bstep (bstep HlT.out hb5) b15) b17
          simp only [List.toArray] at hX15 hX16
          clear q4 hb5 b15 b16 b17 k15 k16 k17 k15' r3 r4 r3' r4' hr3 hr1 HP hg3 hg34 hbb
          go_wp2_with (first | (refine load_mid 41 (.tmp 15) R15.out _ Try.underlying41 rfl (by kernel_rfl) rfl rfl rfl ?_) | fail)
          clear R15 hX15 hX16 hX17 u2 v2 z2
          have d0 : X17.drew.cell? ⟨w5.heap.size, 1, none⟩ = some (.int .i64 A.own.cid) := blk_cell (show X17.drew.heap[w5.heap.size]? = _ from Hk15.out) 1
          have d1 : X17.drew.cell? ⟨w5.heap.size, 2, none⟩ = some (.int .i64 A.own.rev) := blk_cell (show X17.drew.heap[w5.heap.size]? = _ from Hk15.out) 2
          have d2 : X17.drew.cell? ⟨w7.heap.size, 1, none⟩ = some (.int .i64 A.own.cid) := blk_cell (show X17.drew.heap[w7.heap.size]? = _ from HT17.out.m8) 1
          have d3 : X17.drew.cell? ⟨w7.heap.size, 2, none⟩ = some (.int .i64 A.own.rev) := blk_cell (show X17.drew.heap[w7.heap.size]? = _ from HT17.out.m8) 2
          have D4 : Hid (X17.drew.rangeAt w7.heap.size 0 [.slice (some ⟨g1, 0, none⟩) n n, .int .i64 A.own.cid, .int .i64 A.own.rev, .int .i64 A.own.top, .int .i64 (A.own.prev[0]?.getD 0), .int .i64 (A.own.prev[1]?.getD 0), .int .i64 (A.own.prev[2]?.getD 0), .int .i64 (A.own.prev[3]?.getD 0), .slice (some ⟨g2, 0, none⟩) n n]) := rng_below (blk_range HT17.out.m8) (Below.refl _ _).drew
          have D5 : Hid (X17.drew.rangeAt X15.heap.size 0 [.slice (some ⟨g3, 0, none⟩) n n, .int .i64 A.own.cid, .int .i64 A.own.rev, .int .i64 A.own.top, .int .i64 (A.own.prev[0]?.getD 0), .int .i64 (A.own.prev[1]?.getD 0), .int .i64 (A.own.prev[2]?.getD 0), .int .i64 (A.own.prev[3]?.getD 0), .slice (some ⟨g4, 0, none⟩) n n]) := rng_below Hk17.out (Below.refl _ _).drew
          refine wp_region_held_drew (S := (fun w' => w'.cell? ⟨w5.heap.size, 1, none⟩ = some (.int .i64 A.own.cid) ∧ w'.cell? ⟨w5.heap.size, 2, none⟩ = some (.int .i64 A.own.rev) ∧ w'.cell? ⟨w7.heap.size, 1, none⟩ = some (.int .i64 A.own.cid) ∧ w'.cell? ⟨w7.heap.size, 2, none⟩ = some (.int .i64 A.own.rev) ∧ w'.rangeAt w7.heap.size 0 [.slice (some ⟨g1, 0, none⟩) n n, .int .i64 A.own.cid, .int .i64 A.own.rev, .int .i64 A.own.top, .int .i64 (A.own.prev[0]?.getD 0), .int .i64 (A.own.prev[1]?.getD 0), .int .i64 (A.own.prev[2]?.getD 0), .int .i64 (A.own.prev[3]?.getD 0), .slice (some ⟨g2, 0, none⟩) n n] ∧ w'.rangeAt X15.heap.size 0 [.slice (some ⟨g3, 0, none⟩) n n, .int .i64 A.own.cid, .int .i64 A.own.rev, .int .i64 A.own.top, .int .i64 (A.own.prev[0]?.getD 0), .int .i64 (A.own.prev[1]?.getD 0), .int .i64 (A.own.prev[2]?.getD 0), .int .i64 (A.own.prev[3]?.getD 0), .slice (some ⟨g4, 0, none⟩) n n])) (by kernel_rfl) ⟨d0, d1, d2, d3, D4.out, D5.out⟩ (fun hHeld => ?_)
          simp only [Act.put, List.size_toArray, List.length_cons, List.length_nil, Nat.zero_add]
          refine wpAnyH_take (i := 0) (v := .pointer (some ⟨w5.heap.size, 1, none⟩)) rfl (by kernel_rfl) (by kernel_rfl) (by kernel_rfl) (fun _ _ _ h => h) (Or.inl ⟨by rfl, fun w' hS => by go_simp⟩) hHeld ?_
          simp only [Act.put, List.getElem_toArray, List.getElem_cons_zero, List.getElem_cons_succ, List.setIfInBounds_toArray, List.set_cons_zero, List.set_cons_succ]
          refine wpAnyH_take (i := 1) (v := .int .i64 A.own.cid) rfl (by kernel_rfl) (by kernel_rfl) (by kernel_rfl) (fun _ _ _ h => h) (Or.inl ⟨by rfl, fun w' hS => by (obtain ⟨s0, s1, s2, s3, s4, s5⟩ := hS; go_simp)⟩) hHeld ?_
          simp only [Act.put, List.getElem_toArray, List.getElem_cons_zero, List.getElem_cons_succ, List.setIfInBounds_toArray, List.set_cons_zero, List.set_cons_succ]
          refine wpAnyH_take (i := 2) (v := .pointer (some ⟨w7.heap.size, 1, none⟩)) rfl (by kernel_rfl) (by kernel_rfl) (by kernel_rfl) (fun _ _ _ h => h) (Or.inl ⟨by rfl, fun w' hS => by go_simp⟩) hHeld ?_
          simp only [Act.put, List.getElem_toArray, List.getElem_cons_zero, List.getElem_cons_succ, List.setIfInBounds_toArray, List.set_cons_zero, List.set_cons_succ]
          refine wpAnyH_take (i := 3) (v := .int .i64 A.own.cid) rfl (by kernel_rfl) (by kernel_rfl) (by kernel_rfl) (fun _ _ _ h => h) (Or.inl ⟨by rfl, fun w' hS => by (obtain ⟨s0, s1, s2, s3, s4, s5⟩ := hS; go_simp)⟩) hHeld ?_
          simp only [Act.put, List.getElem_toArray, List.getElem_cons_zero, List.getElem_cons_succ, List.setIfInBounds_toArray, List.set_cons_zero, List.set_cons_succ]
          refine wpAnyH_take (i := 4) (v := .bool false) rfl (by kernel_rfl) (by kernel_rfl) (by kernel_rfl) (fun _ _ _ h => h) (Or.inl ⟨by rfl, fun w' hS => by (go_simp <;> first | omega | simp_all | (simp; omega))⟩) hHeld ?_
          simp only [Act.put, List.getElem_toArray, List.getElem_cons_zero, List.getElem_cons_succ, List.setIfInBounds_toArray, List.set_cons_zero, List.set_cons_succ]
          refine wpAnyH_take (i := 5) (v := .bool false) rfl (by kernel_rfl) (by kernel_rfl) (by kernel_rfl) (fun _ _ _ h => h) (Or.inl ⟨by rfl, fun w' hS => by go_simp⟩) hHeld ?_
          simp only [Act.put, List.getElem_toArray, List.getElem_cons_zero, List.getElem_cons_succ, List.setIfInBounds_toArray, List.set_cons_zero, List.set_cons_succ]
          refine wpAnyH_take (i := 6) (v := .pointer (some ⟨w5.heap.size, 2, none⟩)) rfl (by kernel_rfl) (by kernel_rfl) (by kernel_rfl) (fun _ _ _ h => h) (Or.inl ⟨by rfl, fun w' hS => by go_simp⟩) hHeld ?_
          simp only [Act.put, List.getElem_toArray, List.getElem_cons_zero, List.getElem_cons_succ, List.setIfInBounds_toArray, List.set_cons_zero, List.set_cons_succ]
          refine wpAnyH_take (i := 7) (v := .int .i64 A.own.rev) rfl (by kernel_rfl) (by kernel_rfl) (by kernel_rfl) (fun _ _ _ h => h) (Or.inl ⟨by rfl, fun w' hS => by (obtain ⟨s0, s1, s2, s3, s4, s5⟩ := hS; go_simp)⟩) hHeld ?_
          simp only [Act.put, List.getElem_toArray, List.getElem_cons_zero, List.getElem_cons_succ, List.setIfInBounds_toArray, List.set_cons_zero, List.set_cons_succ]
          refine wpAnyH_take (i := 8) (v := .pointer (some ⟨w7.heap.size, 2, none⟩)) rfl (by kernel_rfl) (by kernel_rfl) (by kernel_rfl) (fun _ _ _ h => h) (Or.inl ⟨by rfl, fun w' hS => by go_simp⟩) hHeld ?_
          simp only [Act.put, List.getElem_toArray, List.getElem_cons_zero, List.getElem_cons_succ, List.setIfInBounds_toArray, List.set_cons_zero, List.set_cons_succ]
          refine wpAnyH_take (i := 9) (v := .int .i64 A.own.rev) rfl (by kernel_rfl) (by kernel_rfl) (by kernel_rfl) (fun _ _ _ h => h) (Or.inl ⟨by rfl, fun w' hS => by (obtain ⟨s0, s1, s2, s3, s4, s5⟩ := hS; go_simp)⟩) hHeld ?_
          simp only [Act.put, List.getElem_toArray, List.getElem_cons_zero, List.getElem_cons_succ, List.setIfInBounds_toArray, List.set_cons_zero, List.set_cons_succ]
          refine wpAnyH_take (i := 10) (v := .bool false) rfl (by kernel_rfl) (by kernel_rfl) (by kernel_rfl) (fun _ _ _ h => h) (Or.inl ⟨by rfl, fun w' hS => by (go_simp <;> first | omega | simp_all | (simp; omega))⟩) hHeld ?_
          simp only [Act.put, List.getElem_toArray, List.getElem_cons_zero, List.getElem_cons_succ, List.setIfInBounds_toArray, List.set_cons_zero, List.set_cons_succ]
          refine wpAnyH_take (i := 11) (v := .bool false) rfl (by kernel_rfl) (by kernel_rfl) (by kernel_rfl) (fun _ _ _ h => h) (Or.inl ⟨by rfl, fun w' hS => by go_simp⟩) hHeld ?_
          simp only [Act.put, List.getElem_toArray, List.getElem_cons_zero, List.getElem_cons_succ, List.setIfInBounds_toArray, List.set_cons_zero, List.set_cons_succ]
          refine wpAnyH_take (i := 12) (v := .bool false) rfl (by kernel_rfl) (by kernel_rfl) (by kernel_rfl) (fun _ _ _ h => h) (Or.inl ⟨by rfl, fun w' hS => by go_simp⟩) hHeld ?_
          simp only [Act.put, List.getElem_toArray, List.getElem_cons_zero, List.getElem_cons_succ, List.setIfInBounds_toArray, List.set_cons_zero, List.set_cons_succ]
          refine wpAnyH_take (i := 13) (v := .pointer (some ⟨w5.heap.size, 2, none⟩)) rfl (by kernel_rfl) (by kernel_rfl) (by kernel_rfl) (fun _ _ _ h => h) (Or.inl ⟨by rfl, fun w' hS => by go_simp⟩) hHeld ?_
          simp only [Act.put, List.getElem_toArray, List.getElem_cons_zero, List.getElem_cons_succ, List.setIfInBounds_toArray, List.set_cons_zero, List.set_cons_succ]
          refine wpAnyH_take (i := 14) (v := .int .i64 A.own.rev) rfl (by kernel_rfl) (by kernel_rfl) (by kernel_rfl) (fun _ _ _ h => h) (Or.inl ⟨by rfl, fun w' hS => by (obtain ⟨s0, s1, s2, s3, s4, s5⟩ := hS; go_simp)⟩) hHeld ?_
          simp only [Act.put, List.getElem_toArray, List.getElem_cons_zero, List.getElem_cons_succ, List.setIfInBounds_toArray, List.set_cons_zero, List.set_cons_succ]
          refine wpAnyH_take (i := 15) (v := .pointer (some ⟨w7.heap.size, 2, none⟩)) rfl (by kernel_rfl) (by kernel_rfl) (by kernel_rfl) (fun _ _ _ h => h) (Or.inl ⟨by rfl, fun w' hS => by go_simp⟩) hHeld ?_
          simp only [Act.put, List.getElem_toArray, List.getElem_cons_zero, List.getElem_cons_succ, List.setIfInBounds_toArray, List.set_cons_zero, List.set_cons_succ]
          refine wpAnyH_take (i := 16) (v := .int .i64 A.own.rev) rfl (by kernel_rfl) (by kernel_rfl) (by kernel_rfl) (fun _ _ _ h => h) (Or.inl ⟨by rfl, fun w' hS => by (obtain ⟨s0, s1, s2, s3, s4, s5⟩ := hS; go_simp)⟩) hHeld ?_
          simp only [Act.put, List.getElem_toArray, List.getElem_cons_zero, List.getElem_cons_succ, List.setIfInBounds_toArray, List.set_cons_zero, List.set_cons_succ]
          refine wpAnyH_take (i := 17) (v := .int .i64 (A.own.rev + 1)) rfl (by kernel_rfl) (by kernel_rfl) (by kernel_rfl) (fun _ _ _ h => h) (Or.inl ⟨by rfl, fun w' hS => by (go_simp <;> first | omega | (rw [wrap_id (by omega) (by omega)]))⟩) hHeld ?_
          simp only [Act.put, List.getElem_toArray, List.getElem_cons_zero, List.getElem_cons_succ, List.setIfInBounds_toArray, List.set_cons_zero, List.set_cons_succ]
          refine wpAnyH_take (i := 18) (v := .bool false) rfl (by kernel_rfl) (by kernel_rfl) (by kernel_rfl) (fun _ _ _ h => h) (Or.inl ⟨by rfl, fun w' hS => by (go_simp <;> first | omega | simp_all | (simp; omega))⟩) hHeld ?_
          simp only [Act.put, List.getElem_toArray, List.getElem_cons_zero, List.getElem_cons_succ, List.setIfInBounds_toArray, List.set_cons_zero, List.set_cons_succ]
          refine wpAnyH_take (i := 19) (v := .bool false) rfl (by kernel_rfl) (by kernel_rfl) (by kernel_rfl) (fun _ _ _ h => h) (Or.inl ⟨by rfl, fun w' hS => by go_simp⟩) hHeld ?_
          simp only [Act.put, List.getElem_toArray, List.getElem_cons_zero, List.getElem_cons_succ, List.setIfInBounds_toArray, List.set_cons_zero, List.set_cons_succ]
          refine wpAnyH_take (i := 20) (v := .bool false) rfl (by kernel_rfl) (by kernel_rfl) (by kernel_rfl) (fun _ _ _ h => h) (Or.inl ⟨by rfl, fun w' hS => by go_simp⟩) hHeld ?_
          simp only [Act.put, List.getElem_toArray, List.getElem_cons_zero, List.getElem_cons_succ, List.setIfInBounds_toArray, List.set_cons_zero, List.set_cons_succ]
          refine wpAnyH_take (i := 21) (v := .pointer (some ⟨w5.heap.size, 2, none⟩)) rfl (by kernel_rfl) (by kernel_rfl) (by kernel_rfl) (fun _ _ _ h => h) (Or.inl ⟨by rfl, fun w' hS => by go_simp⟩) hHeld ?_
          simp only [Act.put, List.getElem_toArray, List.getElem_cons_zero, List.getElem_cons_succ, List.setIfInBounds_toArray, List.set_cons_zero, List.set_cons_succ]
          refine wpAnyH_take (i := 22) (v := .int .i64 A.own.rev) rfl (by kernel_rfl) (by kernel_rfl) (by kernel_rfl) (fun _ _ _ h => h) (Or.inl ⟨by rfl, fun w' hS => by (obtain ⟨s0, s1, s2, s3, s4, s5⟩ := hS; go_simp)⟩) hHeld ?_
          simp only [Act.put, List.getElem_toArray, List.getElem_cons_zero, List.getElem_cons_succ, List.setIfInBounds_toArray, List.set_cons_zero, List.set_cons_succ]
          refine wpAnyH_take (i := 23) (v := .pointer (some ⟨w7.heap.size, 2, none⟩)) rfl (by kernel_rfl) (by kernel_rfl) (by kernel_rfl) (fun _ _ _ h => h) (Or.inl ⟨by rfl, fun w' hS => by go_simp⟩) hHeld ?_
          simp only [Act.put, List.getElem_toArray, List.getElem_cons_zero, List.getElem_cons_succ, List.setIfInBounds_toArray, List.set_cons_zero, List.set_cons_succ]
          refine wpAnyH_take (i := 24) (v := .int .i64 A.own.rev) rfl (by kernel_rfl) (by kernel_rfl) (by kernel_rfl) (fun _ _ _ h => h) (Or.inl ⟨by rfl, fun w' hS => by (obtain ⟨s0, s1, s2, s3, s4, s5⟩ := hS; go_simp)⟩) hHeld ?_
          simp only [Act.put, List.getElem_toArray, List.getElem_cons_zero, List.getElem_cons_succ, List.setIfInBounds_toArray, List.set_cons_zero, List.set_cons_succ]
          refine wpAnyH_take (i := 25) (v := .bool bb) rfl (by kernel_rfl) (by kernel_rfl) (by kernel_rfl) (fun _ _ _ h => h) (Or.inl ⟨by rfl, fun w' hS => by (go_simp <;> first | exact Hq4.out | simpa using Hq4.out)⟩) hHeld ?_
          simp only [Act.put, List.getElem_toArray, List.getElem_cons_zero, List.getElem_cons_succ, List.setIfInBounds_toArray, List.set_cons_zero, List.set_cons_succ]
          refine wpAnyH_take (i := 26) (v := .agg ([.slice (some ⟨g1, 0, none⟩) n n, .int .i64 A.own.cid, .int .i64 A.own.rev, .int .i64 A.own.top, .int .i64 (A.own.prev[0]?.getD 0), .int .i64 (A.own.prev[1]?.getD 0), .int .i64 (A.own.prev[2]?.getD 0), .int .i64 (A.own.prev[3]?.getD 0), .slice (some ⟨g2, 0, none⟩) n n]).toArray) rfl (by kernel_rfl) (by kernel_rfl) (by kernel_rfl) (fun _ _ _ h => h) (yieldsIf_load_mid (by rfl) 41 (.tmp 8) rfl w7.heap.size (0) (by rfl) ([.slice (some ⟨g1, 0, none⟩) n n, .int .i64 A.own.cid, .int .i64 A.own.rev, .int .i64 A.own.top, .int .i64 (A.own.prev[0]?.getD 0), .int .i64 (A.own.prev[1]?.getD 0), .int .i64 (A.own.prev[2]?.getD 0), .int .i64 (A.own.prev[3]?.getD 0), .slice (some ⟨g2, 0, none⟩) n n]) _ (fun w' hS => hS.2.2.2.2.1) Try.underlying41 rfl info_propose) hHeld ?_
          simp only [Act.put, List.getElem_toArray, List.getElem_cons_zero, List.getElem_cons_succ, List.setIfInBounds_toArray, List.set_cons_zero, List.set_cons_succ]
          refine wpAnyH_take (i := 27) (v := .agg ([.slice (some ⟨g3, 0, none⟩) n n, .int .i64 A.own.cid, .int .i64 A.own.rev, .int .i64 A.own.top, .int .i64 (A.own.prev[0]?.getD 0), .int .i64 (A.own.prev[1]?.getD 0), .int .i64 (A.own.prev[2]?.getD 0), .int .i64 (A.own.prev[3]?.getD 0), .slice (some ⟨g4, 0, none⟩) n n]).toArray) rfl (by kernel_rfl) (by kernel_rfl) (by kernel_rfl) (fun _ _ _ h => h) (yieldsIf_load_mid (by rfl) 41 (.tmp 16) rfl X15.heap.size (0) (by rfl) ([.slice (some ⟨g3, 0, none⟩) n n, .int .i64 A.own.cid, .int .i64 A.own.rev, .int .i64 A.own.top, .int .i64 (A.own.prev[0]?.getD 0), .int .i64 (A.own.prev[1]?.getD 0), .int .i64 (A.own.prev[2]?.getD 0), .int .i64 (A.own.prev[3]?.getD 0), .slice (some ⟨g4, 0, none⟩) n n]) _ (fun w' hS => hS.2.2.2.2.2) Try.underlying41 rfl info_propose) hHeld ?_
          simp only [Act.put, List.getElem_toArray, List.getElem_cons_zero, List.getElem_cons_succ, List.setIfInBounds_toArray, List.set_cons_zero, List.set_cons_succ]
          refine wpAnyH_ready (rs := [28]) (by kernel_rfl) (by simp) ?_
          refine AllReadyH.cons rfl (fun K hK => ?_) AllReadyH.nil
          go_simp
          refine (HPr.out).mono ?_
          rintro e w6 ⟨rfl, hb6⟩
          have HB6 : Hid (Below X17.heap.size X17 w6) := bstep (Below.refl _ _).drew hb6
          refine hK.out _ _ ⟨below_at hb6 d0, below_at hb6 d1, below_at hb6 d2, below_at hb6 d3, rng_below D4.out hb6, rng_below D5.out hb6⟩ (fun hHeld => ?_)
          clear hK K
          refine wpAnyH_take (i := 29) (v := .bool false) rfl (by kernel_rfl) (by kernel_rfl) (by kernel_rfl) (fun _ _ _ h => h) (Or.inl ⟨by rfl, fun w' hS => by (go_simp <;> simp)⟩) hHeld ?_
          simp only [Act.put, List.getElem_toArray, List.getElem_cons_zero, List.getElem_cons_succ, List.setIfInBounds_toArray, List.set_cons_zero, List.set_cons_succ]
          refine wpAnyH_take (i := 30) (v := .bool false) rfl (by kernel_rfl) (by kernel_rfl) (by kernel_rfl) (fun _ _ _ h => h) (Or.inl ⟨by rfl, fun w' hS => by go_simp⟩) hHeld ?_
          simp only [Act.put, List.getElem_toArray, List.getElem_cons_zero, List.getElem_cons_succ, List.setIfInBounds_toArray, List.set_cons_zero, List.set_cons_succ]
          refine wpAnyH_done (by kernel_rfl) ?_ _
          clear hHeld
          clear d0 d1 d2 d3 D4 D5 HPr
          have HT6 : Hid (Tst w6 b n s inc w.heap.size w3.heap.size w7.heap.size #[.int .i64 (n : Int), .int .i64 (s : Int), .int .i64 inc, .int .i64 fl, .slice oa on oc] A A g1 g2 gv cv i0 i1 i2 i3) := HT17.out.still HB6.out
          have hk6 : w6.heap[w5.heap.size]? = some (.cells [.slice (some ⟨g3, 0, none⟩) n n, .int .i64 A.own.cid, .int .i64 A.own.rev, .int .i64 A.own.top, .int .i64 (A.own.prev[0]?.getD 0), .int .i64 (A.own.prev[1]?.getD 0), .int .i64 (A.own.prev[2]?.getD 0), .int .i64 (A.own.prev[3]?.getD 0), .slice (some ⟨g4, 0, none⟩) n n].toArray 41 (0, 0)) := (HB6.out.block _ (lt_heap Hk15.out)).trans Hk15.out
          have Hr36 : Hid (Rw w6 g3 3 (A.own.set.take n)) := Hr3.out.still HB6.out
          have Hr46 : Hid (Rw w6 g4 3 (A.own.vec.take n)) := Hr4.out.still HB6.out
          have hsn := H16.out
          have a0 : w6.drew.cell? ⟨w5.heap.size, 0, none⟩ = some (.slice (some ⟨g3, 0, none⟩) n n) := blk_cell (show w6.drew.heap[w5.heap.size]? = _ from hk6) 0
          have a1 : w6.drew.cell? ⟨w5.heap.size, 8, none⟩ = some (.slice (some ⟨g4, 0, none⟩) n n) := blk_cell (show w6.drew.heap[w5.heap.size]? = _ from hk6) 8
          have a2 : w6.drew.cell? ⟨w5.heap.size, 1, none⟩ = some (.int .i64 A.own.cid) := blk_cell (show w6.drew.heap[w5.heap.size]? = _ from hk6) 1
          have a3 : w6.drew.cell? ⟨w.heap.size, 0, none⟩ = some (.int .i64 (n : Int)) := blk_cell (show w6.drew.heap[w.heap.size]? = _ from HT6.out.m1) 0
          have a4 : w6.drew.cell? ⟨w.heap.size, 1, none⟩ = some (.int .i64 (s : Int)) := blk_cell (show w6.drew.heap[w.heap.size]? = _ from HT6.out.m1) 1
          have a5 : w6.drew.cell? ⟨w.heap.size, 2, none⟩ = some (.int .i64 inc) := blk_cell (show w6.drew.heap[w.heap.size]? = _ from HT6.out.m1) 2
          have a6 : w6.drew.cell? ⟨g3, s, none⟩ = some (.int .i64 inc) := by
            have h := Hr36.out.cell (i := s) (by rw [List.length_take, HT6.out.gd.iv.ol.ls]; omega)
            have e : (A.own.set.take n).getD s 0 = inc := by
              have h2 := HT6.out.gd.iv.set
              rw [HT6.out.gd.self] at h2
              simpa [List.getD, List.getElem?_take, hsn.2.2] using h2
            rw [e] at h
            exact below_at (Below.refl _ _).drew h
          have a7 : w6.drew.cell? ⟨g4, s, none⟩ = some (.int .i64 A.own.cid) := by
            have h := Hr46.out.cell (i := s) (by rw [List.length_take, HT6.out.gd.iv.ol.lv]; omega)
            have e : (A.own.vec.take n).getD s 0 = A.own.cid := by
              have h2 := HT6.out.gd.iv.vec
              rw [HT6.out.gd.self] at h2
              simpa [List.getD, List.getElem?_take, hsn.2.2] using h2
            rw [e] at h
            exact below_at (Below.refl _ _).drew h
          have Hk6 : Hid (w6.heap[w5.heap.size]? = some (.cells [.slice (some ⟨g3, 0, none⟩) n n, .int .i64 A.own.cid, .int .i64 A.own.rev, .int .i64 A.own.top, .int .i64 (A.own.prev[0]?.getD 0), .int .i64 (A.own.prev[1]?.getD 0), .int .i64 (A.own.prev[2]?.getD 0), .int .i64 (A.own.prev[3]?.getD 0), .slice (some ⟨g4, 0, none⟩) n n].toArray 41 (0, 0))) := hk6
          have Hl6 : Hid (Below w.heap.size w w6) := bstep HlX17.out HB6.out
          have jj1 : (0 : Int) ≤ (s : Int) := Int.natCast_nonneg _
          have jj2 : (s : Int) < (n : Int) := by omega
          clear hk6 hsn
          go_wp2
          refine wp_region_held_drew (S := (fun w' => w'.cell? ⟨w5.heap.size, 0, none⟩ = some (.slice (some ⟨g3, 0, none⟩) n n) ∧ w'.cell? ⟨w5.heap.size, 8, none⟩ = some (.slice (some ⟨g4, 0, none⟩) n n) ∧ w'.cell? ⟨w5.heap.size, 1, none⟩ = some (.int .i64 A.own.cid) ∧ w'.cell? ⟨w.heap.size, 0, none⟩ = some (.int .i64 (n : Int)) ∧ w'.cell? ⟨w.heap.size, 1, none⟩ = some (.int .i64 (s : Int)) ∧ w'.cell? ⟨w.heap.size, 2, none⟩ = some (.int .i64 inc) ∧ w'.cell? ⟨g3, s, none⟩ = some (.int .i64 inc) ∧ w'.cell? ⟨g4, s, none⟩ = some (.int .i64 A.own.cid))) (by kernel_rfl) ⟨a0, a1, a2, a3, a4, a5, a6, a7⟩ (fun hHeld => ?_)
          simp only [Act.put, List.size_toArray, List.length_cons, List.length_nil, Nat.zero_add]
          refine wpAnyH_take (i := 0) (v := .pointer (some ⟨w5.heap.size, 0, none⟩)) rfl (by kernel_rfl) (by kernel_rfl) (by kernel_rfl) (fun _ _ _ h => h) (Or.inl ⟨by rfl, fun w' hS => by go_simp⟩) hHeld ?_
          simp only [Act.put, List.getElem_toArray, List.getElem_cons_zero, List.getElem_cons_succ, List.setIfInBounds_toArray, List.set_cons_zero, List.set_cons_succ]
          refine wpAnyH_take (i := 1) (v := .slice (some ⟨g3, 0, none⟩) n n) rfl (by kernel_rfl) (by kernel_rfl) (by kernel_rfl) (fun _ _ _ h => h) (Or.inl ⟨by rfl, fun w' hS => by (obtain ⟨s0, s1, s2, s3, s4, s5, s6, s7⟩ := hS; go_simp)⟩) hHeld ?_
          simp only [Act.put, List.getElem_toArray, List.getElem_cons_zero, List.getElem_cons_succ, List.setIfInBounds_toArray, List.set_cons_zero, List.set_cons_succ]
          refine wpAnyH_take (i := 2) (v := .int .i64 (n : Int)) rfl (by kernel_rfl) (by kernel_rfl) (by kernel_rfl) (fun _ _ _ h => h) (Or.inl ⟨by rfl, fun w' hS => by go_simp⟩) hHeld ?_
          simp only [Act.put, List.getElem_toArray, List.getElem_cons_zero, List.getElem_cons_succ, List.setIfInBounds_toArray, List.set_cons_zero, List.set_cons_succ]
          refine wpAnyH_take (i := 3) (v := .pointer (some ⟨w.heap.size, 0, none⟩)) rfl (by kernel_rfl) (by kernel_rfl) (by kernel_rfl) (fun _ _ _ h => h) (Or.inl ⟨by rfl, fun w' hS => by go_simp⟩) hHeld ?_
          simp only [Act.put, List.getElem_toArray, List.getElem_cons_zero, List.getElem_cons_succ, List.setIfInBounds_toArray, List.set_cons_zero, List.set_cons_succ]
          refine wpAnyH_take (i := 4) (v := .int .i64 (n : Int)) rfl (by kernel_rfl) (by kernel_rfl) (by kernel_rfl) (fun _ _ _ h => h) (Or.inl ⟨by rfl, fun w' hS => by (obtain ⟨s0, s1, s2, s3, s4, s5, s6, s7⟩ := hS; go_simp)⟩) hHeld ?_
          simp only [Act.put, List.getElem_toArray, List.getElem_cons_zero, List.getElem_cons_succ, List.setIfInBounds_toArray, List.set_cons_zero, List.set_cons_succ]
          refine wpAnyH_take (i := 5) (v := .bool false) rfl (by kernel_rfl) (by kernel_rfl) (by kernel_rfl) (fun _ _ _ h => h) (Or.inl ⟨by rfl, fun w' hS => by go_simp⟩) hHeld ?_
          simp only [Act.put, List.getElem_toArray, List.getElem_cons_zero, List.getElem_cons_succ, List.setIfInBounds_toArray, List.set_cons_zero, List.set_cons_succ]
          refine wpAnyH_take (i := 6) (v := .bool false) rfl (by kernel_rfl) (by kernel_rfl) (by kernel_rfl) (fun _ _ _ h => h) (Or.inl ⟨by rfl, fun w' hS => by go_simp⟩) hHeld ?_
          simp only [Act.put, List.getElem_toArray, List.getElem_cons_zero, List.getElem_cons_succ, List.setIfInBounds_toArray, List.set_cons_zero, List.set_cons_succ]
          refine wpAnyH_take (i := 7) (v := .pointer (some ⟨w5.heap.size, 8, none⟩)) rfl (by kernel_rfl) (by kernel_rfl) (by kernel_rfl) (fun _ _ _ h => h) (Or.inl ⟨by rfl, fun w' hS => by go_simp⟩) hHeld ?_
          simp only [Act.put, List.getElem_toArray, List.getElem_cons_zero, List.getElem_cons_succ, List.setIfInBounds_toArray, List.set_cons_zero, List.set_cons_succ]
          refine wpAnyH_take (i := 8) (v := .slice (some ⟨g4, 0, none⟩) n n) rfl (by kernel_rfl) (by kernel_rfl) (by kernel_rfl) (fun _ _ _ h => h) (Or.inl ⟨by rfl, fun w' hS => by (obtain ⟨s0, s1, s2, s3, s4, s5, s6, s7⟩ := hS; go_simp)⟩) hHeld ?_
          simp only [Act.put, List.getElem_toArray, List.getElem_cons_zero, List.getElem_cons_succ, List.setIfInBounds_toArray, List.set_cons_zero, List.set_cons_succ]
          refine wpAnyH_take (i := 9) (v := .int .i64 (n : Int)) rfl (by kernel_rfl) (by kernel_rfl) (by kernel_rfl) (fun _ _ _ h => h) (Or.inl ⟨by rfl, fun w' hS => by go_simp⟩) hHeld ?_
          simp only [Act.put, List.getElem_toArray, List.getElem_cons_zero, List.getElem_cons_succ, List.setIfInBounds_toArray, List.set_cons_zero, List.set_cons_succ]
          refine wpAnyH_take (i := 10) (v := .pointer (some ⟨w.heap.size, 0, none⟩)) rfl (by kernel_rfl) (by kernel_rfl) (by kernel_rfl) (fun _ _ _ h => h) (Or.inl ⟨by rfl, fun w' hS => by go_simp⟩) hHeld ?_
          simp only [Act.put, List.getElem_toArray, List.getElem_cons_zero, List.getElem_cons_succ, List.setIfInBounds_toArray, List.set_cons_zero, List.set_cons_succ]
          refine wpAnyH_take (i := 11) (v := .int .i64 (n : Int)) rfl (by kernel_rfl) (by kernel_rfl) (by kernel_rfl) (fun _ _ _ h => h) (Or.inl ⟨by rfl, fun w' hS => by (obtain ⟨s0, s1, s2, s3, s4, s5, s6, s7⟩ := hS; go_simp)⟩) hHeld ?_
          simp only [Act.put, List.getElem_toArray, List.getElem_cons_zero, List.getElem_cons_succ, List.setIfInBounds_toArray, List.set_cons_zero, List.set_cons_succ]
          refine wpAnyH_take (i := 12) (v := .bool false) rfl (by kernel_rfl) (by kernel_rfl) (by kernel_rfl) (fun _ _ _ h => h) (Or.inl ⟨by rfl, fun w' hS => by go_simp⟩) hHeld ?_
          simp only [Act.put, List.getElem_toArray, List.getElem_cons_zero, List.getElem_cons_succ, List.setIfInBounds_toArray, List.set_cons_zero, List.set_cons_succ]
          refine wpAnyH_take (i := 13) (v := .bool false) rfl (by kernel_rfl) (by kernel_rfl) (by kernel_rfl) (fun _ _ _ h => h) (Or.inl ⟨by rfl, fun w' hS => by go_simp⟩) hHeld ?_
          simp only [Act.put, List.getElem_toArray, List.getElem_cons_zero, List.getElem_cons_succ, List.setIfInBounds_toArray, List.set_cons_zero, List.set_cons_succ]
          refine wpAnyH_take (i := 14) (v := .bool false) rfl (by kernel_rfl) (by kernel_rfl) (by kernel_rfl) (fun _ _ _ h => h) (Or.inl ⟨by rfl, fun w' hS => by go_simp⟩) hHeld ?_
          simp only [Act.put, List.getElem_toArray, List.getElem_cons_zero, List.getElem_cons_succ, List.setIfInBounds_toArray, List.set_cons_zero, List.set_cons_succ]
          refine wpAnyH_take (i := 15) (v := .pointer (some ⟨w5.heap.size, 0, none⟩)) rfl (by kernel_rfl) (by kernel_rfl) (by kernel_rfl) (fun _ _ _ h => h) (Or.inl ⟨by rfl, fun w' hS => by go_simp⟩) hHeld ?_
          simp only [Act.put, List.getElem_toArray, List.getElem_cons_zero, List.getElem_cons_succ, List.setIfInBounds_toArray, List.set_cons_zero, List.set_cons_succ]
          refine wpAnyH_take (i := 16) (v := .slice (some ⟨g3, 0, none⟩) n n) rfl (by kernel_rfl) (by kernel_rfl) (by kernel_rfl) (fun _ _ _ h => h) (Or.inl ⟨by rfl, fun w' hS => by (obtain ⟨s0, s1, s2, s3, s4, s5, s6, s7⟩ := hS; go_simp)⟩) hHeld ?_
          simp only [Act.put, List.getElem_toArray, List.getElem_cons_zero, List.getElem_cons_succ, List.setIfInBounds_toArray, List.set_cons_zero, List.set_cons_succ]
          refine wpAnyH_take (i := 17) (v := .pointer (some ⟨w.heap.size, 1, none⟩)) rfl (by kernel_rfl) (by kernel_rfl) (by kernel_rfl) (fun _ _ _ h => h) (Or.inl ⟨by rfl, fun w' hS => by go_simp⟩) hHeld ?_
          simp only [Act.put, List.getElem_toArray, List.getElem_cons_zero, List.getElem_cons_succ, List.setIfInBounds_toArray, List.set_cons_zero, List.set_cons_succ]
          refine wpAnyH_take (i := 18) (v := .int .i64 (s : Int)) rfl (by kernel_rfl) (by kernel_rfl) (by kernel_rfl) (fun _ _ _ h => h) (Or.inl ⟨by rfl, fun w' hS => by (obtain ⟨s0, s1, s2, s3, s4, s5, s6, s7⟩ := hS; go_simp)⟩) hHeld ?_
          simp only [Act.put, List.getElem_toArray, List.getElem_cons_zero, List.getElem_cons_succ, List.setIfInBounds_toArray, List.set_cons_zero, List.set_cons_succ]
          refine wpAnyH_take (i := 19) (v := .pointer (some ⟨g3, s, none⟩)) rfl (by kernel_rfl) (by kernel_rfl) (by kernel_rfl) (fun _ _ _ h => h) (Or.inl ⟨by rfl, fun w' hS => by (go_simp <;> first | omega | simp_all | (simp; omega))⟩) hHeld ?_
          simp only [Act.put, List.getElem_toArray, List.getElem_cons_zero, List.getElem_cons_succ, List.setIfInBounds_toArray, List.set_cons_zero, List.set_cons_succ]
          refine wpAnyH_take (i := 20) (v := .int .i64 inc) rfl (by kernel_rfl) (by kernel_rfl) (by kernel_rfl) (fun _ _ _ h => h) (Or.inl ⟨by rfl, fun w' hS => by (obtain ⟨s0, s1, s2, s3, s4, s5, s6, s7⟩ := hS; go_simp)⟩) hHeld ?_
          simp only [Act.put, List.getElem_toArray, List.getElem_cons_zero, List.getElem_cons_succ, List.setIfInBounds_toArray, List.set_cons_zero, List.set_cons_succ]
          refine wpAnyH_take (i := 21) (v := .pointer (some ⟨w.heap.size, 2, none⟩)) rfl (by kernel_rfl) (by kernel_rfl) (by kernel_rfl) (fun _ _ _ h => h) (Or.inl ⟨by rfl, fun w' hS => by go_simp⟩) hHeld ?_
          simp only [Act.put, List.getElem_toArray, List.getElem_cons_zero, List.getElem_cons_succ, List.setIfInBounds_toArray, List.set_cons_zero, List.set_cons_succ]
          refine wpAnyH_take (i := 22) (v := .int .i64 inc) rfl (by kernel_rfl) (by kernel_rfl) (by kernel_rfl) (fun _ _ _ h => h) (Or.inl ⟨by rfl, fun w' hS => by (obtain ⟨s0, s1, s2, s3, s4, s5, s6, s7⟩ := hS; go_simp)⟩) hHeld ?_
          simp only [Act.put, List.getElem_toArray, List.getElem_cons_zero, List.getElem_cons_succ, List.setIfInBounds_toArray, List.set_cons_zero, List.set_cons_succ]
          refine wpAnyH_take (i := 23) (v := .bool false) rfl (by kernel_rfl) (by kernel_rfl) (by kernel_rfl) (fun _ _ _ h => h) (Or.inl ⟨by rfl, fun w' hS => by go_simp⟩) hHeld ?_
          simp only [Act.put, List.getElem_toArray, List.getElem_cons_zero, List.getElem_cons_succ, List.setIfInBounds_toArray, List.set_cons_zero, List.set_cons_succ]
          refine wpAnyH_take (i := 24) (v := .bool false) rfl (by kernel_rfl) (by kernel_rfl) (by kernel_rfl) (fun _ _ _ h => h) (Or.inl ⟨by rfl, fun w' hS => by go_simp⟩) hHeld ?_
          simp only [Act.put, List.getElem_toArray, List.getElem_cons_zero, List.getElem_cons_succ, List.setIfInBounds_toArray, List.set_cons_zero, List.set_cons_succ]
          refine wpAnyH_take (i := 25) (v := .bool false) rfl (by kernel_rfl) (by kernel_rfl) (by kernel_rfl) (fun _ _ _ h => h) (Or.inl ⟨by rfl, fun w' hS => by go_simp⟩) hHeld ?_
          simp only [Act.put, List.getElem_toArray, List.getElem_cons_zero, List.getElem_cons_succ, List.setIfInBounds_toArray, List.set_cons_zero, List.set_cons_succ]
          refine wpAnyH_take (i := 26) (v := .pointer (some ⟨w5.heap.size, 8, none⟩)) rfl (by kernel_rfl) (by kernel_rfl) (by kernel_rfl) (fun _ _ _ h => h) (Or.inl ⟨by rfl, fun w' hS => by go_simp⟩) hHeld ?_
          simp only [Act.put, List.getElem_toArray, List.getElem_cons_zero, List.getElem_cons_succ, List.setIfInBounds_toArray, List.set_cons_zero, List.set_cons_succ]
          refine wpAnyH_take (i := 27) (v := .slice (some ⟨g4, 0, none⟩) n n) rfl (by kernel_rfl) (by kernel_rfl) (by kernel_rfl) (fun _ _ _ h => h) (Or.inl ⟨by rfl, fun w' hS => by (obtain ⟨s0, s1, s2, s3, s4, s5, s6, s7⟩ := hS; go_simp)⟩) hHeld ?_
          simp only [Act.put, List.getElem_toArray, List.getElem_cons_zero, List.getElem_cons_succ, List.setIfInBounds_toArray, List.set_cons_zero, List.set_cons_succ]
          refine wpAnyH_take (i := 28) (v := .pointer (some ⟨w.heap.size, 1, none⟩)) rfl (by kernel_rfl) (by kernel_rfl) (by kernel_rfl) (fun _ _ _ h => h) (Or.inl ⟨by rfl, fun w' hS => by go_simp⟩) hHeld ?_
          simp only [Act.put, List.getElem_toArray, List.getElem_cons_zero, List.getElem_cons_succ, List.setIfInBounds_toArray, List.set_cons_zero, List.set_cons_succ]
          refine wpAnyH_take (i := 29) (v := .int .i64 (s : Int)) rfl (by kernel_rfl) (by kernel_rfl) (by kernel_rfl) (fun _ _ _ h => h) (Or.inl ⟨by rfl, fun w' hS => by (obtain ⟨s0, s1, s2, s3, s4, s5, s6, s7⟩ := hS; go_simp)⟩) hHeld ?_
          simp only [Act.put, List.getElem_toArray, List.getElem_cons_zero, List.getElem_cons_succ, List.setIfInBounds_toArray, List.set_cons_zero, List.set_cons_succ]
          refine wpAnyH_take (i := 30) (v := .pointer (some ⟨g4, s, none⟩)) rfl (by kernel_rfl) (by kernel_rfl) (by kernel_rfl) (fun _ _ _ h => h) (Or.inl ⟨by rfl, fun w' hS => by (go_simp <;> first | omega | simp_all | (simp; omega))⟩) hHeld ?_
          simp only [Act.put, List.getElem_toArray, List.getElem_cons_zero, List.getElem_cons_succ, List.setIfInBounds_toArray, List.set_cons_zero, List.set_cons_succ]
          refine wpAnyH_take (i := 31) (v := .int .i64 A.own.cid) rfl (by kernel_rfl) (by kernel_rfl) (by kernel_rfl) (fun _ _ _ h => h) (Or.inl ⟨by rfl, fun w' hS => by (obtain ⟨s0, s1, s2, s3, s4, s5, s6, s7⟩ := hS; go_simp)⟩) hHeld ?_
          simp only [Act.put, List.getElem_toArray, List.getElem_cons_zero, List.getElem_cons_succ, List.setIfInBounds_toArray, List.set_cons_zero, List.set_cons_succ]
          refine wpAnyH_take (i := 32) (v := .pointer (some ⟨w5.heap.size, 1, none⟩)) rfl (by kernel_rfl) (by kernel_rfl) (by kernel_rfl) (fun _ _ _ h => h) (Or.inl ⟨by rfl, fun w' hS => by go_simp⟩) hHeld ?_
          simp only [Act.put, List.getElem_toArray, List.getElem_cons_zero, List.getElem_cons_succ, List.setIfInBounds_toArray, List.set_cons_zero, List.set_cons_succ]
          refine wpAnyH_take (i := 33) (v := .int .i64 A.own.cid) rfl (by kernel_rfl) (by kernel_rfl) (by kernel_rfl) (fun _ _ _ h => h) (Or.inl ⟨by rfl, fun w' hS => by (obtain ⟨s0, s1, s2, s3, s4, s5, s6, s7⟩ := hS; go_simp)⟩) hHeld ?_
          simp only [Act.put, List.getElem_toArray, List.getElem_cons_zero, List.getElem_cons_succ, List.setIfInBounds_toArray, List.set_cons_zero, List.set_cons_succ]
          refine wpAnyH_take (i := 34) (v := .bool false) rfl (by kernel_rfl) (by kernel_rfl) (by kernel_rfl) (fun _ _ _ h => h) (Or.inl ⟨by rfl, fun w' hS => by go_simp⟩) hHeld ?_
          simp only [Act.put, List.getElem_toArray, List.getElem_cons_zero, List.getElem_cons_succ, List.setIfInBounds_toArray, List.set_cons_zero, List.set_cons_succ]
          refine wpAnyH_take (i := 35) (v := .bool false) rfl (by kernel_rfl) (by kernel_rfl) (by kernel_rfl) (fun _ _ _ h => h) (Or.inl ⟨by rfl, fun w' hS => by go_simp⟩) hHeld ?_
          simp only [Act.put, List.getElem_toArray, List.getElem_cons_zero, List.getElem_cons_succ, List.setIfInBounds_toArray, List.set_cons_zero, List.set_cons_succ]
          refine wpAnyH_done (by kernel_rfl) ?_ _
          clear hHeld
          clear a0 a1 a2 a3 a4 a5 a6 a7
          have R6 : Hid (w6.drew.rangeAt w5.heap.size 0 [.slice (some ⟨g3, 0, none⟩) n n, .int .i64 A.own.cid, .int .i64 A.own.rev, .int .i64 A.own.top, .int .i64 (A.own.prev[0]?.getD 0), .int .i64 (A.own.prev[1]?.getD 0), .int .i64 (A.own.prev[2]?.getD 0), .int .i64 (A.own.prev[3]?.getD 0), .slice (some ⟨g4, 0, none⟩) n n]) := rng_below (blk_range Hk6.out) (Below.refl _ _).drew
          have Th : Hid (w6.drew.there w7.heap.size 0 9) := blk_there (show w6.drew.heap[w7.heap.size]? = _ from HT6.out.m8) rfl
          have HTd : Hid (Tst w6.drew b n s inc w.heap.size w3.heap.size w7.heap.size #[.int .i64 (n : Int), .int .i64 (s : Int), .int .i64 inc, .int .i64 fl, .slice oa on oc] A A g1 g2 gv cv i0 i1 i2 i3) := HT6.out.still (Below.refl _ _).drew
          have HF : Hid (∃ (k_1 : Nat) (Ax : Ag) (x1 x2 x3 x4 : Nat) (xx0 xx1 xx2 xx3 : Int), k_1 ≤ on ∧ Value.int .i64 ((k : Int) + 1) = .int .i64 (k_1 : Int) ∧ Tst (w6.drew.setCells w7.heap.size 0 [.slice (some ⟨g3, 0, none⟩) n n, .int .i64 A.own.cid, .int .i64 A.own.rev, .int .i64 A.own.top, .int .i64 (A.own.prev[0]?.getD 0), .int .i64 (A.own.prev[1]?.getD 0), .int .i64 (A.own.prev[2]?.getD 0), .int .i64 (A.own.prev[3]?.getD 0), .slice (some ⟨g4, 0, none⟩) n n]) b n s inc w.heap.size w3.heap.size w7.heap.size #[.int .i64 (n : Int), .int .i64 (s : Int), .int .i64 inc, .int .i64 fl, .slice oa on oc] Ax Ax x1 x2 x3 x4 xx0 xx1 xx2 xx3 ∧ Below w.heap.size w (w6.drew.setCells w7.heap.size 0 [.slice (some ⟨g3, 0, none⟩) n n, .int .i64 A.own.cid, .int .i64 A.own.rev, .int .i64 A.own.top, .int .i64 (A.own.prev[0]?.getD 0), .int .i64 (A.own.prev[1]?.getD 0), .int .i64 (A.own.prev[2]?.getD 0), .int .i64 (A.own.prev[3]?.getD 0), .slice (some ⟨g4, 0, none⟩) n n])) := ⟨k + 1, A, g3, g4, gv, cv, i0, i1, i2, i3, by omega, by simp, HTd.out.next (Hr36.out.still (Below.refl _ _).drew) (Hr46.out.still (Below.refl _ _).drew), bsets (by omega) _ 0 (bstep Hl6.out (Below.refl _ _).drew)⟩
          generalize hWF : w6.drew.setCells w7.heap.size 0 [.slice (some ⟨g3, 0, none⟩) n n, .int .i64 A.own.cid, .int .i64 A.own.rev, .int .i64 A.own.top, .int .i64 (A.own.prev[0]?.getD 0), .int .i64 (A.own.prev[1]?.getD 0), .int .i64 (A.own.prev[2]?.getD 0), .int .i64 (A.own.prev[3]?.getD 0), .slice (some ⟨g4, 0, none⟩) n n] = WF at HF
          go_wp2_with (first
            | (refine load_mid 41 (.tmp 15) R6.out _ Try.underlying41 rfl (by kernel_rfl) rfl rfl rfl ?_)
            | (refine store_rowL 41 (.tmp 8) (.tmp 219) (L := [.slice (some ⟨g3, 0, none⟩) n n, .int .i64 A.own.cid, .int .i64 A.own.rev, .int .i64 A.own.top, .int .i64 (A.own.prev[0]?.getD 0), .int .i64 (A.own.prev[1]?.getD 0), .int .i64 (A.own.prev[2]?.getD 0), .int .i64 (A.own.prev[3]?.getD 0), .slice (some ⟨g4, 0, none⟩) n n]) Th.out info_propose (by simp [Value.oneCell']) rfl rfl rfl rfl ?_; rw [hWF])
            | fail)
          first
            | exact ⟨HF.out, by simp [intOf]; omega⟩
            | (go_roundw
               case rel => exact HF.out
               case measure => simp [intOf]; omega)
      · skip
        have f5 : (o.kind == 5) = false := by simpa using e5
        have He5 : Hid (o.kind ≠ 5) := e5
        have HCa : Hid (Calls Try.prog 18 #[.pointer (some ⟨b, 0, none⟩), .agg [.int .i64 o.kind, .int .i64 o.q, .int .i64 o.inc, .slice o.sa o.sn o.sc, .slice o.p.sa o.p.sn o.p.sc, .int .i64 o.p.cid, .int .i64 o.p.rev, .int .i64 o.p.top, .int .i64 (o.p.prev[0]?.getD 0), .int .i64 (o.p.prev[1]?.getD 0), .int .i64 (o.p.prev[2]?.getD 0), .int .i64 (o.p.prev[3]?.getD 0), .slice o.p.va o.p.vn o.p.vc].toArray] X fun e w' => ∃ E A', e = .returned (.int .i64 E) ∧ A'.Ok w' b 4611686018427387903 ∧ Kept X w' (fun j => j = b) ∧ Stp A o E A') := by
          have hv := HRX.out.gd.iv
          have h := call_any HRX.out.gd.ok (by rw [hv.set]; have := hv.inc1; omega) o HoX.out
          rw [HRX.out.gd.b] at h
          exact h
        clear e5
        go_wp2_with (first | (refine load_mid 44 (.tmp 90) HRg.out _ Try.underlying44 rfl (by kernel_rfl) rfl rfl rfl ?_) | (refine load_mid 44 (.tmp 10) HkX.out _ Try.underlying44 rfl (by kernel_rfl) rfl rfl rfl ?_) | fail)
        refine HCa.out.mono ?_
        rintro e wt ⟨E, A', rfl, hO', hKt, hst⟩
        have HT : Hid (Tst wt b n s inc w.heap.size w3.heap.size w7.heap.size #[.int .i64 (n : Int), .int .i64 (s : Int), .int .i64 inc, .int .i64 fl, .slice oa on oc] A A' g1 g2 gv cv i0 i1 i2 i3) := HRX.out.call hO' hKt hst He5.out
        have HlT : Hid (Below w.heap.size w wt) := HlX.out.trans (hKt.below HlX.out.size (fun k hk e => by omega))
        clear hO' hKt hst HCa
        go_wp2_with (fail)
        have HP : Hid (Calls Try.prog 14 #[.pointer (some ⟨b, 0, none⟩)] wt fun e w' => ∃ g3 g4, e = .returned (.agg [.slice (some ⟨g3, 0, none⟩) n n, .int .i64 A'.own.cid, .int .i64 A'.own.rev, .int .i64 A'.own.top, .int .i64 (A'.own.prev[0]?.getD 0), .int .i64 (A'.own.prev[1]?.getD 0), .int .i64 (A'.own.prev[2]?.getD 0), .int .i64 (A'.own.prev[3]?.getD 0), .slice (some ⟨g4, 0, none⟩) n n].toArray) ∧ wt.heap.size ≤ g3 ∧ g3 < g4 ∧ Rw w' g3 3 (A'.own.set.take n) ∧ Rw w' g4 3 (A'.own.vec.take n) ∧ Below wt.heap.size wt w') := by
          have h := proposal_any HT.out.gd.ok
          rw [HT.out.gd.b] at h
          unfold Ag.pq at h
          rw [HT.out.gd.n] at h
          exact h
        refine HP.out.mono ?_
        rintro e w5 ⟨g3, g4, rfl, hg3, hg34, r3, r4, hb5⟩
        generalize hX15 : w5.alloc (.cells [.slice (some ⟨g3, 0, none⟩) n n, .int .i64 A'.own.cid, .int .i64 A'.own.rev, .int .i64 A'.own.top, .int .i64 (A'.own.prev[0]?.getD 0), .int .i64 (A'.own.prev[1]?.getD 0), .int .i64 (A'.own.prev[2]?.getD 0), .int .i64 (A'.own.prev[3]?.getD 0), .slice (some ⟨g4, 0, none⟩) n n].toArray 41) = X15
        have b15 : Below w5.heap.size w5 X15 := by rw [← hX15]; exact balloc (Below.refl _ _)
        have k15 : X15.heap[w5.heap.size]? = some (.cells [.slice (some ⟨g3, 0, none⟩) n n, .int .i64 A'.own.cid, .int .i64 A'.own.rev, .int .i64 A'.own.top, .int .i64 (A'.own.prev[0]?.getD 0), .int .i64 (A'.own.prev[1]?.getD 0), .int .i64 (A'.own.prev[2]?.getD 0), .int .i64 (A'.own.prev[3]?.getD 0), .slice (some ⟨g4, 0, none⟩) n n].toArray 41 (0, 0)) := by rw [← hX15]; exact heap_alloc_new w5 _
        generalize hX16 : X15.alloc (.cells [.slice (some ⟨g3, 0, none⟩) n n, .int .i64 A'.own.cid, .int .i64 A'.own.rev, .int .i64 A'.own.top, .int .i64 (A'.own.prev[0]?.getD 0), .int .i64 (A'.own.prev[1]?.getD 0), .int .i64 (A'.own.prev[2]?.getD 0), .int .i64 (A'.own.prev[3]?.getD 0), .slice (some ⟨g4, 0, none⟩) n n].toArray 41) = X16
        have b16 : Below X15.heap.size X15 X16 := by rw [← hX16]; exact balloc (Below.refl _ _)
        have k16 : X16.heap[X15.heap.size]? = some (.cells [.slice (some ⟨g3, 0, none⟩) n n, .int .i64 A'.own.cid, .int .i64 A'.own.rev, .int .i64 A'.own.top, .int .i64 (A'.own.prev[0]?.getD 0), .int .i64 (A'.own.prev[1]?.getD 0), .int .i64 (A'.own.prev[2]?.getD 0), .int .i64 (A'.own.prev[3]?.getD 0), .slice (some ⟨g4, 0, none⟩) n n].toArray 41 (0, 0)) := by rw [← hX16]; exact heap_alloc_new X15 _
        generalize hX17 : X16.setCell ⟨X15.heap.size, 2, none⟩ (.int .i64 A.own.rev) = X17
        have b17 : Below X15.heap.size X15 X17 := by rw [← hX17]; exact bset b16 (Nat.le_refl _) _ _
        have k17 : X17.heap[X15.heap.size]? = some (.cells (((A'.pq g3 g4).cs).setIfInBounds 2 (.int .i64 A.own.rev)) 41 (0, 0)) := by
          rw [← hX17]
          refine blk_set k16 ?_
          unfold Ag.pq Pq.cs
          rw [HT.out.gd.n]
          rfl
        have HT15 : Hid (Tst X15 b n s inc w.heap.size w3.heap.size w7.heap.size #[.int .i64 (n : Int), .int .i64 (s : Int), .int .i64 inc, .int .i64 fl, .slice oa on oc] A A' g1 g2 gv cv i0 i1 i2 i3) := (HT.out.still hb5).still b15
        have HT16 : Hid (Tst X16 b n s inc w.heap.size w3.heap.size w7.heap.size #[.int .i64 (n : Int), .int .i64 (s : Int), .int .i64 inc, .int .i64 fl, .slice oa on oc] A A' g1 g2 gv cv i0 i1 i2 i3) := HT15.out.still b16
        have HT17 : Hid (Tst X17 b n s inc w.heap.size w3.heap.size w7.heap.size #[.int .i64 (n : Int), .int .i64 (s : Int), .int .i64 inc, .int .i64 fl, .slice oa on oc] A A' g1 g2 gv cv i0 i1 i2 i3) := HT15.out.still b17
        have R15 : Hid (X15.rangeAt w5.heap.size 0 [.slice (some ⟨g3, 0, none⟩) n n, .int .i64 A'.own.cid, .int .i64 A'.own.rev, .int .i64 A'.own.top, .int .i64 (A'.own.prev[0]?.getD 0), .int .i64 (A'.own.prev[1]?.getD 0), .int .i64 (A'.own.prev[2]?.getD 0), .int .i64 (A'.own.prev[3]?.getD 0), .slice (some ⟨g4, 0, none⟩) n n]) := blk_range k15
        have r3' : Rw X17 g3 3 (A'.own.set.take n) := (r3.still b15).still b17
        have r4' : Rw X17 g4 3 (A'.own.vec.take n) := (r4.still b15).still b17
        have k15' : X17.heap[w5.heap.size]? = some (.cells [.slice (some ⟨g3, 0, none⟩) n n, .int .i64 A'.own.cid, .int .i64 A'.own.rev, .int .i64 A'.own.top, .int .i64 (A'.own.prev[0]?.getD 0), .int .i64 (A'.own.prev[1]?.getD 0), .int .i64 (A'.own.prev[2]?.getD 0), .int .i64 (A'.own.prev[3]?.getD 0), .slice (some ⟨g4, 0, none⟩) n n].toArray 41 (0, 0)) := (b17.block _ (lt_heap k15)).trans k15
        have u2 : X16.cell? ⟨w7.heap.size, 2, none⟩ = some (.int .i64 A.own.rev) := blk_cell HT16.out.m8 2
        have v2 : X16.cell? ⟨X15.heap.size, 2, none⟩ = some (.int .i64 A'.own.rev) := blk_cell k16 2
        have z2 : X16.frozen? ⟨X15.heap.size, 2, none⟩ = false := frozen_of_row X16 _ _ _ _ k16
        have hr3 : Hid ((A'.pq g3 g4).Rd X17) := by
          have hn := HT.out.gd.n
          exact pq_rd HT.out.gd.iv g3 g4 (by rw [hn]; exact r3') (by rw [hn]; exact r4')
        have hr1 : Hid ((A.pq g1 g2).Rd X17) := pq_rd HT.out.iv g1 g2 (by rw [HT.out.an]; exact HT17.out.r1) (by rw [HT.out.an]; exact HT17.out.r2)
        obtain ⟨q1, q2, q3, q4⟩ := rise_same HT.out.iv HT.out.gd.iv (HT.out.gd.n.trans HT.out.an.symm) HT.out.mv g1 g2 g3 g4
        have hrb := HT.out.rb
        obtain ⟨bb, hbb⟩ : ∃ bb, (A'.own.rev == A.own.rev) = bb := ⟨_, rfl⟩
        rw [hbb] at q4
        have HPr : Hid (Calls Try.prog 19 #[.agg [.slice (some ⟨g1, 0, none⟩) n n, .int .i64 A.own.cid, .int .i64 A.own.rev, .int .i64 A.own.top, .int .i64 (A.own.prev[0]?.getD 0), .int .i64 (A.own.prev[1]?.getD 0), .int .i64 (A.own.prev[2]?.getD 0), .int .i64 (A.own.prev[3]?.getD 0), .slice (some ⟨g2, 0, none⟩) n n].toArray, .agg [.slice (some ⟨g3, 0, none⟩) n n, .int .i64 A'.own.cid, .int .i64 A.own.rev, .int .i64 A'.own.top, .int .i64 (A'.own.prev[0]?.getD 0), .int .i64 (A'.own.prev[1]?.getD 0), .int .i64 (A'.own.prev[2]?.getD 0), .int .i64 (A'.own.prev[3]?.getD 0), .slice (some ⟨g4, 0, none⟩) n n].toArray] X17.drew fun e w' => e = .returned (.bool bb) ∧ Below X17.drew.heap.size X17.drew w') := by
          have h := props_any (w := X17.drew) (A.pq g1 g2) { A'.pq g3 g4 with rev := A.own.rev } (hr1.out.still (Below.refl _ _).drew) { (hr3.out.still (Below.refl _ _).drew) with }
          rw [← q4] at h
          unfold Pq.cs Ag.pq at h
          rw [HT.out.gd.n] at h
          try rw [HT.out.an] at h
          exact h
        have Hr3 : Hid (Rw X17 g3 3 (A'.own.set.take n)) := r3'
        have Hr4 : Hid (Rw X17 g4 3 (A'.own.vec.take n)) := r4'
        have Hk15 : Hid (X17.heap[w5.heap.size]? = some (.cells [.slice (some ⟨g3, 0, none⟩) n n, .int .i64 A'.own.cid, .int .i64 A'.own.rev, .int .i64 A'.own.top, .int .i64 (A'.own.prev[0]?.getD 0), .int .i64 (A'.own.prev[1]?.getD 0), .int .i64 (A'.own.prev[2]?.getD 0), .int .i64 (A'.own.prev[3]?.getD 0), .slice (some ⟨g4, 0, none⟩) n n].toArray 41 (0, 0))) := k15'
        have Hk17 : Hid (X17.rangeAt X15.heap.size 0 [.slice (some ⟨g3, 0, none⟩) n n, .int .i64 A'.own.cid, .int .i64 A.own.rev, .int .i64 A'.own.top, .int .i64 (A'.own.prev[0]?.getD 0), .int .i64 (A'.own.prev[1]?.getD 0), .int .i64 (A'.own.prev[2]?.getD 0), .int .i64 (A'.own.prev[3]?.getD 0), .slice (some ⟨g4, 0, none⟩) n n]) := by
          rw [show ((A'.pq g3 g4).cs).setIfInBounds 2 (.int .i64 A.own.rev) = [.slice (some ⟨g3, 0, none⟩) n n, .int .i64 A'.own.cid, .int .i64 A.own.rev, .int .i64 A'.own.top, .int .i64 (A'.own.prev[0]?.getD 0), .int .i64 (A'.own.prev[1]?.getD 0), .int .i64 (A'.own.prev[2]?.getD 0), .int .i64 (A'.own.prev[3]?.getD 0), .slice (some ⟨g4, 0, none⟩) n n].toArray from by unfold Ag.pq Pq.cs; rw [HT.out.gd.n]; rfl] at k17
          exact blk_range k17
        have Hq4 : Hid ((A'.own.rev == A.own.rev) = bb) := hbb
        have HlX17 : Hid (Below w.heap.size w X17) := bstep (bstep (bstep HlT.out hb5) b15) b17
        simp only [List.toArray] at hX15 hX16
        clear q4 hb5 b15 b16 b17 k15 k16 k17 k15' r3 r4 r3' r4' hr3 hr1 HP hg3 hg34 hbb
        go_wp2_with (first | (refine load_mid 41 (.tmp 15) R15.out _ Try.underlying41 rfl (by kernel_rfl) rfl rfl rfl ?_) | fail)
        clear R15 hX15 hX16 hX17 u2 v2 z2
        have d0 : X17.drew.cell? ⟨w5.heap.size, 1, none⟩ = some (.int .i64 A'.own.cid) := blk_cell (show X17.drew.heap[w5.heap.size]? = _ from Hk15.out) 1
        have d1 : X17.drew.cell? ⟨w5.heap.size, 2, none⟩ = some (.int .i64 A'.own.rev) := blk_cell (show X17.drew.heap[w5.heap.size]? = _ from Hk15.out) 2
        have d2 : X17.drew.cell? ⟨w7.heap.size, 1, none⟩ = some (.int .i64 A.own.cid) := blk_cell (show X17.drew.heap[w7.heap.size]? = _ from HT17.out.m8) 1
        have d3 : X17.drew.cell? ⟨w7.heap.size, 2, none⟩ = some (.int .i64 A.own.rev) := blk_cell (show X17.drew.heap[w7.heap.size]? = _ from HT17.out.m8) 2
        have D4 : Hid (X17.drew.rangeAt w7.heap.size 0 [.slice (some ⟨g1, 0, none⟩) n n, .int .i64 A.own.cid, .int .i64 A.own.rev, .int .i64 A.own.top, .int .i64 (A.own.prev[0]?.getD 0), .int .i64 (A.own.prev[1]?.getD 0), .int .i64 (A.own.prev[2]?.getD 0), .int .i64 (A.own.prev[3]?.getD 0), .slice (some ⟨g2, 0, none⟩) n n]) := rng_below (blk_range HT17.out.m8) (Below.refl _ _).drew
        have D5 : Hid (X17.drew.rangeAt X15.heap.size 0 [.slice (some ⟨g3, 0, none⟩) n n, .int .i64 A'.own.cid, .int .i64 A.own.rev, .int .i64 A'.own.top, .int .i64 (A'.own.prev[0]?.getD 0), .int .i64 (A'.own.prev[1]?.getD 0), .int .i64 (A'.own.prev[2]?.getD 0), .int .i64 (A'.own.prev[3]?.getD 0), .slice (some ⟨g4, 0, none⟩) n n]) := rng_below Hk17.out (Below.refl _ _).drew
        refine wp_region_held_drew (S := (fun w' => w'.cell? ⟨w5.heap.size, 1, none⟩ = some (.int .i64 A'.own.cid) ∧ w'.cell? ⟨w5.heap.size, 2, none⟩ = some (.int .i64 A'.own.rev) ∧ w'.cell? ⟨w7.heap.size, 1, none⟩ = some (.int .i64 A.own.cid) ∧ w'.cell? ⟨w7.heap.size, 2, none⟩ = some (.int .i64 A.own.rev) ∧ w'.rangeAt w7.heap.size 0 [.slice (some ⟨g1, 0, none⟩) n n, .int .i64 A.own.cid, .int .i64 A.own.rev, .int .i64 A.own.top, .int .i64 (A.own.prev[0]?.getD 0), .int .i64 (A.own.prev[1]?.getD 0), .int .i64 (A.own.prev[2]?.getD 0), .int .i64 (A.own.prev[3]?.getD 0), .slice (some ⟨g2, 0, none⟩) n n] ∧ w'.rangeAt X15.heap.size 0 [.slice (some ⟨g3, 0, none⟩) n n, .int .i64 A'.own.cid, .int .i64 A.own.rev, .int .i64 A'.own.top, .int .i64 (A'.own.prev[0]?.getD 0), .int .i64 (A'.own.prev[1]?.getD 0), .int .i64 (A'.own.prev[2]?.getD 0), .int .i64 (A'.own.prev[3]?.getD 0), .slice (some ⟨g4, 0, none⟩) n n])) (by kernel_rfl) ⟨d0, d1, d2, d3, D4.out, D5.out⟩ (fun hHeld => ?_)
        simp only [Act.put, List.size_toArray, List.length_cons, List.length_nil, Nat.zero_add]
        refine wpAnyH_take (i := 0) (v := .pointer (some ⟨w5.heap.size, 1, none⟩)) rfl (by kernel_rfl) (by kernel_rfl) (by kernel_rfl) (fun _ _ _ h => h) (Or.inl ⟨by rfl, fun w' hS => by go_simp⟩) hHeld ?_
        simp only [Act.put, List.getElem_toArray, List.getElem_cons_zero, List.getElem_cons_succ, List.setIfInBounds_toArray, List.set_cons_zero, List.set_cons_succ]
        refine wpAnyH_take (i := 1) (v := .int .i64 A'.own.cid) rfl (by kernel_rfl) (by kernel_rfl) (by kernel_rfl) (fun _ _ _ h => h) (Or.inl ⟨by rfl, fun w' hS => by (obtain ⟨s0, s1, s2, s3, s4, s5⟩ := hS; go_simp)⟩) hHeld ?_
        simp only [Act.put, List.getElem_toArray, List.getElem_cons_zero, List.getElem_cons_succ, List.setIfInBounds_toArray, List.set_cons_zero, List.set_cons_succ]
        refine wpAnyH_take (i := 2) (v := .pointer (some ⟨w7.heap.size, 1, none⟩)) rfl (by kernel_rfl) (by kernel_rfl) (by kernel_rfl) (fun _ _ _ h => h) (Or.inl ⟨by rfl, fun w' hS => by go_simp⟩) hHeld ?_
        simp only [Act.put, List.getElem_toArray, List.getElem_cons_zero, List.getElem_cons_succ, List.setIfInBounds_toArray, List.set_cons_zero, List.set_cons_succ]
        refine wpAnyH_take (i := 3) (v := .int .i64 A.own.cid) rfl (by kernel_rfl) (by kernel_rfl) (by kernel_rfl) (fun _ _ _ h => h) (Or.inl ⟨by rfl, fun w' hS => by (obtain ⟨s0, s1, s2, s3, s4, s5⟩ := hS; go_simp)⟩) hHeld ?_
        simp only [Act.put, List.getElem_toArray, List.getElem_cons_zero, List.getElem_cons_succ, List.setIfInBounds_toArray, List.set_cons_zero, List.set_cons_succ]
        refine wpAnyH_take (i := 4) (v := .bool false) rfl (by kernel_rfl) (by kernel_rfl) (by kernel_rfl) (fun _ _ _ h => h) (Or.inl ⟨by rfl, fun w' hS => by (go_simp <;> first | omega | simp_all | (simp; omega))⟩) hHeld ?_
        simp only [Act.put, List.getElem_toArray, List.getElem_cons_zero, List.getElem_cons_succ, List.setIfInBounds_toArray, List.set_cons_zero, List.set_cons_succ]
        refine wpAnyH_take (i := 5) (v := .bool false) rfl (by kernel_rfl) (by kernel_rfl) (by kernel_rfl) (fun _ _ _ h => h) (Or.inl ⟨by rfl, fun w' hS => by go_simp⟩) hHeld ?_
        simp only [Act.put, List.getElem_toArray, List.getElem_cons_zero, List.getElem_cons_succ, List.setIfInBounds_toArray, List.set_cons_zero, List.set_cons_succ]
        refine wpAnyH_take (i := 6) (v := .pointer (some ⟨w5.heap.size, 2, none⟩)) rfl (by kernel_rfl) (by kernel_rfl) (by kernel_rfl) (fun _ _ _ h => h) (Or.inl ⟨by rfl, fun w' hS => by go_simp⟩) hHeld ?_
        simp only [Act.put, List.getElem_toArray, List.getElem_cons_zero, List.getElem_cons_succ, List.setIfInBounds_toArray, List.set_cons_zero, List.set_cons_succ]
        refine wpAnyH_take (i := 7) (v := .int .i64 A'.own.rev) rfl (by kernel_rfl) (by kernel_rfl) (by kernel_rfl) (fun _ _ _ h => h) (Or.inl ⟨by rfl, fun w' hS => by (obtain ⟨s0, s1, s2, s3, s4, s5⟩ := hS; go_simp)⟩) hHeld ?_
        simp only [Act.put, List.getElem_toArray, List.getElem_cons_zero, List.getElem_cons_succ, List.setIfInBounds_toArray, List.set_cons_zero, List.set_cons_succ]
        refine wpAnyH_take (i := 8) (v := .pointer (some ⟨w7.heap.size, 2, none⟩)) rfl (by kernel_rfl) (by kernel_rfl) (by kernel_rfl) (fun _ _ _ h => h) (Or.inl ⟨by rfl, fun w' hS => by go_simp⟩) hHeld ?_
        simp only [Act.put, List.getElem_toArray, List.getElem_cons_zero, List.getElem_cons_succ, List.setIfInBounds_toArray, List.set_cons_zero, List.set_cons_succ]
        refine wpAnyH_take (i := 9) (v := .int .i64 A.own.rev) rfl (by kernel_rfl) (by kernel_rfl) (by kernel_rfl) (fun _ _ _ h => h) (Or.inl ⟨by rfl, fun w' hS => by (obtain ⟨s0, s1, s2, s3, s4, s5⟩ := hS; go_simp)⟩) hHeld ?_
        simp only [Act.put, List.getElem_toArray, List.getElem_cons_zero, List.getElem_cons_succ, List.setIfInBounds_toArray, List.set_cons_zero, List.set_cons_succ]
        refine wpAnyH_take (i := 10) (v := .bool false) rfl (by kernel_rfl) (by kernel_rfl) (by kernel_rfl) (fun _ _ _ h => h) (Or.inl ⟨by rfl, fun w' hS => by (go_simp <;> first | omega | simp_all | (simp; omega))⟩) hHeld ?_
        simp only [Act.put, List.getElem_toArray, List.getElem_cons_zero, List.getElem_cons_succ, List.setIfInBounds_toArray, List.set_cons_zero, List.set_cons_succ]
        refine wpAnyH_take (i := 11) (v := .bool false) rfl (by kernel_rfl) (by kernel_rfl) (by kernel_rfl) (fun _ _ _ h => h) (Or.inl ⟨by rfl, fun w' hS => by go_simp⟩) hHeld ?_
        simp only [Act.put, List.getElem_toArray, List.getElem_cons_zero, List.getElem_cons_succ, List.setIfInBounds_toArray, List.set_cons_zero, List.set_cons_succ]
        refine wpAnyH_take (i := 12) (v := .bool false) rfl (by kernel_rfl) (by kernel_rfl) (by kernel_rfl) (fun _ _ _ h => h) (Or.inl ⟨by rfl, fun w' hS => by go_simp⟩) hHeld ?_
        simp only [Act.put, List.getElem_toArray, List.getElem_cons_zero, List.getElem_cons_succ, List.setIfInBounds_toArray, List.set_cons_zero, List.set_cons_succ]
        refine wpAnyH_take (i := 13) (v := .pointer (some ⟨w5.heap.size, 2, none⟩)) rfl (by kernel_rfl) (by kernel_rfl) (by kernel_rfl) (fun _ _ _ h => h) (Or.inl ⟨by rfl, fun w' hS => by go_simp⟩) hHeld ?_
        simp only [Act.put, List.getElem_toArray, List.getElem_cons_zero, List.getElem_cons_succ, List.setIfInBounds_toArray, List.set_cons_zero, List.set_cons_succ]
        refine wpAnyH_take (i := 14) (v := .int .i64 A'.own.rev) rfl (by kernel_rfl) (by kernel_rfl) (by kernel_rfl) (fun _ _ _ h => h) (Or.inl ⟨by rfl, fun w' hS => by (obtain ⟨s0, s1, s2, s3, s4, s5⟩ := hS; go_simp)⟩) hHeld ?_
        simp only [Act.put, List.getElem_toArray, List.getElem_cons_zero, List.getElem_cons_succ, List.setIfInBounds_toArray, List.set_cons_zero, List.set_cons_succ]
        refine wpAnyH_take (i := 15) (v := .pointer (some ⟨w7.heap.size, 2, none⟩)) rfl (by kernel_rfl) (by kernel_rfl) (by kernel_rfl) (fun _ _ _ h => h) (Or.inl ⟨by rfl, fun w' hS => by go_simp⟩) hHeld ?_
        simp only [Act.put, List.getElem_toArray, List.getElem_cons_zero, List.getElem_cons_succ, List.setIfInBounds_toArray, List.set_cons_zero, List.set_cons_succ]
        refine wpAnyH_take (i := 16) (v := .int .i64 A.own.rev) rfl (by kernel_rfl) (by kernel_rfl) (by kernel_rfl) (fun _ _ _ h => h) (Or.inl ⟨by rfl, fun w' hS => by (obtain ⟨s0, s1, s2, s3, s4, s5⟩ := hS; go_simp)⟩) hHeld ?_
        simp only [Act.put, List.getElem_toArray, List.getElem_cons_zero, List.getElem_cons_succ, List.setIfInBounds_toArray, List.set_cons_zero, List.set_cons_succ]
        refine wpAnyH_take (i := 17) (v := .int .i64 (A.own.rev + 1)) rfl (by kernel_rfl) (by kernel_rfl) (by kernel_rfl) (fun _ _ _ h => h) (Or.inl ⟨by rfl, fun w' hS => by (go_simp <;> first | omega | (rw [wrap_id (by omega) (by omega)]))⟩) hHeld ?_
        simp only [Act.put, List.getElem_toArray, List.getElem_cons_zero, List.getElem_cons_succ, List.setIfInBounds_toArray, List.set_cons_zero, List.set_cons_succ]
        refine wpAnyH_take (i := 18) (v := .bool false) rfl (by kernel_rfl) (by kernel_rfl) (by kernel_rfl) (fun _ _ _ h => h) (Or.inl ⟨by rfl, fun w' hS => by (go_simp <;> first | omega | simp_all | (simp; omega))⟩) hHeld ?_
        simp only [Act.put, List.getElem_toArray, List.getElem_cons_zero, List.getElem_cons_succ, List.setIfInBounds_toArray, List.set_cons_zero, List.set_cons_succ]
        refine wpAnyH_take (i := 19) (v := .bool false) rfl (by kernel_rfl) (by kernel_rfl) (by kernel_rfl) (fun _ _ _ h => h) (Or.inl ⟨by rfl, fun w' hS => by go_simp⟩) hHeld ?_
        simp only [Act.put, List.getElem_toArray, List.getElem_cons_zero, List.getElem_cons_succ, List.setIfInBounds_toArray, List.set_cons_zero, List.set_cons_succ]
        refine wpAnyH_take (i := 20) (v := .bool false) rfl (by kernel_rfl) (by kernel_rfl) (by kernel_rfl) (fun _ _ _ h => h) (Or.inl ⟨by rfl, fun w' hS => by go_simp⟩) hHeld ?_
        simp only [Act.put, List.getElem_toArray, List.getElem_cons_zero, List.getElem_cons_succ, List.setIfInBounds_toArray, List.set_cons_zero, List.set_cons_succ]
        refine wpAnyH_take (i := 21) (v := .pointer (some ⟨w5.heap.size, 2, none⟩)) rfl (by kernel_rfl) (by kernel_rfl) (by kernel_rfl) (fun _ _ _ h => h) (Or.inl ⟨by rfl, fun w' hS => by go_simp⟩) hHeld ?_
        simp only [Act.put, List.getElem_toArray, List.getElem_cons_zero, List.getElem_cons_succ, List.setIfInBounds_toArray, List.set_cons_zero, List.set_cons_succ]
        refine wpAnyH_take (i := 22) (v := .int .i64 A'.own.rev) rfl (by kernel_rfl) (by kernel_rfl) (by kernel_rfl) (fun _ _ _ h => h) (Or.inl ⟨by rfl, fun w' hS => by (obtain ⟨s0, s1, s2, s3, s4, s5⟩ := hS; go_simp)⟩) hHeld ?_
        simp only [Act.put, List.getElem_toArray, List.getElem_cons_zero, List.getElem_cons_succ, List.setIfInBounds_toArray, List.set_cons_zero, List.set_cons_succ]
        refine wpAnyH_take (i := 23) (v := .pointer (some ⟨w7.heap.size, 2, none⟩)) rfl (by kernel_rfl) (by kernel_rfl) (by kernel_rfl) (fun _ _ _ h => h) (Or.inl ⟨by rfl, fun w' hS => by go_simp⟩) hHeld ?_
        simp only [Act.put, List.getElem_toArray, List.getElem_cons_zero, List.getElem_cons_succ, List.setIfInBounds_toArray, List.set_cons_zero, List.set_cons_succ]
        refine wpAnyH_take (i := 24) (v := .int .i64 A.own.rev) rfl (by kernel_rfl) (by kernel_rfl) (by kernel_rfl) (fun _ _ _ h => h) (Or.inl ⟨by rfl, fun w' hS => by (obtain ⟨s0, s1, s2, s3, s4, s5⟩ := hS; go_simp)⟩) hHeld ?_
        simp only [Act.put, List.getElem_toArray, List.getElem_cons_zero, List.getElem_cons_succ, List.setIfInBounds_toArray, List.set_cons_zero, List.set_cons_succ]
        refine wpAnyH_take (i := 25) (v := .bool bb) rfl (by kernel_rfl) (by kernel_rfl) (by kernel_rfl) (fun _ _ _ h => h) (Or.inl ⟨by rfl, fun w' hS => by (go_simp <;> first | exact Hq4.out | simpa using Hq4.out)⟩) hHeld ?_
        simp only [Act.put, List.getElem_toArray, List.getElem_cons_zero, List.getElem_cons_succ, List.setIfInBounds_toArray, List.set_cons_zero, List.set_cons_succ]
        refine wpAnyH_take (i := 26) (v := .agg ([.slice (some ⟨g1, 0, none⟩) n n, .int .i64 A.own.cid, .int .i64 A.own.rev, .int .i64 A.own.top, .int .i64 (A.own.prev[0]?.getD 0), .int .i64 (A.own.prev[1]?.getD 0), .int .i64 (A.own.prev[2]?.getD 0), .int .i64 (A.own.prev[3]?.getD 0), .slice (some ⟨g2, 0, none⟩) n n]).toArray) rfl (by kernel_rfl) (by kernel_rfl) (by kernel_rfl) (fun _ _ _ h => h) (yieldsIf_load_mid (by rfl) 41 (.tmp 8) rfl w7.heap.size (0) (by rfl) ([.slice (some ⟨g1, 0, none⟩) n n, .int .i64 A.own.cid, .int .i64 A.own.rev, .int .i64 A.own.top, .int .i64 (A.own.prev[0]?.getD 0), .int .i64 (A.own.prev[1]?.getD 0), .int .i64 (A.own.prev[2]?.getD 0), .int .i64 (A.own.prev[3]?.getD 0), .slice (some ⟨g2, 0, none⟩) n n]) _ (fun w' hS => hS.2.2.2.2.1) Try.underlying41 rfl info_propose) hHeld ?_
        simp only [Act.put, List.getElem_toArray, List.getElem_cons_zero, List.getElem_cons_succ, List.setIfInBounds_toArray, List.set_cons_zero, List.set_cons_succ]
        refine wpAnyH_take (i := 27) (v := .agg ([.slice (some ⟨g3, 0, none⟩) n n, .int .i64 A'.own.cid, .int .i64 A.own.rev, .int .i64 A'.own.top, .int .i64 (A'.own.prev[0]?.getD 0), .int .i64 (A'.own.prev[1]?.getD 0), .int .i64 (A'.own.prev[2]?.getD 0), .int .i64 (A'.own.prev[3]?.getD 0), .slice (some ⟨g4, 0, none⟩) n n]).toArray) rfl (by kernel_rfl) (by kernel_rfl) (by kernel_rfl) (fun _ _ _ h => h) (yieldsIf_load_mid (by rfl) 41 (.tmp 16) rfl X15.heap.size (0) (by rfl) ([.slice (some ⟨g3, 0, none⟩) n n, .int .i64 A'.own.cid, .int .i64 A.own.rev, .int .i64 A'.own.top, .int .i64 (A'.own.prev[0]?.getD 0), .int .i64 (A'.own.prev[1]?.getD 0), .int .i64 (A'.own.prev[2]?.getD 0), .int .i64 (A'.own.prev[3]?.getD 0), .slice (some ⟨g4, 0, none⟩) n n]) _ (fun w' hS => hS.2.2.2.2.2) Try.underlying41 rfl info_propose) hHeld ?_
        simp only [Act.put, List.getElem_toArray, List.getElem_cons_zero, List.getElem_cons_succ, List.setIfInBounds_toArray, List.set_cons_zero, List.set_cons_succ]
        refine wpAnyH_ready (rs := [28]) (by kernel_rfl) (by simp) ?_
        refine AllReadyH.cons rfl (fun K hK => ?_) AllReadyH.nil
        go_simp
        refine (HPr.out).mono ?_
        rintro e w6 ⟨rfl, hb6⟩
        have HB6 : Hid (Below X17.heap.size X17 w6) := bstep (Below.refl _ _).drew hb6
        refine hK.out _ _ ⟨below_at hb6 d0, below_at hb6 d1, below_at hb6 d2, below_at hb6 d3, rng_below D4.out hb6, rng_below D5.out hb6⟩ (fun hHeld => ?_)
        clear hK K
        refine wpAnyH_take (i := 29) (v := .bool false) rfl (by kernel_rfl) (by kernel_rfl) (by kernel_rfl) (fun _ _ _ h => h) (Or.inl ⟨by rfl, fun w' hS => by (go_simp <;> simp)⟩) hHeld ?_
        simp only [Act.put, List.getElem_toArray, List.getElem_cons_zero, List.getElem_cons_succ, List.setIfInBounds_toArray, List.set_cons_zero, List.set_cons_succ]
        refine wpAnyH_take (i := 30) (v := .bool false) rfl (by kernel_rfl) (by kernel_rfl) (by kernel_rfl) (fun _ _ _ h => h) (Or.inl ⟨by rfl, fun w' hS => by go_simp⟩) hHeld ?_
        simp only [Act.put, List.getElem_toArray, List.getElem_cons_zero, List.getElem_cons_succ, List.setIfInBounds_toArray, List.set_cons_zero, List.set_cons_succ]
        refine wpAnyH_done (by kernel_rfl) ?_ _
        clear hHeld
        clear d0 d1 d2 d3 D4 D5 HPr
        have HT6 : Hid (Tst w6 b n s inc w.heap.size w3.heap.size w7.heap.size #[.int .i64 (n : Int), .int .i64 (s : Int), .int .i64 inc, .int .i64 fl, .slice oa on oc] A A' g1 g2 gv cv i0 i1 i2 i3) := HT17.out.still HB6.out
        have hk6 : w6.heap[w5.heap.size]? = some (.cells [.slice (some ⟨g3, 0, none⟩) n n, .int .i64 A'.own.cid, .int .i64 A'.own.rev, .int .i64 A'.own.top, .int .i64 (A'.own.prev[0]?.getD 0), .int .i64 (A'.own.prev[1]?.getD 0), .int .i64 (A'.own.prev[2]?.getD 0), .int .i64 (A'.own.prev[3]?.getD 0), .slice (some ⟨g4, 0, none⟩) n n].toArray 41 (0, 0)) := (HB6.out.block _ (lt_heap Hk15.out)).trans Hk15.out
        have Hr36 : Hid (Rw w6 g3 3 (A'.own.set.take n)) := Hr3.out.still HB6.out
        have Hr46 : Hid (Rw w6 g4 3 (A'.own.vec.take n)) := Hr4.out.still HB6.out
        have hsn := H16.out
        have a0 : w6.drew.cell? ⟨w5.heap.size, 0, none⟩ = some (.slice (some ⟨g3, 0, none⟩) n n) := blk_cell (show w6.drew.heap[w5.heap.size]? = _ from hk6) 0
        have a1 : w6.drew.cell? ⟨w5.heap.size, 8, none⟩ = some (.slice (some ⟨g4, 0, none⟩) n n) := blk_cell (show w6.drew.heap[w5.heap.size]? = _ from hk6) 8
        have a2 : w6.drew.cell? ⟨w5.heap.size, 1, none⟩ = some (.int .i64 A'.own.cid) := blk_cell (show w6.drew.heap[w5.heap.size]? = _ from hk6) 1
        have a3 : w6.drew.cell? ⟨w.heap.size, 0, none⟩ = some (.int .i64 (n : Int)) := blk_cell (show w6.drew.heap[w.heap.size]? = _ from HT6.out.m1) 0
        have a4 : w6.drew.cell? ⟨w.heap.size, 1, none⟩ = some (.int .i64 (s : Int)) := blk_cell (show w6.drew.heap[w.heap.size]? = _ from HT6.out.m1) 1
        have a5 : w6.drew.cell? ⟨w.heap.size, 2, none⟩ = some (.int .i64 inc) := blk_cell (show w6.drew.heap[w.heap.size]? = _ from HT6.out.m1) 2
        have a6 : w6.drew.cell? ⟨g3, s, none⟩ = some (.int .i64 inc) := by
          have h := Hr36.out.cell (i := s) (by rw [List.length_take, HT6.out.gd.iv.ol.ls]; omega)
          have e : (A'.own.set.take n).getD s 0 = inc := by
            have h2 := HT6.out.gd.iv.set
            rw [HT6.out.gd.self] at h2
            simpa [List.getD, List.getElem?_take, hsn.2.2] using h2
          rw [e] at h
          exact below_at (Below.refl _ _).drew h
        have a7 : w6.drew.cell? ⟨g4, s, none⟩ = some (.int .i64 A'.own.cid) := by
          have h := Hr46.out.cell (i := s) (by rw [List.length_take, HT6.out.gd.iv.ol.lv]; omega)
          have e : (A'.own.vec.take n).getD s 0 = A'.own.cid := by
            have h2 := HT6.out.gd.iv.vec
            rw [HT6.out.gd.self] at h2
            simpa [List.getD, List.getElem?_take, hsn.2.2] using h2
          rw [e] at h
          exact below_at (Below.refl _ _).drew h
        have Hk6 : Hid (w6.heap[w5.heap.size]? = some (.cells [.slice (some ⟨g3, 0, none⟩) n n, .int .i64 A'.own.cid, .int .i64 A'.own.rev, .int .i64 A'.own.top, .int .i64 (A'.own.prev[0]?.getD 0), .int .i64 (A'.own.prev[1]?.getD 0), .int .i64 (A'.own.prev[2]?.getD 0), .int .i64 (A'.own.prev[3]?.getD 0), .slice (some ⟨g4, 0, none⟩) n n].toArray 41 (0, 0))) := hk6
        have Hl6 : Hid (Below w.heap.size w w6) := bstep HlX17.out HB6.out
        have jj1 : (0 : Int) ≤ (s : Int) := Int.natCast_nonneg _
        have jj2 : (s : Int) < (n : Int) := by omega
        clear hk6 hsn
        go_wp2
        refine wp_region_held_drew (S := (fun w' => w'.cell? ⟨w5.heap.size, 0, none⟩ = some (.slice (some ⟨g3, 0, none⟩) n n) ∧ w'.cell? ⟨w5.heap.size, 8, none⟩ = some (.slice (some ⟨g4, 0, none⟩) n n) ∧ w'.cell? ⟨w5.heap.size, 1, none⟩ = some (.int .i64 A'.own.cid) ∧ w'.cell? ⟨w.heap.size, 0, none⟩ = some (.int .i64 (n : Int)) ∧ w'.cell? ⟨w.heap.size, 1, none⟩ = some (.int .i64 (s : Int)) ∧ w'.cell? ⟨w.heap.size, 2, none⟩ = some (.int .i64 inc) ∧ w'.cell? ⟨g3, s, none⟩ = some (.int .i64 inc) ∧ w'.cell? ⟨g4, s, none⟩ = some (.int .i64 A'.own.cid))) (by kernel_rfl) ⟨a0, a1, a2, a3, a4, a5, a6, a7⟩ (fun hHeld => ?_)
        simp only [Act.put, List.size_toArray, List.length_cons, List.length_nil, Nat.zero_add]
        refine wpAnyH_take (i := 0) (v := .pointer (some ⟨w5.heap.size, 0, none⟩)) rfl (by kernel_rfl) (by kernel_rfl) (by kernel_rfl) (fun _ _ _ h => h) (Or.inl ⟨by rfl, fun w' hS => by go_simp⟩) hHeld ?_
        simp only [Act.put, List.getElem_toArray, List.getElem_cons_zero, List.getElem_cons_succ, List.setIfInBounds_toArray, List.set_cons_zero, List.set_cons_succ]
        refine wpAnyH_take (i := 1) (v := .slice (some ⟨g3, 0, none⟩) n n) rfl (by kernel_rfl) (by kernel_rfl) (by kernel_rfl) (fun _ _ _ h => h) (Or.inl ⟨by rfl, fun w' hS => by (obtain ⟨s0, s1, s2, s3, s4, s5, s6, s7⟩ := hS; go_simp)⟩) hHeld ?_
        simp only [Act.put, List.getElem_toArray, List.getElem_cons_zero, List.getElem_cons_succ, List.setIfInBounds_toArray, List.set_cons_zero, List.set_cons_succ]
        refine wpAnyH_take (i := 2) (v := .int .i64 (n : Int)) rfl (by kernel_rfl) (by kernel_rfl) (by kernel_rfl) (fun _ _ _ h => h) (Or.inl ⟨by rfl, fun w' hS => by go_simp⟩) hHeld ?_
        simp only [Act.put, List.getElem_toArray, List.getElem_cons_zero, List.getElem_cons_succ, List.setIfInBounds_toArray, List.set_cons_zero, List.set_cons_succ]
        refine wpAnyH_take (i := 3) (v := .pointer (some ⟨w.heap.size, 0, none⟩)) rfl (by kernel_rfl) (by kernel_rfl) (by kernel_rfl) (fun _ _ _ h => h) (Or.inl ⟨by rfl, fun w' hS => by go_simp⟩) hHeld ?_
        simp only [Act.put, List.getElem_toArray, List.getElem_cons_zero, List.getElem_cons_succ, List.setIfInBounds_toArray, List.set_cons_zero, List.set_cons_succ]
        refine wpAnyH_take (i := 4) (v := .int .i64 (n : Int)) rfl (by kernel_rfl) (by kernel_rfl) (by kernel_rfl) (fun _ _ _ h => h) (Or.inl ⟨by rfl, fun w' hS => by (obtain ⟨s0, s1, s2, s3, s4, s5, s6, s7⟩ := hS; go_simp)⟩) hHeld ?_
        simp only [Act.put, List.getElem_toArray, List.getElem_cons_zero, List.getElem_cons_succ, List.setIfInBounds_toArray, List.set_cons_zero, List.set_cons_succ]
        refine wpAnyH_take (i := 5) (v := .bool false) rfl (by kernel_rfl) (by kernel_rfl) (by kernel_rfl) (fun _ _ _ h => h) (Or.inl ⟨by rfl, fun w' hS => by go_simp⟩) hHeld ?_
        simp only [Act.put, List.getElem_toArray, List.getElem_cons_zero, List.getElem_cons_succ, List.setIfInBounds_toArray, List.set_cons_zero, List.set_cons_succ]
        refine wpAnyH_take (i := 6) (v := .bool false) rfl (by kernel_rfl) (by kernel_rfl) (by kernel_rfl) (fun _ _ _ h => h) (Or.inl ⟨by rfl, fun w' hS => by go_simp⟩) hHeld ?_
        simp only [Act.put, List.getElem_toArray, List.getElem_cons_zero, List.getElem_cons_succ, List.setIfInBounds_toArray, List.set_cons_zero, List.set_cons_succ]
        refine wpAnyH_take (i := 7) (v := .pointer (some ⟨w5.heap.size, 8, none⟩)) rfl (by kernel_rfl) (by kernel_rfl) (by kernel_rfl) (fun _ _ _ h => h) (Or.inl ⟨by rfl, fun w' hS => by go_simp⟩) hHeld ?_
        simp only [Act.put, List.getElem_toArray, List.getElem_cons_zero, List.getElem_cons_succ, List.setIfInBounds_toArray, List.set_cons_zero, List.set_cons_succ]
        refine wpAnyH_take (i := 8) (v := .slice (some ⟨g4, 0, none⟩) n n) rfl (by kernel_rfl) (by kernel_rfl) (by kernel_rfl) (fun _ _ _ h => h) (Or.inl ⟨by rfl, fun w' hS => by (obtain ⟨s0, s1, s2, s3, s4, s5, s6, s7⟩ := hS; go_simp)⟩) hHeld ?_
        simp only [Act.put, List.getElem_toArray, List.getElem_cons_zero, List.getElem_cons_succ, List.setIfInBounds_toArray, List.set_cons_zero, List.set_cons_succ]
        refine wpAnyH_take (i := 9) (v := .int .i64 (n : Int)) rfl (by kernel_rfl) (by kernel_rfl) (by kernel_rfl) (fun _ _ _ h => h) (Or.inl ⟨by rfl, fun w' hS => by go_simp⟩) hHeld ?_
        simp only [Act.put, List.getElem_toArray, List.getElem_cons_zero, List.getElem_cons_succ, List.setIfInBounds_toArray, List.set_cons_zero, List.set_cons_succ]
        refine wpAnyH_take (i := 10) (v := .pointer (some ⟨w.heap.size, 0, none⟩)) rfl (by kernel_rfl) (by kernel_rfl) (by kernel_rfl) (fun _ _ _ h => h) (Or.inl ⟨by rfl, fun w' hS => by go_simp⟩) hHeld ?_
        simp only [Act.put, List.getElem_toArray, List.getElem_cons_zero, List.getElem_cons_succ, List.setIfInBounds_toArray, List.set_cons_zero, List.set_cons_succ]
        refine wpAnyH_take (i := 11) (v := .int .i64 (n : Int)) rfl (by kernel_rfl) (by kernel_rfl) (by kernel_rfl) (fun _ _ _ h => h) (Or.inl ⟨by rfl, fun w' hS => by (obtain ⟨s0, s1, s2, s3, s4, s5, s6, s7⟩ := hS; go_simp)⟩) hHeld ?_
        simp only [Act.put, List.getElem_toArray, List.getElem_cons_zero, List.getElem_cons_succ, List.setIfInBounds_toArray, List.set_cons_zero, List.set_cons_succ]
        refine wpAnyH_take (i := 12) (v := .bool false) rfl (by kernel_rfl) (by kernel_rfl) (by kernel_rfl) (fun _ _ _ h => h) (Or.inl ⟨by rfl, fun w' hS => by go_simp⟩) hHeld ?_
        simp only [Act.put, List.getElem_toArray, List.getElem_cons_zero, List.getElem_cons_succ, List.setIfInBounds_toArray, List.set_cons_zero, List.set_cons_succ]
        refine wpAnyH_take (i := 13) (v := .bool false) rfl (by kernel_rfl) (by kernel_rfl) (by kernel_rfl) (fun _ _ _ h => h) (Or.inl ⟨by rfl, fun w' hS => by go_simp⟩) hHeld ?_
        simp only [Act.put, List.getElem_toArray, List.getElem_cons_zero, List.getElem_cons_succ, List.setIfInBounds_toArray, List.set_cons_zero, List.set_cons_succ]
        refine wpAnyH_take (i := 14) (v := .bool false) rfl (by kernel_rfl) (by kernel_rfl) (by kernel_rfl) (fun _ _ _ h => h) (Or.inl ⟨by rfl, fun w' hS => by go_simp⟩) hHeld ?_
        simp only [Act.put, List.getElem_toArray, List.getElem_cons_zero, List.getElem_cons_succ, List.setIfInBounds_toArray, List.set_cons_zero, List.set_cons_succ]
        refine wpAnyH_take (i := 15) (v := .pointer (some ⟨w5.heap.size, 0, none⟩)) rfl (by kernel_rfl) (by kernel_rfl) (by kernel_rfl) (fun _ _ _ h => h) (Or.inl ⟨by rfl, fun w' hS => by go_simp⟩) hHeld ?_
        simp only [Act.put, List.getElem_toArray, List.getElem_cons_zero, List.getElem_cons_succ, List.setIfInBounds_toArray, List.set_cons_zero, List.set_cons_succ]
        refine wpAnyH_take (i := 16) (v := .slice (some ⟨g3, 0, none⟩) n n) rfl (by kernel_rfl) (by kernel_rfl) (by kernel_rfl) (fun _ _ _ h => h) (Or.inl ⟨by rfl, fun w' hS => by (obtain ⟨s0, s1, s2, s3, s4, s5, s6, s7⟩ := hS; go_simp)⟩) hHeld ?_
        simp only [Act.put, List.getElem_toArray, List.getElem_cons_zero, List.getElem_cons_succ, List.setIfInBounds_toArray, List.set_cons_zero, List.set_cons_succ]
        refine wpAnyH_take (i := 17) (v := .pointer (some ⟨w.heap.size, 1, none⟩)) rfl (by kernel_rfl) (by kernel_rfl) (by kernel_rfl) (fun _ _ _ h => h) (Or.inl ⟨by rfl, fun w' hS => by go_simp⟩) hHeld ?_
        simp only [Act.put, List.getElem_toArray, List.getElem_cons_zero, List.getElem_cons_succ, List.setIfInBounds_toArray, List.set_cons_zero, List.set_cons_succ]
        refine wpAnyH_take (i := 18) (v := .int .i64 (s : Int)) rfl (by kernel_rfl) (by kernel_rfl) (by kernel_rfl) (fun _ _ _ h => h) (Or.inl ⟨by rfl, fun w' hS => by (obtain ⟨s0, s1, s2, s3, s4, s5, s6, s7⟩ := hS; go_simp)⟩) hHeld ?_
        simp only [Act.put, List.getElem_toArray, List.getElem_cons_zero, List.getElem_cons_succ, List.setIfInBounds_toArray, List.set_cons_zero, List.set_cons_succ]
        refine wpAnyH_take (i := 19) (v := .pointer (some ⟨g3, s, none⟩)) rfl (by kernel_rfl) (by kernel_rfl) (by kernel_rfl) (fun _ _ _ h => h) (Or.inl ⟨by rfl, fun w' hS => by (go_simp <;> first | omega | simp_all | (simp; omega))⟩) hHeld ?_
        simp only [Act.put, List.getElem_toArray, List.getElem_cons_zero, List.getElem_cons_succ, List.setIfInBounds_toArray, List.set_cons_zero, List.set_cons_succ]
        refine wpAnyH_take (i := 20) (v := .int .i64 inc) rfl (by kernel_rfl) (by kernel_rfl) (by kernel_rfl) (fun _ _ _ h => h) (Or.inl ⟨by rfl, fun w' hS => by (obtain ⟨s0, s1, s2, s3, s4, s5, s6, s7⟩ := hS; go_simp)⟩) hHeld ?_
        simp only [Act.put, List.getElem_toArray, List.getElem_cons_zero, List.getElem_cons_succ, List.setIfInBounds_toArray, List.set_cons_zero, List.set_cons_succ]
        refine wpAnyH_take (i := 21) (v := .pointer (some ⟨w.heap.size, 2, none⟩)) rfl (by kernel_rfl) (by kernel_rfl) (by kernel_rfl) (fun _ _ _ h => h) (Or.inl ⟨by rfl, fun w' hS => by go_simp⟩) hHeld ?_
        simp only [Act.put, List.getElem_toArray, List.getElem_cons_zero, List.getElem_cons_succ, List.setIfInBounds_toArray, List.set_cons_zero, List.set_cons_succ]
        refine wpAnyH_take (i := 22) (v := .int .i64 inc) rfl (by kernel_rfl) (by kernel_rfl) (by kernel_rfl) (fun _ _ _ h => h) (Or.inl ⟨by rfl, fun w' hS => by (obtain ⟨s0, s1, s2, s3, s4, s5, s6, s7⟩ := hS; go_simp)⟩) hHeld ?_
        simp only [Act.put, List.getElem_toArray, List.getElem_cons_zero, List.getElem_cons_succ, List.setIfInBounds_toArray, List.set_cons_zero, List.set_cons_succ]
        refine wpAnyH_take (i := 23) (v := .bool false) rfl (by kernel_rfl) (by kernel_rfl) (by kernel_rfl) (fun _ _ _ h => h) (Or.inl ⟨by rfl, fun w' hS => by go_simp⟩) hHeld ?_
        simp only [Act.put, List.getElem_toArray, List.getElem_cons_zero, List.getElem_cons_succ, List.setIfInBounds_toArray, List.set_cons_zero, List.set_cons_succ]
        refine wpAnyH_take (i := 24) (v := .bool false) rfl (by kernel_rfl) (by kernel_rfl) (by kernel_rfl) (fun _ _ _ h => h) (Or.inl ⟨by rfl, fun w' hS => by go_simp⟩) hHeld ?_
        simp only [Act.put, List.getElem_toArray, List.getElem_cons_zero, List.getElem_cons_succ, List.setIfInBounds_toArray, List.set_cons_zero, List.set_cons_succ]
        refine wpAnyH_take (i := 25) (v := .bool false) rfl (by kernel_rfl) (by kernel_rfl) (by kernel_rfl) (fun _ _ _ h => h) (Or.inl ⟨by rfl, fun w' hS => by go_simp⟩) hHeld ?_
        simp only [Act.put, List.getElem_toArray, List.getElem_cons_zero, List.getElem_cons_succ, List.setIfInBounds_toArray, List.set_cons_zero, List.set_cons_succ]
        refine wpAnyH_take (i := 26) (v := .pointer (some ⟨w5.heap.size, 8, none⟩)) rfl (by kernel_rfl) (by kernel_rfl) (by kernel_rfl) (fun _ _ _ h => h) (Or.inl ⟨by rfl, fun w' hS => by go_simp⟩) hHeld ?_
        simp only [Act.put, List.getElem_toArray, List.getElem_cons_zero, List.getElem_cons_succ, List.setIfInBounds_toArray, List.set_cons_zero, List.set_cons_succ]
        refine wpAnyH_take (i := 27) (v := .slice (some ⟨g4, 0, none⟩) n n) rfl (by kernel_rfl) (by kernel_rfl) (by kernel_rfl) (fun _ _ _ h => h) (Or.inl ⟨by rfl, fun w' hS => by (obtain ⟨s0, s1, s2, s3, s4, s5, s6, s7⟩ := hS; go_simp)⟩) hHeld ?_
        simp only [Act.put, List.getElem_toArray, List.getElem_cons_zero, List.getElem_cons_succ, List.setIfInBounds_toArray, List.set_cons_zero, List.set_cons_succ]
        refine wpAnyH_take (i := 28) (v := .pointer (some ⟨w.heap.size, 1, none⟩)) rfl (by kernel_rfl) (by kernel_rfl) (by kernel_rfl) (fun _ _ _ h => h) (Or.inl ⟨by rfl, fun w' hS => by go_simp⟩) hHeld ?_
        simp only [Act.put, List.getElem_toArray, List.getElem_cons_zero, List.getElem_cons_succ, List.setIfInBounds_toArray, List.set_cons_zero, List.set_cons_succ]
        refine wpAnyH_take (i := 29) (v := .int .i64 (s : Int)) rfl (by kernel_rfl) (by kernel_rfl) (by kernel_rfl) (fun _ _ _ h => h) (Or.inl ⟨by rfl, fun w' hS => by (obtain ⟨s0, s1, s2, s3, s4, s5, s6, s7⟩ := hS; go_simp)⟩) hHeld ?_
        simp only [Act.put, List.getElem_toArray, List.getElem_cons_zero, List.getElem_cons_succ, List.setIfInBounds_toArray, List.set_cons_zero, List.set_cons_succ]
        refine wpAnyH_take (i := 30) (v := .pointer (some ⟨g4, s, none⟩)) rfl (by kernel_rfl) (by kernel_rfl) (by kernel_rfl) (fun _ _ _ h => h) (Or.inl ⟨by rfl, fun w' hS => by (go_simp <;> first | omega | simp_all | (simp; omega))⟩) hHeld ?_
        simp only [Act.put, List.getElem_toArray, List.getElem_cons_zero, List.getElem_cons_succ, List.setIfInBounds_toArray, List.set_cons_zero, List.set_cons_succ]
        refine wpAnyH_take (i := 31) (v := .int .i64 A'.own.cid) rfl (by kernel_rfl) (by kernel_rfl) (by kernel_rfl) (fun _ _ _ h => h) (Or.inl ⟨by rfl, fun w' hS => by (obtain ⟨s0, s1, s2, s3, s4, s5, s6, s7⟩ := hS; go_simp)⟩) hHeld ?_
        simp only [Act.put, List.getElem_toArray, List.getElem_cons_zero, List.getElem_cons_succ, List.setIfInBounds_toArray, List.set_cons_zero, List.set_cons_succ]
        refine wpAnyH_take (i := 32) (v := .pointer (some ⟨w5.heap.size, 1, none⟩)) rfl (by kernel_rfl) (by kernel_rfl) (by kernel_rfl) (fun _ _ _ h => h) (Or.inl ⟨by rfl, fun w' hS => by go_simp⟩) hHeld ?_
        simp only [Act.put, List.getElem_toArray, List.getElem_cons_zero, List.getElem_cons_succ, List.setIfInBounds_toArray, List.set_cons_zero, List.set_cons_succ]
        refine wpAnyH_take (i := 33) (v := .int .i64 A'.own.cid) rfl (by kernel_rfl) (by kernel_rfl) (by kernel_rfl) (fun _ _ _ h => h) (Or.inl ⟨by rfl, fun w' hS => by (obtain ⟨s0, s1, s2, s3, s4, s5, s6, s7⟩ := hS; go_simp)⟩) hHeld ?_
        simp only [Act.put, List.getElem_toArray, List.getElem_cons_zero, List.getElem_cons_succ, List.setIfInBounds_toArray, List.set_cons_zero, List.set_cons_succ]
        refine wpAnyH_take (i := 34) (v := .bool false) rfl (by kernel_rfl) (by kernel_rfl) (by kernel_rfl) (fun _ _ _ h => h) (Or.inl ⟨by rfl, fun w' hS => by go_simp⟩) hHeld ?_
        simp only [Act.put, List.getElem_toArray, List.getElem_cons_zero, List.getElem_cons_succ, List.setIfInBounds_toArray, List.set_cons_zero, List.set_cons_succ]
        refine wpAnyH_take (i := 35) (v := .bool false) rfl (by kernel_rfl) (by kernel_rfl) (by kernel_rfl) (fun _ _ _ h => h) (Or.inl ⟨by rfl, fun w' hS => by go_simp⟩) hHeld ?_
        simp only [Act.put, List.getElem_toArray, List.getElem_cons_zero, List.getElem_cons_succ, List.setIfInBounds_toArray, List.set_cons_zero, List.set_cons_succ]
        refine wpAnyH_done (by kernel_rfl) ?_ _
        clear hHeld
        clear a0 a1 a2 a3 a4 a5 a6 a7
        have R6 : Hid (w6.drew.rangeAt w5.heap.size 0 [.slice (some ⟨g3, 0, none⟩) n n, .int .i64 A'.own.cid, .int .i64 A'.own.rev, .int .i64 A'.own.top, .int .i64 (A'.own.prev[0]?.getD 0), .int .i64 (A'.own.prev[1]?.getD 0), .int .i64 (A'.own.prev[2]?.getD 0), .int .i64 (A'.own.prev[3]?.getD 0), .slice (some ⟨g4, 0, none⟩) n n]) := rng_below (blk_range Hk6.out) (Below.refl _ _).drew
        have Th : Hid (w6.drew.there w7.heap.size 0 9) := blk_there (show w6.drew.heap[w7.heap.size]? = _ from HT6.out.m8) rfl
        have HTd : Hid (Tst w6.drew b n s inc w.heap.size w3.heap.size w7.heap.size #[.int .i64 (n : Int), .int .i64 (s : Int), .int .i64 inc, .int .i64 fl, .slice oa on oc] A A' g1 g2 gv cv i0 i1 i2 i3) := HT6.out.still (Below.refl _ _).drew
        have HF : Hid (∃ (k_1 : Nat) (Ax : Ag) (x1 x2 x3 x4 : Nat) (xx0 xx1 xx2 xx3 : Int), k_1 ≤ on ∧ Value.int .i64 ((k : Int) + 1) = .int .i64 (k_1 : Int) ∧ Tst (w6.drew.setCells w7.heap.size 0 [.slice (some ⟨g3, 0, none⟩) n n, .int .i64 A'.own.cid, .int .i64 A'.own.rev, .int .i64 A'.own.top, .int .i64 (A'.own.prev[0]?.getD 0), .int .i64 (A'.own.prev[1]?.getD 0), .int .i64 (A'.own.prev[2]?.getD 0), .int .i64 (A'.own.prev[3]?.getD 0), .slice (some ⟨g4, 0, none⟩) n n]) b n s inc w.heap.size w3.heap.size w7.heap.size #[.int .i64 (n : Int), .int .i64 (s : Int), .int .i64 inc, .int .i64 fl, .slice oa on oc] Ax Ax x1 x2 x3 x4 xx0 xx1 xx2 xx3 ∧ Below w.heap.size w (w6.drew.setCells w7.heap.size 0 [.slice (some ⟨g3, 0, none⟩) n n, .int .i64 A'.own.cid, .int .i64 A'.own.rev, .int .i64 A'.own.top, .int .i64 (A'.own.prev[0]?.getD 0), .int .i64 (A'.own.prev[1]?.getD 0), .int .i64 (A'.own.prev[2]?.getD 0), .int .i64 (A'.own.prev[3]?.getD 0), .slice (some ⟨g4, 0, none⟩) n n])) := ⟨k + 1, A', g3, g4, gv, cv, i0, i1, i2, i3, by omega, by simp, HTd.out.next (Hr36.out.still (Below.refl _ _).drew) (Hr46.out.still (Below.refl _ _).drew), bsets (by omega) _ 0 (bstep Hl6.out (Below.refl _ _).drew)⟩
        generalize hWF : w6.drew.setCells w7.heap.size 0 [.slice (some ⟨g3, 0, none⟩) n n, .int .i64 A'.own.cid, .int .i64 A'.own.rev, .int .i64 A'.own.top, .int .i64 (A'.own.prev[0]?.getD 0), .int .i64 (A'.own.prev[1]?.getD 0), .int .i64 (A'.own.prev[2]?.getD 0), .int .i64 (A'.own.prev[3]?.getD 0), .slice (some ⟨g4, 0, none⟩) n n] = WF at HF
        go_wp2_with (first
          | (refine load_mid 41 (.tmp 15) R6.out _ Try.underlying41 rfl (by kernel_rfl) rfl rfl rfl ?_)
          | (refine store_rowL 41 (.tmp 8) (.tmp 219) (L := [.slice (some ⟨g3, 0, none⟩) n n, .int .i64 A'.own.cid, .int .i64 A'.own.rev, .int .i64 A'.own.top, .int .i64 (A'.own.prev[0]?.getD 0), .int .i64 (A'.own.prev[1]?.getD 0), .int .i64 (A'.own.prev[2]?.getD 0), .int .i64 (A'.own.prev[3]?.getD 0), .slice (some ⟨g4, 0, none⟩) n n]) Th.out info_propose (by simp [Value.oneCell']) rfl rfl rfl rfl ?_; rw [hWF])
          | fail)
        first
          | exact ⟨HF.out, by simp [intOf]; omega⟩
          | (go_roundw
             case rel => exact HF.out
             case measure => simp [intOf]; omega)
    · obtain rfl : k = on := by omega
      have j2 : decide ((k : Int) < (k : Int)) = false := decide_eq_false (by omega)
      have Hlw : Hid (Below w.heap.size w wr) := hlw
      clear hR hlw
      go_wp2
      go_ret
      exact ⟨rfl, Hlw.out⟩
end
end Go.Proofs.Ytbdefhagpgpoiaa.Mb
