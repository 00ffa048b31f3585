import Derived.Test.YtcieinejjkddfabPg2
namespace Go.Proofs.Ytcieinejjkddfab.Qm
open Go.RowKit Mb
set_option linter.unusedVariables false
set_option maxRecDepth 100000
set_option linter.unusedSimpArgs false
section
variable {w w' : World} {B : Nat} {R : Rq}
theorem laI_len (R : Rq) : ∀ k, (laI R k).length = 4
  | 0 => rfl
  | k + 1 => by
      simp only [laI]
      split
      · rfl
      · exact laI_len R k
theorem info4 {xs : List Int} (h : xs.length = 4) : (Try.prog.info? 49).map (·.size) = some xs.length := by rw [h]; exact info_vid
set_option maxHeartbeats 4000000 in
theorem rlast_any (h : R.Ok w B) (hmax : R.es.length ≤ 9000000000000000) : Calls Try.prog 49 #[.pointer (some ⟨R.b, 0, none⟩)] w fun e w' => e = .returned (.agg (ints (laI R R.es.length)).toArray) ∧ Below w.heap.size w w' := by
  generalize hW1 : w.alloc (.cells #[.int .i64 0, .int .i64 0, .int .i64 0, .int .i64 0] 49) = W1
  generalize hW2 : W1.alloc (.cells #[.int .i64 0, .int .i64 0, .int .i64 0, .int .i64 0] 49) = W2
  have b1 : Below w.heap.size w W1 := hW1 ▸ balloc (Below.refl _ _)
  have b2 : Below W1.heap.size W1 W2 := hW2 ▸ balloc (Below.refl _ _)
  have s1 : W1.heap.size = w.heap.size + 1 := by rw [← hW1]; simp
  have k1 : Rw W1 w.heap.size 49 [0, 0, 0, 0] := by unfold Rw; rw [← hW1]; exact heap_alloc_new w _
  have k2 : Rw W2 W1.heap.size 49 [0, 0, 0, 0] := by unfold Rw; rw [← hW2]; exact heap_alloc_new W1 _
  obtain ⟨W3, hW3⟩ : ∃ W3, W2.setCells W1.heap.size 0 (ints [0, 0, 0, 0]) = W3 := ⟨_, rfl⟩
  have k3 : Rw W3 W1.heap.size 49 [0, 0, 0, 0] := by rw [← hW3]; exact Rw.whole k2 rfl
  have kk3 : Kept W2 W3 (fun j => j = W1.heap.size) := by rw [← hW3]; exact ksets (P := fun j => j = W1.heap.size) rfl _ _ _
  have HT2 : Hid (W2.there W1.heap.size 0 4) := k2.there 0 4 (by show 0 + 4 ≤ 4; omega)
  have HK1 : Hid (Rw W3 w.heap.size 49 [0, 0, 0, 0]) := (k1.still b2).keep kk3 (by omega)
  have HK3 : Hid (Rw W3 W1.heap.size 49 [0, 0, 0, 0]) := k3
  have HB3 : Hid (Below w.heap.size w W3) := bstepK (bstep b1 b2) kk3 (fun j hj e => by omega)
  have hk1 : w.heap.size < W1.heap.size := by omega
  have HH : Hid (R.Ok w B) := h
  have HC1 : Hid (∀ V, Below w.heap.size w V → V.cell? ⟨R.b, 1, none⟩ = some (.slice R.wo R.es.length R.wc)) := fun V hV => (h.still hV).c1
  clear h b1 b2 s1 k1 k2 k3 kk3
  obtain ⟨N, hN⟩ : ∃ N, R.es.length = N := ⟨_, rfl⟩
  have HN : Hid (R.es.length = N) := hN
  rw [hN] at hmax HC1 ⊢
  clear hN
  go_enter Try.func49, Try.ntmps49
  go_wp2_with (first
    | (refine at_store 49 (.tmp 3) (.tmp 5) rfl ?_; refine store_mid 49 (.tmp 3) (.tmp 5) (xs := [0, 0, 0, 0]) HT2.out info_vid rfl rfl rfl rfl ?_; rw [hW3])
    | fail)
  go_loopw [4] (fun i wr => ∃ k : Nat, k ≤ N ∧ i = .int .i64 (k : Int) ∧ Hid (Rw wr W1.heap.size 49 (laI R k)) ∧ Hid (Kept W3 wr (fun j => j = W1.heap.size))) (fun i _ => N - (intOf i).toNat)
  case atStart => exact ⟨0, Nat.zero_le _, rfl, HK3, Kept.refl _ _⟩
  case round =>
    obtain ⟨k, hk, rfl, HO, HKp⟩ := hrel
    have hbw : Below w.heap.size w wr := bstepK HB3.out HKp.out (fun j hj e => by omega)
    have HBw : Hid (Below w.heap.size w wr) := hbw
    have c1w := HC1.out wr hbw
    have HW0 := HH.out.still hbw
    have hN := HN.out
    have HO1 : Hid (Rw wr w.heap.size 49 [0, 0, 0, 0]) := HK1.out.keep HKp.out (by omega)
    clear hbw
    by_cases hlt : k < N
    · skip
      obtain ⟨g, hg, hrg⟩ := HW0.view (i := k) (by omega)
      have hmem := HW0.mem (R.es.getD k ve0) (by simp [List.getD, show k < R.es.length by omega])
      have hqb : qb R k = wins R.v ((viewP R.v.length (R.es.getD k ve0).v).getD 0) := rfl
      have hid : idI R k = (R.es.getD k ve0).v.id := rfl
      generalize R.es.getD k ve0 = x at *
      obtain ⟨hm1, ⟨s, hs⟩, hm3⟩ := hmem
      rw [hs, Option.getD_some] at hqb
      have hmp := viewP_memP hs
      have h16 := HW0.ok.1
      have hs16 : s < 65536 := by
        have h2 := two_pow_le R.v.length h16
        have h3 := memP_lt R.v.length h16 x.v.ms 0 s (Nat.two_pow_pos _) hmp
        omega
      have HP : Hid (∀ V, Below wr.heap.size wr V → Calls Try.prog 71 #[.agg x.cs.toArray] V fun e w' => e = .returned (.int .i64 (s : Int)) ∧ Below V.heap.size V w') := fun V hV => rpids_any ((own3_rd hm1).still hV) R.v.length s h16 hmp hs16 (by omega)
      have HWn : Hid (∀ V, Below wr.heap.size wr V → Calls Try.prog 35 #[.slice R.vo R.v.length R.vc, .int .i64 (s : Int)] V fun e w' => e = .returned (.bool (qb R k)) ∧ V = w') := fun V hV => by
        have := rwins_any (HW0.votes.still hV) (okI_zi HW0.ok) s hs16
        rw [nv_zi, ← hqb] at this
        exact this
      have c0 := HW0.c0
      have c1 := HW0.c1
      rw [hg] at c1
      have HG : Hid (wr.rangeAt g (k * 5) x.cs) := hrg
      have hla : laI R (k + 1) = if qb R k then idI R k else laI R k := rfl
      have hRid : wr.rangeAt g (k * 5) (ints x.v.id) := fun j u hu => by
        match j, hu with
        | 0, hu => exact hrg 0 _ hu
        | 1, hu => exact hrg 1 _ hu
        | 2, hu => exact hrg 2 _ hu
        | 3, hu => exact hrg 3 _ hu
        | j + 4, hu => simp [ints, Vw.id] at hu
      have hRl : g < wr.heap.size := by
        have := hrg 0 _ rfl
        exact World.block_lt_of_cell? wr _ this
      rw [hid] at hla
      rw [hN] at c1
      generalize qb R k = rb at *
      have i1 : (0 : Int) ≤ (k : Int) := Int.natCast_nonneg _
      have i2 : (k : Int) < (N : Int) := by omega
      clear HW0 hg hrg hm1 hqb hid hs hmp hm3 c1w
      have c1w := c1
      have h4 := laI_len R k
      cases rb with
      | true =>
        rw [if_pos rfl] at hla
        go_wp2
        refine wp_region_held_drew (S := (fun w' => w'.cell? ⟨R.b, 0, none⟩ = some (.slice R.vo R.v.length R.vc) ∧ w'.cell? ⟨R.b, 1, none⟩ = some (.slice (some ⟨g, 0, none⟩) N R.wc) ∧ w'.rangeAt g (k * 5) x.cs)) (by kernel_rfl) ⟨below_at (Below.refl _ _).drew c0, below_at (Below.refl _ _).drew c1, below_range (Below.refl _ _).drew HG.out⟩ (fun hHeld => ?_)
        simp only [Act.put, List.size_toArray, List.length_cons, List.length_nil, Nat.zero_add]
        refine wpAnyH_take (i := 0) (v := .pointer (some ⟨R.b, 0, none⟩)) rfl (by kernel_rfl) (by kernel_rfl) (by kernel_rfl) (fun _ _ _ h => h) (Or.inl ⟨by rfl, fun w' hS => by go_simp⟩) hHeld ?_
        simp only [Act.put, List.getElem_toArray, List.getElem_cons_zero, List.getElem_cons_succ, List.setIfInBounds_toArray, List.set_cons_zero, List.set_cons_succ]
        refine wpAnyH_take (i := 1) (v := .pointer (some ⟨R.b, 0, none⟩)) rfl (by kernel_rfl) (by kernel_rfl) (by kernel_rfl) (fun _ _ _ h => h) (Or.inl ⟨by rfl, fun w' hS => by go_simp⟩) hHeld ?_
        simp only [Act.put, List.getElem_toArray, List.getElem_cons_zero, List.getElem_cons_succ, List.setIfInBounds_toArray, List.set_cons_zero, List.set_cons_succ]
        refine wpAnyH_take (i := 2) (v := .pointer (some ⟨R.b, 0, none⟩)) rfl (by kernel_rfl) (by kernel_rfl) (by kernel_rfl) (fun _ _ _ h => h) (Or.inl ⟨by rfl, fun w' hS => by go_simp⟩) hHeld ?_
        simp only [Act.put, List.getElem_toArray, List.getElem_cons_zero, List.getElem_cons_succ, List.setIfInBounds_toArray, List.set_cons_zero, List.set_cons_succ]
        refine wpAnyH_take (i := 3) (v := .slice R.vo R.v.length R.vc) rfl (by kernel_rfl) (by kernel_rfl) (by kernel_rfl) (fun _ _ _ h => h) (Or.inl ⟨by rfl, fun w' hS => by (obtain ⟨s0, s1, s2⟩ := hS; go_simp)⟩) hHeld ?_
        simp only [Act.put, List.getElem_toArray, List.getElem_cons_zero, List.getElem_cons_succ, List.setIfInBounds_toArray, List.set_cons_zero, List.set_cons_succ]
        refine wpAnyH_take (i := 4) (v := .pointer (some ⟨R.b, 0, none⟩)) rfl (by kernel_rfl) (by kernel_rfl) (by kernel_rfl) (fun _ _ _ h => h) (Or.inl ⟨by rfl, fun w' hS => by go_simp⟩) hHeld ?_
        simp only [Act.put, List.getElem_toArray, List.getElem_cons_zero, List.getElem_cons_succ, List.setIfInBounds_toArray, List.set_cons_zero, List.set_cons_succ]
        refine wpAnyH_take (i := 5) (v := .pointer (some ⟨R.b, 0, none⟩)) rfl (by kernel_rfl) (by kernel_rfl) (by kernel_rfl) (fun _ _ _ h => h) (Or.inl ⟨by rfl, fun w' hS => by go_simp⟩) hHeld ?_
        simp only [Act.put, List.getElem_toArray, List.getElem_cons_zero, List.getElem_cons_succ, List.setIfInBounds_toArray, List.set_cons_zero, List.set_cons_succ]
        refine wpAnyH_take (i := 6) (v := .pointer (some ⟨R.b, 1, none⟩)) rfl (by kernel_rfl) (by kernel_rfl) (by kernel_rfl) (fun _ _ _ h => h) (Or.inl ⟨by rfl, fun w' hS => by go_simp⟩) hHeld ?_
        simp only [Act.put, List.getElem_toArray, List.getElem_cons_zero, List.getElem_cons_succ, List.setIfInBounds_toArray, List.set_cons_zero, List.set_cons_succ]
        refine wpAnyH_take (i := 7) (v := .slice (some ⟨g, 0, none⟩) N R.wc) rfl (by kernel_rfl) (by kernel_rfl) (by kernel_rfl) (fun _ _ _ h => h) (Or.inl ⟨by rfl, fun w' hS => by (obtain ⟨s0, s1, s2⟩ := hS; go_simp)⟩) hHeld ?_
        simp only [Act.put, List.getElem_toArray, List.getElem_cons_zero, List.getElem_cons_succ, List.setIfInBounds_toArray, List.set_cons_zero, List.set_cons_succ]
        refine wpAnyH_take (i := 8) (v := .int .i64 (k : Int)) rfl (by kernel_rfl) (by kernel_rfl) (by kernel_rfl) (fun _ _ _ h => h) (Or.inl ⟨by rfl, fun w' hS => by go_simp⟩) hHeld ?_
        simp only [Act.put, List.getElem_toArray, List.getElem_cons_zero, List.getElem_cons_succ, List.setIfInBounds_toArray, List.set_cons_zero, List.set_cons_succ]
        refine wpAnyH_take (i := 9) (v := .pointer (some ⟨g, k * 5, none⟩)) rfl (by kernel_rfl) (by kernel_rfl) (by kernel_rfl) (fun _ _ _ h => h) (Or.inl ⟨by rfl, fun w' hS => by (go_simp <;> omega)⟩) hHeld ?_
        simp only [Act.put, List.getElem_toArray, List.getElem_cons_zero, List.getElem_cons_succ, List.setIfInBounds_toArray, List.set_cons_zero, List.set_cons_succ]
        refine wpAnyH_take (i := 10) (v := .agg (x).cs.toArray) rfl (by kernel_rfl) (by kernel_rfl) (by kernel_rfl) (fun _ _ _ h => h) (yieldsIf_load_mid (by rfl) 52 (.tmp 24) rfl g (k * 5) (by rfl) (x).cs _ (fun w' hS => hS.2.2) Try.underlying52 rfl info_view) hHeld ?_
        simp only [Act.put, List.getElem_toArray, List.getElem_cons_zero, List.getElem_cons_succ, List.setIfInBounds_toArray, List.set_cons_zero, List.set_cons_succ]
        refine wpAnyH_ready (rs := [11]) (by kernel_rfl) (by simp) ?_
        refine AllReadyH.cons rfl (fun K hK => ?_) AllReadyH.nil
        go_simp
        refine (HP.out _ (Below.refl _ _).drew).mono ?_
        rintro e w5 ⟨rfl, hb5⟩
        refine hK.out _ _ ⟨below_at hb5 (below_at (Below.refl _ _).drew c0), below_at hb5 (below_at (Below.refl _ _).drew c1), below_range hb5 (below_range (Below.refl _ _).drew HG.out)⟩ (fun hHeld => ?_)
        clear hK K
        refine wpAnyH_ready (rs := [12]) (by kernel_rfl) (by simp) ?_
        refine AllReadyH.cons rfl (fun K hK => ?_) AllReadyH.nil
        go_simp
        refine (HWn.out _ (bstep (Below.refl _ _).drew hb5)).mono ?_
        rintro e w6 ⟨rfl, rfl⟩
        refine hK.out _ _ ⟨below_at hb5 (below_at (Below.refl _ _).drew c0), below_at hb5 (below_at (Below.refl _ _).drew c1), below_range hb5 (below_range (Below.refl _ _).drew HG.out)⟩ (fun hHeld => ?_)
        clear hK K
        refine wpAnyH_done (by kernel_rfl) ?_ _
        clear hHeld
        have HBv : Hid (Below wr.heap.size wr w5) := bstep (Below.refl _ _).drew hb5
        have d1 := below_at HBv.out c1
        have HGi : Hid (w5.rangeAt g (k * 5) (ints x.v.id)) := below_range HBv.out hRid
        have HO5 : Hid (Rw w5 W1.heap.size 49 (laI R k)) := HO.out.still HBv.out
        have HT5 : Hid (w5.there W1.heap.size 0 x.v.id.length) := HO5.out.there 0 _ (by rw [h4]; show 0 + 4 ≤ 4; omega)
        obtain ⟨Z, hZ⟩ : ∃ Z, w5.setCells W1.heap.size 0 (ints x.v.id) = Z := ⟨_, rfl⟩
        have HZ : Hid (Rw Z W1.heap.size 49 (laI R (k + 1))) := by
          rw [hla, ← hZ]
          exact Rw.whole HO5.out (by rw [h4]; rfl)
        have HKZ : Hid (Kept W3 Z (fun j => j = W1.heap.size)) := by
          rw [← hZ]
          exact (HKp.out.trans (Kept.ofBelow HBv.out _)).trans (ksets (P := fun j => j = W1.heap.size) rfl _ _ _)
        clear hb5 hla hRid
        go_wp2_with (first
          | (refine at_load 49 (.tmp 34) rfl ?_; refine load_mid 49 (.tmp 34) HGi.out _ Try.underlying49 rfl info_vid rfl rfl rfl ?_)
          | (refine at_store 49 (.tmp 3) (.tmp 35) rfl ?_; refine store_mid 49 (.tmp 3) (.tmp 35) (xs := x.v.id) HT5.out info_vid rfl rfl rfl rfl ?_; rw [hZ])
          | fail)
        exact ⟨⟨k + 1, by omega, by go_num, HZ, HKZ⟩, by simp [intOf]; omega⟩
      | false =>
        rw [if_neg (by simp)] at hla
        go_wp2
        refine wp_region_held_drew (S := (fun w' => w'.cell? ⟨R.b, 0, none⟩ = some (.slice R.vo R.v.length R.vc) ∧ w'.cell? ⟨R.b, 1, none⟩ = some (.slice (some ⟨g, 0, none⟩) N R.wc) ∧ w'.rangeAt g (k * 5) x.cs)) (by kernel_rfl) ⟨below_at (Below.refl _ _).drew c0, below_at (Below.refl _ _).drew c1, below_range (Below.refl _ _).drew HG.out⟩ (fun hHeld => ?_)
        simp only [Act.put, List.size_toArray, List.length_cons, List.length_nil, Nat.zero_add]
        refine wpAnyH_take (i := 0) (v := .pointer (some ⟨R.b, 0, none⟩)) rfl (by kernel_rfl) (by kernel_rfl) (by kernel_rfl) (fun _ _ _ h => h) (Or.inl ⟨by rfl, fun w' hS => by go_simp⟩) hHeld ?_
        simp only [Act.put, List.getElem_toArray, List.getElem_cons_zero, List.getElem_cons_succ, List.setIfInBounds_toArray, List.set_cons_zero, List.set_cons_succ]
        refine wpAnyH_take (i := 1) (v := .pointer (some ⟨R.b, 0, none⟩)) rfl (by kernel_rfl) (by kernel_rfl) (by kernel_rfl) (fun _ _ _ h => h) (Or.inl ⟨by rfl, fun w' hS => by go_simp⟩) hHeld ?_
        simp only [Act.put, List.getElem_toArray, List.getElem_cons_zero, List.getElem_cons_succ, List.setIfInBounds_toArray, List.set_cons_zero, List.set_cons_succ]
        refine wpAnyH_take (i := 2) (v := .pointer (some ⟨R.b, 0, none⟩)) rfl (by kernel_rfl) (by kernel_rfl) (by kernel_rfl) (fun _ _ _ h => h) (Or.inl ⟨by rfl, fun w' hS => by go_simp⟩) hHeld ?_
        simp only [Act.put, List.getElem_toArray, List.getElem_cons_zero, List.getElem_cons_succ, List.setIfInBounds_toArray, List.set_cons_zero, List.set_cons_succ]
        refine wpAnyH_take (i := 3) (v := .slice R.vo R.v.length R.vc) rfl (by kernel_rfl) (by kernel_rfl) (by kernel_rfl) (fun _ _ _ h => h) (Or.inl ⟨by rfl, fun w' hS => by (obtain ⟨s0, s1, s2⟩ := hS; go_simp)⟩) hHeld ?_
        simp only [Act.put, List.getElem_toArray, List.getElem_cons_zero, List.getElem_cons_succ, List.setIfInBounds_toArray, List.set_cons_zero, List.set_cons_succ]
        refine wpAnyH_take (i := 4) (v := .pointer (some ⟨R.b, 0, none⟩)) rfl (by kernel_rfl) (by kernel_rfl) (by kernel_rfl) (fun _ _ _ h => h) (Or.inl ⟨by rfl, fun w' hS => by go_simp⟩) hHeld ?_
        simp only [Act.put, List.getElem_toArray, List.getElem_cons_zero, List.getElem_cons_succ, List.setIfInBounds_toArray, List.set_cons_zero, List.set_cons_succ]
        refine wpAnyH_take (i := 5) (v := .pointer (some ⟨R.b, 0, none⟩)) rfl (by kernel_rfl) (by kernel_rfl) (by kernel_rfl) (fun _ _ _ h => h) (Or.inl ⟨by rfl, fun w' hS => by go_simp⟩) hHeld ?_
        simp only [Act.put, List.getElem_toArray, List.getElem_cons_zero, List.getElem_cons_succ, List.setIfInBounds_toArray, List.set_cons_zero, List.set_cons_succ]
        refine wpAnyH_take (i := 6) (v := .pointer (some ⟨R.b, 1, none⟩)) rfl (by kernel_rfl) (by kernel_rfl) (by kernel_rfl) (fun _ _ _ h => h) (Or.inl ⟨by rfl, fun w' hS => by go_simp⟩) hHeld ?_
        simp only [Act.put, List.getElem_toArray, List.getElem_cons_zero, List.getElem_cons_succ, List.setIfInBounds_toArray, List.set_cons_zero, List.set_cons_succ]
        refine wpAnyH_take (i := 7) (v := .slice (some ⟨g, 0, none⟩) N R.wc) rfl (by kernel_rfl) (by kernel_rfl) (by kernel_rfl) (fun _ _ _ h => h) (Or.inl ⟨by rfl, fun w' hS => by (obtain ⟨s0, s1, s2⟩ := hS; go_simp)⟩) hHeld ?_
        simp only [Act.put, List.getElem_toArray, List.getElem_cons_zero, List.getElem_cons_succ, List.setIfInBounds_toArray, List.set_cons_zero, List.set_cons_succ]
        refine wpAnyH_take (i := 8) (v := .int .i64 (k : Int)) rfl (by kernel_rfl) (by kernel_rfl) (by kernel_rfl) (fun _ _ _ h => h) (Or.inl ⟨by rfl, fun w' hS => by go_simp⟩) hHeld ?_
        simp only [Act.put, List.getElem_toArray, List.getElem_cons_zero, List.getElem_cons_succ, List.setIfInBounds_toArray, List.set_cons_zero, List.set_cons_succ]
        refine wpAnyH_take (i := 9) (v := .pointer (some ⟨g, k * 5, none⟩)) rfl (by kernel_rfl) (by kernel_rfl) (by kernel_rfl) (fun _ _ _ h => h) (Or.inl ⟨by rfl, fun w' hS => by (go_simp <;> omega)⟩) hHeld ?_
        simp only [Act.put, List.getElem_toArray, List.getElem_cons_zero, List.getElem_cons_succ, List.setIfInBounds_toArray, List.set_cons_zero, List.set_cons_succ]
        refine wpAnyH_take (i := 10) (v := .agg (x).cs.toArray) rfl (by kernel_rfl) (by kernel_rfl) (by kernel_rfl) (fun _ _ _ h => h) (yieldsIf_load_mid (by rfl) 52 (.tmp 24) rfl g (k * 5) (by rfl) (x).cs _ (fun w' hS => hS.2.2) Try.underlying52 rfl info_view) hHeld ?_
        simp only [Act.put, List.getElem_toArray, List.getElem_cons_zero, List.getElem_cons_succ, List.setIfInBounds_toArray, List.set_cons_zero, List.set_cons_succ]
        refine wpAnyH_ready (rs := [11]) (by kernel_rfl) (by simp) ?_
        refine AllReadyH.cons rfl (fun K hK => ?_) AllReadyH.nil
        go_simp
        refine (HP.out _ (Below.refl _ _).drew).mono ?_
        rintro e w5 ⟨rfl, hb5⟩
        refine hK.out _ _ ⟨below_at hb5 (below_at (Below.refl _ _).drew c0), below_at hb5 (below_at (Below.refl _ _).drew c1), below_range hb5 (below_range (Below.refl _ _).drew HG.out)⟩ (fun hHeld => ?_)
        clear hK K
        refine wpAnyH_ready (rs := [12]) (by kernel_rfl) (by simp) ?_
        refine AllReadyH.cons rfl (fun K hK => ?_) AllReadyH.nil
        go_simp
        refine (HWn.out _ (bstep (Below.refl _ _).drew hb5)).mono ?_
        rintro e w6 ⟨rfl, rfl⟩
        refine hK.out _ _ ⟨below_at hb5 (below_at (Below.refl _ _).drew c0), below_at hb5 (below_at (Below.refl _ _).drew c1), below_range hb5 (below_range (Below.refl _ _).drew HG.out)⟩ (fun hHeld => ?_)
        clear hK K
        refine wpAnyH_done (by kernel_rfl) ?_ _
        clear hHeld
        have HBv : Hid (Below wr.heap.size wr w5) := bstep (Below.refl _ _).drew hb5
        have HZ : Hid (Rw w5 W1.heap.size 49 (laI R (k + 1))) := by rw [hla]; exact HO.out.still HBv.out
        clear hb5 hla hRid
        go_wp2
        exact ⟨⟨k + 1, by omega, by go_num, HZ, HKp.out.trans (Kept.ofBelow HBv.out _)⟩, by simp [intOf]; omega⟩
    · obtain rfl : k = N := by omega
      have h4 := laI_len R k
      have HRl : Hid (wr.rangeAt W1.heap.size 0 (ints (laI R k))) := HO.out.all
      have HTl : Hid (wr.there w.heap.size 0 (laI R k).length) := HO1.out.there 0 _ (by rw [h4]; show 0 + 4 ≤ 4; omega)
      have HFi : Hid (Rw (wr.setCells w.heap.size 0 (ints (laI R k))) w.heap.size 49 (laI R k)) := Rw.whole HO1.out (by rw [h4]; rfl)
      clear HW0
      go_wp2_with (first
        | (refine at_load 49 (.tmp 3) rfl ?_; refine load_mid 49 (.tmp 3) HRl.out _ Try.underlying49 rfl (by rw [ints_len]; exact info4 h4) rfl rfl rfl ?_)
        | (refine at_store 49 (.tmp 2) (.tmp 36) rfl ?_; refine store_mid 49 (.tmp 2) (.tmp 36) (xs := laI R k) HTl.out (info4 h4) rfl rfl rfl rfl ?_)
        | fail)
      (try simp only [Exit.inBlock, Exit.then])
      refine bodyPost_ret (v := .agg (ints (laI R k)).toArray) ?_ ?_ ?_
      · exact results_cell_row rfl _ _ w.heap.size 49 _ (0, 0) _ rfl HFi.out Try.underlying49 rfl (by rw [List.size_toArray, ints_len]; exact info4 h4)
      · rfl
      · exact ⟨rfl, bsets (Nat.le_refl _) _ _ HBw.out⟩
end
end Go.Proofs.Ytcieinejjkddfab.Qm
