import Derived.Test.YtdegjhkjmgimpaaV14
namespace Go.Proofs.Ytdegjhkjmgimpaa.Mb
open Go.RowKit
set_option linter.unusedVariables false
set_option maxRecDepth 100000
set_option linter.unusedSimpArgs false
section
variable {A A' : Ag} {w w' W : World} {B : Nat} {T : Int}
def Ag.pq (A : Ag) (g1 g2 : Nat) : Pq := ⟨some ⟨g1, 0, none⟩, A.n, A.n, A.own.set.take A.n, A.own.cid, A.own.rev, A.own.top, A.own.prev, some ⟨g2, 0, none⟩, A.n, A.n, A.own.vec.take A.n⟩
set_option maxHeartbeats 4000000 in
theorem proposal_any (h : A.Ok w B T) : Calls Try.prog 6 #[.pointer (some ⟨A.b, 0, none⟩)] w fun e w' => ∃ g1 g2, e = .returned (.agg (A.pq g1 g2).cs) ∧ w.heap.size ≤ g1 ∧ g1 < g2 ∧ Rw w' g1 3 (A.own.set.take A.n) ∧ Rw w' g2 3 (A.own.vec.take A.n) ∧ Below w.heap.size w w' := by
  have h16 := h.n16
  obtain ⟨x0, x1, x2, x3, hx4⟩ := list4e A.own.prev h.ol.lp
  have len4 : [x0, x1, x2, x3].length = 4 := rfl
  generalize hW1 : w.alloc (.cells #[.slice none 0 0, .int .i64 0, .int .i64 0, .int .i64 0, .int .i64 0, .int .i64 0, .int .i64 0, .int .i64 0, .slice none 0 0] 33) = W1
  have b1 : Below w.heap.size w W1 := hW1 ▸ balloc (Below.refl _ _)
  have hs1 : W1.heap.size = w.heap.size + 1 := by rw [← hW1]; simp
  have HZ : Hid (W1.drew.heap[w.heap.size]? = some (.cells #[.slice none 0 0, .int .i64 0, .int .i64 0, .int .i64 0, .int .i64 0, .int .i64 0, .int .i64 0, .int .i64 0, .slice none 0 0] 33 (0, 0))) := by show W1.heap[w.heap.size]? = _; rw [← hW1]; exact heap_alloc_new w _
  have hA := h.still b1
  have HA : Hid (A.Ok w B T) := h
  have Lo : Hid A.own.L := h.ol
  have HB1 : Hid (Below w.heap.size w W1) := b1
  have c0 := hA.set_r
  have c1 := hA.c0
  have c2 := hA.cid_c
  have c3 := hA.rev_c
  have c4 := hA.top_c
  have c5 : W1.rangeAt A.b 21 (ints [x0, x1, x2, x3]) := by have := hA.prev_r; rwa [hx4] at this
  have c6 := hA.vec_r
  have HL1 : Hid (∀ W, Calls Try.prog 16 #[.agg (ints A.own.set).toArray, .int .i64 A.n] W fun e w' => ∃ g, e = .returned (.slice (some ⟨g, 0, none⟩) A.n A.n) ∧ W.heap.size ≤ g ∧ Rw w' g 3 (A.own.set.take A.n) ∧ Below W.heap.size W w') := fun W => list_any A.own.set h.ol.ls A.n h16.2.1
  have HL2 : Hid (∀ W, Calls Try.prog 16 #[.agg (ints A.own.vec).toArray, .int .i64 A.n] W fun e w' => ∃ g, e = .returned (.slice (some ⟨g, 0, none⟩) A.n A.n) ∧ W.heap.size ≤ g ∧ Rw w' g 3 (A.own.vec.take A.n) ∧ Below W.heap.size W w') := fun W => list_any A.own.vec h.ol.lv A.n h16.2.1
  have Hx4 : Hid (A.own.prev = [x0, x1, x2, x3]) := hx4
  have Hs1 : Hid (W1.heap.size = w.heap.size + 1) := hs1
  clear h hA b1 hx4 hs1
  go_enter Try.func6, Try.ntmps6
  go_wp2
  refine wp_region_held_drew (S := (fun w' => w'.rangeAt A.b 2 (ints A.own.set) ∧ w'.cell? ⟨A.b, 0, none⟩ = some (.int .i64 A.n) ∧ w'.cell? ⟨A.b, 18, none⟩ = some (.int .i64 A.own.cid) ∧ w'.cell? ⟨A.b, 19, none⟩ = some (.int .i64 A.own.rev) ∧ w'.cell? ⟨A.b, 20, none⟩ = some (.int .i64 A.own.top) ∧ w'.rangeAt A.b 21 (ints [x0, x1, x2, x3]) ∧ w'.rangeAt A.b 25 (ints A.own.vec))) (by kernel_rfl) ⟨rng_below c0 (Below.refl _ _).drew, below_at (Below.refl _ _).drew c1, below_at (Below.refl _ _).drew c2, below_at (Below.refl _ _).drew c3, below_at (Below.refl _ _).drew c4, rng_below c5 (Below.refl _ _).drew, rng_below c6 (Below.refl _ _).drew⟩ (fun hHeld => ?_)
  simp only [Act.put, List.size_toArray, List.length_cons, List.length_nil, Nat.zero_add]
  refine wpAnyH_take (i := 0) (v := .pointer (some ⟨A.b, 0, none⟩)) rfl (by kernel_rfl) (by kernel_rfl) (by kernel_rfl) (fun _ _ _ h => h) (Or.inl ⟨by rfl, fun w' hS => by go_simp⟩) hHeld ?_
  simp only [Act.put, gA9, gZ9, gC9, sA9, sZ9, sC9]
  refine wpAnyH_take (i := 1) (v := .pointer (some ⟨A.b, 0, none⟩)) rfl (by kernel_rfl) (by kernel_rfl) (by kernel_rfl) (fun _ _ _ h => h) (Or.inl ⟨by rfl, fun w' hS => by go_simp⟩) hHeld ?_
  simp only [Act.put, gA9, gZ9, gC9, sA9, sZ9, sC9]
  refine wpAnyH_take (i := 2) (v := .pointer (some ⟨A.b, 2, none⟩)) rfl (by kernel_rfl) (by kernel_rfl) (by kernel_rfl) (fun _ _ _ h => h) (Or.inl ⟨by rfl, fun w' hS => by go_simp⟩) hHeld ?_
  simp only [Act.put, gA9, gZ9, gC9, sA9, sZ9, sC9]
  refine wpAnyH_take (i := 3) (v := .pointer (some ⟨A.b, 2, none⟩)) rfl (by kernel_rfl) (by kernel_rfl) (by kernel_rfl) (fun _ _ _ h => h) (Or.inl ⟨by rfl, fun w' hS => by go_simp⟩) hHeld ?_
  simp only [Act.put, gA9, gZ9, gC9, sA9, sZ9, sC9]
  refine wpAnyH_take (i := 4) (v := .agg (ints A.own.set).toArray) rfl (by kernel_rfl) (by kernel_rfl) (by kernel_rfl) (fun _ _ _ h => h) (yieldsIf_load_mid (by rfl) 61 (.tmp 6) rfl A.b (2) (by rfl) (ints A.own.set) _ (fun w' hS => hS.1) Try.underlying61 rfl (by rw [ints_len, Lo.out.ls]; exact info_row)) hHeld ?_
  simp only [Act.put, gA9, gZ9, gC9, sA9, sZ9, sC9]
  refine wpAnyH_take (i := 5) (v := .pointer (some ⟨A.b, 0, none⟩)) rfl (by kernel_rfl) (by kernel_rfl) (by kernel_rfl) (fun _ _ _ h => h) (Or.inl ⟨by rfl, fun w' hS => by go_simp⟩) hHeld ?_
  simp only [Act.put, gA9, gZ9, gC9, sA9, sZ9, sC9]
  refine wpAnyH_take (i := 6) (v := .pointer (some ⟨A.b, 0, none⟩)) rfl (by kernel_rfl) (by kernel_rfl) (by kernel_rfl) (fun _ _ _ h => h) (Or.inl ⟨by rfl, fun w' hS => by go_simp⟩) hHeld ?_
  simp only [Act.put, gA9, gZ9, gC9, sA9, sZ9, sC9]
  refine wpAnyH_take (i := 7) (v := .pointer (some ⟨A.b, 0, none⟩)) rfl (by kernel_rfl) (by kernel_rfl) (by kernel_rfl) (fun _ _ _ h => h) (Or.inl ⟨by rfl, fun w' hS => by go_simp⟩) hHeld ?_
  simp only [Act.put, gA9, gZ9, gC9, sA9, sZ9, sC9]
  refine wpAnyH_take (i := 8) (v := .int .i64 A.n) rfl (by kernel_rfl) (by kernel_rfl) (by kernel_rfl) (fun _ _ _ h => h) (Or.inl ⟨by rfl, fun w' hS => by (obtain ⟨s0, s1, s2, s3, s4, s5, s6⟩ := hS; go_simp)⟩) hHeld ?_
  simp only [Act.put, gA9, gZ9, gC9, sA9, sZ9, sC9]
  refine wpAnyH_take (i := 10) (v := .pointer (some ⟨A.b, 0, none⟩)) rfl (by kernel_rfl) (by kernel_rfl) (by kernel_rfl) (fun _ _ _ h => h) (Or.inl ⟨by rfl, fun w' hS => by go_simp⟩) hHeld ?_
  simp only [Act.put, gA9, gZ9, gC9, sA9, sZ9, sC9]
  refine wpAnyH_take (i := 11) (v := .pointer (some ⟨A.b, 0, none⟩)) rfl (by kernel_rfl) (by kernel_rfl) (by kernel_rfl) (fun _ _ _ h => h) (Or.inl ⟨by rfl, fun w' hS => by go_simp⟩) hHeld ?_
  simp only [Act.put, gA9, gZ9, gC9, sA9, sZ9, sC9]
  refine wpAnyH_take (i := 12) (v := .pointer (some ⟨A.b, 2, none⟩)) rfl (by kernel_rfl) (by kernel_rfl) (by kernel_rfl) (fun _ _ _ h => h) (Or.inl ⟨by rfl, fun w' hS => by go_simp⟩) hHeld ?_
  simp only [Act.put, gA9, gZ9, gC9, sA9, sZ9, sC9]
  refine wpAnyH_take (i := 13) (v := .pointer (some ⟨A.b, 18, none⟩)) rfl (by kernel_rfl) (by kernel_rfl) (by kernel_rfl) (fun _ _ _ h => h) (Or.inl ⟨by rfl, fun w' hS => by go_simp⟩) hHeld ?_
  simp only [Act.put, gA9, gZ9, gC9, sA9, sZ9, sC9]
  refine wpAnyH_take (i := 14) (v := .int .i64 A.own.cid) rfl (by kernel_rfl) (by kernel_rfl) (by kernel_rfl) (fun _ _ _ h => h) (Or.inl ⟨by rfl, fun w' hS => by (obtain ⟨s0, s1, s2, s3, s4, s5, s6⟩ := hS; go_simp)⟩) hHeld ?_
  simp only [Act.put, gA9, gZ9, gC9, sA9, sZ9, sC9]
  refine wpAnyH_take (i := 15) (v := .pointer (some ⟨A.b, 0, none⟩)) rfl (by kernel_rfl) (by kernel_rfl) (by kernel_rfl) (fun _ _ _ h => h) (Or.inl ⟨by rfl, fun w' hS => by go_simp⟩) hHeld ?_
  simp only [Act.put, gA9, gZ9, gC9, sA9, sZ9, sC9]
  refine wpAnyH_take (i := 16) (v := .pointer (some ⟨A.b, 0, none⟩)) rfl (by kernel_rfl) (by kernel_rfl) (by kernel_rfl) (fun _ _ _ h => h) (Or.inl ⟨by rfl, fun w' hS => by go_simp⟩) hHeld ?_
  simp only [Act.put, gA9, gZ9, gC9, sA9, sZ9, sC9]
  refine wpAnyH_take (i := 17) (v := .pointer (some ⟨A.b, 2, none⟩)) rfl (by kernel_rfl) (by kernel_rfl) (by kernel_rfl) (fun _ _ _ h => h) (Or.inl ⟨by rfl, fun w' hS => by go_simp⟩) hHeld ?_
  simp only [Act.put, gA9, gZ9, gC9, sA9, sZ9, sC9]
  refine wpAnyH_take (i := 18) (v := .pointer (some ⟨A.b, 19, none⟩)) rfl (by kernel_rfl) (by kernel_rfl) (by kernel_rfl) (fun _ _ _ h => h) (Or.inl ⟨by rfl, fun w' hS => by go_simp⟩) hHeld ?_
  simp only [Act.put, gA9, gZ9, gC9, sA9, sZ9, sC9]
  refine wpAnyH_take (i := 19) (v := .int .i64 A.own.rev) rfl (by kernel_rfl) (by kernel_rfl) (by kernel_rfl) (fun _ _ _ h => h) (Or.inl ⟨by rfl, fun w' hS => by (obtain ⟨s0, s1, s2, s3, s4, s5, s6⟩ := hS; go_simp)⟩) hHeld ?_
  simp only [Act.put, gA9, gZ9, gC9, sA9, sZ9, sC9]
  refine wpAnyH_take (i := 20) (v := .pointer (some ⟨A.b, 0, none⟩)) rfl (by kernel_rfl) (by kernel_rfl) (by kernel_rfl) (fun _ _ _ h => h) (Or.inl ⟨by rfl, fun w' hS => by go_simp⟩) hHeld ?_
  simp only [Act.put, gA9, gZ9, gC9, sA9, sZ9, sC9]
  refine wpAnyH_take (i := 21) (v := .pointer (some ⟨A.b, 0, none⟩)) rfl (by kernel_rfl) (by kernel_rfl) (by kernel_rfl) (fun _ _ _ h => h) (Or.inl ⟨by rfl, fun w' hS => by go_simp⟩) hHeld ?_
  simp only [Act.put, gA9, gZ9, gC9, sA9, sZ9, sC9]
  refine wpAnyH_take (i := 22) (v := .pointer (some ⟨A.b, 2, none⟩)) rfl (by kernel_rfl) (by kernel_rfl) (by kernel_rfl) (fun _ _ _ h => h) (Or.inl ⟨by rfl, fun w' hS => by go_simp⟩) hHeld ?_
  simp only [Act.put, gA9, gZ9, gC9, sA9, sZ9, sC9]
  refine wpAnyH_take (i := 23) (v := .pointer (some ⟨A.b, 20, none⟩)) rfl (by kernel_rfl) (by kernel_rfl) (by kernel_rfl) (fun _ _ _ h => h) (Or.inl ⟨by rfl, fun w' hS => by go_simp⟩) hHeld ?_
  simp only [Act.put, gA9, gZ9, gC9, sA9, sZ9, sC9]
  refine wpAnyH_take (i := 24) (v := .int .i64 A.own.top) rfl (by kernel_rfl) (by kernel_rfl) (by kernel_rfl) (fun _ _ _ h => h) (Or.inl ⟨by rfl, fun w' hS => by (obtain ⟨s0, s1, s2, s3, s4, s5, s6⟩ := hS; go_simp)⟩) hHeld ?_
  simp only [Act.put, gA9, gZ9, gC9, sA9, sZ9, sC9]
  refine wpAnyH_take (i := 25) (v := .pointer (some ⟨A.b, 0, none⟩)) rfl (by kernel_rfl) (by kernel_rfl) (by kernel_rfl) (fun _ _ _ h => h) (Or.inl ⟨by rfl, fun w' hS => by go_simp⟩) hHeld ?_
  simp only [Act.put, gA9, gZ9, gC9, sA9, sZ9, sC9]
  refine wpAnyH_take (i := 26) (v := .pointer (some ⟨A.b, 0, none⟩)) rfl (by kernel_rfl) (by kernel_rfl) (by kernel_rfl) (fun _ _ _ h => h) (Or.inl ⟨by rfl, fun w' hS => by go_simp⟩) hHeld ?_
  simp only [Act.put, gA9, gZ9, gC9, sA9, sZ9, sC9]
  refine wpAnyH_take (i := 27) (v := .pointer (some ⟨A.b, 2, none⟩)) rfl (by kernel_rfl) (by kernel_rfl) (by kernel_rfl) (fun _ _ _ h => h) (Or.inl ⟨by rfl, fun w' hS => by go_simp⟩) hHeld ?_
  simp only [Act.put, gA9, gZ9, gC9, sA9, sZ9, sC9]
  refine wpAnyH_take (i := 28) (v := .pointer (some ⟨A.b, 21, none⟩)) rfl (by kernel_rfl) (by kernel_rfl) (by kernel_rfl) (fun _ _ _ h => h) (Or.inl ⟨by rfl, fun w' hS => by go_simp⟩) hHeld ?_
  simp only [Act.put, gA9, gZ9, gC9, sA9, sZ9, sC9]
  refine wpAnyH_take (i := 29) (v := .agg (ints [x0, x1, x2, x3]).toArray) rfl (by kernel_rfl) (by kernel_rfl) (by kernel_rfl) (fun _ _ _ h => h) (yieldsIf_load_mid (by rfl) 31 (.tmp 31) rfl A.b (21) (by rfl) (ints [x0, x1, x2, x3]) _ (fun w' hS => hS.2.2.2.2.2.1) Try.underlying31 rfl (by rw [ints_len, len4]; exact info_id)) hHeld ?_
  simp only [Act.put, gA9, gZ9, gC9, sA9, sZ9, sC9]
  refine wpAnyH_take (i := 30) (v := .pointer (some ⟨A.b, 0, none⟩)) rfl (by kernel_rfl) (by kernel_rfl) (by kernel_rfl) (fun _ _ _ h => h) (Or.inl ⟨by rfl, fun w' hS => by go_simp⟩) hHeld ?_
  simp only [Act.put, gA9, gZ9, gC9, sA9, sZ9, sC9]
  refine wpAnyH_take (i := 31) (v := .pointer (some ⟨A.b, 0, none⟩)) rfl (by kernel_rfl) (by kernel_rfl) (by kernel_rfl) (fun _ _ _ h => h) (Or.inl ⟨by rfl, fun w' hS => by go_simp⟩) hHeld ?_
  simp only [Act.put, gA9, gZ9, gC9, sA9, sZ9, sC9]
  refine wpAnyH_take (i := 32) (v := .pointer (some ⟨A.b, 2, none⟩)) rfl (by kernel_rfl) (by kernel_rfl) (by kernel_rfl) (fun _ _ _ h => h) (Or.inl ⟨by rfl, fun w' hS => by go_simp⟩) hHeld ?_
  simp only [Act.put, gA9, gZ9, gC9, sA9, sZ9, sC9]
  refine wpAnyH_take (i := 33) (v := .pointer (some ⟨A.b, 25, none⟩)) rfl (by kernel_rfl) (by kernel_rfl) (by kernel_rfl) (fun _ _ _ h => h) (Or.inl ⟨by rfl, fun w' hS => by go_simp⟩) hHeld ?_
  simp only [Act.put, gA9, gZ9, gC9, sA9, sZ9, sC9]
  refine wpAnyH_take (i := 34) (v := .agg (ints A.own.vec).toArray) rfl (by kernel_rfl) (by kernel_rfl) (by kernel_rfl) (fun _ _ _ h => h) (yieldsIf_load_mid (by rfl) 61 (.tmp 36) rfl A.b (25) (by rfl) (ints A.own.vec) _ (fun w' hS => hS.2.2.2.2.2.2) Try.underlying61 rfl (by rw [ints_len, Lo.out.lv]; exact info_row)) hHeld ?_
  simp only [Act.put, gA9, gZ9, gC9, sA9, sZ9, sC9]
  refine wpAnyH_take (i := 35) (v := .pointer (some ⟨A.b, 0, none⟩)) rfl (by kernel_rfl) (by kernel_rfl) (by kernel_rfl) (fun _ _ _ h => h) (Or.inl ⟨by rfl, fun w' hS => by go_simp⟩) hHeld ?_
  simp only [Act.put, gA9, gZ9, gC9, sA9, sZ9, sC9]
  refine wpAnyH_take (i := 36) (v := .pointer (some ⟨A.b, 0, none⟩)) rfl (by kernel_rfl) (by kernel_rfl) (by kernel_rfl) (fun _ _ _ h => h) (Or.inl ⟨by rfl, fun w' hS => by go_simp⟩) hHeld ?_
  simp only [Act.put, gA9, gZ9, gC9, sA9, sZ9, sC9]
  refine wpAnyH_take (i := 37) (v := .pointer (some ⟨A.b, 0, none⟩)) rfl (by kernel_rfl) (by kernel_rfl) (by kernel_rfl) (fun _ _ _ h => h) (Or.inl ⟨by rfl, fun w' hS => by go_simp⟩) hHeld ?_
  simp only [Act.put, gA9, gZ9, gC9, sA9, sZ9, sC9]
  refine wpAnyH_take (i := 38) (v := .int .i64 A.n) rfl (by kernel_rfl) (by kernel_rfl) (by kernel_rfl) (fun _ _ _ h => h) (Or.inl ⟨by rfl, fun w' hS => by (obtain ⟨s0, s1, s2, s3, s4, s5, s6⟩ := hS; go_simp)⟩) hHeld ?_
  simp only [Act.put, gA9, gZ9, gC9, sA9, sZ9, sC9]
  refine wpAnyH_ready (rs := [9]) (by kernel_rfl) (by simp) ?_
  refine AllReadyH.cons rfl (fun K hK => ?_) AllReadyH.nil
  go_simp
  refine (HL1.out _).mono ?_
  rintro e V1 ⟨g1, rfl, hg1, hR1, hb1⟩
  refine hK.out _ _ ⟨rng_below hHeld.1 hb1, below_at hb1 hHeld.2.1, below_at hb1 hHeld.2.2.1, below_at hb1 hHeld.2.2.2.1, below_at hb1 hHeld.2.2.2.2.1, rng_below hHeld.2.2.2.2.2.1 hb1, rng_below hHeld.2.2.2.2.2.2 hb1⟩ (fun hHeld => ?_)
  clear hK K
  refine wpAnyH_ready (rs := [39]) (by kernel_rfl) (by simp) ?_
  refine AllReadyH.cons rfl (fun K hK => ?_) AllReadyH.nil
  go_simp
  refine (HL2.out _).mono ?_
  rintro e V2 ⟨g2, rfl, hg2, hR2, hb2⟩
  refine hK.out _ _ ⟨rng_below hHeld.1 hb2, below_at hb2 hHeld.2.1, below_at hb2 hHeld.2.2.1, below_at hb2 hHeld.2.2.2.1, below_at hb2 hHeld.2.2.2.2.1, rng_below hHeld.2.2.2.2.2.1 hb2, rng_below hHeld.2.2.2.2.2.2 hb2⟩ (fun hHeld => ?_)
  clear hK K
  refine wpAnyH_take (i := 40) (v := .agg #[.slice (some ⟨g1, 0, none⟩) A.n A.n, .int .i64 A.own.cid, .int .i64 A.own.rev, .int .i64 A.own.top, .int .i64 x0, .int .i64 x1, .int .i64 x2, .int .i64 x3, .slice (some ⟨g2, 0, none⟩) A.n A.n]) rfl (by kernel_rfl) (by kernel_rfl) (by kernel_rfl) (fun _ _ _ h => h) (Or.inl ⟨by rfl, fun w' hS => run_buildop 33 _ rfl _ (by kernel_rfl)⟩) hHeld ?_
  simp only [Act.put, gA9, gZ9, gC9, sA9, sZ9, sC9]
  refine wpAnyH_ready (rs := [41]) (by kernel_rfl) (by simp) ?_
  refine AllReadyH.cons rfl (fun K hK => ?_) AllReadyH.nil
  have hZ2 : V2.heap[w.heap.size]? = some (.cells #[.slice none 0 0, .int .i64 0, .int .i64 0, .int .i64 0, .int .i64 0, .int .i64 0, .int .i64 0, .int .i64 0, .slice none 0 0] 33 (0, 0)) := (hb2.block _ (lt_heap ((hb1.block _ (lt_heap HZ.out)).trans HZ.out))).trans ((hb1.block _ (lt_heap HZ.out)).trans HZ.out)
  have hB2 : Below w.heap.size w V2 := bstep (bstep (bstep HB1.out (Below.refl _ _).drew) hb1) hb2
  split
  · refine wp_store_row 33 (.tmp 2) (.tmp 43) rfl w.heap.size #[.slice (some ⟨g1, 0, none⟩) A.n A.n, .int .i64 A.own.cid, .int .i64 A.own.rev, .int .i64 A.own.top, .int .i64 x0, .int .i64 x1, .int .i64 x2, .int .i64 x3, .slice (some ⟨g2, 0, none⟩) A.n A.n] rfl rfl 33 _ hZ2 (by kernel_rfl) (by rfl) (by simp [Value.oneCell']) ?_
    have hF : (V2.setRow w.heap.size #[.slice (some ⟨g1, 0, none⟩) A.n A.n, .int .i64 A.own.cid, .int .i64 A.own.rev, .int .i64 A.own.top, .int .i64 x0, .int .i64 x1, .int .i64 x2, .int .i64 x3, .slice (some ⟨g2, 0, none⟩) A.n A.n]).heap[w.heap.size]? = some (.cells #[.slice (some ⟨g1, 0, none⟩) A.n A.n, .int .i64 A.own.cid, .int .i64 A.own.rev, .int .i64 A.own.top, .int .i64 x0, .int .i64 x1, .int .i64 x2, .int .i64 x3, .slice (some ⟨g2, 0, none⟩) A.n A.n] 33 (0, 0)) := setRow_heap V2 _ _ _ _ _ hZ2
    have hBF : Below w.heap.size w (V2.setRow w.heap.size #[.slice (some ⟨g1, 0, none⟩) A.n A.n, .int .i64 A.own.cid, .int .i64 A.own.rev, .int .i64 A.own.top, .int .i64 x0, .int .i64 x1, .int .i64 x2, .int .i64 x3, .slice (some ⟨g2, 0, none⟩) A.n A.n]) := below_setRow hB2 (Nat.le_refl _) _
    have kF : Kept V2 (V2.setRow w.heap.size #[.slice (some ⟨g1, 0, none⟩) A.n A.n, .int .i64 A.own.cid, .int .i64 A.own.rev, .int .i64 A.own.top, .int .i64 x0, .int .i64 x1, .int .i64 x2, .int .i64 x3, .slice (some ⟨g2, 0, none⟩) A.n A.n]) (fun j => j = w.heap.size) := ⟨rfl, rfl, rfl, by simp [World.setRow], fun k hk hp => setRow_other V2 _ k _ hp⟩
    have hAF := HA.out.still hBF
    generalize V2.setRow w.heap.size #[.slice (some ⟨g1, 0, none⟩) A.n A.n, .int .i64 A.own.cid, .int .i64 A.own.rev, .int .i64 A.own.top, .int .i64 x0, .int .i64 x1, .int .i64 x2, .int .i64 x3, .slice (some ⟨g2, 0, none⟩) A.n A.n] = F at *
    refine hK.out _ _ ⟨hAF.set_r, hAF.c0, hAF.cid_c, hAF.rev_c, hAF.top_c, by have := hAF.prev_r; rwa [Hx4.out] at this, hAF.vec_r⟩ (fun hHeld => ?_)
    clear hK K hHeld
    refine wpAnyH_done (by kernel_rfl) ?_ _
    go_wp2
    (try simp only [Exit.inBlock, Exit.then])
    refine bodyPost_ret (v := .agg #[.slice (some ⟨g1, 0, none⟩) A.n A.n, .int .i64 A.own.cid, .int .i64 A.own.rev, .int .i64 A.own.top, .int .i64 x0, .int .i64 x1, .int .i64 x2, .int .i64 x3, .slice (some ⟨g2, 0, none⟩) A.n A.n]) ?_ ?_ ?_
    · exact results_cell_row rfl _ _ w.heap.size 33 _ (0, 0) _ rfl hF Try.underlying33 rfl (by kernel_rfl)
    · rfl
    · have e1 : w.heap.size < g1 := by have := Hs1.out; have hh : W1.heap.size ≤ g1 := hg1; omega
      have e2 : g1 < g2 := by have := hR1.lt; omega
      exact ⟨g1, g2, by unfold Ag.pq Pq.cs; rw [Hx4.out]; rfl, by omega, e2, (hR1.still hb2).keep kF (by omega), hR2.keep kF (by omega), hBF⟩
  · rename_i hh; exact absurd rfl hh
end
end Go.Proofs.Ytdegjhkjmgimpaa.Mb
