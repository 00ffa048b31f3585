import Derived.Test.YtbdefhagpgpoiacQ00
import Derived.Test.YtbdefhagpgpoiacQ13
namespace Go.Proofs.Ytbdefhagpgpoiac.Mb
open Go.RowKit
set_option linter.unusedVariables false
set_option maxRecDepth 100000
set_option linter.unusedSimpArgs false
section
variable {A A' : Ag} {w w' W : World} {B : Nat} {T : Int}
def Ag.pq (A : Ag) (g1 g2 : Nat) : Pq := ⟨some ⟨g1, 0, none⟩, A.n, A.n, A.own.set.take A.n, A.own.cid, A.own.rev, A.own.top, A.own.prev, some ⟨g2, 0, none⟩, A.n, A.n, A.own.vec.take A.n⟩
set_option maxHeartbeats 4000000 in
theorem proposal_any (h : A.Ok w B T) : Calls Try.prog 19 #[.pointer (some ⟨A.b, 0, none⟩)] w fun e w' => ∃ g1 g2, e = .returned (.agg (A.pq g1 g2).cs) ∧ w.heap.size ≤ g1 ∧ g1 < g2 ∧ Rw w' g1 3 (A.own.set.take A.n) ∧ Rw w' g2 3 (A.own.vec.take A.n) ∧ Below w.heap.size w w' := by
  have h16 := h.n16
  obtain ⟨x0, x1, x2, x3, hx4⟩ := list4e A.own.prev h.ol.lp
  have len4 : [x0, x1, x2, x3].length = 4 := rfl
  generalize hW1 : w.alloc (.cells #[.slice none 0 0, .int .i64 0, .int .i64 0, .int .i64 0, .int .i64 0, .int .i64 0, .int .i64 0, .int .i64 0, .slice none 0 0] 40) = W1
  have b1 : Below w.heap.size w W1 := hW1 ▸ balloc (Below.refl _ _)
  have hs1 : W1.heap.size = w.heap.size + 1 := by rw [← hW1]; simp
  have HZ : Hid (W1.drew.heap[w.heap.size]? = some (.cells #[.slice none 0 0, .int .i64 0, .int .i64 0, .int .i64 0, .int .i64 0, .int .i64 0, .int .i64 0, .int .i64 0, .slice none 0 0] 40 (0, 0))) := by show W1.heap[w.heap.size]? = _; rw [← hW1]; exact heap_alloc_new w _
  have hA := h.still b1
  have HA : Hid (A.Ok w B T) := h
  have Lo : Hid A.own.L := h.ol
  have HB1 : Hid (Below w.heap.size w W1) := b1
  have c0 := hA.set_r
  have c1 := hA.c0
  have c2 := hA.cid_c
  have c3 := hA.rev_c
  have c4 := hA.top_c
  have c5 : W1.rangeAt A.b 21 (ints [x0, x1, x2, x3]) := by have := hA.prev_r; rwa [hx4] at this
  have c6 := hA.vec_r
  have HL1 : Hid (∀ W, Calls Try.prog 44 #[.agg (ints A.own.set).toArray, .int .i64 A.n] W fun e w' => ∃ g, e = .returned (.slice (some ⟨g, 0, none⟩) A.n A.n) ∧ W.heap.size ≤ g ∧ Rw w' g 3 (A.own.set.take A.n) ∧ Below W.heap.size W w') := fun W => list_any A.own.set h.ol.ls A.n h16.2.1
  have HL2 : Hid (∀ W, Calls Try.prog 44 #[.agg (ints A.own.vec).toArray, .int .i64 A.n] W fun e w' => ∃ g, e = .returned (.slice (some ⟨g, 0, none⟩) A.n A.n) ∧ W.heap.size ≤ g ∧ Rw w' g 3 (A.own.vec.take A.n) ∧ Below W.heap.size W w') := fun W => list_any A.own.vec h.ol.lv A.n h16.2.1
  have Hx4 : Hid (A.own.prev = [x0, x1, x2, x3]) := hx4
  have Hs1 : Hid (W1.heap.size = w.heap.size + 1) := hs1
  clear h hA b1 hx4 hs1
  go_enter Try.func19, Try.ntmps19
  go_wp2
  refine wp_region_held_drew (S := (fun w' => w'.rangeAt A.b 2 (ints A.own.set) ∧ w'.cell? ⟨A.b, 0, none⟩ = some (.int .i64 A.n) ∧ w'.cell? ⟨A.b, 18, none⟩ = some (.int .i64 A.own.cid) ∧ w'.cell? ⟨A.b, 19, none⟩ = some (.int .i64 A.own.rev) ∧ w'.cell? ⟨A.b, 20, none⟩ = some (.int .i64 A.own.top) ∧ w'.rangeAt A.b 21 (ints [x0, x1, x2, x3]) ∧ w'.rangeAt A.b 25 (ints A.own.vec))) (by kernel_rfl) ⟨rng_below c0 (Below.refl _ _).drew, below_at (Below.refl _ _).drew c1, below_at (Below.refl _ _).drew c2, below_at (Below.refl _ _).drew c3, below_at (Below.refl _ _).drew c4, rng_below c5 (Below.refl _ _).drew, rng_below c6 (Below.refl _ _).drew⟩ (fun hHeld => ?_)
  simp only [Act.put, List.size_toArray, List.length_cons, List.length_nil, Nat.zero_add]
  refine tkI 0 (.pointer (some ⟨A.b, 0, none⟩)) rfl hHeld ?_
  simp only [Act.put, gA, gB, gC, gD, gE, gF]
  refine tkI 1 (.pointer (some ⟨A.b, 0, none⟩)) rfl hHeld ?_
  simp only [Act.put, gA, gB, gC, gD, gE, gF]
  refine tkI 2 (.pointer (some ⟨A.b, 2, none⟩)) rfl hHeld ?_
  simp only [Act.put, gA, gB, gC, gD, gE, gF]
  refine tkI 3 (.pointer (some ⟨A.b, 2, none⟩)) rfl hHeld ?_
  simp only [Act.put, gA, gB, gC, gD, gE, gF]
  refine wpAnyH_take (i := 4) (v := .agg (ints A.own.set).toArray) rfl (by kernel_rfl) (by kernel_rfl) (by kernel_rfl) (fun _ _ _ h => h) (yieldsIf_load_mid (by rfl) 45 (.tmp 6) rfl A.b (2) (by rfl) (ints A.own.set) _ (fun w' hS => hS.1) Try.underlying45 rfl (by rw [ints_len, Lo.out.ls]; exact info_row)) hHeld ?_
  simp only [Act.put, gA, gB, gC, gD, gE, gF]
  refine tkI 5 (.pointer (some ⟨A.b, 0, none⟩)) rfl hHeld ?_
  simp only [Act.put, gA, gB, gC, gD, gE, gF]
  refine tkI 6 (.pointer (some ⟨A.b, 0, none⟩)) rfl hHeld ?_
  simp only [Act.put, gA, gB, gC, gD, gE, gF]
  refine tkI 7 (.pointer (some ⟨A.b, 0, none⟩)) rfl hHeld ?_
  simp only [Act.put, gA, gB, gC, gD, gE, gF]
  refine tkL 8 (.int .i64 A.n) rfl (fun w' hS => by (obtain ⟨s0, s1, s2, s3, s4, s5, s6⟩ := hS; go_simp)) hHeld ?_
  simp only [Act.put, gA, gB, gC, gD, gE, gF]
  refine tkI 10 (.pointer (some ⟨A.b, 0, none⟩)) rfl hHeld ?_
  simp only [Act.put, gA, gB, gC, gD, gE, gF]
  refine tkI 11 (.pointer (some ⟨A.b, 0, none⟩)) rfl hHeld ?_
  simp only [Act.put, gA, gB, gC, gD, gE, gF]
  refine tkI 12 (.pointer (some ⟨A.b, 2, none⟩)) rfl hHeld ?_
  simp only [Act.put, gA, gB, gC, gD, gE, gF]
  refine tkI 13 (.pointer (some ⟨A.b, 18, none⟩)) rfl hHeld ?_
  simp only [Act.put, gA, gB, gC, gD, gE, gF]
  refine tkL 14 (.int .i64 A.own.cid) rfl (fun w' hS => by (obtain ⟨s0, s1, s2, s3, s4, s5, s6⟩ := hS; go_simp)) hHeld ?_
  simp only [Act.put, gA, gB, gC, gD, gE, gF]
  refine tkI 15 (.pointer (some ⟨A.b, 0, none⟩)) rfl hHeld ?_
  simp only [Act.put, gA, gB, gC, gD, gE, gF]
  refine tkI 16 (.pointer (some ⟨A.b, 0, none⟩)) rfl hHeld ?_
  simp only [Act.put, gA, gB, gC, gD, gE, gF]
  refine tkI 17 (.pointer (some ⟨A.b, 2, none⟩)) rfl hHeld ?_
  simp only [Act.put, gA, gB, gC, gD, gE, gF]
  refine tkI 18 (.pointer (some ⟨A.b, 19, none⟩)) rfl hHeld ?_
  simp only [Act.put, gA, gB, gC, gD, gE, gF]
  refine tkL 19 (.int .i64 A.own.rev) rfl (fun w' hS => by (obtain ⟨s0, s1, s2, s3, s4, s5, s6⟩ := hS; go_simp)) hHeld ?_
  simp only [Act.put, gA, gB, gC, gD, gE, gF]
  refine tkI 20 (.pointer (some ⟨A.b, 0, none⟩)) rfl hHeld ?_
  simp only [Act.put, gA, gB, gC, gD, gE, gF]
  refine tkI 21 (.pointer (some ⟨A.b, 0, none⟩)) rfl hHeld ?_
  simp only [Act.put, gA, gB, gC, gD, gE, gF]
  refine tkI 22 (.pointer (some ⟨A.b, 2, none⟩)) rfl hHeld ?_
  simp only [Act.put, gA, gB, gC, gD, gE, gF]
  refine tkI 23 (.pointer (some ⟨A.b, 20, none⟩)) rfl hHeld ?_
  simp only [Act.put, gA, gB, gC, gD, gE, gF]
  refine tkL 24 (.int .i64 A.own.top) rfl (fun w' hS => by (obtain ⟨s0, s1, s2, s3, s4, s5, s6⟩ := hS; go_simp)) hHeld ?_
  simp only [Act.put, gA, gB, gC, gD, gE, gF]
  refine tkI 25 (.pointer (some ⟨A.b, 0, none⟩)) rfl hHeld ?_
  simp only [Act.put, gA, gB, gC, gD, gE, gF]
  refine tkI 26 (.pointer (some ⟨A.b, 0, none⟩)) rfl hHeld ?_
  simp only [Act.put, gA, gB, gC, gD, gE, gF]
  refine tkI 27 (.pointer (some ⟨A.b, 2, none⟩)) rfl hHeld ?_
  simp only [Act.put, gA, gB, gC, gD, gE, gF]
  refine tkI 28 (.pointer (some ⟨A.b, 21, none⟩)) rfl hHeld ?_
  simp only [Act.put, gA, gB, gC, gD, gE, gF]
  refine wpAnyH_take (i := 29) (v := .agg (ints [x0, x1, x2, x3]).toArray) rfl (by kernel_rfl) (by kernel_rfl) (by kernel_rfl) (fun _ _ _ h => h) (yieldsIf_load_mid (by rfl) 38 (.tmp 31) rfl A.b (21) (by rfl) (ints [x0, x1, x2, x3]) _ (fun w' hS => hS.2.2.2.2.2.1) Try.underlying38 rfl (by rw [ints_len, len4]; exact info_id)) hHeld ?_
  simp only [Act.put, gA, gB, gC, gD, gE, gF]
  refine tkI 30 (.pointer (some ⟨A.b, 0, none⟩)) rfl hHeld ?_
  simp only [Act.put, gA, gB, gC, gD, gE, gF]
  refine tkI 31 (.pointer (some ⟨A.b, 0, none⟩)) rfl hHeld ?_
  simp only [Act.put, gA, gB, gC, gD, gE, gF]
  refine tkI 32 (.pointer (some ⟨A.b, 2, none⟩)) rfl hHeld ?_
  simp only [Act.put, gA, gB, gC, gD, gE, gF]
  refine tkI 33 (.pointer (some ⟨A.b, 25, none⟩)) rfl hHeld ?_
  simp only [Act.put, gA, gB, gC, gD, gE, gF]
  refine wpAnyH_take (i := 34) (v := .agg (ints A.own.vec).toArray) rfl (by kernel_rfl) (by kernel_rfl) (by kernel_rfl) (fun _ _ _ h => h) (yieldsIf_load_mid (by rfl) 45 (.tmp 36) rfl A.b (25) (by rfl) (ints A.own.vec) _ (fun w' hS => hS.2.2.2.2.2.2) Try.underlying45 rfl (by rw [ints_len, Lo.out.lv]; exact info_row)) hHeld ?_
  simp only [Act.put, gA, gB, gC, gD, gE, gF]
  refine tkI 35 (.pointer (some ⟨A.b, 0, none⟩)) rfl hHeld ?_
  simp only [Act.put, gA, gB, gC, gD, gE, gF]
  refine tkI 36 (.pointer (some ⟨A.b, 0, none⟩)) rfl hHeld ?_
  simp only [Act.put, gA, gB, gC, gD, gE, gF]
  refine tkI 37 (.pointer (some ⟨A.b, 0, none⟩)) rfl hHeld ?_
  simp only [Act.put, gA, gB, gC, gD, gE, gF]
  refine tkL 38 (.int .i64 A.n) rfl (fun w' hS => by (obtain ⟨s0, s1, s2, s3, s4, s5, s6⟩ := hS; go_simp)) hHeld ?_
  simp only [Act.put, gA, gB, gC, gD, gE, gF]
  refine wpAnyH_ready (rs := [9]) (by kernel_rfl) (by simp) ?_
  refine AllReadyH.cons rfl (fun K hK => ?_) AllReadyH.nil
  go_simp
  refine (HL1.out _).mono ?_
  rintro e V1 ⟨g1, rfl, hg1, hR1, hb1⟩
  refine hK.out _ _ ⟨rng_below hHeld.1 hb1, below_at hb1 hHeld.2.1, below_at hb1 hHeld.2.2.1, below_at hb1 hHeld.2.2.2.1, below_at hb1 hHeld.2.2.2.2.1, rng_below hHeld.2.2.2.2.2.1 hb1, rng_below hHeld.2.2.2.2.2.2 hb1⟩ (fun hHeld => ?_)
  clear hK K
  refine wpAnyH_ready (rs := [39]) (by kernel_rfl) (by simp) ?_
  refine AllReadyH.cons rfl (fun K hK => ?_) AllReadyH.nil
  go_simp
  refine (HL2.out _).mono ?_
  rintro e V2 ⟨g2, rfl, hg2, hR2, hb2⟩
  refine hK.out _ _ ⟨rng_below hHeld.1 hb2, below_at hb2 hHeld.2.1, below_at hb2 hHeld.2.2.1, below_at hb2 hHeld.2.2.2.1, below_at hb2 hHeld.2.2.2.2.1, rng_below hHeld.2.2.2.2.2.1 hb2, rng_below hHeld.2.2.2.2.2.2 hb2⟩ (fun hHeld => ?_)
  clear hK K
  refine tkL 40 (.agg #[.slice (some ⟨g1, 0, none⟩) A.n A.n, .int .i64 A.own.cid, .int .i64 A.own.rev, .int .i64 A.own.top, .int .i64 x0, .int .i64 x1, .int .i64 x2, .int .i64 x3, .slice (some ⟨g2, 0, none⟩) A.n A.n]) rfl (fun w' hS => run_buildop 40 _ rfl _ (by kernel_rfl)) hHeld ?_
  simp only [Act.put, gA, gB, gC, gD, gE, gF]
  refine wpAnyH_ready (rs := [41]) (by kernel_rfl) (by simp) ?_
  refine AllReadyH.cons rfl (fun K hK => ?_) AllReadyH.nil
  have hZ2 : V2.heap[w.heap.size]? = some (.cells #[.slice none 0 0, .int .i64 0, .int .i64 0, .int .i64 0, .int .i64 0, .int .i64 0, .int .i64 0, .int .i64 0, .slice none 0 0] 40 (0, 0)) := (hb2.block _ (lt_heap ((hb1.block _ (lt_heap HZ.out)).trans HZ.out))).trans ((hb1.block _ (lt_heap HZ.out)).trans HZ.out)
  have hB2 : Below w.heap.size w V2 := bstep (bstep (bstep HB1.out (Below.refl _ _).drew) hb1) hb2
  split
  · refine wp_store_row 40 (.tmp 2) (.tmp 43) rfl w.heap.size #[.slice (some ⟨g1, 0, none⟩) A.n A.n, .int .i64 A.own.cid, .int .i64 A.own.rev, .int .i64 A.own.top, .int .i64 x0, .int .i64 x1, .int .i64 x2, .int .i64 x3, .slice (some ⟨g2, 0, none⟩) A.n A.n] rfl rfl 40 _ hZ2 (by kernel_rfl) (by rfl) (by simp [Value.oneCell']) ?_
    have hF : (V2.setRow w.heap.size #[.slice (some ⟨g1, 0, none⟩) A.n A.n, .int .i64 A.own.cid, .int .i64 A.own.rev, .int .i64 A.own.top, .int .i64 x0, .int .i64 x1, .int .i64 x2, .int .i64 x3, .slice (some ⟨g2, 0, none⟩) A.n A.n]).heap[w.heap.size]? = some (.cells #[.slice (some ⟨g1, 0, none⟩) A.n A.n, .int .i64 A.own.cid, .int .i64 A.own.rev, .int .i64 A.own.top, .int .i64 x0, .int .i64 x1, .int .i64 x2, .int .i64 x3, .slice (some ⟨g2, 0, none⟩) A.n A.n] 40 (0, 0)) := setRow_heap V2 _ _ _ _ _ hZ2
    have hBF : Below w.heap.size w (V2.setRow w.heap.size #[.slice (some ⟨g1, 0, none⟩) A.n A.n, .int .i64 A.own.cid, .int .i64 A.own.rev, .int .i64 A.own.top, .int .i64 x0, .int .i64 x1, .int .i64 x2, .int .i64 x3, .slice (some ⟨g2, 0, none⟩) A.n A.n]) := below_setRow hB2 (Nat.le_refl _) _
    have kF : Kept V2 (V2.setRow w.heap.size #[.slice (some ⟨g1, 0, none⟩) A.n A.n, .int .i64 A.own.cid, .int .i64 A.own.rev, .int .i64 A.own.top, .int .i64 x0, .int .i64 x1, .int .i64 x2, .int .i64 x3, .slice (some ⟨g2, 0, none⟩) A.n A.n]) (fun j => j = w.heap.size) := ⟨rfl, rfl, rfl, by simp [World.setRow], fun k hk hp => setRow_other V2 _ k _ hp⟩
    have hAF := HA.out.still hBF
    generalize V2.setRow w.heap.size #[.slice (some ⟨g1, 0, none⟩) A.n A.n, .int .i64 A.own.cid, .int .i64 A.own.rev, .int .i64 A.own.top, .int .i64 x0, .int .i64 x1, .int .i64 x2, .int .i64 x3, .slice (some ⟨g2, 0, none⟩) A.n A.n] = F at *
    refine hK.out _ _ ⟨hAF.set_r, hAF.c0, hAF.cid_c, hAF.rev_c, hAF.top_c, by have := hAF.prev_r; rwa [Hx4.out] at this, hAF.vec_r⟩ (fun hHeld => ?_)
    clear hK K hHeld
    refine wpAnyH_done (by kernel_rfl) ?_ _
    go_wp2
    (try simp only [Exit.inBlock, Exit.then])
    refine bodyPost_ret (v := .agg #[.slice (some ⟨g1, 0, none⟩) A.n A.n, .int .i64 A.own.cid, .int .i64 A.own.rev, .int .i64 A.own.top, .int .i64 x0, .int .i64 x1, .int .i64 x2, .int .i64 x3, .slice (some ⟨g2, 0, none⟩) A.n A.n]) ?_ ?_ ?_
    · exact results_cell_row rfl _ _ w.heap.size 40 _ (0, 0) _ rfl hF Try.underlying40 rfl (by kernel_rfl)
    · rfl
    · have e1 : w.heap.size < g1 := by have := Hs1.out; have hh : W1.heap.size ≤ g1 := hg1; omega
      have e2 : g1 < g2 := by have := hR1.lt; omega
      exact ⟨g1, g2, by unfold Ag.pq Pq.cs; rw [Hx4.out]; rfl, by omega, e2, (hR1.still hb2).keep kF (by omega), hR2.keep kF (by omega), hBF⟩
  · rename_i hh; exact absurd rfl hh
end
end Go.Proofs.Ytbdefhagpgpoiac.Mb
