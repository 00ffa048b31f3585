import Derived.Test.YtbdefhagpgpoiacQ00
import Derived.Test.YtbdefhagpgpoiacQ37
import Derived.Test.YtbdefhagpgpoiacQ42
import Derived.Test.YtbdefhagpgpoiacQ44
import Derived.Test.YtbdefhagpgpoiacQ29
import Derived.Test.YtbdefhagpgpoiacQ31
import Derived.Test.YtbdefhagpgpoiacQ32
namespace Go.Proofs.Ytbdefhagpgpoiac.Mb
open Go.RowKit
set_option linter.unusedVariables false
set_option maxRecDepth 100000
set_option linter.unusedSimpArgs false
section
variable {A A' : Ag} {w w' W : World} {B : Nat} {T : Int} {R R' : Rg}
set_option maxHeartbeats 4000000 in
theorem copied_any (p : Pq) (hp : p.Rd w) (hs0 : p.sa = none → p.sc = 0) (hv0 : p.va = none → p.vc = 0) (hs : p.sn ≤ 17592186043904) (hv : p.vn ≤ 17592186043904) : Calls Try.prog 16 #[.agg [.slice p.sa p.sn p.sc, .int .i64 p.cid, .int .i64 p.rev, .int .i64 p.top, .int .i64 (p.prev[0]?.getD 0), .int .i64 (p.prev[1]?.getD 0), .int .i64 (p.prev[2]?.getD 0), .int .i64 (p.prev[3]?.getD 0), .slice p.va p.vn p.vc].toArray] w fun e w' => ∃ g1' q1' g2' q2', e = .returned (.agg [.slice (some ⟨g1', 0, none⟩) p.sn q1', .int .i64 p.cid, .int .i64 p.rev, .int .i64 p.top, .int .i64 (p.prev[0]?.getD 0), .int .i64 (p.prev[1]?.getD 0), .int .i64 (p.prev[2]?.getD 0), .int .i64 (p.prev[3]?.getD 0), .slice (some ⟨g2', 0, none⟩) p.vn q2'].toArray) ∧ MarkedF w' w.heap.size g1' p.sn q1' p.ss ∧ MarkedF w' w.heap.size g2' p.vn q2' p.vs ∧ g1' < g2' ∧ Below w.heap.size w w' := by
  obtain ⟨x0, x1, x2, x3, hpv⟩ := list4e p.prev hp.l
  have Hpv : Hid (p.prev = [x0, x1, x2, x3]) := hpv
  have e1 : ([.slice p.sa p.sn p.sc, .int .i64 p.cid, .int .i64 p.rev, .int .i64 p.top, .int .i64 (p.prev[0]?.getD 0), .int .i64 (p.prev[1]?.getD 0), .int .i64 (p.prev[2]?.getD 0), .int .i64 (p.prev[3]?.getD 0), .slice p.va p.vn p.vc] : List Value) = [.slice p.sa p.sn p.sc, .int .i64 p.cid, .int .i64 p.rev, .int .i64 p.top, .int .i64 x0, .int .i64 x1, .int .i64 x2, .int .i64 x3, .slice p.va p.vn p.vc] := by rw [hpv]; rfl
  rw [e1]
  generalize hW1 : w.alloc (.cells [.slice p.sa p.sn p.sc, .int .i64 p.cid, .int .i64 p.rev, .int .i64 p.top, .int .i64 x0, .int .i64 x1, .int .i64 x2, .int .i64 x3, .slice p.va p.vn p.vc].toArray 40) = W1
  have b1 : Below w.heap.size w W1 := by rw [← hW1]; exact balloc (Below.refl _ _)
  have k1 : W1.heap[w.heap.size]? = some (.cells [.slice p.sa p.sn p.sc, .int .i64 p.cid, .int .i64 p.rev, .int .i64 p.top, .int .i64 x0, .int .i64 x1, .int .i64 x2, .int .i64 x3, .slice p.va p.vn p.vc].toArray 40 (0, 0)) := by rw [← hW1]; exact heap_alloc_new w _
  generalize hW2 : W1.alloc (.cells [.slice none 0 0, .int .i64 0, .int .i64 0, .int .i64 0, .int .i64 0, .int .i64 0, .int .i64 0, .int .i64 0, .slice none 0 0].toArray 40) = W2
  have b2 : Below W1.heap.size W1 W2 := by rw [← hW2]; exact balloc (Below.refl _ _)
  have k2 : W2.heap[W1.heap.size]? = some (.cells [.slice none 0 0, .int .i64 0, .int .i64 0, .int .i64 0, .int .i64 0, .int .i64 0, .int .i64 0, .int .i64 0, .slice none 0 0].toArray 40 (0, 0)) := by rw [← hW2]; exact heap_alloc_new W1 _
  have kd : W2.drew.heap[w.heap.size]? = some (.cells [.slice p.sa p.sn p.sc, .int .i64 p.cid, .int .i64 p.rev, .int .i64 p.top, .int .i64 x0, .int .i64 x1, .int .i64 x2, .int .i64 x3, .slice p.va p.vn p.vc].toArray 40 (0, 0)) := (b2.block _ (lt_heap k1)).trans k1
  have d0 : W2.drew.cell? ⟨w.heap.size, 0, none⟩ = some (.slice p.sa p.sn p.sc) := blk_cell kd 0
  have d1 : W2.drew.cell? ⟨w.heap.size, 1, none⟩ = some (.int .i64 p.cid) := blk_cell kd 1
  have d2 : W2.drew.cell? ⟨w.heap.size, 2, none⟩ = some (.int .i64 p.rev) := blk_cell kd 2
  have d3 : W2.drew.cell? ⟨w.heap.size, 3, none⟩ = some (.int .i64 p.top) := blk_cell kd 3
  have d8 : W2.drew.cell? ⟨w.heap.size, 8, none⟩ = some (.slice p.va p.vn p.vc) := blk_cell kd 8
  have D4 : Hid (W2.drew.rangeAt w.heap.size 4 [.int .i64 x0, .int .i64 x1, .int .i64 x2, .int .i64 x3]) := range_sub kd rfl
  have bw : Below w.heap.size w W2.drew := bstep (bstep b1 b2) (Below.refl _ _).drew
  have HF1 : Hid (Calls Try.prog 11 #[.slice p.sa p.sn p.sc] W2.drew fun e w' => ∃ g cap, e = .returned (.slice (some ⟨g, 0, none⟩) p.sn cap) ∧ MarkedF w' W2.drew.heap.size g p.sn cap p.ss ∧ Below W2.drew.heap.size W2.drew w') := fresh_any (hp.s.still bw) hs0 hs
  have HF2 : Hid (∀ W, Below W2.drew.heap.size W2.drew W → Calls Try.prog 11 #[.slice p.va p.vn p.vc] W fun e w' => ∃ g cap, e = .returned (.slice (some ⟨g, 0, none⟩) p.vn cap) ∧ MarkedF w' W.heap.size g p.vn cap p.vs ∧ Below W.heap.size W w') := fun W hW => fresh_any ((hp.v.still bw).still hW) hv0 hv
  have HZ : Hid (W2.drew.heap[W1.heap.size]? = some (.cells [.slice none 0 0, .int .i64 0, .int .i64 0, .int .i64 0, .int .i64 0, .int .i64 0, .int .i64 0, .int .i64 0, .slice none 0 0].toArray 40 (0, 0))) := k2
  have HKd : Hid (W2.drew.heap[w.heap.size]? = some (.cells [.slice p.sa p.sn p.sc, .int .i64 p.cid, .int .i64 p.rev, .int .i64 p.top, .int .i64 x0, .int .i64 x1, .int .i64 x2, .int .i64 x3, .slice p.va p.vn p.vc].toArray 40 (0, 0))) := kd
  have HBw : Hid (Below w.heap.size w W2.drew) := bw
  have sz1 : w.heap.size < W1.heap.size := lt_heap k1
  simp only [List.toArray] at hW1 hW2
  clear hp b1 b2 k1 k2 kd bw hs0 hv0 hpv e1
  go_enter Try.func16, Try.ntmps16
  go_wp2
  refine wp_region_held_drew (S := (fun w' => w'.cell? ⟨w.heap.size, 0, none⟩ = some (.slice p.sa p.sn p.sc) ∧ w'.cell? ⟨w.heap.size, 1, none⟩ = some (.int .i64 p.cid) ∧ w'.cell? ⟨w.heap.size, 2, none⟩ = some (.int .i64 p.rev) ∧ w'.cell? ⟨w.heap.size, 3, none⟩ = some (.int .i64 p.top) ∧ w'.cell? ⟨w.heap.size, 8, none⟩ = some (.slice p.va p.vn p.vc) ∧ w'.rangeAt w.heap.size 4 [.int .i64 x0, .int .i64 x1, .int .i64 x2, .int .i64 x3])) (by kernel_rfl) ⟨d0, d1, d2, d3, d8, D4.out⟩ (fun hHeld => ?_)
  simp only [Act.put, List.size_toArray, List.length_cons, List.length_nil, Nat.zero_add]
  refine tkI 0 (.pointer (some ⟨w.heap.size, 0, none⟩)) rfl hHeld ?_
  simp only [Act.put, gA, gB, gC, gD, gE, gF]
  refine tkL 1 (.slice p.sa p.sn p.sc) rfl (fun w' hS => by (obtain ⟨s0, s1, s2, s3, s4, s5⟩ := hS; go_simp)) hHeld ?_
  simp only [Act.put, gA, gB, gC, gD, gE, gF]
  refine tkI 3 (.pointer (some ⟨w.heap.size, 1, none⟩)) rfl hHeld ?_
  simp only [Act.put, gA, gB, gC, gD, gE, gF]
  refine tkL 4 (.int .i64 p.cid) rfl (fun w' hS => by (obtain ⟨s0, s1, s2, s3, s4, s5⟩ := hS; go_simp)) hHeld ?_
  simp only [Act.put, gA, gB, gC, gD, gE, gF]
  refine tkI 5 (.pointer (some ⟨w.heap.size, 2, none⟩)) rfl hHeld ?_
  simp only [Act.put, gA, gB, gC, gD, gE, gF]
  refine tkL 6 (.int .i64 p.rev) rfl (fun w' hS => by (obtain ⟨s0, s1, s2, s3, s4, s5⟩ := hS; go_simp)) hHeld ?_
  simp only [Act.put, gA, gB, gC, gD, gE, gF]
  refine tkI 7 (.pointer (some ⟨w.heap.size, 3, none⟩)) rfl hHeld ?_
  simp only [Act.put, gA, gB, gC, gD, gE, gF]
  refine tkL 8 (.int .i64 p.top) rfl (fun w' hS => by (obtain ⟨s0, s1, s2, s3, s4, s5⟩ := hS; go_simp)) hHeld ?_
  simp only [Act.put, gA, gB, gC, gD, gE, gF]
  refine tkI 9 (.pointer (some ⟨w.heap.size, 4, none⟩)) rfl hHeld ?_
  simp only [Act.put, gA, gB, gC, gD, gE, gF]
  refine wpAnyH_take (i := 10) (v := .agg ([.int .i64 x0, .int .i64 x1, .int .i64 x2, .int .i64 x3]).toArray) rfl (by kernel_rfl) (by kernel_rfl) (by kernel_rfl) (fun _ _ _ h => h) (yieldsIf_load_mid (by rfl) 38 (.tmp 12) rfl w.heap.size (4) (by rfl) ([.int .i64 x0, .int .i64 x1, .int .i64 x2, .int .i64 x3]) _ (fun w' hS => hS.2.2.2.2.2) Try.underlying38 rfl info_id) hHeld ?_
  simp only [Act.put, gA, gB, gC, gD, gE, gF]
  refine tkI 11 (.pointer (some ⟨w.heap.size, 8, none⟩)) rfl hHeld ?_
  simp only [Act.put, gA, gB, gC, gD, gE, gF]
  refine tkL 12 (.slice p.va p.vn p.vc) rfl (fun w' hS => by (obtain ⟨s0, s1, s2, s3, s4, s5⟩ := hS; go_simp)) hHeld ?_
  simp only [Act.put, gA, gB, gC, gD, gE, gF]
  refine wpAnyH_ready (rs := [2]) (by kernel_rfl) (by simp) ?_
  refine AllReadyH.cons rfl (fun K hK => ?_) AllReadyH.nil
  go_simp
  refine (HF1.out).mono ?_
  rintro e V1 ⟨g1, q1, rfl, hm1, hb1⟩
  have HB1 : Hid (Below W2.drew.heap.size W2.drew V1) := hb1
  have Hm1 : Hid (MarkedF V1 W2.drew.heap.size g1 p.sn q1 p.ss) := hm1
  refine hK.out _ _ ⟨below_at hb1 d0, below_at hb1 d1, below_at hb1 d2, below_at hb1 d3, below_at hb1 d8, rng_below D4.out hb1⟩ (fun hHeld => ?_)
  clear hK K
  refine wpAnyH_ready (rs := [13]) (by kernel_rfl) (by simp) ?_
  refine AllReadyH.cons rfl (fun K hK => ?_) AllReadyH.nil
  go_simp
  refine (HF2.out V1 HB1.out).mono ?_
  rintro e V2 ⟨g2, q2, rfl, hm2, hb2⟩
  have HB2 : Hid (Below W2.drew.heap.size W2.drew V2) := bstep HB1.out hb2
  have Hm2 : Hid (MarkedF V2 V1.heap.size g2 p.vn q2 p.vs) := hm2
  have Hm1b : Hid (MarkedF V2 W2.drew.heap.size g1 p.sn q1 p.ss) := own_still Hm1.out hb2
  have Hg : Hid (g1 < V1.heap.size) := (World.ownsRow.lt Hm1.out g1 rfl).2
  refine hK.out _ _ ⟨below_at (bstep HB1.out hb2) d0, below_at (bstep HB1.out hb2) d1, below_at (bstep HB1.out hb2) d2, below_at (bstep HB1.out hb2) d3, below_at (bstep HB1.out hb2) d8, rng_below D4.out (bstep HB1.out hb2)⟩ (fun hHeld => ?_)
  clear hK K
  refine tkL 14 (.agg [.slice (some ⟨g1, 0, none⟩) p.sn q1, .int .i64 p.cid, .int .i64 p.rev, .int .i64 p.top, .int .i64 x0, .int .i64 x1, .int .i64 x2, .int .i64 x3, .slice (some ⟨g2, 0, none⟩) p.vn q2].toArray) rfl (fun w' hS => run_buildop 40 _ rfl _ (by kernel_rfl)) hHeld ?_
  simp only [Act.put, gA, gB, gC, gD, gE, gF]
  refine wpAnyH_ready (rs := [15]) (by kernel_rfl) (by simp) ?_
  refine AllReadyH.cons rfl (fun K hK => ?_) AllReadyH.nil
  have hz2 : V2.heap[W1.heap.size]? = some (.cells [.slice none 0 0, .int .i64 0, .int .i64 0, .int .i64 0, .int .i64 0, .int .i64 0, .int .i64 0, .int .i64 0, .slice none 0 0].toArray 40 (0, 0)) := (HB2.out.block _ (lt_heap HZ.out)).trans HZ.out
  have hk2 : V2.heap[w.heap.size]? = some (.cells [.slice p.sa p.sn p.sc, .int .i64 p.cid, .int .i64 p.rev, .int .i64 p.top, .int .i64 x0, .int .i64 x1, .int .i64 x2, .int .i64 x3, .slice p.va p.vn p.vc].toArray 40 (0, 0)) := (HB2.out.block _ (lt_heap HKd.out)).trans HKd.out
  split
  · refine wp_store_mid 40 (.tmp 2) (.tmp 17) rfl W1.heap.size 0 [.slice (some ⟨g1, 0, none⟩) p.sn q1, .int .i64 p.cid, .int .i64 p.rev, .int .i64 p.top, .int .i64 x0, .int .i64 x1, .int .i64 x2, .int .i64 x3, .slice (some ⟨g2, 0, none⟩) p.vn q2].toArray rfl rfl (blk_there hz2 rfl) info_propose (by simp [Value.oneCell']) ?_
    generalize hM : V2.setCells W1.heap.size 0 [.slice (some ⟨g1, 0, none⟩) p.sn q1, .int .i64 p.cid, .int .i64 p.rev, .int .i64 p.top, .int .i64 x0, .int .i64 x1, .int .i64 x2, .int .i64 x3, .slice (some ⟨g2, 0, none⟩) p.vn q2].toArray.toList = M
    have hM' : V2.setCells W1.heap.size 0 [.slice (some ⟨g1, 0, none⟩) p.sn q1, .int .i64 p.cid, .int .i64 p.rev, .int .i64 p.top, .int .i64 x0, .int .i64 x1, .int .i64 x2, .int .i64 x3, .slice (some ⟨g2, 0, none⟩) p.vn q2] = M := hM
    have kk : Kept V2 M (fun j => j = W1.heap.size) := by rw [← hM']; exact ksets (P := fun j => j = W1.heap.size) (b := W1.heap.size) rfl _ 0 V2
    have m2 : M.heap[W1.heap.size]? = some (.cells [.slice (some ⟨g1, 0, none⟩) p.sn q1, .int .i64 p.cid, .int .i64 p.rev, .int .i64 p.top, .int .i64 x0, .int .i64 x1, .int .i64 x2, .int .i64 x3, .slice (some ⟨g2, 0, none⟩) p.vn q2].toArray 40 (0, 0)) := by rw [← hM']; exact sets_whole hz2 rfl
    have m1 := kk.obj hk2 (fun e => by omega)
    have BV : Below w.heap.size w V2 := bstep HBw.out HB2.out
    have BM : Below w.heap.size w M := BV.trans (kk.below BV.size (fun k hk e => by omega))
    have HFin : Hid (∃ g1' q1' g2' q2', (Ending.returned (.agg [.slice (some ⟨g1, 0, none⟩) p.sn q1, .int .i64 p.cid, .int .i64 p.rev, .int .i64 p.top, .int .i64 x0, .int .i64 x1, .int .i64 x2, .int .i64 x3, .slice (some ⟨g2, 0, none⟩) p.vn q2].toArray)) = .returned (.agg [.slice (some ⟨g1', 0, none⟩) p.sn q1', .int .i64 p.cid, .int .i64 p.rev, .int .i64 p.top, .int .i64 (p.prev[0]?.getD 0), .int .i64 (p.prev[1]?.getD 0), .int .i64 (p.prev[2]?.getD 0), .int .i64 (p.prev[3]?.getD 0), .slice (some ⟨g2', 0, none⟩) p.vn q2'].toArray) ∧ MarkedF M w.heap.size g1' p.sn q1' p.ss ∧ MarkedF M w.heap.size g2' p.vn q2' p.vs ∧ g1' < g2' ∧ Below w.heap.size w M) := ⟨g1, q1, g2, q2, by rw [Hpv.out]; rfl, own_lower (kk.owns Hm1b.out (own_ne Hm1b.out hz2 (by decide))) (by have := HBw.out.size; omega), own_lower (kk.owns Hm2.out (own_ne Hm2.out hz2 (by decide))) (by have := HBw.out.size; have := HB1.out.size; omega), by have h := (World.ownsRow.lt Hm2.out g2 rfl).1; have := Hg.out; omega, BM⟩
    refine hK.out _ _ ⟨blk_cell m1 0, blk_cell m1 1, blk_cell m1 2, blk_cell m1 3, blk_cell m1 8, range_sub m1 rfl⟩ (fun hHeld => ?_)
    clear hK K
    refine wpAnyH_done (by kernel_rfl) ?_ _
    go_wp2
    (try simp only [Exit.inBlock, Exit.then])
    refine bodyPost_ret (v := .agg [.slice (some ⟨g1, 0, none⟩) p.sn q1, .int .i64 p.cid, .int .i64 p.rev, .int .i64 p.top, .int .i64 x0, .int .i64 x1, .int .i64 x2, .int .i64 x3, .slice (some ⟨g2, 0, none⟩) p.vn q2].toArray) ?_ ?_ ?_
    · exact results_cell_row rfl _ _ W1.heap.size 40 _ (0, 0) _ rfl m2 Try.underlying40 rfl (by kernel_rfl)
    · rfl
    · exact HFin.out
  · rename_i hh; exact absurd rfl hh
end
end Go.Proofs.Ytbdefhagpgpoiac.Mb
namespace Go.Proofs.Ytbdefhagpgpoiac.Mb
open Go.RowKit
set_option linter.unusedVariables false
set_option maxRecDepth 100000
set_option linter.unusedSimpArgs false
section
variable {A A' : Ag} {w w' W : World} {B : Nat} {T : Int} {R R' : Rg}
theorem Ag.Ok.cells (h : A.Ok w B T) : ∃ C, w.heap[A.b]? = some (.cells C 53 (0, 0)) := by
  obtain ⟨C, hC, _⟩ := h.blk
  exact ⟨C, hC⟩
theorem Rg.Ok.keep {P : Nat → Prop} (h : R.Ok w B) (k : Kept w w' P) (hb : ¬ P R.b) (hm : ∀ g, R.mv.ownBlock = some g → ¬ P g) (ha : ∀ g, (Value.slice R.ha R.all.length R.hc).ownBlock = some g → ¬ P g) (hi : ∀ a n c xs, RowI w B a n c xs → (a = R.own.sa ∨ a = R.own.va ∨ ∃ x ∈ R.all, a = x.p.sa ∨ a = x.p.va) → ∀ g, (Value.slice a n c).ownBlock = some g → ¬ P g) : R.Ok w' B :=
  ⟨k.obj h.blk hb, h.ge, h.n16, h.il, h.pl, k.owns h.mem hm, h.k16, k.owns h.os (hi _ _ _ _ h.os (.inl rfl)), k.owns h.ov (hi _ _ _ _ h.ov (.inr (.inl rfl))), h.sl, h.vl, k.owns h.row ha, fun x hx => ⟨k.owns (h.el x hx).1 (hi _ _ _ _ (h.el x hx).1 (.inr (.inr ⟨x, hx, .inl rfl⟩))), k.owns (h.el x hx).2.1 (hi _ _ _ _ (h.el x hx).2.1 (.inr (.inr ⟨x, hx, .inr rfl⟩))), (h.el x hx).2.2⟩⟩
theorem Rg.Ok.keptA (h : R.Ok w B) {B2 : Nat} (hA : A.Ok w B2 T) (k : Kept w w' (fun j => j = A.b)) : R.Ok w' B := by
  obtain ⟨C, hC⟩ := hA.cells
  exact h.keep k (blk_ne h.blk hC (by decide)) (own_ne h.mem hC (by decide)) (own_ne h.row hC (by decide)) (fun a n c xs ho _ => own_ne ho hC (by decide))
theorem Ag.Ok.keptR {B2 : Nat} (h : A.Ok w B T) (hR : R.Ok w B2) (k : Kept w w' R.own1) : A.Ok w' B T := by
  obtain ⟨C, hC⟩ := h.cells
  refine h.keep k ?_ ?_
  · rintro (e | e)
    · exact blk_ne hC hR.blk (by decide) e
    · exact own_ne hR.row hC (by decide) _ e rfl
  · intro g hg
    rintro (e | e)
    · exact own_ne h.mem hR.blk (by decide) _ hg e
    · exact rows_ne h.mem hR.row (by decide) _ hg e
theorem Ag.Ok.keptI (h : A.Ok w B T) {g : Nat} {C : Array Value} (hg : w.heap[g]? = some (.cells C 3 (0, 0))) (k : Kept w w' (fun j => j = g)) : A.Ok w' B T := by
  obtain ⟨D, hD⟩ := h.cells
  exact h.keep k (blk_ne hD hg (by decide)) (own_ne h.mem hg (by decide))
theorem nb_own {a : Option Addr} {n c g : Nat} (h : nb a g) : ∀ j, (Value.slice a n c).ownBlock = some j → ¬ j = g := by
  intro j hj e
  cases a with
  | none => simp [Value.ownBlock] at hj
  | some ad => exact h ad rfl (by simp [Value.ownBlock] at hj; rw [hj]; exact e)
theorem Rg.Ok.keptI (h : R.Ok w B) {g : Nat} {C : Array Value} (hg : w.heap[g]? = some (.cells C 3 (0, 0))) (hap : R.Ap g) (k : Kept w w' (fun j => j = g)) : R.Ok w' B := by
  refine h.keep k (blk_ne h.blk hg (by decide)) (own_ne h.mem hg (by decide)) (own_ne h.row hg (by decide)) (fun a n c xs ho hh => ?_)
  rcases hh with rfl | rfl | ⟨x, hx, rfl | rfl⟩
  · exact nb_own hap.s
  · exact nb_own hap.v
  · exact nb_own (hap.l x hx).1
  · exact nb_own (hap.l x hx).2
theorem rowI_ap {a : Option Addr} {n c g : Nat} {xs : List Int} (h : RowI w B a n c xs) (hg : w.heap.size ≤ g) : nb a g := by
  intro ad e
  rcases h.2 with ⟨e1, e2⟩ | ⟨g0, cap0, cur, e0, hb, hh, _⟩
  · rw [e] at e1; cases e1
  · rw [e] at e0
    injection e0 with e3
    injection e3 with e4
    subst e4
    have := lt_heap hh
    show g0 ≠ g
    omega
theorem Rg.Ok.ap (h : R.Ok w B) {g : Nat} (hg : w.heap.size ≤ g) : R.Ap g := ⟨rowI_ap h.os hg, rowI_ap h.ov hg, fun x hx => ⟨rowI_ap (h.el x hx).1 hg, rowI_ap (h.el x hx).2.1 hg⟩⟩
theorem own_ge {b t s n g : Nat} {v : Value} {l : List Value} (h : w.ownsRow b t s v n l) (hg : v.ownBlock = some g) : b ≤ g := by
  rcases h.2 with ⟨e1, e2⟩ | ⟨g0, cap0, cur, e0, hb, _⟩
  · rw [e1] at hg; simp [Value.ownBlock] at hg
  · rw [e0] at hg; simp [Value.ownBlock] at hg; omega
theorem Rg.Ok.belowR (h : R.Ok w B) (k : Kept w w' R.own1) : Below B w w' := k.below h.bB (fun j hj e => by
  rcases e with e | e
  · have := h.ge; omega
  · have := own_ge h.row e; omega)
theorem Ag.Ok.belowA (h : A.Ok w B T) (hB : B ≤ w.heap.size) (k : Kept w w' (fun j => j = A.b)) : Below B w w' := k.below hB (fun j hj e => by have := h.ge; omega)
theorem MarkedF.kept {g n c b : Nat} {xs : List Int} {P : Nat → Prop} (h : MarkedF w b g n c xs) (k : Kept w w' P) (hp : ¬ P g) : MarkedF w' b g n c xs := k.owns h (fun j hj e => hp (by simp [Value.ownBlock] at hj; rw [hj]; exact e))
theorem MarkedF.blk {g n c b : Nat} {xs : List Int} (h : MarkedF w b g n c xs) : b ≤ g ∧ g < w.heap.size ∧ ∃ C, w.heap[g]? = some (.cells C 3 (0, 0)) ∧ n ≤ C.size := by
  rcases h.2 with ⟨e1, e2⟩ | ⟨g0, cap0, cur, e0, hb, hh, h1, h2, h3, _⟩
  · cases e1
  · injection e0 with e3 e4 e5
    injection e3 with e4
    injection e4 with e4
    subst e4
    exact ⟨hb, lt_heap hh, cur, hh, by omega⟩
structure Duo (A : Ag) (R : Rg) (B m : Nat) (w : World) : Prop where
  a : A.Ok w B 4611686018427387903
  r : R.Ok w B
  s : Sim A R
  L : R.all.length ≤ m
  v : R.own.rev ≤ (m : Int) + 1
structure Opz (o : Opx) (B : Nat) (w : World) : Prop where
  rd : ∀ w', Below B w w' → o.Rd w'
  s0 : o.sa = none → o.sc = 0
  sn : o.sn ≤ 17592186043904
  p0 : o.p.sa = none → o.p.sc = 0
  pn : o.p.sn ≤ 17592186043904
  v0 : o.p.va = none → o.p.vc = 0
  vn : o.p.vn ≤ 17592186043904
variable {m : Nat}
theorem Duo.bB (D : Duo A R B m w) : B ≤ w.heap.size := D.r.bB
theorem Duo.still (D : Duo A R B m w) (hb : Below w.heap.size w w') : Duo A R B m w' := { D with a := D.a.still hb, r := D.r.still hb }
theorem Duo.up (D : Duo A R B m w) : Duo A R B (m + 1) w := { D with L := by have := D.L; omega, v := by have := D.v; push_cast; omega }
theorem Duo.bd (D : Duo A R B m w) : R.Bd := ⟨by rw [← D.s.cid]; exact D.a.cid, by rw [← D.s.rev]; exact D.a.rev, by rw [← D.s.id]; exact D.a.ep⟩
theorem Duo.sn (D : Duo A R B m w) : R.own.ss.getD R.self 0 ≠ 0 := by rw [← D.s.sg, ← D.s.self, D.s.iv.set]; have := D.s.iv.inc1; omega
theorem Duo.an (D : Duo A R B m w) : A.own.set.getD A.self 0 ≠ 0 := by rw [D.s.iv.set]; have := D.s.iv.inc1; omega
theorem num_any (x : Int) : Calls Try.prog 7 #[.int .i64 x] w fun e w' => e = .returned (.int .i64 x) ∧ w = w' := by
  go_enter Try.func7, Try.ntmps7
  go_wp2
  go_ret
  exact ⟨rfl, rfl⟩
end
end Go.Proofs.Ytbdefhagpgpoiac.Mb
namespace Go.Proofs.Ytbdefhagpgpoiac.Mb
open Go.RowKit
set_option linter.unusedVariables false
set_option maxRecDepth 100000
set_option linter.unusedSimpArgs false
section
variable {A A' : Ag} {w w' W : World} {B m : Nat} {T : Int} {R R' : Rg}
structure Ply (A : Ag) (R : Rg) (B m : Nat) (w : World) (e : Ending) (w' : World) : Prop where
  out : ∃ (A' : Ag) (R' : Rg), e = .returned (.bool true) ∧ Duo A' R' B (m + 1) w' ∧ A'.b = A.b ∧ R'.b = R.b ∧ Below B w w'
set_option maxHeartbeats 4000000 in
theorem plays_no (D : Duo A R B m w) (hm : m ≤ 925904528653) (o : Opx) (hk : o.kind ≠ 1 ∧ o.kind ≠ 2 ∧ o.kind ≠ 3 ∧ o.kind ≠ 4 ∧ o.kind ≠ 5 ∧ o.kind ≠ 6 ∧ o.kind ≠ 7) : Calls Try.prog 8 #[.pointer (some ⟨A.b, 0, none⟩), .pointer (some ⟨R.b, 0, none⟩), .agg o.cs] w fun e w' => Ply A R B m w e w' := by
  generalize hW1 : w.alloc (.cells o.cs 42) = W1
  have b1 : Below w.heap.size w W1 := hW1 ▸ balloc (Below.refl _ _)
  have k1 : W1.heap[w.heap.size]? = some (.cells o.cs 42 (0, 0)) := by rw [← hW1]; exact heap_alloc_new w _
  have x0 : W1.cell? ⟨w.heap.size, 0, none⟩ = some (.int .i64 o.kind) := blk_cell k1 0
  have D1 := D.still b1
  have HD1 : Hid (Duo A R B m W1) := D1
  have HB1 : Hid (Below w.heap.size w W1) := b1
  have HBw : Hid (B ≤ w.heap.size) := D.bB
  obtain ⟨h1, h2, h3, h4, h5, h6, h7⟩ := hk
  have HDz := HD1
  have HBz := HB1
  generalize o.cs = ocs at *
  generalize o.kind = kd at *
  clear D D1 b1 k1
  go_enter Try.func8, Try.ntmps8
  go_wp2
  go_ret
  exact ⟨A, R, rfl, HDz.out.up, rfl, rfl, HBz.out.mono HBw.out⟩
set_option maxHeartbeats 4000000 in
theorem plays_7 (D : Duo A R B m w) (hm : m ≤ 925904528653) (o : Opx) (hk : o.kind = 7) : Calls Try.prog 8 #[.pointer (some ⟨A.b, 0, none⟩), .pointer (some ⟨R.b, 0, none⟩), .agg o.cs] w fun e w' => Ply A R B m w e w' := by
  generalize hW1 : w.alloc (.cells o.cs 42) = W1
  have b1 : Below w.heap.size w W1 := hW1 ▸ balloc (Below.refl _ _)
  have k1 : W1.heap[w.heap.size]? = some (.cells o.cs 42 (0, 0)) := by rw [← hW1]; exact heap_alloc_new w _
  have x0 : W1.cell? ⟨w.heap.size, 0, none⟩ = some (.int .i64 o.kind) := blk_cell k1 0
  have D1 := D.still b1
  have HD1 : Hid (Duo A R B m W1) := D1
  have HB1 : Hid (Below w.heap.size w W1) := b1
  have HBw : Hid (B ≤ w.heap.size) := D.bB
  rw [hk] at x0
  have HDz := HD1
  have HBz := HB1
  have hce : R.op = A.chg := D.s.chg.symm
  have H1 := changing_any D1.a
  have H2 := rchanging_any D1.r
  rw [hce] at H2
  generalize A.chg = cg at *
  generalize o.cs = ocs at *
  clear D D1 b1 k1 hce hk
  go_enter Try.func8, Try.ntmps8
  go_wp2_with (fail)
  refine H1.mono ?_
  rintro e w2 ⟨rfl, rfl⟩
  go_wp2_with (fail)
  refine H2.mono ?_
  rintro e w3 ⟨rfl, rfl⟩
  have hb : (cg == cg) = true := by simp
  go_wp2
  go_ret
  exact ⟨A, R, rfl, HDz.out.up, rfl, rfl, HBz.out.mono HBw.out⟩
end
end Go.Proofs.Ytbdefhagpgpoiac.Mb
namespace Go.Proofs.Ytbdefhagpgpoiac.Mb
open Go.RowKit
set_option linter.unusedVariables false
set_option maxRecDepth 100000
set_option linter.unusedSimpArgs false
section
variable {A A' : Ag} {w w' W : World} {B m : Nat} {T : Int} {R R' : Rg}
theorem rdM_nil (w : World) : RdM w none 0 [] := own_rdM (B := 0) (c := 0) (row_nil w 0 92 3)
theorem rdI_nil (w : World) : RdI w none 0 [] := ⟨rfl, .inl rfl⟩
theorem views_same (x0 x1 x2 x3 : Int) {a1 a2 : Option Addr} {n c1 c2 : Nat} {xs : List Int} (h1 : RdM w a1 n xs) (h2 : RdM w a2 n xs) (hn : n ≤ 16) : Calls Try.prog 24 #[.agg [.int .i64 x0, .int .i64 x1, .int .i64 x2, .int .i64 x3, .slice a1 n c1].toArray, .agg [.int .i64 x0, .int .i64 x1, .int .i64 x2, .int .i64 x3, .slice a2 n c2].toArray] w fun e w' => e = .returned (.bool true) ∧ Below w.heap.size w w' := by
  have := views_any x0 x1 x2 x3 x0 x1 x2 x3 (c1 := c1) (c2 := c2) h1 h2 hn hn
  rw [decide_eq_true rfl, decide_eq_true rfl] at this
  exact this
theorem ints_same {a1 a2 : Option Addr} {n c1 c2 : Nat} {xs : List Int} (h1 : RdI w a1 n xs) (h2 : RdI w a2 n xs) (hn : n ≤ 17592186044420) : Calls Try.prog 25 #[.slice a1 n c1, .slice a2 n c2] w fun e w' => e = .returned (.bool true) ∧ Below w.heap.size w w' := by
  have := ints_any (c1 := c1) (c2 := c2) h1 h2 hn
  rw [decide_eq_true rfl] at this
  exact this
theorem Duo.view (D : Duo A R B m w) : Calls Try.prog 28 #[.pointer (some ⟨A.b, 0, none⟩)] w fun e w' => ∃ a c, e = .returned (.agg [.int .i64 (R.id.getD 0 0), .int .i64 (R.id.getD 1 0), .int .i64 (R.id.getD 2 0), .int .i64 (R.id.getD 3 0), .slice a R.k c].toArray) ∧ RdM w' a R.k R.ms ∧ Below w.heap.size w w' := by
  rcases D.s.iv.vw with ⟨h1, h2, h3, h4⟩ | ⟨h1, h2, g, c, h3⟩
  · refine (view_nil D.a h2).mono fun e w' ⟨he, hb⟩ => ⟨none, 0, ?_, ?_, hb⟩
    · rw [he, ← D.s.k, h3, D.s.id]
    · rw [← D.s.k, ← D.s.ms, h3, h4]; exact rdM_nil w'
  · refine (view_any D.a g c h3 h2).mono fun e w' ⟨g', c', he, ho, hb⟩ => ⟨some ⟨g', 0, none⟩, c', ?_, ?_, hb⟩
    · rw [he, ← D.s.k, D.s.id]
    · rw [← D.s.k, ← D.s.ms]; exact own_rdM ho
theorem Duo.rview (D : Duo A R B m w) : Calls Try.prog 29 #[.pointer (some ⟨R.b, 0, none⟩)] w fun e w' => ∃ a c, e = .returned (.agg [.int .i64 (R.id.getD 0 0), .int .i64 (R.id.getD 1 0), .int .i64 (R.id.getD 2 0), .int .i64 (R.id.getD 3 0), .slice a R.k c].toArray) ∧ RdM w' a R.k R.ms ∧ Below w.heap.size w w' :=
  (rview_any D.r).mono fun e w' ⟨a, c, he, ho, hb⟩ => ⟨a, c, he, own_rdM ho, hb⟩
structure Ow (p : Pq) (R : Rg) : Prop where
  ss : p.ss = R.own.ss
  vs : p.vs = R.own.vs
  cid : p.cid = R.own.cid
  rev : p.rev = R.own.rev
  top : p.top = R.own.top
  prev : p.prev = R.own.prev
theorem pad_takeN {xs : List Int} {n : Nat} (hx : xs.length = n) (hn : n ≤ 16) : (pad xs).take n = xs := by
  apply List.ext_getElem (by simp [pad_len]; omega)
  intro i h1 h2
  have e := pad_get xs (show i < 16 by omega)
  rw [List.getElem_take]
  have hl : i < (pad xs).length := by rw [pad_len]; omega
  simp only [List.getD_eq_getElem?_getD, List.getElem?_eq_getElem hl, List.getElem?_eq_getElem h2, Option.getD_some] at e
  exact e
theorem rw_rd {g : Nat} {xs : List Int} {n : Nat} (h : Rw w g 3 xs) (hn : xs.length = n) : RdI w (some ⟨g, 0, none⟩) n xs := by
  subst hn
  refine ⟨rfl, .inr ⟨g, 0, rfl, fun i hi => ?_⟩⟩
  rw [Nat.zero_add, blk_cell h]
  simp [ints, List.getD, hi]
theorem Duo.prop (D : Duo A R B m w) : Calls Try.prog 19 #[.pointer (some ⟨A.b, 0, none⟩)] w fun e w' => ∃ p : Pq, e = .returned (.agg [.slice p.sa p.sn p.sc, .int .i64 p.cid, .int .i64 p.rev, .int .i64 p.top, .int .i64 (p.prev[0]?.getD 0), .int .i64 (p.prev[1]?.getD 0), .int .i64 (p.prev[2]?.getD 0), .int .i64 (p.prev[3]?.getD 0), .slice p.va p.vn p.vc].toArray) ∧ p.Rd w' ∧ Ow p R ∧ Below w.heap.size w w' := by
  have h16 := D.s.n16
  have e1 : A.own.set.take A.n = R.own.ss := by rw [D.s.os, D.s.n]; exact pad_takeN D.s.sl h16.2.1
  have e2 : A.own.vec.take A.n = R.own.vs := by rw [D.s.ov, D.s.n]; exact pad_takeN D.s.vl h16.2.1
  refine (proposal_any D.a).mono fun e w' ⟨g1, g2, he, _, _, r1, r2, hb⟩ => ⟨A.pq g1 g2, he, ?_, ?_, hb⟩
  · refine ⟨rw_rd r1 ?_, rw_rd r2 ?_, ?_, ?_, ?_⟩
    · show (A.own.set.take A.n).length = A.n; rw [e1, D.s.sl, D.s.n]
    · show (A.own.vec.take A.n).length = A.n; rw [e2, D.s.vl, D.s.n]
    · show A.own.prev.length = 4; exact D.a.ol.lp
    · show A.n ≤ _; rw [D.s.n]; omega
    · show A.n ≤ _; rw [D.s.n]; omega
  · exact ⟨e1, e2, D.s.cid, D.s.rev, D.s.top, D.s.prev⟩
theorem Duo.rprop (D : Duo A R B m w) : Calls Try.prog 20 #[.pointer (some ⟨R.b, 0, none⟩)] w fun e w' => ∃ p : Pq, e = .returned (.agg [.slice p.sa p.sn p.sc, .int .i64 p.cid, .int .i64 p.rev, .int .i64 p.top, .int .i64 (p.prev[0]?.getD 0), .int .i64 (p.prev[1]?.getD 0), .int .i64 (p.prev[2]?.getD 0), .int .i64 (p.prev[3]?.getD 0), .slice p.va p.vn p.vc].toArray) ∧ p.Rd w' ∧ Ow p R ∧ Below w.heap.size w w' := by
  have h16 := D.s.n16
  refine (rproposal_any D.r).mono fun e w' ⟨a1, q1, a2, q2, he, r1, r2, hb⟩ => ⟨⟨a1, R.own.sn, q1, R.own.ss, R.own.cid, R.own.rev, R.own.top, R.own.prev, a2, R.own.vn, q2, R.own.vs⟩, he, ?_, ⟨rfl, rfl, rfl, rfl, rfl, rfl⟩, hb⟩
  refine ⟨r1.rd, r2.rd, D.r.pl, ?_, ?_⟩
  · have := r1.rd.1; have := D.s.sl; show R.own.sn ≤ _; omega
  · have := r2.rd.1; have := D.s.vl; show R.own.vn ≤ _; omega
theorem props_same (p p' : Pq) (hp : p.Rd w) (hp' : p'.Rd w) (h : Ow p R) (h' : Ow p' R) : Calls Try.prog 21 #[.agg [.slice p.sa p.sn p.sc, .int .i64 p.cid, .int .i64 p.rev, .int .i64 p.top, .int .i64 (p.prev[0]?.getD 0), .int .i64 (p.prev[1]?.getD 0), .int .i64 (p.prev[2]?.getD 0), .int .i64 (p.prev[3]?.getD 0), .slice p.va p.vn p.vc].toArray, .agg [.slice p'.sa p'.sn p'.sc, .int .i64 p'.cid, .int .i64 p'.rev, .int .i64 p'.top, .int .i64 (p'.prev[0]?.getD 0), .int .i64 (p'.prev[1]?.getD 0), .int .i64 (p'.prev[2]?.getD 0), .int .i64 (p'.prev[3]?.getD 0), .slice p'.va p'.vn p'.vc].toArray] w fun e w' => e = .returned (.bool true) ∧ Below w.heap.size w w' := by
  have := props_any p p' hp hp'
  have e : p.same p' = true := by unfold Pq.same; rw [h.ss, h.vs, h.cid, h.rev, h.top, h.prev, h'.ss, h'.vs, h'.cid, h'.rev, h'.top, h'.prev]; simp
  rw [e] at this
  exact this
def Rg.agV (R : Rg) : List Int := if R.ragr then R.avI else [0, 0, 0, 0]
def Rg.agM (R : Rg) : List Int := if R.ragr then R.msN R.n else []
def Rg.agK (R : Rg) : Nat := if R.ragr then (R.mi R.n).length else 0
def Rg.agT (R : Rg) : List Int := if R.ragr then R.trN R.n else []
theorem Duo.k16 (D : Duo A R B m w) : R.agK ≤ 16 ∧ R.agT.length ≤ 16 := by
  have h16 := D.s.n16
  unfold Rg.agK Rg.agT
  constructor
  · split
    · have := R.mi_len R.n; omega
    · omega
  · split
    · unfold Rg.trN
      rw [List.length_map]
      have := List.length_filter_le (fun q => R.inS q && R.tg q) (List.range R.n)
      rw [List.length_range] at this
      omega
    · decide
theorem own_slice0 {b t s n : Nat} {v : Value} {l : List Value} (h : w.ownsRow b t s v n l) : ∃ a c, v = .slice a n c := by
  rcases h.2 with ⟨e1, e2⟩ | ⟨g0, cap0, cur, e0, _⟩
  · exact ⟨none, 0, by rw [e1, e2]⟩
  · exact ⟨_, _, e0⟩
theorem Duo.agreed (D : Duo A R B m w) : Calls Try.prog 22 #[.pointer (some ⟨A.b, 0, none⟩)] w fun e w' => ∃ a c ta tc, e = .returned (.tuple #[.agg [.int .i64 (R.agV.getD 0 0), .int .i64 (R.agV.getD 1 0), .int .i64 (R.agV.getD 2 0), .int .i64 (R.agV.getD 3 0), .slice a R.agK c].toArray, .slice ta R.agT.length tc, .bool R.ragr]) ∧ RdM w' a R.agK R.agM ∧ RdI w' ta R.agT.length R.agT ∧ Below w.heap.size w w' := by
  have hT : 0 ≤ A.own.top := D.a.top.1
  unfold Rg.agV Rg.agM Rg.agK Rg.agT
  cases hg : R.ragr with
  | false =>
    have ha : A.agr = false := D.s.agr.trans hg
    exact (agreed_no D.a ha).mono fun e w' ⟨he, hb⟩ => ⟨none, 0, none, 0, he, rdM_nil w', rdI_nil w', hb⟩
  | true =>
    have ha : A.agr = true := D.s.agr.trans hg
    refine (agreed_yes D.a (by decide) D.an ha).mono fun e w' ⟨g, c, v, he, om, ot, _, hb⟩ => ?_
    obtain ⟨ta, tc, rfl⟩ := own_slice0 ot
    have e1 := D.s.av hT
    rw [D.s.mid] at om
    have om2 : w'.ownsRow w.heap.size 92 3 (.slice (some ⟨g, 0, none⟩) (R.mi R.n).length c) (R.mi R.n).length (ints (R.msN R.n)) := by have := D.s.msl; rw [D.s.mid] at this; rw [← this]; exact om
    have e2 := D.s.tr
    rw [e2] at ot he
    refine ⟨some ⟨g, 0, none⟩, c, ta, tc, ?_, own_rdM om2, own_rd ot, hb⟩
    rw [he]
    show _ = Ending.returned (.tuple #[.agg [.int .i64 (R.avI.getD 0 0), .int .i64 (R.avI.getD 1 0), .int .i64 (R.avI.getD 2 0), .int .i64 (R.avI.getD 3 0), .slice _ (R.mi R.n).length c].toArray, _, _])
    rw [← e1, ← D.s.mid]
    rfl
theorem Duo.tp (D : Duo A R B m w) : 0 ≤ R.tpN R.n ∧ R.tpN R.n ≤ 4611686018427387904 := by
  rw [← D.s.tp D.a.top.1]
  exact topL_le A ⟨D.a.top.1, by have := D.a.top.2; omega⟩ D.a.lt A.mids
theorem Duo.ragreed (D : Duo A R B m w) (hm : m ≤ 925904528653) : Calls Try.prog 23 #[.pointer (some ⟨R.b, 0, none⟩)] w fun e w' => ∃ a c ta tc, e = .returned (.tuple #[.agg [.int .i64 (R.agV.getD 0 0), .int .i64 (R.agV.getD 1 0), .int .i64 (R.agV.getD 2 0), .int .i64 (R.agV.getD 3 0), .slice a R.agK c].toArray, .slice ta R.agT.length tc, .bool R.ragr]) ∧ RdM w' a R.agK R.agM ∧ RdI w' ta R.agT.length R.agT ∧ Below w.heap.size w w' := by
  have hL : R.all.length ≤ 1000000000000 := by have := D.L; omega
  unfold Rg.agV Rg.agM Rg.agK Rg.agT
  cases hg : R.ragr with
  | false => exact (ragreed_no D.r hL D.s.hl hg).mono fun e w' ⟨he, hb⟩ => ⟨none, 0, none, 0, he, rdM_nil w', rdI_nil w', hb⟩
  | true =>
    refine (ragreed_yes D.r hL D.s.hl hg D.sn D.tp).mono fun e w' ⟨g, c, v, he, om, ot, hb⟩ => ?_
    obtain ⟨ta, tc, rfl⟩ := own_slice0 ot
    exact ⟨some ⟨g, 0, none⟩, c, ta, tc, he, own_rdM om, own_rd ot, hb⟩
def Rg.agE (R : Rg) : Int := if R.ragr then 0 else 61
def Rg.insR (R : Rg) (mv' : Value) : Rg := if R.ragr then R.rinst mv' else R
theorem Duo.inst (D : Duo A R B m w) : Calls Try.prog 26 #[.pointer (some ⟨A.b, 0, none⟩)] w fun e w' => ∃ A' a c ta tc, e = .returned (.tuple #[.agg [.int .i64 (R.agV.getD 0 0), .int .i64 (R.agV.getD 1 0), .int .i64 (R.agV.getD 2 0), .int .i64 (R.agV.getD 3 0), .slice a R.agK c].toArray, .slice ta R.agT.length tc, .int .i64 R.agE]) ∧ w'.ownsRow 0 92 3 (.slice a R.agK c) R.agK (ints R.agM) ∧ w'.ownsRow 0 3 1 (.slice ta R.agT.length tc) R.agT.length (ints R.agT) ∧ A'.Ok w' B 4611686018427387903 ∧ A'.b = A.b ∧ Kept w w' (fun j => j = A.b) ∧ ∀ mv', Sim A' (R.insR mv') := by
  have hT : 0 ≤ A.own.top := D.a.top.1
  unfold Rg.agV Rg.agM Rg.agK Rg.agT Rg.agE Rg.insR
  cases hg : R.ragr with
  | false =>
    have ha : A.agr = false := D.s.agr.trans hg
    exact (install_no D.a ha).mono fun e w' ⟨he, hb⟩ => ⟨A, none, 0, none, 0, he, row_nil w' 0 92 3, row_nil w' 0 3 1, D.a.still hb, rfl, Kept.ofBelow hb _, fun _ => D.s⟩
  | true =>
    have ha : A.agr = true := D.s.agr.trans hg
    refine (install_yes D.a D.an ha).mono fun e w' ⟨g, c, g', c', v, he, hok, om, ot, _, _, _, hk⟩ => ?_
    obtain ⟨ta, tc, rfl⟩ := own_slice0 ot
    have e1 := D.s.av hT
    have om2 : w'.ownsRow w.heap.size 92 3 (.slice (some ⟨g', 0, none⟩) (R.mi R.n).length c') (R.mi R.n).length (ints (R.msN R.n)) := by have := D.s.msl; rw [← this, ← D.s.mid]; exact om
    have e2 := D.s.tr
    rw [e2] at ot he
    refine ⟨A.inst g c, some ⟨g', 0, none⟩, c', ta, tc, ?_, own_lower om2 (Nat.zero_le _), own_lower ot (Nat.zero_le _), hok, rfl, hk, fun mv' => inst_sim D.s hT g c mv'⟩
    rw [he]
    show _ = Ending.returned (.tuple #[.agg [.int .i64 (R.avI.getD 0 0), .int .i64 (R.avI.getD 1 0), .int .i64 (R.avI.getD 2 0), .int .i64 (R.avI.getD 3 0), .slice _ (R.mi R.n).length c'].toArray, _, _])
    rw [← e1, ← D.s.mid]
    rfl
theorem Duo.rinst (D : Duo A R B m w) (hR : R.Ok W B) (hm : m ≤ 925904528653) : Calls Try.prog 27 #[.pointer (some ⟨R.b, 0, none⟩)] W fun e w' => ∃ mv' a c ta tc, e = .returned (.tuple #[.agg [.int .i64 (R.agV.getD 0 0), .int .i64 (R.agV.getD 1 0), .int .i64 (R.agV.getD 2 0), .int .i64 (R.agV.getD 3 0), .slice a R.agK c].toArray, .slice ta R.agT.length tc, .int .i64 R.agE]) ∧ RdM w' a R.agK R.agM ∧ RdI w' ta R.agT.length R.agT ∧ (R.insR mv').Ok w' B ∧ (R.insR mv').b = R.b ∧ Kept W w' (fun j => j = R.b) ∧ (R.insR mv').all = R.all ∧ (R.insR mv').own = R.own := by
  have hL : R.all.length ≤ 1000000000000 := by have := D.L; omega
  unfold Rg.agV Rg.agM Rg.agK Rg.agT Rg.agE Rg.insR
  cases hg : R.ragr with
  | false => exact (rinstall_no hR hL D.s.hl hg).mono fun e w' ⟨he, hb⟩ => ⟨.slice none 0 0, none, 0, none, 0, he, rdM_nil w', rdI_nil w', hR.still hb, rfl, Kept.ofBelow hb _, rfl, rfl⟩
  | true =>
    refine (rinstall_yes hR hL D.s.hl hg D.sn D.tp).mono fun e w' ⟨g', c', v, mv', he, om, ot, hok, hk⟩ => ?_
    obtain ⟨ta, tc, rfl⟩ := own_slice0 ot
    exact ⟨mv', some ⟨g', 0, none⟩, c', ta, tc, he, own_rdM om, own_rd ot, hok, rfl, hk, rfl, rfl⟩
end
end Go.Proofs.Ytbdefhagpgpoiac.Mb
