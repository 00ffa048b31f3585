import Derived.Test.YtobaooebjgoaiaaV10
namespace Go.Proofs.Ytobaooebjgoaiaa.Fm
open Go.RowKit Go.Maps Mb
set_option linter.unusedVariables false
set_option maxRecDepth 100000
set_option linter.unusedSimpArgs false
section
variable {w w' W : World} {B : Nat}
theorem has_eq {f : Co} {k : Nat} {x : Int} (hk : k < f.hv.length) : has f ((k : Int), x) = decide (x ≤ f.hv.getD k 0) := by
 unfold has
 simp [hk]
set_option maxHeartbeats 2000000 in
theorem has1_any {f : Fl} (hf : f.Rd w) (k : Nat) (x : Int) (hk : k < f.c.hv.length) (ks : Nat) (hs : w.heap[ks]? = some (.cells (slotV ((k : Int), x)).toArray 76 (0, 0))) : Calls Try.prog 63 #[.agg f.cs.toArray, .pointer (some ⟨ks, 0, none⟩)] w fun e w' => e = .returned (.bool (has f.c ((k : Int), x))) ∧ Below w.heap.size w w' := by
 generalize hW1 : w.alloc (.cells f.cs.toArray 28) = W1
 have b1 : Below w.heap.size w W1 := hW1 ▸ balloc (Below.refl _ _)
 have k1 : W1.heap[w.heap.size]? = some (.cells f.cs.toArray 28 (0, 0)) := by rw [← hW1]; exact heap_alloc_new w _
 have HB : Hid (Below w.heap.size w W1) := b1
 have q6 : W1.cell? ⟨w.heap.size, 6, none⟩ = some (.slice f.ha f.c.hv.length f.hc) := blk_cell k1 6
 obtain ⟨hb, ho, he, hc⟩ := (hf.h.still b1).at hk
 have q0 : W1.cell? ⟨ks, 0, none⟩ = some (.int .i64 k) := below_at b1 (blk_cell hs 0)
 have q1 : W1.cell? ⟨ks, 1, none⟩ = some (.int .i64 x) := below_at b1 (blk_cell hs 1)
 rw [he] at q6
 rw [has_eq hk]
 have hln := hf.hn
 generalize f.c.hv.getD k 0 = y at *
 generalize f.c.hv.length = L at *
 generalize f.cs.toArray = pc at *
 have i1 : (0 : Int) ≤ (k : Int) := Int.natCast_nonneg _
 have i2 : (k : Int) < (L : Int) := by omega
 clear hf hs b1 k1 he
 go_enter Try.func63, Try.ntmps63
 go_wp2_with (fail)
 refine wp_region_held_drew (S := (fun w' => w'.cell? ⟨w.heap.size, 6, none⟩ = some (.slice (some ⟨hb, ho, none⟩) L f.hc) ∧ w'.cell? ⟨ks, 0, none⟩ = some (.int .i64 k) ∧ w'.cell? ⟨ks, 1, none⟩ = some (.int .i64 x) ∧ w'.cell? ⟨hb, ho + k, none⟩ = some (.int .i64 y))) (by kernel_rfl) ⟨below_at (Below.refl _ _).drew q6, below_at (Below.refl _ _).drew q0, below_at (Below.refl _ _).drew q1, below_at (Below.refl _ _).drew hc⟩ (fun hHeld => ?_)
 simp only [Act.put, List.size_toArray, List.length_cons, List.length_nil, Nat.zero_add]
 refine wG9 0 (.pointer (some ⟨ks, 1, none⟩)) rfl hHeld ?_
 simp only [Act.put,gA9,gZ9,gC9,sA9,sZ9,sC9]
 refine wX9 1 (.int .i64 x) rfl (Or.inl ⟨by rfl, fun w' hS => by (obtain ⟨t6, t0, t1, tc⟩ := hS; go_simp)⟩) hHeld ?_
 simp only [Act.put,gA9,gZ9,gC9,sA9,sZ9,sC9]
 refine wG9 2 (.pointer (some ⟨w.heap.size, 6, none⟩)) rfl hHeld ?_
 simp only [Act.put,gA9,gZ9,gC9,sA9,sZ9,sC9]
 refine wX9 3 (.slice (some ⟨hb, ho, none⟩) L f.hc) rfl (Or.inl ⟨by rfl, fun w' hS => by (obtain ⟨t6, t0, t1, tc⟩ := hS; go_simp)⟩) hHeld ?_
 simp only [Act.put,gA9,gZ9,gC9,sA9,sZ9,sC9]
 refine wG9 4 (.pointer (some ⟨ks, 0, none⟩)) rfl hHeld ?_
 simp only [Act.put,gA9,gZ9,gC9,sA9,sZ9,sC9]
 refine wX9 5 (.int .i64 k) rfl (Or.inl ⟨by rfl, fun w' hS => by (obtain ⟨t6, t0, t1, tc⟩ := hS; go_simp)⟩) hHeld ?_
 simp only [Act.put,gA9,gZ9,gC9,sA9,sZ9,sC9]
 refine wG9 6 (.pointer (some ⟨hb, ho + k, none⟩)) rfl hHeld ?_
 simp only [Act.put,gA9,gZ9,gC9,sA9,sZ9,sC9]
 refine wX9 7 (.int .i64 y) rfl (Or.inl ⟨by rfl, fun w' hS => by (obtain ⟨t6, t0, t1, tc⟩ := hS; go_simp)⟩) hHeld ?_
 simp only [Act.put,gA9,gZ9,gC9,sA9,sZ9,sC9]
 refine wG9 8 (.bool (decide (x ≤ y))) rfl hHeld ?_
 simp only [Act.put,gA9,gZ9,gC9,sA9,sZ9,sC9]
 refine wG9 9 (.bool (decide (x ≤ y))) rfl hHeld ?_
 simp only [Act.put,gA9,gZ9,gC9,sA9,sZ9,sC9]
 refine wpAnyH_done (by kernel_rfl) ?_ _
 clear hHeld
 go_wp2
 go_ret
 exact ⟨rfl, HB.out.drew⟩
def hasC (fs : List Fl) (s : Int × Int) (j : Nat) : Bool := has (fs.getD j fl0).c s
set_option maxHeartbeats 2000000 in
theorem idxF_any {ao : Option Addr} {cp : Nat} {fs : List Fl} (hr : RdFs w ao fs) (hn : fs.length ≤ 1000000000000000000) (k : Nat) (x : Int) (hk : ∀ i, i < fs.length → k < (fs.getD i fl0).c.hv.length) (ks : Nat) (hs : w.heap[ks]? = some (.cells (slotV ((k : Int), x)).toArray 76 (0, 0))) : Calls Try.prog 75 #[.slice ao fs.length cp, .func (.func 63) #[] #[.pointer (some ⟨ks, 0, none⟩)]] w fun e w' => ∃ r : Int, e = .returned (.int .i64 r) ∧ decide (0 ≤ r) = (List.range fs.length).any (hasC fs ((k : Int), x)) ∧ Below w.heap.size w w' := by
 have HR : Hid (RdFs w ao fs) := hr
 have HK : Hid (∀ i, i < fs.length → k < (fs.getD i fl0).c.hv.length) := hk
 have HS : Hid (w.heap[ks]? = some (.cells (slotV ((k : Int), x)).toArray 76 (0, 0))) := hs
 generalize hL : fs.length = L at *
 have HLe : Hid (fs.length = L) := hL
 clear hr hL hk hs
 go_enter Try.func75, Try.ntmps75
 go_wp2
 go_loopw [8] (fun i wr => ∃ j : Nat, j ≤ L ∧ i = .int .i64 j ∧ (List.range j).any (hasC fs ((k : Int), x)) = false ∧ Below w.heap.size w wr) (fun i _ => L - (intOf i).toNat)
 case atStart => exact ⟨0, Nat.zero_le _, rfl, by simp, Below.refl _ _⟩
 case round =>
  obtain ⟨j, hj, rfl, hno, hb⟩ := hrel
  have HB : Hid (Below w.heap.size w wr) := hb
  by_cases hlt : j < L
  ·obtain ⟨b, off, hg, hc⟩ := (HR.out.still hb).at (i := j) (by rw [HLe.out]; exact hlt)
   have HC : Hid (wr.rangeAt b (off + j * 7) (fs.getD j fl0).cs) := hc
   have HM : Hid (Calls Try.prog 63 #[.agg (fs.getD j fl0).cs.toArray, .pointer (some ⟨ks, 0, none⟩)] wr fun e w' => e = .returned (.bool (hasC fs ((k : Int), x) j)) ∧ Below wr.heap.size wr w') := has1_any (((HR.out.still hb).el j (by rw [HLe.out]; exact hlt))) k x (HK.out j hlt) ks ((hb.block _ (lt_heap HS.out)).trans HS.out)
   have i1 : (0 : Int) ≤ (j : Int) := Int.natCast_nonneg _
   have i2 : (j : Int) < (L : Int) := by omega
   have Hyes : Hid (hasC fs ((k : Int), x) j = true → (List.range L).any (hasC fs ((k : Int), x)) = true) := fun h => List.any_eq_true.2 ⟨j, List.mem_range.2 hlt, h⟩
   have Hno : Hid (hasC fs ((k : Int), x) j = false → (List.range (j + 1)).any (hasC fs ((k : Int), x)) = false) := fun h => by
    rw [List.range_succ, List.any_append, hno]
    simp [h]
   have Hl7 : Hid ((fs.getD j fl0).cs.length = 7) := rfl
   subst hg
   generalize (fs.getD j fl0).cs = l7 at *
   clear hno hb hc
   cases hx : hasC fs ((k : Int), x) j with
   | true =>
    rw [hx] at HM
    go_wp2_with (first
     | (go_at_call 63; refine HM.out.mono ?_; rintro e w2 ⟨rfl, hb2⟩)
     | (refine load_mid 28 (.tmp 14) HC.out _ Try.underlying28 rfl (by rw [Hl7.out]; exact info_flush) rfl rfl rfl ?_)
     | fail)
    go_ret
    exact ⟨(j : Int), rfl, by rw [Hyes.out hx]; simp, bstep HB.out hb2⟩
   | false =>
    rw [hx] at HM
    go_wp2_with (first
     | (go_at_call 63; refine HM.out.mono ?_; rintro e w2 ⟨rfl, hb2⟩)
     | (refine load_mid 28 (.tmp 14) HC.out _ Try.underlying28 rfl (by rw [Hl7.out]; exact info_flush) rfl rfl rfl ?_)
     | fail)
    exact ⟨⟨j + 1, by omega, by go_num, Hno.out hx, bstep HB.out hb2⟩, by simp [intOf]; omega⟩
  ·obtain rfl : j = L := by omega
   have Hn : Hid ((List.range j).any (hasC fs ((k : Int), x)) = false) := hno
   clear hno hb
   go_wp2
   go_ret
   exact ⟨-1, rfl, by rw [Hn.out]; decide, HB.out⟩
theorem hasC_all (fs : List Fl) (s : Int × Int) : (List.range fs.length).any (hasC fs s) = hasA (cos fs) s := by
 unfold hasA
 rw [cos_len]
 congr 1
 funext i
 rw [cos_at]
 rfl
set_option maxHeartbeats 1000000 in
theorem hasF_any {ao : Option Addr} {cp : Nat} {fs : List Fl} (hr : RdFs w ao fs) (hn : fs.length ≤ 1000000000000000000) (k : Nat) (x : Int) (hk : ∀ i, i < fs.length → k < (fs.getD i fl0).c.hv.length) (ks : Nat) (hs : w.heap[ks]? = some (.cells (slotV ((k : Int), x)).toArray 76 (0, 0))) : Calls Try.prog 62 #[.slice ao fs.length cp, .func (.func 63) #[] #[.pointer (some ⟨ks, 0, none⟩)]] w fun e w' => e = .returned (.bool (hasA (cos fs) ((k : Int), x))) ∧ Below w.heap.size w w' := by
 have HI := idxF_any (cp := cp) hr hn k x hk ks hs
 rw [hasC_all] at HI
 clear hr hk hs
 go_enter Try.func62, Try.ntmps62
 go_wp2_with (first | (go_at_call 75; refine HI.mono ?_; rintro e w2 ⟨r, rfl, hr, hb2⟩) | fail)
 all_goals (go_ret; exact ⟨by rw [← hr]; simp; try omega, hb2⟩)
set_option maxHeartbeats 1000000 in
theorem held_any {ao : Option Addr} {cp : Nat} {fs : List Fl} (hr : RdFs w ao fs) (hn : fs.length ≤ 1000000000000000000) (k : Nat) (x : Int) (hk : ∀ i, i < fs.length → k < (fs.getD i fl0).c.hv.length) (kb : Nat) (hb : w.heap[kb]? = some (.cells #[.slice ao fs.length cp] 22 (0, 0))) : Calls Try.prog 61 #[.agg (slotV ((k : Int), x)).toArray, .pointer (some ⟨kb, 0, none⟩)] w fun e w' => e = .returned (.bool (hasA (cos fs) ((k : Int), x))) ∧ Below w.heap.size w w' := by
 generalize hW1 : w.alloc (.cells (slotV ((k : Int), x)).toArray 76) = W1
 have b1 : Below w.heap.size w W1 := hW1 ▸ balloc (Below.refl _ _)
 have k1 : W1.heap[w.heap.size]? = some (.cells (slotV ((k : Int), x)).toArray 76 (0, 0)) := by rw [← hW1]; exact heap_alloc_new w _
 have HB : Hid (Below w.heap.size w W1) := b1
 have HC := hasF_any (cp := cp) (hr.still b1) hn k x hk w.heap.size k1
 have q0 : W1.cell? ⟨kb, 0, none⟩ = some (.slice ao fs.length cp) := below_at b1 (blk_cell hb 0)
 generalize (slotV ((k : Int), x)).toArray = pc at *
 generalize fs.length = L at *
 clear hr hk hb b1 k1
 go_enter Try.func61, Try.ntmps61
 go_wp2_with (first | (go_at_call 62; refine HC.mono ?_; rintro e w2 ⟨rfl, hb2⟩) | fail)
 go_ret
 exact ⟨rfl, bstep HB.out hb2⟩
set_option maxHeartbeats 1000000 in
theorem holder_any (ao : Option Addr) (n cp : Nat) : Calls Try.prog 32 #[.slice ao n cp] w fun e w' => e = .returned (.func (.func 61) #[] #[.pointer (some ⟨w.heap.size, 0, none⟩)]) ∧ Below w.heap.size w w' ∧ w'.heap[w.heap.size]? = some (.cells #[.slice ao n cp] 22 (0, 0)) := by
 generalize hW1 : w.alloc (.cells #[.slice ao n cp] 22) = W1
 have HB : Hid (Below w.heap.size w W1) := hW1 ▸ balloc (Below.refl _ _)
 have k0 : W1.heap[w.heap.size]? = some (.cells #[.slice ao n cp] 22 (0, 0)) := by rw [← hW1]; exact heap_alloc_new w _
 have k1 : Hid (W1.heap[w.heap.size]? = some (.cells #[.slice ao n cp] 22 (0, 0))) := k0
 clear k0
 go_enter Try.func32, Try.ntmps32
 go_wp2
 go_ret
 exact ⟨rfl, HB.out, k1.out⟩
end
end Go.Proofs.Ytobaooebjgoaiaa.Fm
