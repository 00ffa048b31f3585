import Derived.Test.YtobaooebjgoaiaaV15
import Derived.Test.YtobaooebjgoaiaaV13
import Derived.Test.YtobaooebjgoaiaaV18
import Derived.Test.YtobaooebjgoaiaaV23
namespace Go.Proofs.Ytobaooebjgoaiaa.Fm
open Go.RowKit Go.Maps Mb
set_option linter.unusedVariables false
set_option maxRecDepth 100000
set_option linter.unusedSimpArgs false
section
variable {w w' W : World} {B : Nat}
set_option maxHeartbeats 8000000 in
theorem qSame_any {f g : Fl} (hf : f.Rd w) (hg : g.Rd w) (he : f.c = g.c) : Calls Try.prog 53 #[.agg f.cs.toArray, .agg g.cs.toArray] w fun e w' => e = .returned (.bool true) ∧ Below w.heap.size w w' := by
 generalize hW1 : w.alloc (.cells f.cs.toArray 28) = W1
 generalize hW2 : W1.alloc (.cells g.cs.toArray 28) = W2
 have b1 : Below w.heap.size w W1 := hW1 ▸ balloc (Below.refl _ _)
 have b2 : Below W1.heap.size W1 W2 := hW2 ▸ balloc (Below.refl _ _)
 have k1 : W1.heap[w.heap.size]? = some (.cells f.cs.toArray 28 (0, 0)) := by rw [← hW1]; exact heap_alloc_new w _
 have k2 : W2.heap[W1.heap.size]? = some (.cells g.cs.toArray 28 (0, 0)) := by rw [← hW2]; exact heap_alloc_new W1 _
 have k1' : W2.heap[w.heap.size]? = some (.cells f.cs.toArray 28 (0, 0)) := (b2.block _ (lt_heap k1)).trans k1
 have HF : Hid (f.Rd W2) := (hf.still b1).still b2
 have HG : Hid (g.Rd W2) := (hg.still b1).still b2
 have HB : Hid (Below w.heap.size w W2) := bstep b1 b2
 have HBz : Hid (w.heap.size ≤ W2.heap.size) := (bstep b1 b2).size
 have HR1 : Hid (W2.rangeAt w.heap.size 0 f.c.id.cs) := id_range k1'
 have HR2 : Hid (W2.rangeAt W1.heap.size 0 f.c.id.cs) := by rw [he]; exact id_range k2
 have HC : Hid (∀ V : World, Below W2.heap.size W2 V → (V.cell? ⟨w.heap.size, 4, none⟩ = some (.int .i64 f.c.base) ∧ V.cell? ⟨w.heap.size, 5, none⟩ = some (.slice f.sa f.c.sl.length f.sc) ∧ V.cell? ⟨w.heap.size, 6, none⟩ = some (.slice f.ha f.c.hv.length f.hc)) ∧ (V.cell? ⟨W1.heap.size, 4, none⟩ = some (.int .i64 f.c.base) ∧ V.cell? ⟨W1.heap.size, 5, none⟩ = some (.slice g.sa f.c.sl.length g.sc) ∧ V.cell? ⟨W1.heap.size, 6, none⟩ = some (.slice g.ha f.c.hv.length g.hc))) := fun V hV => ⟨⟨below_at hV (blk_cell k1' 4), below_at hV (blk_cell k1' 5), below_at hV (blk_cell k1' 6)⟩, by rw [he]; exact ⟨below_at hV (blk_cell k2 4), below_at hV (blk_cell k2 5), below_at hV (blk_cell k2 6)⟩⟩
 have Hsn : Hid (f.c.sl.length ≤ 1000000000000000000 ∧ f.c.hv.length ≤ 1000000000000000000) := ⟨hf.sn, hf.hn⟩
 have hsn := Hsn.out
 have HE : Hid (f.c = g.c) := he
 have Hi4 : Hid (f.c.id.cs.length = 4) := rfl
 have HEq : Hid (∀ W, (Op.equalIn 10000 24 (.agg f.c.id.cs.toArray) (.agg f.c.id.cs.toArray)).run Try.prog W = .ok true W) := fun W => by rw [eq_vid]; simp
 clear hf hg he b1 b2 k1 k2 k1'
 generalize hfl : f.c.sl.length = fn at *
 generalize hgl : f.c.hv.length = gn at *
 have Hfl : Hid (f.c.sl.length = fn) := hfl
 have Hgl : Hid (f.c.hv.length = gn) := hgl
 generalize hfb : f.c.base = fb at *
 generalize f.c.id.cs = ic at *
 generalize f.cs.toArray = pf at *
 generalize g.cs.toArray = pg at *
 clear hfl hgl hfb
 obtain ⟨⟨e4, e5, e6⟩, d4, d5, d6⟩ := HC.out W2 (Below.refl _ _)
 go_enter Try.func53, Try.ntmps53
 go_wp2_with (first | (refine wl_at 7 rfl ?_) | fail)
 clear hW1 hW2
 generalize hkf : w.heap.size = kf at *
 have Hkf : Hid (w.heap.size = kf) := hkf
 generalize hkg : W1.heap.size = kg at *
 clear hkf hkg
 refine wT9 ?_
 simp only [Act.put,gA9,gZ9,gC9,sA9,sZ9,sC9]
 refine wl_load 24 (.tmp 7) HR1.out _ Try.underlying24 rfl (by rw [Hi4.out]; exact info_id) rfl rfl (by kernel_rfl) ?_
 simp only [Act.put,gA9,gZ9,gC9,sA9,sZ9,sC9]
 refine wT9 ?_
 simp only [Act.put,gA9,gZ9,gC9,sA9,sZ9,sC9]
 refine wl_load 24 (.tmp 9) HR2.out _ Try.underlying24 rfl (by rw [Hi4.out]; exact info_id) rfl rfl (by kernel_rfl) ?_
 simp only [Act.put,gA9,gZ9,gC9,sA9,sZ9,sC9]
 refine wl_take (v := .bool false) (by kernel_rfl) (run_neqop 24 (.tmp 8) (.tmp 10) 24 rfl _ _ rfl rfl guard_id true (HEq.out _)) ?_
 simp only [Act.put,gA9,gZ9,gC9,sA9,sZ9,sC9]
 refine wT9 ?_
 simp only [Act.put,gA9,gZ9,gC9,sA9,sZ9,sC9]
 refine wT9 ?_
 simp only [Act.put,gA9,gZ9,gC9,sA9,sZ9,sC9]
 refine wT9 ?_
 simp only [Act.put,gA9,gZ9,gC9,sA9,sZ9,sC9]
 refine wT9 ?_
 simp only [Act.put,gA9,gZ9,gC9,sA9,sZ9,sC9]
 refine wT9 ?_
 simp only [Act.put,gA9,gZ9,gC9,sA9,sZ9,sC9]
 refine wl_take (v := .bool false) (by kernel_rfl) (by first | (go_simp; done) | (go_simp; omega)) ?_
 simp only [Act.put,gA9,gZ9,gC9,sA9,sZ9,sC9]
 refine wT9 ?_
 simp only [Act.put,gA9,gZ9,gC9,sA9,sZ9,sC9]
 refine wT9 ?_
 simp only [Act.put,gA9,gZ9,gC9,sA9,sZ9,sC9]
 refine wT9 ?_
 simp only [Act.put,gA9,gZ9,gC9,sA9,sZ9,sC9]
 refine wT9 ?_
 simp only [Act.put,gA9,gZ9,gC9,sA9,sZ9,sC9]
 refine wT9 ?_
 simp only [Act.put,gA9,gZ9,gC9,sA9,sZ9,sC9]
 refine wT9 ?_
 simp only [Act.put,gA9,gZ9,gC9,sA9,sZ9,sC9]
 refine wT9 ?_
 simp only [Act.put,gA9,gZ9,gC9,sA9,sZ9,sC9]
 refine wT9 ?_
 simp only [Act.put,gA9,gZ9,gC9,sA9,sZ9,sC9]
 refine wl_take (v := .bool false) (by kernel_rfl) (by first | (go_simp; done) | (go_simp; omega)) ?_
 simp only [Act.put,gA9,gZ9,gC9,sA9,sZ9,sC9]
 refine wT9 ?_
 simp only [Act.put,gA9,gZ9,gC9,sA9,sZ9,sC9]
 refine wT9 ?_
 simp only [Act.put,gA9,gZ9,gC9,sA9,sZ9,sC9]
 refine wT9 ?_
 simp only [Act.put,gA9,gZ9,gC9,sA9,sZ9,sC9]
 refine wT9 ?_
 simp only [Act.put,gA9,gZ9,gC9,sA9,sZ9,sC9]
 refine wT9 ?_
 simp only [Act.put,gA9,gZ9,gC9,sA9,sZ9,sC9]
 refine wT9 ?_
 simp only [Act.put,gA9,gZ9,gC9,sA9,sZ9,sC9]
 refine wT9 ?_
 simp only [Act.put,gA9,gZ9,gC9,sA9,sZ9,sC9]
 refine wT9 ?_
 simp only [Act.put,gA9,gZ9,gC9,sA9,sZ9,sC9]
 refine wl_take (v := .bool false) (by kernel_rfl) (by first | (go_simp; done) | (go_simp; omega)) ?_
 simp only [Act.put,gA9,gZ9,gC9,sA9,sZ9,sC9]
 refine wT9 ?_
 simp only [Act.put,gA9,gZ9,gC9,sA9,sZ9,sC9]
 refine ⟨?_⟩
 go_wp2
 clear e4 e5 e6 d4 d5 d6 HR1 HR2 HEq
 go_loopw [5] (fun v wv => ∃ j : Nat, j ≤ fn ∧ v = .int .i64 j ∧ Below W2.heap.size W2 wv) (fun v _ => fn - (intOf v).toNat)
 case atStart => exact ⟨0, Nat.zero_le _, rfl, Below.refl _ _⟩
 case round =>
  obtain ⟨j, hj, rfl, hb⟩ := hrel
  have HW : Hid (Below W2.heap.size W2 wr) := hb
  clear hb
  obtain ⟨⟨e4, e5, e6⟩, d4, d5, d6⟩ := HC.out wr HW.out
  by_cases hjt : j < fn
  ·have j1 : (0 : Int) ≤ (j : Int) := Int.natCast_nonneg _
   have j2 : (j : Int) < (fn : Int) := by omega
   obtain ⟨bf, of, hsf, rf, _, _⟩ := (HF.out.s.still HW.out).at (i := j) (by rw [Hfl.out]; exact hjt)
   obtain ⟨bg, og, hsg, rg, _, _⟩ := (HG.out.s.still HW.out).at (i := j) (by rw [← HE.out, Hfl.out]; exact hjt)
   rw [← HE.out] at rg
   rw [hsf] at e5
   rw [hsg] at d5
   have HEq : Hid (∀ W, (Op.equalIn 10000 76 (.agg (slotV (f.c.sl.getD j z2)).toArray) (.agg (slotV (f.c.sl.getD j z2)).toArray)).run Try.prog W = .ok true W) := fun W => by rw [eq_slot]; simp
   generalize f.c.sl.getD j z2 = u at *
   have rf2 : wr.drew.rangeAt bf (of + j * 2) (slotV u) := rf
   have rg2 : wr.drew.rangeAt bg (og + j * 2) (slotV u) := rg
   clear rf rg hsf hsg e4 e6 d4 d6
   go_wp2_with (fail)
   refine wp_region_held_drew (S := (fun w' => w'.cell? ⟨kf, 5, none⟩ = some (.slice (some ⟨bf, of, none⟩) fn f.sc) ∧ w'.cell? ⟨kg, 5, none⟩ = some (.slice (some ⟨bg, og, none⟩) fn g.sc) ∧ w'.rangeAt bf (of + j * 2) (slotV u) ∧ w'.rangeAt bg (og + j * 2) (slotV u))) (by kernel_rfl) ⟨below_at (Below.refl _ _).drew e5, below_at (Below.refl _ _).drew d5, rf2, rg2⟩ (fun hHeld => ?_)
   simp only [Act.put, List.size_toArray, List.length_cons, List.length_nil, Nat.zero_add]
   refine wG9 0 (.pointer (some ⟨kf, 5, none⟩)) rfl hHeld ?_
   simp only [Act.put,gA9,gZ9,gC9,sA9,sZ9,sC9]
   refine wX9 1 (.slice (some ⟨bf, of, none⟩) fn f.sc) rfl (Or.inl ⟨by rfl, fun w' hS => by (obtain ⟨t1, t2, t3, t4⟩ := hS; go_simp)⟩) hHeld ?_
   simp only [Act.put,gA9,gZ9,gC9,sA9,sZ9,sC9]
   refine wG9 2 (.int .i64 (j : Int)) rfl hHeld ?_
   simp only [Act.put,gA9,gZ9,gC9,sA9,sZ9,sC9]
   refine wG9 3 (.pointer (some ⟨bf, of + j * 2, none⟩)) rfl hHeld ?_
   simp only [Act.put,gA9,gZ9,gC9,sA9,sZ9,sC9]
   refine wpAnyH_take (i := 4) (v := .agg (slotV u).toArray) rfl (by kernel_rfl) (by kernel_rfl) (by kernel_rfl) (fun _ _ _ h => h) (yieldsIf_load_mid (by rfl) 76 (.tmp 47) rfl bf (of + j * 2) (by rfl) (slotV u) _ (fun w' hS => hS.2.2.1) Try.underlying76 rfl info_slot) hHeld ?_
   simp only [Act.put,gA9,gZ9,gC9,sA9,sZ9,sC9]
   refine wG9 5 (.pointer (some ⟨kg, 5, none⟩)) rfl hHeld ?_
   simp only [Act.put,gA9,gZ9,gC9,sA9,sZ9,sC9]
   refine wX9 6 (.slice (some ⟨bg, og, none⟩) fn g.sc) rfl (Or.inl ⟨by rfl, fun w' hS => by (obtain ⟨t1, t2, t3, t4⟩ := hS; go_simp)⟩) hHeld ?_
   simp only [Act.put,gA9,gZ9,gC9,sA9,sZ9,sC9]
   refine wG9 7 (.int .i64 (j : Int)) rfl hHeld ?_
   simp only [Act.put,gA9,gZ9,gC9,sA9,sZ9,sC9]
   refine wG9 8 (.pointer (some ⟨bg, og + j * 2, none⟩)) rfl hHeld ?_
   simp only [Act.put,gA9,gZ9,gC9,sA9,sZ9,sC9]
   refine wpAnyH_take (i := 9) (v := .agg (slotV u).toArray) rfl (by kernel_rfl) (by kernel_rfl) (by kernel_rfl) (fun _ _ _ h => h) (yieldsIf_load_mid (by rfl) 76 (.tmp 52) rfl bg (og + j * 2) (by rfl) (slotV u) _ (fun w' hS => hS.2.2.2) Try.underlying76 rfl info_slot) hHeld ?_
   simp only [Act.put,gA9,gZ9,gC9,sA9,sZ9,sC9]
   refine wX9 10 (.bool false) rfl (Or.inl ⟨by rfl, fun w' hS => run_neqop 76 (.tmp 48) (.tmp 53) 76 rfl _ _ (by rfl) (by rfl) guard_slot true (HEq.out _)⟩) hHeld ?_
   simp only [Act.put,gA9,gZ9,gC9,sA9,sZ9,sC9]
   refine wpAnyH_done (by kernel_rfl) ?_ _
   clear hHeld
   go_wp2
   exact ⟨⟨j + 1, by omega, by go_num, HW.out.drew⟩, by simp [intOf]; omega⟩
  ·obtain rfl : fn = j := by omega
   clear e4 d4
   go_wp2
   clear e5 e6 d5 d6
   go_loopw [6] (fun v wv => ∃ j : Nat, j ≤ gn ∧ v = .int .i64 j ∧ Below W2.heap.size W2 wv) (fun v _ => gn - (intOf v).toNat)
   case atStart => exact ⟨0, Nat.zero_le _, rfl, HW.out⟩
   case round =>
    obtain ⟨j, hj, rfl, hb⟩ := hrel
    clear HW
    have HW : Hid (Below W2.heap.size W2 wr) := hb
    clear hb
    obtain ⟨⟨e4, e5, e6⟩, d4, d5, d6⟩ := HC.out wr HW.out
    by_cases hjt : j < gn
    ·have j1 : (0 : Int) ≤ (j : Int) := Int.natCast_nonneg _
     have j2 : (j : Int) < (gn : Int) := by omega
     obtain ⟨bf, of, hsf, rf⟩ := (HF.out.h.still HW.out).at (i := j) (by rw [Hgl.out]; exact hjt)
     obtain ⟨bg, og, hsg, rg⟩ := (HG.out.h.still HW.out).at (i := j) (by rw [← HE.out, Hgl.out]; exact hjt)
     rw [← HE.out] at rg
     rw [hsf] at e6
     rw [hsg] at d6
     generalize f.c.hv.getD j 0 = u at *
     clear hsf hsg e4 e5 d4 d5
     go_wp2_with (fail)
     refine wp_region_held_drew (S := (fun w' => w'.cell? ⟨kf, 6, none⟩ = some (.slice (some ⟨bf, of, none⟩) gn f.hc) ∧ w'.cell? ⟨kg, 6, none⟩ = some (.slice (some ⟨bg, og, none⟩) gn g.hc) ∧ w'.cell? ⟨bf, of + j, none⟩ = some (.int .i64 u) ∧ w'.cell? ⟨bg, og + j, none⟩ = some (.int .i64 u))) (by kernel_rfl) ⟨below_at (Below.refl _ _).drew e6, below_at (Below.refl _ _).drew d6, below_at (Below.refl _ _).drew rf, below_at (Below.refl _ _).drew rg⟩ (fun hHeld => ?_)
     simp only [Act.put, List.size_toArray, List.length_cons, List.length_nil, Nat.zero_add]
     refine wG9 0 (.pointer (some ⟨kf, 6, none⟩)) rfl hHeld ?_
     simp only [Act.put,gA9,gZ9,gC9,sA9,sZ9,sC9]
     refine wX9 1 (.slice (some ⟨bf, of, none⟩) gn f.hc) rfl (Or.inl ⟨by rfl, fun w' hS => by (obtain ⟨t1, t2, t3, t4⟩ := hS; go_simp)⟩) hHeld ?_
     simp only [Act.put,gA9,gZ9,gC9,sA9,sZ9,sC9]
     refine wG9 2 (.int .i64 (j : Int)) rfl hHeld ?_
     simp only [Act.put,gA9,gZ9,gC9,sA9,sZ9,sC9]
     refine wG9 3 (.pointer (some ⟨bf, of + j, none⟩)) rfl hHeld ?_
     simp only [Act.put,gA9,gZ9,gC9,sA9,sZ9,sC9]
     refine wX9 4 (.int .i64 u) rfl (Or.inl ⟨by rfl, fun w' hS => by (obtain ⟨t1, t2, t3, t4⟩ := hS; go_simp)⟩) hHeld ?_
     simp only [Act.put,gA9,gZ9,gC9,sA9,sZ9,sC9]
     refine wG9 5 (.pointer (some ⟨kg, 6, none⟩)) rfl hHeld ?_
     simp only [Act.put,gA9,gZ9,gC9,sA9,sZ9,sC9]
     refine wX9 6 (.slice (some ⟨bg, og, none⟩) gn g.hc) rfl (Or.inl ⟨by rfl, fun w' hS => by (obtain ⟨t1, t2, t3, t4⟩ := hS; go_simp)⟩) hHeld ?_
     simp only [Act.put,gA9,gZ9,gC9,sA9,sZ9,sC9]
     refine wG9 7 (.int .i64 (j : Int)) rfl hHeld ?_
     simp only [Act.put,gA9,gZ9,gC9,sA9,sZ9,sC9]
     refine wG9 8 (.pointer (some ⟨bg, og + j, none⟩)) rfl hHeld ?_
     simp only [Act.put,gA9,gZ9,gC9,sA9,sZ9,sC9]
     refine wX9 9 (.int .i64 u) rfl (Or.inl ⟨by rfl, fun w' hS => by (obtain ⟨t1, t2, t3, t4⟩ := hS; go_simp)⟩) hHeld ?_
     simp only [Act.put,gA9,gZ9,gC9,sA9,sZ9,sC9]
     refine wX9 10 (.bool false) rfl (Or.inl ⟨by rfl, fun w' hS => by first | (go_simp; done) | (go_simp; omega)⟩) hHeld ?_
     simp only [Act.put,gA9,gZ9,gC9,sA9,sZ9,sC9]
     refine wpAnyH_done (by kernel_rfl) ?_ _
     clear hHeld
     go_wp2
     exact ⟨⟨j + 1, by omega, by go_num, HW.out.drew⟩, by simp [intOf]; omega⟩
    ·obtain rfl : gn = j := by omega
     go_wp2
     go_ret
     exact ⟨rfl, by rw [Hkf.out]; exact HB.out.trans (HW.out.mono HBz.out)⟩
end
end Go.Proofs.Ytobaooebjgoaiaa.Fm
namespace Go.Proofs.Ytobaooebjgoaiaa.Fm
open Go.RowKit Go.Maps Mb
set_option linter.unusedVariables false
set_option maxRecDepth 100000
set_option linter.unusedSimpArgs false
section
variable {w w' W : World} {B : Nat}
set_option maxHeartbeats 8000000 in
theorem untouched_any {x f : Fl} (hx : TwOk w B x f.c) (hf : f.Rd w) (hl : f.c.sl.length ≤ 1048576) (hl2 : f.c.hv.length ≤ 1048576) : Calls Try.prog 22 #[.agg x.tw.toArray, .agg f.cs.toArray] w fun e w' => e = .returned (.bool true) ∧ Below w.heap.size w w' := by
 generalize hW1 : w.alloc (.cells x.tw.toArray 53) = W1
 generalize hW2 : W1.alloc (.cells f.cs.toArray 28) = W2
 have b1 : Below w.heap.size w W1 := hW1 ▸ balloc (Below.refl _ _)
 have b2 : Below W1.heap.size W1 W2 := hW2 ▸ balloc (Below.refl _ _)
 have k1 : W1.heap[w.heap.size]? = some (.cells x.tw.toArray 53 (0, 0)) := by rw [← hW1]; exact heap_alloc_new w _
 have k2 : W2.heap[W1.heap.size]? = some (.cells f.cs.toArray 28 (0, 0)) := by rw [← hW2]; exact heap_alloc_new W1 _
 have k1' : W2.heap[w.heap.size]? = some (.cells x.tw.toArray 53 (0, 0)) := (b2.block _ (lt_heap k1)).trans k1
 have HB : Hid (Below w.heap.size w W2) := bstep b1 b2
 have HBz : Hid (w.heap.size ≤ W2.heap.size) := (bstep b1 b2).size
 have hxR : x.Rd W2 := ((hx.still b1).still b2).rd hf
 have HS := qSame_any hxR ((hf.still b1).still b2) hx.ce
 have HR1 : Hid (W2.rangeAt w.heap.size 0 x.cs) := fun j v hv => blk_range k1' j v (by
  have hj : j < 7 := (List.getElem?_eq_some_iff.1 hv).1
  unfold Fl.tw
  rw [List.getElem?_append_left (by rw [Fl.cs_len]; exact hj)]
  exact hv)
 have HR2 : Hid (W2.rangeAt W1.heap.size 0 f.cs) := blk_range k2
 have hce := hx.ce
 have c5 : W2.cell? ⟨W1.heap.size, 5, none⟩ = some (.slice f.sa f.c.sl.length f.sc) := blk_cell k2 5
 have c6 : W2.cell? ⟨W1.heap.size, 6, none⟩ = some (.slice f.ha f.c.hv.length f.hc) := blk_cell k2 6
 have Hc : Hid (∀ V : World, Below W2.heap.size W2 V → V.cell? ⟨w.heap.size, 7, none⟩ = some (.slice x.sa (f.c.sl.length + 1) x.sc) ∧ V.cell? ⟨w.heap.size, 8, none⟩ = some (.slice x.ha (f.c.hv.length + 1) x.hc)) := fun V hV => by
  have h7 : W2.cell? ⟨w.heap.size, 7, none⟩ = some (.slice x.sa (x.c.sl.length + 1) x.sc) := blk_cell k1' 7
  have h8 : W2.cell? ⟨w.heap.size, 8, none⟩ = some (.slice x.ha (x.c.hv.length + 1) x.hc) := blk_cell k1' 8
  rw [hce] at h7 h8
  exact ⟨below_at hV h7, below_at hV h8⟩
 obtain ⟨bs, os, hsa, _, _, hs71⟩ := ((hx.still b1).still b2).rdS.at (i := f.c.sl.length) (by simp)
 obtain ⟨bh, oh, hha, hh72⟩ := ((hx.still b1).still b2).rdI.at (i := f.c.hv.length) (by simp)
 have e1 : (f.c.sl ++ [((71 : Int), (71 : Int))]).getD f.c.sl.length z2 = (71, 71) := by simp [List.getD]
 have e2 : (f.c.hv ++ [(72 : Int)]).getD f.c.hv.length 0 = 72 := by simp [List.getD]
 rw [e1] at hs71
 rw [e2] at hh72
 have Hm : Hid (∀ V : World, Below W2.heap.size W2 V → V.cell? ⟨bs, os + f.c.sl.length * 2 + 1, none⟩ = some (.int .i64 71) ∧ V.cell? ⟨bh, oh + f.c.hv.length, none⟩ = some (.int .i64 72)) := fun V hV => ⟨below_at hV hs71, below_at hV hh72⟩
 rw [hsa, hha] at Hc
 have Hx7 : Hid (x.cs.length = 7) := rfl
 have Hf7 : Hid (f.cs.length = 7) := rfl
 clear hx hf b1 b2 k1 k2 k1' hxR hce hs71 hh72 e1 e2 hsa hha
 generalize f.c.sl.length = sn at *
 generalize f.c.hv.length = hn at *
 generalize x.cs = xc at *
 generalize f.cs = fc at *
 generalize x.tw.toArray = xt at *
 go_enter Try.func22, Try.ntmps22
 go_wp2_with (first | (refine wl_at 13 rfl ?_) | fail)
 clear hW1 hW2
 generalize hkx : w.heap.size = kx at *
 have Hkx : Hid (w.heap.size = kx) := hkx
 generalize hkf : W1.heap.size = kf at *
 clear hkx hkf c5 c6
 refine wT9 ?_
 simp only [Act.put,gA9,gZ9,gC9,sA9,sZ9,sC9]
 refine wl_load 28 (.tmp 13) HR1.out _ Try.underlying28 rfl (by rw [Hx7.out]; exact info_flush) rfl rfl (by kernel_rfl) ?_
 simp only [Act.put,gA9,gZ9,gC9,sA9,sZ9,sC9]
 refine wl_load 28 (.tmp 3) HR2.out _ Try.underlying28 rfl (by rw [Hf7.out]; exact info_flush) rfl rfl (by kernel_rfl) ?_
 simp only [Act.put,gA9,gZ9,gC9,sA9,sZ9,sC9]
 refine wl_step (by kernel_rfl) fun K hK => ?_
 go_simp
 refine (HS).mono ?_
 rintro e V ⟨rfl, hV⟩
 have HV : Hid (Below W2.heap.size W2 V) := hV
 obtain ⟨d7, d8⟩ := Hc.out V hV
 obtain ⟨m1, m2⟩ := Hm.out V hV
 clear hV
 refine hK _ _ ?_
 clear hK K
 try (simp only [Act.put,gA9,gZ9,gC9,sA9,sZ9,sC9])
 refine wT9 ?_
 simp only [Act.put,gA9,gZ9,gC9,sA9,sZ9,sC9]
 refine wT9 ?_
 simp only [Act.put,gA9,gZ9,gC9,sA9,sZ9,sC9]
 refine wT9 ?_
 simp only [Act.put,gA9,gZ9,gC9,sA9,sZ9,sC9]
 refine wT9 ?_
 simp only [Act.put,gA9,gZ9,gC9,sA9,sZ9,sC9]
 refine wT9 ?_
 simp only [Act.put,gA9,gZ9,gC9,sA9,sZ9,sC9]
 refine wl_take (v := .int .i64 ((sn : Int) + 1)) (by kernel_rfl) (by go_simp; exact wrap_id (by omega) (by omega)) ?_
 simp only [Act.put,gA9,gZ9,gC9,sA9,sZ9,sC9]
 refine wl_take (v := .bool true) (by kernel_rfl) (by first | (go_simp; done) | (go_simp; omega)) ?_
 simp only [Act.put,gA9,gZ9,gC9,sA9,sZ9,sC9]
 refine wT9 ?_
 simp only [Act.put,gA9,gZ9,gC9,sA9,sZ9,sC9]
 refine wT9 ?_
 simp only [Act.put,gA9,gZ9,gC9,sA9,sZ9,sC9]
 refine wT9 ?_
 simp only [Act.put,gA9,gZ9,gC9,sA9,sZ9,sC9]
 refine wT9 ?_
 simp only [Act.put,gA9,gZ9,gC9,sA9,sZ9,sC9]
 refine wT9 ?_
 simp only [Act.put,gA9,gZ9,gC9,sA9,sZ9,sC9]
 refine wl_take (v := .pointer (some ⟨bs, os + sn * 2, none⟩)) (by kernel_rfl) (by first | (go_simp; done) | (go_simp; omega) | (go_simp; split <;> first | rfl | omega)) ?_
 simp only [Act.put,gA9,gZ9,gC9,sA9,sZ9,sC9]
 refine wT9 ?_
 simp only [Act.put,gA9,gZ9,gC9,sA9,sZ9,sC9]
 refine wT9 ?_
 simp only [Act.put,gA9,gZ9,gC9,sA9,sZ9,sC9]
 refine wl_take (v := .bool true) (by kernel_rfl) (by first | (go_simp; done) | (go_simp; omega)) ?_
 simp only [Act.put,gA9,gZ9,gC9,sA9,sZ9,sC9]
 refine wT9 ?_
 simp only [Act.put,gA9,gZ9,gC9,sA9,sZ9,sC9]
 refine wT9 ?_
 simp only [Act.put,gA9,gZ9,gC9,sA9,sZ9,sC9]
 refine wT9 ?_
 simp only [Act.put,gA9,gZ9,gC9,sA9,sZ9,sC9]
 refine wT9 ?_
 simp only [Act.put,gA9,gZ9,gC9,sA9,sZ9,sC9]
 refine wT9 ?_
 simp only [Act.put,gA9,gZ9,gC9,sA9,sZ9,sC9]
 refine wl_take (v := .pointer (some ⟨bh, oh + hn, none⟩)) (by kernel_rfl) (by first | (go_simp; done) | (go_simp; omega) | (go_simp; split <;> first | rfl | omega)) ?_
 simp only [Act.put,gA9,gZ9,gC9,sA9,sZ9,sC9]
 refine wT9 ?_
 simp only [Act.put,gA9,gZ9,gC9,sA9,sZ9,sC9]
 refine wl_take (v := .bool true) (by kernel_rfl) (by first | (go_simp; done) | (go_simp; omega)) ?_
 simp only [Act.put,gA9,gZ9,gC9,sA9,sZ9,sC9]
 refine wT9 ?_
 simp only [Act.put,gA9,gZ9,gC9,sA9,sZ9,sC9]
 refine wT9 ?_
 simp only [Act.put,gA9,gZ9,gC9,sA9,sZ9,sC9]
 refine ⟨?_⟩
 go_wp2
 go_ret
 exact ⟨rfl, by rw [Hkx.out]; exact HB.out.trans (HV.out.mono HBz.out)⟩
theorem fl_eq_at {xs fs : List Fl} (h : cos xs = cos fs) (i : Nat) : (xs.getD i fl0).c = (fs.getD i fl0).c := by rw [← cos_at, h, cos_at]
theorem fl_eq_len {xs fs : List Fl} (h : cos xs = cos fs) : xs.length = fs.length := by rw [← cos_len, h, cos_len]
set_option maxHeartbeats 4000000 in
theorem sameF_any {ao bo : Option Addr} {ca cb : Nat} {xs fs : List Fl} (hx : RdFs w ao xs) (hf : RdFs w bo fs) (he : cos xs = cos fs) (hn : fs.length ≤ 1048576) : Calls Try.prog 52 #[.slice ao xs.length ca, .slice bo fs.length cb] w fun e w' => e = .returned (.bool true) ∧ Below w.heap.size w w' := by
 have HX : Hid (RdFs w ao xs) := hx
 have HF : Hid (RdFs w bo fs) := hf
 have HE : Hid (cos xs = cos fs) := he
 have hxl := fl_eq_len he
 rw [hxl]
 generalize hL : fs.length = L at *
 have HLe : Hid (fs.length = L) := hL
 have HLx : Hid (xs.length = L) := hxl
 clear hx hf he hL hxl
 go_enter Try.func52, Try.ntmps52
 go_wp2
 go_loopw [5] (fun i wr => ∃ c : Nat, c ≤ L ∧ i = .int .i64 c ∧ Below w.heap.size w wr) (fun i _ => L - (intOf i).toNat)
 case atStart => exact ⟨0, Nat.zero_le _, rfl, Below.refl _ _⟩
 case round =>
  obtain ⟨c, hc, rfl, hb⟩ := hrel
  have HB : Hid (Below w.heap.size w wr) := hb
  clear hb
  by_cases hlt : c < L
  ·have h1 := HX.out.still (bstep HB.out (Below.refl _ _).drew)
   have h2 := HF.out.still (bstep HB.out (Below.refl _ _).drew)
   obtain ⟨b, off, hao, hcc⟩ := h1.at (i := c) (by rw [HLx.out]; exact hlt)
   obtain ⟨b', off', hbo, hcd⟩ := h2.at (i := c) (by rw [HLe.out]; exact hlt)
   have HQ : Hid (Calls Try.prog 53 #[.agg (xs.getD c fl0).cs.toArray, .agg (fs.getD c fl0).cs.toArray] wr.drew fun e w' => e = .returned (.bool true) ∧ Below wr.drew.heap.size wr.drew w') := qSame_any (h1.el c (by rw [HLx.out]; exact hlt)) (h2.el c (by rw [HLe.out]; exact hlt)) (fl_eq_at HE.out c)
   have i1 : (0 : Int) ≤ (c : Int) := Int.natCast_nonneg _
   have i2 : (c : Int) < (L : Int) := by omega
   generalize xs.getD c fl0 = f at *
   generalize fs.getD c fl0 = g at *
   have Hf7 : Hid (f.cs.length = 7) := rfl
   have Hg7 : Hid (g.cs.length = 7) := rfl
   subst hao hbo
   clear h1 h2
   go_wp2_with (fail)
   refine wp_region_held_drew (S := (fun w' => w'.rangeAt b (off + c * 7) f.cs ∧ w'.rangeAt b' (off' + c * 7) g.cs)) (by kernel_rfl) ⟨hcc, hcd⟩ (fun hHeld => ?_)
   simp only [Act.put, List.size_toArray, List.length_cons, List.length_nil, Nat.zero_add]
   refine wG9 0 (.slice (some ⟨b, off, none⟩) L ca) rfl hHeld ?_
   simp only [Act.put,gA9,gZ9,gC9,sA9,sZ9,sC9]
   refine wG9 1 (.int .i64 (c : Int)) rfl hHeld ?_
   simp only [Act.put,gA9,gZ9,gC9,sA9,sZ9,sC9]
   refine wG9 2 (.pointer (some ⟨b, off + c * 7, none⟩)) rfl hHeld ?_
   simp only [Act.put,gA9,gZ9,gC9,sA9,sZ9,sC9]
   refine wpAnyH_take (i := 3) (v := .agg (f.cs).toArray) rfl (by kernel_rfl) (by kernel_rfl) (by kernel_rfl) (fun _ _ _ h => h) (yieldsIf_load_mid (by rfl) 28 (.tmp 19) rfl b (off + c * 7) (by rfl) (f.cs) _ (fun w' hS => hS.1) Try.underlying28 rfl (by rw [Hf7.out]; exact info_flush)) hHeld ?_
   simp only [Act.put,gA9,gZ9,gC9,sA9,sZ9,sC9]
   refine wG9 4 (.slice (some ⟨b', off', none⟩) L cb) rfl hHeld ?_
   simp only [Act.put,gA9,gZ9,gC9,sA9,sZ9,sC9]
   refine wG9 5 (.int .i64 (c : Int)) rfl hHeld ?_
   simp only [Act.put,gA9,gZ9,gC9,sA9,sZ9,sC9]
   refine wG9 6 (.pointer (some ⟨b', off' + c * 7, none⟩)) rfl hHeld ?_
   simp only [Act.put,gA9,gZ9,gC9,sA9,sZ9,sC9]
   refine wpAnyH_take (i := 7) (v := .agg (g.cs).toArray) rfl (by kernel_rfl) (by kernel_rfl) (by kernel_rfl) (fun _ _ _ h => h) (yieldsIf_load_mid (by rfl) 28 (.tmp 23) rfl b' (off' + c * 7) (by rfl) (g.cs) _ (fun w' hS => hS.2) Try.underlying28 rfl (by rw [Hg7.out]; exact info_flush)) hHeld ?_
   simp only [Act.put,gA9,gZ9,gC9,sA9,sZ9,sC9]
   refine wpAnyH_ready (rs := [8]) (by kernel_rfl) (by simp) ?_
   refine AllReadyH.cons rfl (fun K hK => ?_) AllReadyH.nil
   go_simp
   refine (HQ.out).mono ?_
   rintro e V2 ⟨rfl, hb2⟩
   refine hK.out _ _ ⟨fun q v hv => below_at hb2 (hcc q v hv), fun q v hv => below_at hb2 (hcd q v hv)⟩ (fun hHeld => ?_)
   clear hK K
   refine wG9 9 (.bool false) rfl hHeld ?_
   simp only [Act.put,gA9,gZ9,gC9,sA9,sZ9,sC9]
   refine wpAnyH_done (by kernel_rfl) ?_ _
   clear hHeld
   go_wp2
   exact ⟨⟨c + 1, by omega, by go_num, bstep HB.out.drew hb2⟩, by simp [intOf]; omega⟩
  ·obtain rfl : L = c := by omega
   go_wp2
   go_ret
   exact ⟨rfl, HB.out⟩
def twC (xs : List Fl) (i : Nat) : Value := ((xs.getD (i / 9) fl0).tw).getD (i % 9) undef
theorem row_tw {ao : Option Addr} {xs : List Fl} (h : Row w ao xs.length 9 (twC xs)) {i : Nat} (hi : i < xs.length) : ∃ b off, ao = some ⟨b, off, none⟩ ∧ w.rangeAt b (off + i * 9) (xs.getD i fl0).tw := by
 rcases h with h1 | ⟨b, off, h1, h2⟩
 ·omega
 ·refine ⟨b, off, h1, fun j v hv => ?_⟩
  have hj : j < 9 := by have := (List.getElem?_eq_some_iff.1 hv).1; rwa [tw_len] at this
  have e := h2 (i * 9 + j) (by omega)
  simp only [twC, show (i * 9 + j) / 9 = i by omega, show (i * 9 + j) % 9 = j by omega] at e
  rw [← Nat.add_assoc] at e
  rw [e, List.getD, hv]
  rfl
structure Tws (w : World) (B : Nat) (ta ia : Option Addr) (xs fs : List Fl) : Prop where
 len : xs.length = fs.length
 t : Row w ta xs.length 9 (twC xs)
 i : Row w ia xs.length 7 (flC xs)
 ok : ∀ k, k < fs.length → TwOk w B (xs.getD k fl0) (fs.getD k fl0).c
theorem Tws.cos {ta ia : Option Addr} {xs fs : List Fl} (h : Tws w B ta ia xs fs) : cos xs = cos fs := by
 apply List.ext_getElem?
 intro k
 simp only [Fm.cos, List.getElem?_map]
 by_cases hk : k < fs.length
 ·have := (h.ok k hk).ce
  have hk2 : k < xs.length := by rw [h.len]; exact hk
  simp only [List.getD, List.getElem?_eq_getElem hk, List.getElem?_eq_getElem hk2, Option.getD_some] at this
  simp [List.getElem?_eq_getElem hk, List.getElem?_eq_getElem hk2, this]
 ·have hl := h.len
  rw [List.getElem?_eq_none (by omega), List.getElem?_eq_none (by omega)]
theorem Tws.still {ta ia : Option Addr} {xs fs : List Fl} (h : Tws w B ta ia xs fs) (hb : Below w.heap.size w w') : Tws w' B ta ia xs fs := ⟨h.len, h.t.still hb, h.i.still hb, fun k hk => (h.ok k hk).still hb⟩
theorem Tws.rd {ta ia fo : Option Addr} {xs fs : List Fl} (h : Tws w B ta ia xs fs) (hf : RdFs w fo fs) : RdFs w ia xs := ⟨h.i, fun k hk => (h.ok k (by rw [← h.len]; exact hk)).rd (hf.el k (by rw [← h.len]; exact hk))⟩
set_option maxHeartbeats 4000000 in
theorem allUn_any {ta ia fo : Option Addr} {ct ci cf : Nat} {xs fs : List Fl} (hT : Tws w B ta ia xs fs) (hf : RdFs w fo fs) (hn : fs.length ≤ 1048576) (hl : ∀ k, k < fs.length → (fs.getD k fl0).c.sl.length ≤ 1048576 ∧ (fs.getD k fl0).c.hv.length ≤ 1048576) : Calls Try.prog 21 #[.slice ta xs.length ct, .slice ia xs.length ci, .slice fo fs.length cf] w fun e w' => e = .returned (.bool true) ∧ Below w.heap.size w w' := by
 have HT : Hid (Tws w B ta ia xs fs) := hT
 have HF : Hid (RdFs w fo fs) := hf
 have HK : Hid (∀ k, k < fs.length → (fs.getD k fl0).c.sl.length ≤ 1048576 ∧ (fs.getD k fl0).c.hv.length ≤ 1048576) := hl
 have hxl := hT.len
 have HSF : Hid (∀ V : World, Below w.heap.size w V → Calls Try.prog 52 #[.slice ia xs.length ci, .slice fo fs.length cf] V fun e w' => e = .returned (.bool true) ∧ Below V.heap.size V w') := fun V hV => sameF_any ((hT.still hV).rd (hf.still hV)) (hf.still hV) hT.cos hn
 rw [hxl] at HSF ⊢
 generalize hL : fs.length = L at *
 have HLe : Hid (fs.length = L) := hL
 have HLx : Hid (xs.length = L) := hxl
 clear hT hf hL hxl hl
 go_enter Try.func21, Try.ntmps21
 go_wp2
 go_loopw [7] (fun i wr => ∃ c : Nat, c ≤ L ∧ i = .int .i64 c ∧ Below w.heap.size w wr) (fun i _ => L - (intOf i).toNat)
 case atStart => exact ⟨0, Nat.zero_le _, rfl, Below.refl _ _⟩
 case round =>
  obtain ⟨c, hc, rfl, hb⟩ := hrel
  have HB : Hid (Below w.heap.size w wr) := hb
  clear hb
  by_cases hlt : c < L
  ·have h1 := HT.out.still (bstep HB.out (Below.refl _ _).drew)
   have h2 := HF.out.still (bstep HB.out (Below.refl _ _).drew)
   obtain ⟨b, off, hao, hcc⟩ := row_tw h1.t (i := c) (by rw [HLx.out]; exact hlt)
   obtain ⟨b', off', hbo, hcd⟩ := h2.at (i := c) (by rw [HLe.out]; exact hlt)
   have HQ : Hid (Calls Try.prog 22 #[.agg (xs.getD c fl0).tw.toArray, .agg (fs.getD c fl0).cs.toArray] wr.drew fun e w' => e = .returned (.bool true) ∧ Below wr.drew.heap.size wr.drew w') := untouched_any (h1.ok c (by rw [HLe.out]; exact hlt)) (h2.el c (by rw [HLe.out]; exact hlt)) (HK.out c hlt).1 (HK.out c hlt).2
   have i1 : (0 : Int) ≤ (c : Int) := Int.natCast_nonneg _
   have i2 : (c : Int) < (L : Int) := by omega
   generalize xs.getD c fl0 = f at *
   generalize fs.getD c fl0 = g at *
   have Hf7 : Hid (f.tw.length = 9) := rfl
   have Hg7 : Hid (g.cs.length = 7) := rfl
   subst hao hbo
   clear h1 h2
   go_wp2_with (fail)
   refine wp_region_held_drew (S := (fun w' => w'.rangeAt b (off + c * 9) f.tw ∧ w'.rangeAt b' (off' + c * 7) g.cs)) (by kernel_rfl) ⟨hcc, hcd⟩ (fun hHeld => ?_)
   simp only [Act.put, List.size_toArray, List.length_cons, List.length_nil, Nat.zero_add]
   refine wG9 0 (.slice (some ⟨b, off, none⟩) L ct) rfl hHeld ?_
   simp only [Act.put,gA9,gZ9,gC9,sA9,sZ9,sC9]
   refine wG9 1 (.int .i64 (c : Int)) rfl hHeld ?_
   simp only [Act.put,gA9,gZ9,gC9,sA9,sZ9,sC9]
   refine wG9 2 (.pointer (some ⟨b, off + c * 9, none⟩)) rfl hHeld ?_
   simp only [Act.put,gA9,gZ9,gC9,sA9,sZ9,sC9]
   refine wpAnyH_take (i := 3) (v := .agg (f.tw).toArray) rfl (by kernel_rfl) (by kernel_rfl) (by kernel_rfl) (fun _ _ _ h => h) (yieldsIf_load_mid (by rfl) 53 (.tmp 16) rfl b (off + c * 9) (by rfl) (f.tw) _ (fun w' hS => hS.1) Try.underlying53 rfl (by rw [Hf7.out]; exact info_twin)) hHeld ?_
   simp only [Act.put,gA9,gZ9,gC9,sA9,sZ9,sC9]
   refine wG9 4 (.slice (some ⟨b', off', none⟩) L cf) rfl hHeld ?_
   simp only [Act.put,gA9,gZ9,gC9,sA9,sZ9,sC9]
   refine wG9 5 (.int .i64 (c : Int)) rfl hHeld ?_
   simp only [Act.put,gA9,gZ9,gC9,sA9,sZ9,sC9]
   refine wG9 6 (.pointer (some ⟨b', off' + c * 7, none⟩)) rfl hHeld ?_
   simp only [Act.put,gA9,gZ9,gC9,sA9,sZ9,sC9]
   refine wpAnyH_take (i := 7) (v := .agg (g.cs).toArray) rfl (by kernel_rfl) (by kernel_rfl) (by kernel_rfl) (fun _ _ _ h => h) (yieldsIf_load_mid (by rfl) 28 (.tmp 20) rfl b' (off' + c * 7) (by rfl) (g.cs) _ (fun w' hS => hS.2) Try.underlying28 rfl (by rw [Hg7.out]; exact info_flush)) hHeld ?_
   simp only [Act.put,gA9,gZ9,gC9,sA9,sZ9,sC9]
   refine wpAnyH_ready (rs := [8]) (by kernel_rfl) (by simp) ?_
   refine AllReadyH.cons rfl (fun K hK => ?_) AllReadyH.nil
   go_simp
   refine (HQ.out).mono ?_
   rintro e V2 ⟨rfl, hb2⟩
   refine hK.out _ _ ⟨fun q v hv => below_at hb2 (hcc q v hv), fun q v hv => below_at hb2 (hcd q v hv)⟩ (fun hHeld => ?_)
   clear hK K
   refine wG9 9 (.bool false) rfl hHeld ?_
   simp only [Act.put,gA9,gZ9,gC9,sA9,sZ9,sC9]
   refine wpAnyH_done (by kernel_rfl) ?_ _
   clear hHeld
   go_wp2
   exact ⟨⟨c + 1, by omega, by go_num, bstep HB.out.drew hb2⟩, by simp [intOf]; omega⟩
  ·obtain rfl : L = c := by omega
   have HS2 := HSF.out wr HB.out
   go_wp2_with (first | (go_at_call 52; refine HS2.mono ?_; rintro e V ⟨rfl, hb2⟩) | fail)
   go_ret
   exact ⟨rfl, bstep HB.out hb2⟩
end
end Go.Proofs.Ytobaooebjgoaiaa.Fm
