import Derived.Test.YtobaooebjgoaiaaV15
import Derived.Laws.ResultCell
import Derived.Test.YtobaooebjgoaiaaV22
import Derived.Test.YtobaooebjgoaiaaV17
namespace Go.Proofs.Ytobaooebjgoaiaa.Fm
open Go.RowKit Go.Maps Mb
set_option linter.unusedVariables false
set_option maxRecDepth 100000
set_option linter.unusedSimpArgs false
section
variable {w w' W : World} {B : Nat}
theorem fl_cell {fs : List Fl} {ao : Option Addr} (h : RdFs w ao fs) {i : Nat} (hi : i < fs.length) : ∃ b off, ao = some ⟨b, off, none⟩ ∧ w.cell? ⟨b, off + i * 7 + 4, none⟩ = some (.int .i64 (fs.getD i fl0).c.base) ∧ w.cell? ⟨b, off + i * 7 + 5, none⟩ = some (.slice (fs.getD i fl0).sa (fs.getD i fl0).c.sl.length (fs.getD i fl0).sc) ∧ w.cell? ⟨b, off + i * 7 + 6, none⟩ = some (.slice (fs.getD i fl0).ha (fs.getD i fl0).c.hv.length (fs.getD i fl0).hc) := by
 obtain ⟨b, off, h1, h2⟩ := h.at hi
 exact ⟨b, off, h1, h2 4 _ rfl, h2 5 _ rfl, h2 6 _ rfl⟩
set_option maxHeartbeats 2000000 in
theorem qBase_any {ao : Option Addr} {cp : Nat} {fs : List Fl} (hr : RdFs w ao fs) (hln : fs.length ≤ 1000000000000000000) : Calls Try.prog 42 #[.slice ao fs.length cp] w fun e w' => e = .returned (.int .i64 (baseOf (cos fs))) ∧ w' = w := by
 have HR : Hid (RdFs w ao fs) := hr
 have Hbo : Hid (baseOf (cos fs) = baseK (cos fs) fs.length) := (show _ = _ from by unfold baseOf; rw [cos_len])
 generalize hL : fs.length = L at *
 have HLe : Hid (fs.length = L) := hL
 clear hr hL
 go_enter Try.func42, Try.ntmps42
 go_wp2
 go_loopw [3, 4] (fun bv i wr => ∃ c : Nat, c ≤ L ∧ i = .int .i64 c ∧ bv = .int .i64 (baseK (cos fs) c) ∧ wr = w) (fun _ i _ => L - (intOf i).toNat)
 case atStart => exact ⟨0, Nat.zero_le _, rfl, rfl, rfl⟩
 case round =>
  obtain ⟨c, hc, rfl, rfl, rfl⟩ := hrel
  by_cases hlt : c < L
  ·obtain ⟨b, off, rfl, q4, _, _⟩ := fl_cell HR.out (i := c) (by rw [HLe.out]; exact hlt)
   have i1 : (0 : Int) ≤ (c : Int) := Int.natCast_nonneg _
   have i2 : (c : Int) < (L : Int) := by omega
   have Hbk : Hid (baseK (cos fs) (c + 1) = max (baseK (cos fs) c) (fs.getD c fl0).c.base) := (show baseK (cos fs) (c + 1) = _ from by show max _ ((cos fs).getD c c0).base = _; rw [cos_at])
   generalize (fs.getD c fl0).c.base = x at *
   generalize hbk : baseK (cos fs) c = y at *
   by_cases hx : y < x
   ·have Hm : Hid (max y x = x) := (show max y x = x from by omega)
    go_wp2
    exact ⟨⟨c + 1, by omega, by go_num, by rw [Hbk.out, Hm.out], by first | rfl | trivial⟩, by simp [intOf]; omega⟩
   ·have Hm : Hid (max y x = y) := (show max y x = y from by omega)
    go_wp2
    exact ⟨⟨c + 1, by omega, by go_num, by rw [Hbk.out, Hm.out], by first | rfl | trivial⟩, by simp [intOf]; omega⟩
  ·obtain rfl : L = c := by omega
   go_wp2
   go_ret
   exact ⟨congrArg (fun x => Ending.returned (.int .i64 x)) Hbo.out.symm, rfl⟩
theorem has_neg {f : Co} {s : Int × Int} (h : s.1 < 0) : has f s = false := by
 unfold has
 rw [decide_eq_false (by omega)]
 rfl
theorem has_far {f : Co} {s : Int × Int} (h : (f.hv.length : Int) ≤ s.1) : has f s = false := by
 unfold has
 rw [decide_eq_false (p := s.1 < (f.hv.length : Int)) (by omega)]
 simp
theorem has_near {f : Co} {k : Nat} {x : Int} (hk : k < f.hv.length) : has f ((k : Int), x) = decide (x ≤ f.hv.getD k 0) := by
 unfold has
 simp [hk]
set_option maxHeartbeats 4000000 in
theorem qhas_any {f : Fl} (hf : f.Rd w) (s : Int × Int) : Calls Try.prog 45 #[.agg f.cs.toArray, .agg (slotV s).toArray] w fun e w' => e = .returned (.bool (has f.c s)) ∧ Below w.heap.size w w' := by
 generalize hW1 : w.alloc (.cells f.cs.toArray 28) = W1
 generalize hW2 : W1.alloc (.cells (slotV s).toArray 76) = W2
 have b1 : Below w.heap.size w W1 := hW1 ▸ balloc (Below.refl _ _)
 have b2 : Below W1.heap.size W1 W2 := hW2 ▸ balloc (Below.refl _ _)
 have k1 : W1.heap[w.heap.size]? = some (.cells f.cs.toArray 28 (0, 0)) := by rw [← hW1]; exact heap_alloc_new w _
 have k2 : W2.heap[W1.heap.size]? = some (.cells (slotV s).toArray 76 (0, 0)) := by rw [← hW2]; exact heap_alloc_new W1 _
 have HB : Hid (Below w.heap.size w W2) := bstep b1 b2
 have q6 : W2.cell? ⟨w.heap.size, 6, none⟩ = some (.slice f.ha f.c.hv.length f.hc) := below_at b2 (blk_cell k1 6)
 have q0 : W2.cell? ⟨W1.heap.size, 0, none⟩ = some (.int .i64 s.1) := blk_cell k2 0
 have q1 : W2.cell? ⟨W1.heap.size, 1, none⟩ = some (.int .i64 s.2) := blk_cell k2 1
 have HF : Hid (RdI W2 f.ha f.c.hv) := (hf.h.still b1).still b2
 have hln := hf.hn
 have Hneg : Hid (s.1 < 0 → has f.c s = false) := has_neg
 have Hfar : Hid ((f.c.hv.length : Int) ≤ s.1 → has f.c s = false) := has_far
 have Hnear : Hid (∀ k : Nat, k < f.c.hv.length → s.1 = k → has f.c s = decide (s.2 ≤ f.c.hv.getD k 0)) := fun k hk e => by
  have : s = ((k : Int), s.2) := Prod.ext e rfl
  rw [this, has_near hk]
 clear hf b1 b2 k1 k2
 generalize hL : f.c.hv.length = L at *
 have HL : Hid (f.c.hv.length = L) := hL
 clear hL
 obtain ⟨s1, s2⟩ := s
 simp only at *
 generalize has f.c (s1, s2) = r at *
 generalize f.cs.toArray = pc at *
 generalize (slotV (s1, s2)).toArray = pd at *
 go_enter Try.func45, Try.ntmps45
 go_wp2_with (fail)
 clear hW1 hW2
 generalize hkf : w.heap.size = kf at *
 have Hkf : Hid (w.heap.size = kf) := hkf
 generalize hks : W1.heap.size = ks at *
 clear hkf hks
 by_cases h1 : 0 ≤ s1
 case neg =>
  have Hr : Hid (r = false) := Hneg.out (by omega)
  refine wp_region_held_drew (S := (fun w' => w'.cell? ⟨kf, 6, none⟩ = some (.slice f.ha L f.hc) ∧ w'.cell? ⟨ks, 0, none⟩ = some (.int .i64 s1) ∧ w'.cell? ⟨ks, 1, none⟩ = some (.int .i64 s2))) (by kernel_rfl) ⟨below_at (Below.refl _ _).drew q6, below_at (Below.refl _ _).drew q0, below_at (Below.refl _ _).drew q1⟩ (fun hHeld => ?_)
  simp only [Act.put, List.size_toArray, List.length_cons, List.length_nil, Nat.zero_add]
  refine wG9 0 (.pointer (some ⟨ks, 0, none⟩)) rfl hHeld ?_
  simp only [Act.put,gA9,gZ9,gC9,sA9,sZ9,sC9]
  refine wX9 1 (.int .i64 s1) rfl (Or.inl ⟨by rfl, fun w' hS => by (obtain ⟨t6, t0, t1⟩ := hS; go_simp)⟩) hHeld ?_
  simp only [Act.put,gA9,gZ9,gC9,sA9,sZ9,sC9]
  refine wX9 2 (.bool false) rfl (Or.inl ⟨by rfl, fun w' hS => by first | (go_simp; done) | (go_simp; omega)⟩) hHeld ?_
  simp only [Act.put,gA9,gZ9,gC9,sA9,sZ9,sC9]
  refine wG9 3 (.bool false) rfl hHeld ?_
  simp only [Act.put,gA9,gZ9,gC9,sA9,sZ9,sC9]
  refine wS9 4 rfl hHeld ?_
  simp only [Act.put,gA9,gZ9,gC9,sA9,sZ9,sC9]
  refine wS9 5 rfl hHeld ?_
  simp only [Act.put,gA9,gZ9,gC9,sA9,sZ9,sC9]
  refine wS9 6 rfl hHeld ?_
  simp only [Act.put,gA9,gZ9,gC9,sA9,sZ9,sC9]
  refine wS9 7 rfl hHeld ?_
  simp only [Act.put,gA9,gZ9,gC9,sA9,sZ9,sC9]
  refine wS9 8 rfl hHeld ?_
  simp only [Act.put,gA9,gZ9,gC9,sA9,sZ9,sC9]
  refine wS9 9 rfl hHeld ?_
  simp only [Act.put,gA9,gZ9,gC9,sA9,sZ9,sC9]
  refine wG9 10 (.bool false) rfl hHeld ?_
  simp only [Act.put,gA9,gZ9,gC9,sA9,sZ9,sC9]
  refine wG9 11 (.bool false) rfl hHeld ?_
  simp only [Act.put,gA9,gZ9,gC9,sA9,sZ9,sC9]
  refine wS9 12 rfl hHeld ?_
  simp only [Act.put,gA9,gZ9,gC9,sA9,sZ9,sC9]
  refine wS9 13 rfl hHeld ?_
  simp only [Act.put,gA9,gZ9,gC9,sA9,sZ9,sC9]
  refine wS9 14 rfl hHeld ?_
  simp only [Act.put,gA9,gZ9,gC9,sA9,sZ9,sC9]
  refine wS9 15 rfl hHeld ?_
  simp only [Act.put,gA9,gZ9,gC9,sA9,sZ9,sC9]
  refine wS9 16 rfl hHeld ?_
  simp only [Act.put,gA9,gZ9,gC9,sA9,sZ9,sC9]
  refine wS9 17 rfl hHeld ?_
  simp only [Act.put,gA9,gZ9,gC9,sA9,sZ9,sC9]
  refine wS9 18 rfl hHeld ?_
  simp only [Act.put,gA9,gZ9,gC9,sA9,sZ9,sC9]
  refine wS9 19 rfl hHeld ?_
  simp only [Act.put,gA9,gZ9,gC9,sA9,sZ9,sC9]
  refine wS9 20 rfl hHeld ?_
  simp only [Act.put,gA9,gZ9,gC9,sA9,sZ9,sC9]
  refine wG9 21 (.bool false) rfl hHeld ?_
  simp only [Act.put,gA9,gZ9,gC9,sA9,sZ9,sC9]
  refine wG9 22 (.bool false) rfl hHeld ?_
  simp only [Act.put,gA9,gZ9,gC9,sA9,sZ9,sC9]
  refine wpAnyH_done (by kernel_rfl) ?_ _
  clear hHeld
  go_wp2
  go_ret
  exact ⟨congrArg (fun b => Ending.returned (.bool b)) Hr.out.symm, by rw [Hkf.out]; exact HB.out.drew⟩
 by_cases h2 : s1 < (L : Int)
 case neg =>
  have Hr : Hid (r = false) := Hfar.out (by omega)
  refine wp_region_held_drew (S := (fun w' => w'.cell? ⟨kf, 6, none⟩ = some (.slice f.ha L f.hc) ∧ w'.cell? ⟨ks, 0, none⟩ = some (.int .i64 s1) ∧ w'.cell? ⟨ks, 1, none⟩ = some (.int .i64 s2))) (by kernel_rfl) ⟨below_at (Below.refl _ _).drew q6, below_at (Below.refl _ _).drew q0, below_at (Below.refl _ _).drew q1⟩ (fun hHeld => ?_)
  simp only [Act.put, List.size_toArray, List.length_cons, List.length_nil, Nat.zero_add]
  refine wG9 0 (.pointer (some ⟨ks, 0, none⟩)) rfl hHeld ?_
  simp only [Act.put,gA9,gZ9,gC9,sA9,sZ9,sC9]
  refine wX9 1 (.int .i64 s1) rfl (Or.inl ⟨by rfl, fun w' hS => by (obtain ⟨t6, t0, t1⟩ := hS; go_simp)⟩) hHeld ?_
  simp only [Act.put,gA9,gZ9,gC9,sA9,sZ9,sC9]
  refine wX9 2 (.bool true) rfl (Or.inl ⟨by rfl, fun w' hS => by first | (go_simp; done) | (go_simp; omega)⟩) hHeld ?_
  simp only [Act.put,gA9,gZ9,gC9,sA9,sZ9,sC9]
  refine wG9 3 (.bool true) rfl hHeld ?_
  simp only [Act.put,gA9,gZ9,gC9,sA9,sZ9,sC9]
  refine wG9 4 (.pointer (some ⟨ks, 0, none⟩)) rfl hHeld ?_
  simp only [Act.put,gA9,gZ9,gC9,sA9,sZ9,sC9]
  refine wX9 5 (.int .i64 s1) rfl (Or.inl ⟨by rfl, fun w' hS => by (obtain ⟨t6, t0, t1⟩ := hS; go_simp)⟩) hHeld ?_
  simp only [Act.put,gA9,gZ9,gC9,sA9,sZ9,sC9]
  refine wG9 6 (.pointer (some ⟨kf, 6, none⟩)) rfl hHeld ?_
  simp only [Act.put,gA9,gZ9,gC9,sA9,sZ9,sC9]
  refine wX9 7 (.slice f.ha L f.hc) rfl (Or.inl ⟨by rfl, fun w' hS => by (obtain ⟨t6, t0, t1⟩ := hS; go_simp)⟩) hHeld ?_
  simp only [Act.put,gA9,gZ9,gC9,sA9,sZ9,sC9]
  refine wG9 8 (.int .i64 (L : Int)) rfl hHeld ?_
  simp only [Act.put,gA9,gZ9,gC9,sA9,sZ9,sC9]
  refine wX9 9 (.bool false) rfl (Or.inl ⟨by rfl, fun w' hS => by first | (go_simp; done) | (go_simp; omega)⟩) hHeld ?_
  simp only [Act.put,gA9,gZ9,gC9,sA9,sZ9,sC9]
  refine wG9 10 (.bool false) rfl hHeld ?_
  simp only [Act.put,gA9,gZ9,gC9,sA9,sZ9,sC9]
  refine wG9 11 (.bool false) rfl hHeld ?_
  simp only [Act.put,gA9,gZ9,gC9,sA9,sZ9,sC9]
  refine wS9 12 rfl hHeld ?_
  simp only [Act.put,gA9,gZ9,gC9,sA9,sZ9,sC9]
  refine wS9 13 rfl hHeld ?_
  simp only [Act.put,gA9,gZ9,gC9,sA9,sZ9,sC9]
  refine wS9 14 rfl hHeld ?_
  simp only [Act.put,gA9,gZ9,gC9,sA9,sZ9,sC9]
  refine wS9 15 rfl hHeld ?_
  simp only [Act.put,gA9,gZ9,gC9,sA9,sZ9,sC9]
  refine wS9 16 rfl hHeld ?_
  simp only [Act.put,gA9,gZ9,gC9,sA9,sZ9,sC9]
  refine wS9 17 rfl hHeld ?_
  simp only [Act.put,gA9,gZ9,gC9,sA9,sZ9,sC9]
  refine wS9 18 rfl hHeld ?_
  simp only [Act.put,gA9,gZ9,gC9,sA9,sZ9,sC9]
  refine wS9 19 rfl hHeld ?_
  simp only [Act.put,gA9,gZ9,gC9,sA9,sZ9,sC9]
  refine wS9 20 rfl hHeld ?_
  simp only [Act.put,gA9,gZ9,gC9,sA9,sZ9,sC9]
  refine wG9 21 (.bool false) rfl hHeld ?_
  simp only [Act.put,gA9,gZ9,gC9,sA9,sZ9,sC9]
  refine wG9 22 (.bool false) rfl hHeld ?_
  simp only [Act.put,gA9,gZ9,gC9,sA9,sZ9,sC9]
  refine wpAnyH_done (by kernel_rfl) ?_ _
  clear hHeld
  go_wp2
  go_ret
  exact ⟨congrArg (fun b => Ending.returned (.bool b)) Hr.out.symm, by rw [Hkf.out]; exact HB.out.drew⟩
 obtain ⟨k, rfl⟩ : ∃ k : Nat, s1 = (k : Int) := ⟨s1.toNat, by omega⟩
 have Hr0 := Hnear.out k (by omega) rfl
 obtain ⟨hb, ho, he, hc⟩ := HF.out.at (i := k) (by rw [HL.out]; omega)
 rw [he] at q6
 generalize f.c.hv.getD k 0 = y at *
 have Hr : Hid (r = decide (s2 ≤ y)) := Hr0
 clear Hr0 Hneg Hfar Hnear HF he
 refine wp_region_held_drew (S := (fun w' => w'.cell? ⟨kf, 6, none⟩ = some (.slice (some ⟨hb, ho, none⟩) L f.hc) ∧ w'.cell? ⟨ks, 0, none⟩ = some (.int .i64 (k : Int)) ∧ w'.cell? ⟨ks, 1, none⟩ = some (.int .i64 s2) ∧ w'.cell? ⟨hb, ho + k, none⟩ = some (.int .i64 y))) (by kernel_rfl) ⟨below_at (Below.refl _ _).drew q6, below_at (Below.refl _ _).drew q0, below_at (Below.refl _ _).drew q1, below_at (Below.refl _ _).drew hc⟩ (fun hHeld => ?_)
 simp only [Act.put, List.size_toArray, List.length_cons, List.length_nil, Nat.zero_add]
 refine wG9 0 (.pointer (some ⟨ks, 0, none⟩)) rfl hHeld ?_
 simp only [Act.put,gA9,gZ9,gC9,sA9,sZ9,sC9]
 refine wX9 1 (.int .i64 (k : Int)) rfl (Or.inl ⟨by rfl, fun w' hS => by (obtain ⟨t6, t0, t1, tc⟩ := hS; go_simp)⟩) hHeld ?_
 simp only [Act.put,gA9,gZ9,gC9,sA9,sZ9,sC9]
 refine wX9 2 (.bool true) rfl (Or.inl ⟨by rfl, fun w' hS => by first | (go_simp; done) | (go_simp; omega)⟩) hHeld ?_
 simp only [Act.put,gA9,gZ9,gC9,sA9,sZ9,sC9]
 refine wG9 3 (.bool true) rfl hHeld ?_
 simp only [Act.put,gA9,gZ9,gC9,sA9,sZ9,sC9]
 refine wG9 4 (.pointer (some ⟨ks, 0, none⟩)) rfl hHeld ?_
 simp only [Act.put,gA9,gZ9,gC9,sA9,sZ9,sC9]
 refine wX9 5 (.int .i64 (k : Int)) rfl (Or.inl ⟨by rfl, fun w' hS => by (obtain ⟨t6, t0, t1, tc⟩ := hS; go_simp)⟩) hHeld ?_
 simp only [Act.put,gA9,gZ9,gC9,sA9,sZ9,sC9]
 refine wG9 6 (.pointer (some ⟨kf, 6, none⟩)) rfl hHeld ?_
 simp only [Act.put,gA9,gZ9,gC9,sA9,sZ9,sC9]
 refine wX9 7 (.slice (some ⟨hb, ho, none⟩) L f.hc) rfl (Or.inl ⟨by rfl, fun w' hS => by (obtain ⟨t6, t0, t1, tc⟩ := hS; go_simp)⟩) hHeld ?_
 simp only [Act.put,gA9,gZ9,gC9,sA9,sZ9,sC9]
 refine wG9 8 (.int .i64 (L : Int)) rfl hHeld ?_
 simp only [Act.put,gA9,gZ9,gC9,sA9,sZ9,sC9]
 refine wX9 9 (.bool true) rfl (Or.inl ⟨by rfl, fun w' hS => by first | (go_simp; done) | (go_simp; omega)⟩) hHeld ?_
 simp only [Act.put,gA9,gZ9,gC9,sA9,sZ9,sC9]
 refine wG9 10 (.bool true) rfl hHeld ?_
 simp only [Act.put,gA9,gZ9,gC9,sA9,sZ9,sC9]
 refine wG9 11 (.bool true) rfl hHeld ?_
 simp only [Act.put,gA9,gZ9,gC9,sA9,sZ9,sC9]
 refine wG9 12 (.pointer (some ⟨ks, 1, none⟩)) rfl hHeld ?_
 simp only [Act.put,gA9,gZ9,gC9,sA9,sZ9,sC9]
 refine wX9 13 (.int .i64 s2) rfl (Or.inl ⟨by rfl, fun w' hS => by (obtain ⟨t6, t0, t1, tc⟩ := hS; go_simp)⟩) hHeld ?_
 simp only [Act.put,gA9,gZ9,gC9,sA9,sZ9,sC9]
 refine wG9 14 (.pointer (some ⟨kf, 6, none⟩)) rfl hHeld ?_
 simp only [Act.put,gA9,gZ9,gC9,sA9,sZ9,sC9]
 refine wX9 15 (.slice (some ⟨hb, ho, none⟩) L f.hc) rfl (Or.inl ⟨by rfl, fun w' hS => by (obtain ⟨t6, t0, t1, tc⟩ := hS; go_simp)⟩) hHeld ?_
 simp only [Act.put,gA9,gZ9,gC9,sA9,sZ9,sC9]
 refine wG9 16 (.pointer (some ⟨ks, 0, none⟩)) rfl hHeld ?_
 simp only [Act.put,gA9,gZ9,gC9,sA9,sZ9,sC9]
 refine wX9 17 (.int .i64 (k : Int)) rfl (Or.inl ⟨by rfl, fun w' hS => by (obtain ⟨t6, t0, t1, tc⟩ := hS; go_simp)⟩) hHeld ?_
 simp only [Act.put,gA9,gZ9,gC9,sA9,sZ9,sC9]
 refine wG9 18 (.pointer (some ⟨hb, ho + k, none⟩)) rfl hHeld ?_
 simp only [Act.put,gA9,gZ9,gC9,sA9,sZ9,sC9]
 refine wX9 19 (.int .i64 y) rfl (Or.inl ⟨by rfl, fun w' hS => by (obtain ⟨t6, t0, t1, tc⟩ := hS; go_simp)⟩) hHeld ?_
 simp only [Act.put,gA9,gZ9,gC9,sA9,sZ9,sC9]
 refine wG9 20 (.bool (decide (s2 ≤ y))) rfl hHeld ?_
 simp only [Act.put,gA9,gZ9,gC9,sA9,sZ9,sC9]
 refine wG9 21 (.bool (decide (s2 ≤ y))) rfl hHeld ?_
 simp only [Act.put,gA9,gZ9,gC9,sA9,sZ9,sC9]
 refine wG9 22 (.bool (decide (s2 ≤ y))) rfl hHeld ?_
 simp only [Act.put,gA9,gZ9,gC9,sA9,sZ9,sC9]
 refine wpAnyH_done (by kernel_rfl) ?_ _
 clear hHeld
 go_wp2
 go_ret
 exact ⟨congrArg (fun b => Ending.returned (.bool b)) Hr.out.symm, by rw [Hkf.out]; exact HB.out.drew⟩
theorem atK_not {fs : List Co} {pos : Int} {k i : Nat} (h : knows (fs.getD i c0) pos = false) : atK fs pos (k + 1) i = atK fs pos k (i + 1) := by
 show (if knows (fs.getD i c0) pos then _ else _) = _
 rw [h]
 rfl
theorem atK_yes {fs : List Co} {pos : Int} {k i : Nat} (h : knows (fs.getD i c0) pos = true) : atK fs pos (k + 1) i = some ((fs.getD i c0).sl.getD (pos - (fs.getD i c0).base - 1).toNat z2) := by
 show (if knows (fs.getD i c0) pos then _ else _) = _
 rw [h]
 rfl
theorem res_slot {fn : Func} {p : Tmp} (h : fn.results = #[.cell p 76]) (tmps : Array Value) (w : World) (g : Nat) (L : List Value) (hL : L.length = 2)
  (hp : tmps.getD p undef = .pointer (some ⟨g, 0, none⟩)) (hg : w.rangeAt g 0 L) :
  (results fn tmps).run Try.prog w = .ok (.agg L.toArray) w := by
 have e : (results fn tmps).run Try.prog w = ((asAddr (tmps.getD p undef)).run Try.prog w).andThen fun a w₁ => (loadVar 76 a).run Try.prog w₁ := by
  simp only [results, h]
  simp [Sem.run_bind, Result.andThen]
 rw [e, hp]
 simp [asAddr, run_loadVar_mid w g 0 76 L _ hg Try.underlying76 rfl (by rw [hL]; exact info_slot)]
set_option maxHeartbeats 4000000 in
theorem qAt_any {ao : Option Addr} {cp : Nat} {fs : List Fl} (hr : RdFs w ao fs) (hn : fs.length ≤ 1000000000000000000) (hb : ∀ i, i < fs.length → 0 ≤ (fs.getD i fl0).c.base ∧ (fs.getD i fl0).c.base ≤ 4611686018427387904) (pos : Int) (hp0 : 0 ≤ pos) (hp1 : pos ≤ 4611686018427389904) : Calls Try.prog 44 #[.slice ao fs.length cp, .int .i64 pos] w fun e w' => e = .returned (.agg (slotV ((atP (cos fs) pos).getD z2)).toArray) ∧ Below w.heap.size w w' := by
 have HR : Hid (RdFs w ao fs) := hr
 have HS : Hid (∀ i, i < fs.length → 0 ≤ (fs.getD i fl0).c.base ∧ (fs.getD i fl0).c.base ≤ 4611686018427387904) := hb
 have Hat : Hid (atP (cos fs) pos = atK (cos fs) pos fs.length 0) := (show _ = _ from by unfold atP; rw [cos_len])
 generalize hL : fs.length = L at *
 have HLe : Hid (fs.length = L) := hL
 clear hr hL hb
 generalize hW0 : w.alloc (.cells #[.int .i64 0, .int .i64 0] 76) = W0
 have b0 : Below w.heap.size w W0 := hW0 ▸ balloc (Below.refl _ _)
 have k0 : W0.heap[w.heap.size]? = some (.cells (slotV z2).toArray 76 (0, 0)) := by rw [← hW0]; exact heap_alloc_new w _
 have HB : Hid (Below w.heap.size w W0) := b0
 have HK : Hid (W0.heap[w.heap.size]? = some (.cells (slotV z2).toArray 76 (0, 0))) := k0
 clear b0 k0
 go_enter Try.func44, Try.ntmps44
 go_wp2
 clear hW0
 generalize hkb : w.heap.size = kb at *
 have Hkb : Hid (w.heap.size = kb) := hkb
 clear hkb
 go_loopw [5] (fun i wr => ∃ c : Nat, c ≤ L ∧ i = .int .i64 c ∧ atK (cos fs) pos L 0 = atK (cos fs) pos (L - c) c ∧ wr = W0) (fun i _ => L - (intOf i).toNat)
 case atStart => exact ⟨0, Nat.zero_le _, rfl, rfl, rfl⟩
 case round =>
  obtain ⟨c, hc, rfl, hat, rfl⟩ := hrel
  have HA : Hid (atP (cos fs) pos = atK (cos fs) pos (L - c) c) := Hat.out.trans hat
  have HA2 : Hid (atK (cos fs) pos L 0 = atK (cos fs) pos (L - c) c) := hat
  clear hat
  by_cases hlt : c < L
  ·have hrw := HR.out.still (show Below w.heap.size w wr from by rw [Hkb.out]; exact HB.out)
   obtain ⟨b, off, hao, q4, q5, _⟩ := fl_cell hrw (i := c) (by rw [HLe.out]; exact hlt)
   have Hcb := HS.out c hlt
   have Hrd : Hid ((fs.getD c fl0).Rd wr) := hrw.el c (by rw [HLe.out]; exact hlt)
   have hsn := Hrd.out.sn
   have HcA : Hid ((cos fs).getD c c0 = (fs.getD c fl0).c) := cos_at fs c
   have Hn : Hid (knows (fs.getD c fl0).c pos = false → atK (cos fs) pos (L - c) c = atK (cos fs) pos (L - (c + 1)) (c + 1)) := fun h => by
    have := atK_not (fs := cos fs) (pos := pos) (k := L - (c + 1)) (i := c) (by rw [HcA.out]; exact h)
    rw [show L - (c + 1) + 1 = L - c by omega] at this
    exact this
   have Hy : Hid (knows (fs.getD c fl0).c pos = true → atK (cos fs) pos (L - c) c = some ((fs.getD c fl0).c.sl.getD (pos - (fs.getD c fl0).c.base - 1).toNat z2)) := fun h => by
    have := atK_yes (fs := cos fs) (pos := pos) (k := L - (c + 1)) (i := c) (by rw [HcA.out]; exact h)
    rw [show L - (c + 1) + 1 = L - c by omega, HcA.out] at this
    exact this
   clear hrw
   have i1 : (0 : Int) ≤ (c : Int) := Int.natCast_nonneg _
   have i2 : (c : Int) < (L : Int) := by omega
   rw [hao]
   generalize fs.getD c fl0 = f at *
   have Hkn : Hid (knows f.c pos = (decide (0 ≤ pos - f.c.base - 1) && decide (pos - f.c.base - 1 < f.c.sl.length))) := rfl
   generalize hbs : f.c.base = bs at *
   generalize hsn2 : f.c.sl.length = sn at *
   have Hsn : Hid (f.c.sl.length = sn) := hsn2
   clear hbs hsn2
   go_wp2_with (first | (refine wl_at 16 rfl ?_) | fail)
   refine wT9 ?_
   simp only [Act.put,gA9,gZ9,gC9,sA9,sZ9,sC9]
   refine wT9 ?_
   simp only [Act.put,gA9,gZ9,gC9,sA9,sZ9,sC9]
   refine wT9 ?_
   simp only [Act.put,gA9,gZ9,gC9,sA9,sZ9,sC9]
   refine wl_take (v := .int .i64 (pos - bs)) (by kernel_rfl) (by go_simp; exact wrap_id (by omega) (by omega)) ?_
   simp only [Act.put,gA9,gZ9,gC9,sA9,sZ9,sC9]
   refine wl_take (v := .int .i64 (pos - bs - 1)) (by kernel_rfl) (by go_simp; exact wrap_id (by omega) (by omega)) ?_
   simp only [Act.put,gA9,gZ9,gC9,sA9,sZ9,sC9]
   refine wT9 ?_
   simp only [Act.put,gA9,gZ9,gC9,sA9,sZ9,sC9]
   refine ⟨?_⟩
   generalize hkk : pos - bs - 1 = kk at *
   have Hkk : Hid (pos - bs - 1 = kk) := hkk
   clear hkk
   by_cases h1 : 0 ≤ kk
   case neg =>
    have Hn2 : Hid (atK (cos fs) pos (L - c) c = atK (cos fs) pos (L - (c + 1)) (c + 1)) := Hn.out (by rw [Hkn.out, decide_eq_false h1]; rfl)
    go_wp2_with (first | (refine wl_at 22 rfl ?_) | fail)
    refine wl_take (v := .bool false) (by kernel_rfl) (by first | (go_simp; done) | (go_simp; omega)) ?_
    simp only [Act.put,gA9,gZ9,gC9,sA9,sZ9,sC9]
    refine wT9 ?_
    simp only [Act.put,gA9,gZ9,gC9,sA9,sZ9,sC9]
    refine wS9' ?_
    simp only [Act.put,gA9,gZ9,gC9,sA9,sZ9,sC9]
    refine wS9' ?_
    simp only [Act.put,gA9,gZ9,gC9,sA9,sZ9,sC9]
    refine wS9' ?_
    simp only [Act.put,gA9,gZ9,gC9,sA9,sZ9,sC9]
    refine wS9' ?_
    simp only [Act.put,gA9,gZ9,gC9,sA9,sZ9,sC9]
    refine wS9' ?_
    simp only [Act.put,gA9,gZ9,gC9,sA9,sZ9,sC9]
    refine wS9' ?_
    simp only [Act.put,gA9,gZ9,gC9,sA9,sZ9,sC9]
    refine wS9' ?_
    simp only [Act.put,gA9,gZ9,gC9,sA9,sZ9,sC9]
    refine wS9' ?_
    simp only [Act.put,gA9,gZ9,gC9,sA9,sZ9,sC9]
    refine wT9 ?_
    simp only [Act.put,gA9,gZ9,gC9,sA9,sZ9,sC9]
    refine ⟨?_⟩
    go_wp2
    exact ⟨⟨c + 1, by omega, by go_num, by rw [HA2.out]; exact Hn2.out, by first | rfl | trivial⟩, by simp [intOf]; omega⟩
   by_cases h2 : kk < (sn : Int)
   case neg =>
    have Hn2 : Hid (atK (cos fs) pos (L - c) c = atK (cos fs) pos (L - (c + 1)) (c + 1)) := Hn.out (by rw [Hkn.out, decide_eq_false h2]; simp)
    go_wp2_with (first | (refine wl_at 22 rfl ?_) | fail)
    refine wl_take (v := .bool true) (by kernel_rfl) (by first | (go_simp; done) | (go_simp; omega)) ?_
    simp only [Act.put,gA9,gZ9,gC9,sA9,sZ9,sC9]
    refine wT9 ?_
    simp only [Act.put,gA9,gZ9,gC9,sA9,sZ9,sC9]
    refine wT9 ?_
    simp only [Act.put,gA9,gZ9,gC9,sA9,sZ9,sC9]
    refine wT9 ?_
    simp only [Act.put,gA9,gZ9,gC9,sA9,sZ9,sC9]
    refine wT9 ?_
    simp only [Act.put,gA9,gZ9,gC9,sA9,sZ9,sC9]
    refine wT9 ?_
    simp only [Act.put,gA9,gZ9,gC9,sA9,sZ9,sC9]
    refine wT9 ?_
    simp only [Act.put,gA9,gZ9,gC9,sA9,sZ9,sC9]
    refine wT9 ?_
    simp only [Act.put,gA9,gZ9,gC9,sA9,sZ9,sC9]
    refine wT9 ?_
    simp only [Act.put,gA9,gZ9,gC9,sA9,sZ9,sC9]
    refine wl_take (v := .bool false) (by kernel_rfl) (by first | (go_simp; done) | (go_simp; omega)) ?_
    simp only [Act.put,gA9,gZ9,gC9,sA9,sZ9,sC9]
    refine wT9 ?_
    simp only [Act.put,gA9,gZ9,gC9,sA9,sZ9,sC9]
    refine ⟨?_⟩
    go_wp2
    exact ⟨⟨c + 1, by omega, by go_num, by rw [HA2.out]; exact Hn2.out, by first | rfl | trivial⟩, by simp [intOf]; omega⟩
   obtain ⟨m, rfl⟩ : ∃ m : Nat, kk = (m : Int) := ⟨kk.toNat, by omega⟩
   have hres : atP (cos fs) pos = some (f.c.sl.getD m z2) := by rw [HA.out, Hy.out (by rw [Hkn.out, decide_eq_true h1, decide_eq_true h2]; rfl)]; simp
   obtain ⟨b2, o2, hsa, hc2, _, _⟩ := Hrd.out.s.at (i := m) (by rw [Hsn.out]; omega)
   have HD : Hid (wr.rangeAt b2 (o2 + m * 2) (slotV (f.c.sl.getD m z2))) := hc2
   have Hres : Hid ((atP (cos fs) pos).getD z2 = f.c.sl.getD m z2) := (show _ = _ from by rw [hres]; rfl)
   rw [hsa] at q5
   clear hc2 hres
   generalize f.c.sl.getD m z2 = s at *
   go_wp2_with (first | (refine wl_at 22 rfl ?_) | fail)
   refine wl_take (v := .bool true) (by kernel_rfl) (by first | (go_simp; done) | (go_simp; omega)) ?_
   simp only [Act.put,gA9,gZ9,gC9,sA9,sZ9,sC9]
   refine wT9 ?_
   simp only [Act.put,gA9,gZ9,gC9,sA9,sZ9,sC9]
   refine wT9 ?_
   simp only [Act.put,gA9,gZ9,gC9,sA9,sZ9,sC9]
   refine wT9 ?_
   simp only [Act.put,gA9,gZ9,gC9,sA9,sZ9,sC9]
   refine wT9 ?_
   simp only [Act.put,gA9,gZ9,gC9,sA9,sZ9,sC9]
   refine wT9 ?_
   simp only [Act.put,gA9,gZ9,gC9,sA9,sZ9,sC9]
   refine wT9 ?_
   simp only [Act.put,gA9,gZ9,gC9,sA9,sZ9,sC9]
   refine wT9 ?_
   simp only [Act.put,gA9,gZ9,gC9,sA9,sZ9,sC9]
   refine wT9 ?_
   simp only [Act.put,gA9,gZ9,gC9,sA9,sZ9,sC9]
   refine wl_take (v := .bool true) (by kernel_rfl) (by first | (go_simp; done) | (go_simp; omega)) ?_
   simp only [Act.put,gA9,gZ9,gC9,sA9,sZ9,sC9]
   refine wT9 ?_
   simp only [Act.put,gA9,gZ9,gC9,sA9,sZ9,sC9]
   refine ⟨?_⟩
   go_wp2_with (first
    | (refine load_mid 76 (.tmp 39) HD.out _ Try.underlying76 rfl info_slot rfl rfl rfl ?_)
    | (refine wl_st 76 (.tmp 4) (.tmp 40) rfl ?_)
    | fail)
   refine wl_store 76 (.tmp 4) (.tmp 40) (L := slotV s) (blk_there HK.out rfl) info_slot (slotV_one _) rfl rfl rfl (by kernel_rfl) ?_
   simp only [Act.put,gA9,gZ9,gC9,sA9,sZ9,sC9]
   refine ⟨?_⟩
   have hs1 : (wr.setCells kb 0 (slotV s)).heap[kb]? = some (.cells (slotV s).toArray 76 (0, 0)) := sets_whole HK.out rfl
   have hs2 : Below kb w (wr.setCells kb 0 (slotV s)) := (show Below kb w _ from by rw [← Hkb.out]; exact bsets (by rw [Hkb.out]; exact Nat.le_refl _) _ _ (by rw [Hkb.out]; exact HB.out))
   generalize wr.setCells kb 0 (slotV s) = V3 at *
   go_wp2
   (try simp only [Exit.inBlock, Exit.then]); refine bodyPost_ret (res_slot rfl _ _ kb (slotV s) rfl rfl (blk_range hs1)) rfl ?_
   exact ⟨by rw [Hres.out], by rw [Hkb.out]; exact hs2⟩
  ·obtain rfl : L = c := by omega
   have Hres : Hid ((atP (cos fs) pos).getD z2 = z2) := (show _ = _ from by rw [HA.out, Nat.sub_self]; rfl)
   go_wp2_with (first | (refine wl_st 76 (.tmp 4) (.tmp 41) rfl ?_) | fail)
   refine wl_store 76 (.tmp 4) (.tmp 41) (L := slotV z2) (blk_there HK.out rfl) info_slot (slotV_one _) rfl rfl rfl (by kernel_rfl) ?_
   simp only [Act.put,gA9,gZ9,gC9,sA9,sZ9,sC9]
   refine ⟨?_⟩
   have hs1 : (wr.setCells kb 0 (slotV z2)).heap[kb]? = some (.cells (slotV z2).toArray 76 (0, 0)) := sets_whole HK.out rfl
   have hs2 : Below kb w (wr.setCells kb 0 (slotV z2)) := (show Below kb w _ from by rw [← Hkb.out]; exact bsets (by rw [Hkb.out]; exact Nat.le_refl _) _ _ (by rw [Hkb.out]; exact HB.out))
   generalize wr.setCells kb 0 (slotV z2) = V3 at *
   go_wp2
   (try simp only [Exit.inBlock, Exit.then]); refine bodyPost_ret (res_slot rfl _ _ kb (slotV z2) rfl rfl (blk_range hs1)) rfl ?_
   exact ⟨by rw [Hres.out], by rw [Hkb.out]; exact hs2⟩
end
end Go.Proofs.Ytobaooebjgoaiaa.Fm
namespace Go.Proofs.Ytobaooebjgoaiaa.Fm
open Go.RowKit Go.Maps Mb
set_option linter.unusedVariables false
set_option maxRecDepth 100000
set_option linter.unusedSimpArgs false
section
variable {w w' W : World} {B : Nat}
theorem alike_zero (cs : List Co) : alike cs 0 = true := by simp [alike]
theorem forks_yes {cs : List Co} {i j : Nat} (hi : i < cs.length) (hj : j < i) (h : forkB (cs.getD i c0) (cs.getD j c0) = true) : forksB cs = true := by
 unfold forksB
 rw [List.any_eq_true]
 refine ⟨i, List.mem_range.2 hi, ?_⟩
 rw [List.any_eq_true]
 exact ⟨j, List.mem_range.2 hj, h⟩
theorem forks_no {cs : List Co} (h : ∀ i, i < cs.length → ∀ j, j < i → forkB (cs.getD i c0) (cs.getD j c0) = false) : forksB cs = false := by
 unfold forksB
 rw [List.any_eq_false]
 intro i hi
 rw [Bool.not_eq_true, List.any_eq_false]
 intro j hj
 rw [h i (List.mem_range.1 hi) j (List.mem_range.1 hj)]
 simp
set_option maxHeartbeats 16000000 in
theorem qTog_any {ao : Option Addr} {cp : Nat} {fs : List Fl} (hr : RdFs w ao fs) (hn : fs.length ≤ 1000000000000000000) : Calls Try.prog 41 #[.slice ao fs.length cp] w fun e w' => e = .returned (.int .i64 (togE (cos fs))) ∧ Below w.heap.size w w' := by
 have HR : Hid (RdFs w ao fs) := hr
 have hcl := cos_len fs
 generalize hL : fs.length = L at *
 have HLe : Hid (fs.length = L) := hL
 have HcL : Hid ((cos fs).length = L) := hcl
 clear hr hL hcl
 go_enter Try.func41, Try.ntmps41
 go_wp2
 go_loopw [3] (fun i wr => ∃ c : Nat, c ≤ L ∧ i = .int .i64 c ∧ (∀ k, k < c → sound ((cos fs).getD k c0) = true) ∧ Below w.heap.size w wr) (fun i _ => L - (intOf i).toNat)
 case atStart => exact ⟨0, Nat.zero_le _, rfl, fun k hk => by omega, Below.refl _ _⟩
 case round =>
  obtain ⟨c, hc, rfl, hsn, hb⟩ := hrel
  have HB : Hid (Below w.heap.size w wr) := hb
  have HS : Hid (∀ k, k < c → sound ((cos fs).getD k c0) = true) := hsn
  clear hb hsn
  by_cases hlt : c < L
  ·have hrw := HR.out.still HB.out
   obtain ⟨b, off, rfl, hcc⟩ := hrw.at (i := c) (by rw [HLe.out]; exact hlt)
   have HC : Hid (wr.rangeAt b (off + c * 7) (fs.getD c fl0).cs) := hcc
   have HM : Hid (Calls Try.prog 67 #[.agg (fs.getD c fl0).cs.toArray] wr fun e w' => e = .returned (.bool (sound (fs.getD c fl0).c)) ∧ Below wr.heap.size wr w') := qSound_any (hrw.el c (by rw [HLe.out]; exact hlt))
   have HcA : Hid ((cos fs).getD c c0 = (fs.getD c fl0).c) := cos_at fs c
   clear hrw hcc
   have i1 : (0 : Int) ≤ (c : Int) := Int.natCast_nonneg _
   have i2 : (c : Int) < (L : Int) := by omega
   generalize fs.getD c fl0 = f at *
   have Hl7 : Hid (f.cs.length = 7) := rfl
   cases hsd : sound f.c with
   | true =>
    rw [hsd] at HM
    have HS2 : Hid (∀ k, k < c + 1 → sound ((cos fs).getD k c0) = true) := fun k hk => by
     by_cases e : k = c
     ·rw [e, HcA.out]; exact hsd
     ·exact HS.out k (by omega)
    clear hsd
    go_wp2_with (first
     | (refine load_mid 28 (.tmp 17) HC.out _ Try.underlying28 rfl (by rw [Hl7.out]; exact info_flush) rfl rfl rfl ?_)
     | (go_at_call 67; refine HM.out.mono ?_; rintro e V2 ⟨rfl, hb2⟩)
     | fail)
    exact ⟨⟨c + 1, by omega, by go_num, HS2.out, bstep HB.out hb2⟩, by simp [intOf]; omega⟩
   | false =>
    rw [hsd] at HM
    have HE : Hid (togE (cos fs) = 1) := tog_unsound (i := c) (by rw [HcL.out]; exact hlt) (by rw [HcA.out]; exact hsd)
    clear hsd
    go_wp2_with (first
     | (refine load_mid 28 (.tmp 17) HC.out _ Try.underlying28 rfl (by rw [Hl7.out]; exact info_flush) rfl rfl rfl ?_)
     | (go_at_call 67; refine HM.out.mono ?_; rintro e V2 ⟨rfl, hb2⟩)
     | fail)
    go_ret
    exact ⟨congrArg (fun x => Ending.returned (.int .i64 x)) HE.out.symm, bstep HB.out hb2⟩
  ·obtain rfl : L = c := by omega
   go_wp2
   go_loopw [5] (fun i wr => ∃ c : Nat, 1 ≤ c ∧ i = .int .i64 c ∧ (∀ k, k < c → alike (cos fs) k = true) ∧ Below w.heap.size w wr) (fun i _ => L - (intOf i).toNat)
   case atStart => exact ⟨1, Nat.le_refl _, rfl, fun k hk => by rw [show k = 0 by omega]; exact alike_zero _, HB.out⟩
   case round =>
    obtain ⟨c, hc, rfl, hal, hb⟩ := hrel
    have HA : Hid (∀ k, k < c → alike (cos fs) k = true) := hal
    clear HB
    have HB : Hid (Below w.heap.size w wr) := hb
    clear hb hal
    by_cases hlt : c < L
    ·have hrw := HR.out.still HB.out
     obtain ⟨b, off, rfl, hcc⟩ := hrw.at (i := c) (by rw [HLe.out]; exact hlt)
     obtain ⟨b', off', hb', hcc0⟩ := hrw.at (i := 0) (by rw [HLe.out]; omega)
     have hb2 : b = b' ∧ off = off' := by simpa using hb'
     obtain ⟨rfl, rfl⟩ := hb2
     have HC0 : Hid (wr.rangeAt b off (fs.getD 0 fl0).cs) := by rw [Nat.zero_mul, Nat.add_zero] at hcc0; exact hcc0
     have HcA : Hid ((cos fs).getD c c0 = (fs.getD c fl0).c) := cos_at fs c
     have Hc0 : Hid ((cos fs).getD 0 c0 = (fs.getD 0 fl0).c) := cos_at fs 0
     have Hal : Hid (alike (cos fs) c = (decide ((fs.getD c fl0).c.id = (fs.getD 0 fl0).c.id) && decide ((fs.getD c fl0).c.hv.length = (fs.getD 0 fl0).c.hv.length))) := (show alike (cos fs) c = _ from by unfold alike; rw [HcA.out, Hc0.out])
     have hl1 := (hrw.el c (by rw [HLe.out]; exact hlt)).hn
     have hl2 := (hrw.el 0 (by rw [HLe.out]; omega)).hn
     have i1 : (0 : Int) ≤ (c : Int) := Int.natCast_nonneg _
     have i2 : (c : Int) < (L : Int) := by omega
     have i3 : (0 : Int) < (L : Int) := by omega
     generalize fs.getD c fl0 = f at *
     generalize fs.getD 0 fl0 = f0 at *
     have r1 : wr.drew.rangeAt b (off + c * 7) f.c.id.cs := id_at hcc
     have r6 : wr.cell? ⟨b, off + c * 7 + 6, none⟩ = some (.slice f.ha f.c.hv.length f.hc) := have_at hcc
     have r0 : wr.drew.rangeAt b off f0.c.id.cs := id_at HC0.out
     have r06 : wr.cell? ⟨b, off + 6, none⟩ = some (.slice f0.ha f0.c.hv.length f0.hc) := have_at HC0.out
     have Hi4 : Hid (f.c.id.cs.length = 4) := rfl
     have Hi04 : Hid (f0.c.id.cs.length = 4) := rfl
     have HEq : Hid (∀ W, (Op.equalIn 10000 24 (.agg f.c.id.cs.toArray) (.agg f0.c.id.cs.toArray)).run Try.prog W = .ok (decide (f.c.id = f0.c.id)) W) := fun W => eq_vid _ _
     clear hrw hcc hcc0 hb' HC0
     generalize f.c.hv.length = n1 at *
     generalize f0.c.hv.length = n2 at *
     generalize f.c.id.cs = d1 at *
     generalize f0.c.id.cs = d2 at *
     by_cases hx : f.c.id = f0.c.id
     ·rw [decide_eq_true hx] at HEq
      by_cases hy : n1 = n2
      ·have HA2 : Hid (∀ k, k < c + 1 → alike (cos fs) k = true) := fun k hk => by
        by_cases e : k = c
        ·rw [e, Hal.out, decide_eq_true hx, decide_eq_true hy]; rfl
        ·exact HA.out k (by omega)
       clear hx
       go_wp2_with (fail)
       refine wp_region_held_drew (S := (fun w' => w'.rangeAt b (off + c * 7) d1 ∧ w'.rangeAt b off d2 ∧ w'.cell? ⟨b, off + c * 7 + 6, none⟩ = some (.slice f.ha n1 f.hc) ∧ w'.cell? ⟨b, off + 6, none⟩ = some (.slice f0.ha n2 f0.hc))) (by kernel_rfl) ⟨r1, r0, below_at (Below.refl _ _).drew r6, below_at (Below.refl _ _).drew r06⟩ (fun hHeld => ?_)
       simp only [Act.put, List.size_toArray, List.length_cons, List.length_nil, Nat.zero_add]
       refine wG9 0 (.slice (some ⟨b, off, none⟩) L cp) rfl hHeld ?_
       simp only [Act.put,gA9,gZ9,gC9,sA9,sZ9,sC9]
       refine wG9 1 (.int .i64 (c : Int)) rfl hHeld ?_
       simp only [Act.put,gA9,gZ9,gC9,sA9,sZ9,sC9]
       refine wG9 2 (.pointer (some ⟨b, off + c * 7, none⟩)) rfl hHeld ?_
       simp only [Act.put,gA9,gZ9,gC9,sA9,sZ9,sC9]
       refine wG9 3 (.pointer (some ⟨b, off + c * 7, none⟩)) rfl hHeld ?_
       simp only [Act.put,gA9,gZ9,gC9,sA9,sZ9,sC9]
       refine wpAnyH_take (i := 4) (v := .agg (d1).toArray) rfl (by kernel_rfl) (by kernel_rfl) (by kernel_rfl) (fun _ _ _ h => h) (yieldsIf_load_mid (by rfl) 24 (.tmp 31) rfl b (off + c * 7) (by rfl) (d1) _ (fun w' hS => hS.1) Try.underlying24 rfl (by rw [Hi4.out]; exact info_id)) hHeld ?_
       simp only [Act.put,gA9,gZ9,gC9,sA9,sZ9,sC9]
       refine wG9 5 (.slice (some ⟨b, off, none⟩) L cp) rfl hHeld ?_
       simp only [Act.put,gA9,gZ9,gC9,sA9,sZ9,sC9]
       refine wX9 6 (.pointer (some ⟨b, off, none⟩)) rfl (Or.inl ⟨by rfl, fun w' hS => by (go_simp; intro hz; omega)⟩) hHeld ?_
       simp only [Act.put,gA9,gZ9,gC9,sA9,sZ9,sC9]
       refine wG9 7 (.pointer (some ⟨b, off, none⟩)) rfl hHeld ?_
       simp only [Act.put,gA9,gZ9,gC9,sA9,sZ9,sC9]
       refine wpAnyH_take (i := 8) (v := .agg (d2).toArray) rfl (by kernel_rfl) (by kernel_rfl) (by kernel_rfl) (fun _ _ _ h => h) (yieldsIf_load_mid (by rfl) 24 (.tmp 35) rfl b (off) (by rfl) (d2) _ (fun w' hS => hS.2.1) Try.underlying24 rfl (by rw [Hi04.out]; exact info_id)) hHeld ?_
       simp only [Act.put,gA9,gZ9,gC9,sA9,sZ9,sC9]
       refine wX9 9 (.bool false) rfl (Or.inl ⟨by rfl, fun w' hS => run_neqop 24 (.tmp 32) (.tmp 36) 24 rfl _ _ (by rfl) (by rfl) guard_id true (HEq.out _)⟩) hHeld ?_
       simp only [Act.put,gA9,gZ9,gC9,sA9,sZ9,sC9]
       refine wG9 10 (.bool false) rfl hHeld ?_
       simp only [Act.put,gA9,gZ9,gC9,sA9,sZ9,sC9]
       refine wG9 11 (.slice (some ⟨b, off, none⟩) L cp) rfl hHeld ?_
       simp only [Act.put,gA9,gZ9,gC9,sA9,sZ9,sC9]
       refine wG9 12 (.int .i64 (c : Int)) rfl hHeld ?_
       simp only [Act.put,gA9,gZ9,gC9,sA9,sZ9,sC9]
       refine wG9 13 (.pointer (some ⟨b, off + c * 7, none⟩)) rfl hHeld ?_
       simp only [Act.put,gA9,gZ9,gC9,sA9,sZ9,sC9]
       refine wG9 14 (.pointer (some ⟨b, off + c * 7 + 6, none⟩)) rfl hHeld ?_
       simp only [Act.put,gA9,gZ9,gC9,sA9,sZ9,sC9]
       refine wX9 15 (.slice f.ha n1 f.hc) rfl (Or.inl ⟨by rfl, fun w' hS => by (obtain ⟨s1, s0, s6, s06⟩ := hS; go_simp)⟩) hHeld ?_
       simp only [Act.put,gA9,gZ9,gC9,sA9,sZ9,sC9]
       refine wG9 16 (.int .i64 (n1 : Int)) rfl hHeld ?_
       simp only [Act.put,gA9,gZ9,gC9,sA9,sZ9,sC9]
       refine wG9 17 (.slice (some ⟨b, off, none⟩) L cp) rfl hHeld ?_
       simp only [Act.put,gA9,gZ9,gC9,sA9,sZ9,sC9]
       refine wX9 18 (.pointer (some ⟨b, off, none⟩)) rfl (Or.inl ⟨by rfl, fun w' hS => by (go_simp; intro hz; omega)⟩) hHeld ?_
       simp only [Act.put,gA9,gZ9,gC9,sA9,sZ9,sC9]
       refine wG9 19 (.pointer (some ⟨b, off + 6, none⟩)) rfl hHeld ?_
       simp only [Act.put,gA9,gZ9,gC9,sA9,sZ9,sC9]
       refine wX9 20 (.slice f0.ha n2 f0.hc) rfl (Or.inl ⟨by rfl, fun w' hS => by (obtain ⟨s1, s0, s6, s06⟩ := hS; go_simp)⟩) hHeld ?_
       simp only [Act.put,gA9,gZ9,gC9,sA9,sZ9,sC9]
       refine wG9 21 (.int .i64 (n2 : Int)) rfl hHeld ?_
       simp only [Act.put,gA9,gZ9,gC9,sA9,sZ9,sC9]
       refine wX9 22 (.bool false) rfl (Or.inl ⟨by rfl, fun w' hS => by (go_simp <;> omega)⟩) hHeld ?_
       simp only [Act.put,gA9,gZ9,gC9,sA9,sZ9,sC9]
       refine wG9 23 (.bool false) rfl hHeld ?_
       simp only [Act.put,gA9,gZ9,gC9,sA9,sZ9,sC9]
       refine wpAnyH_done (by kernel_rfl) ?_ _
       clear hHeld
       go_wp2
       exact ⟨⟨c + 1, by omega, by go_num, HA2.out, HB.out.drew⟩, by simp [intOf]; omega⟩
      ·have hx2 : (decide (f.c.id = f0.c.id) && decide (n1 = n2)) = false := by rw [decide_eq_false hy]; simp
       have HE : Hid (togE (cos fs) = 80) := tog_unlike (i := c) (fun k hk => HS.out k (by rw [← HcL.out]; exact hk)) (by rw [HcL.out]; exact hlt) (by rw [Hal.out, hx2])
       clear hx hx2
       go_wp2_with (fail)
       refine wp_region_held_drew (S := (fun w' => w'.rangeAt b (off + c * 7) d1 ∧ w'.rangeAt b off d2 ∧ w'.cell? ⟨b, off + c * 7 + 6, none⟩ = some (.slice f.ha n1 f.hc) ∧ w'.cell? ⟨b, off + 6, none⟩ = some (.slice f0.ha n2 f0.hc))) (by kernel_rfl) ⟨r1, r0, below_at (Below.refl _ _).drew r6, below_at (Below.refl _ _).drew r06⟩ (fun hHeld => ?_)
       simp only [Act.put, List.size_toArray, List.length_cons, List.length_nil, Nat.zero_add]
       refine wG9 0 (.slice (some ⟨b, off, none⟩) L cp) rfl hHeld ?_
       simp only [Act.put,gA9,gZ9,gC9,sA9,sZ9,sC9]
       refine wG9 1 (.int .i64 (c : Int)) rfl hHeld ?_
       simp only [Act.put,gA9,gZ9,gC9,sA9,sZ9,sC9]
       refine wG9 2 (.pointer (some ⟨b, off + c * 7, none⟩)) rfl hHeld ?_
       simp only [Act.put,gA9,gZ9,gC9,sA9,sZ9,sC9]
       refine wG9 3 (.pointer (some ⟨b, off + c * 7, none⟩)) rfl hHeld ?_
       simp only [Act.put,gA9,gZ9,gC9,sA9,sZ9,sC9]
       refine wpAnyH_take (i := 4) (v := .agg (d1).toArray) rfl (by kernel_rfl) (by kernel_rfl) (by kernel_rfl) (fun _ _ _ h => h) (yieldsIf_load_mid (by rfl) 24 (.tmp 31) rfl b (off + c * 7) (by rfl) (d1) _ (fun w' hS => hS.1) Try.underlying24 rfl (by rw [Hi4.out]; exact info_id)) hHeld ?_
       simp only [Act.put,gA9,gZ9,gC9,sA9,sZ9,sC9]
       refine wG9 5 (.slice (some ⟨b, off, none⟩) L cp) rfl hHeld ?_
       simp only [Act.put,gA9,gZ9,gC9,sA9,sZ9,sC9]
       refine wX9 6 (.pointer (some ⟨b, off, none⟩)) rfl (Or.inl ⟨by rfl, fun w' hS => by (go_simp; intro hz; omega)⟩) hHeld ?_
       simp only [Act.put,gA9,gZ9,gC9,sA9,sZ9,sC9]
       refine wG9 7 (.pointer (some ⟨b, off, none⟩)) rfl hHeld ?_
       simp only [Act.put,gA9,gZ9,gC9,sA9,sZ9,sC9]
       refine wpAnyH_take (i := 8) (v := .agg (d2).toArray) rfl (by kernel_rfl) (by kernel_rfl) (by kernel_rfl) (fun _ _ _ h => h) (yieldsIf_load_mid (by rfl) 24 (.tmp 35) rfl b (off) (by rfl) (d2) _ (fun w' hS => hS.2.1) Try.underlying24 rfl (by rw [Hi04.out]; exact info_id)) hHeld ?_
       simp only [Act.put,gA9,gZ9,gC9,sA9,sZ9,sC9]
       refine wX9 9 (.bool false) rfl (Or.inl ⟨by rfl, fun w' hS => run_neqop 24 (.tmp 32) (.tmp 36) 24 rfl _ _ (by rfl) (by rfl) guard_id true (HEq.out _)⟩) hHeld ?_
       simp only [Act.put,gA9,gZ9,gC9,sA9,sZ9,sC9]
       refine wG9 10 (.bool false) rfl hHeld ?_
       simp only [Act.put,gA9,gZ9,gC9,sA9,sZ9,sC9]
       refine wG9 11 (.slice (some ⟨b, off, none⟩) L cp) rfl hHeld ?_
       simp only [Act.put,gA9,gZ9,gC9,sA9,sZ9,sC9]
       refine wG9 12 (.int .i64 (c : Int)) rfl hHeld ?_
       simp only [Act.put,gA9,gZ9,gC9,sA9,sZ9,sC9]
       refine wG9 13 (.pointer (some ⟨b, off + c * 7, none⟩)) rfl hHeld ?_
       simp only [Act.put,gA9,gZ9,gC9,sA9,sZ9,sC9]
       refine wG9 14 (.pointer (some ⟨b, off + c * 7 + 6, none⟩)) rfl hHeld ?_
       simp only [Act.put,gA9,gZ9,gC9,sA9,sZ9,sC9]
       refine wX9 15 (.slice f.ha n1 f.hc) rfl (Or.inl ⟨by rfl, fun w' hS => by (obtain ⟨s1, s0, s6, s06⟩ := hS; go_simp)⟩) hHeld ?_
       simp only [Act.put,gA9,gZ9,gC9,sA9,sZ9,sC9]
       refine wG9 16 (.int .i64 (n1 : Int)) rfl hHeld ?_
       simp only [Act.put,gA9,gZ9,gC9,sA9,sZ9,sC9]
       refine wG9 17 (.slice (some ⟨b, off, none⟩) L cp) rfl hHeld ?_
       simp only [Act.put,gA9,gZ9,gC9,sA9,sZ9,sC9]
       refine wX9 18 (.pointer (some ⟨b, off, none⟩)) rfl (Or.inl ⟨by rfl, fun w' hS => by (go_simp; intro hz; omega)⟩) hHeld ?_
       simp only [Act.put,gA9,gZ9,gC9,sA9,sZ9,sC9]
       refine wG9 19 (.pointer (some ⟨b, off + 6, none⟩)) rfl hHeld ?_
       simp only [Act.put,gA9,gZ9,gC9,sA9,sZ9,sC9]
       refine wX9 20 (.slice f0.ha n2 f0.hc) rfl (Or.inl ⟨by rfl, fun w' hS => by (obtain ⟨s1, s0, s6, s06⟩ := hS; go_simp)⟩) hHeld ?_
       simp only [Act.put,gA9,gZ9,gC9,sA9,sZ9,sC9]
       refine wG9 21 (.int .i64 (n2 : Int)) rfl hHeld ?_
       simp only [Act.put,gA9,gZ9,gC9,sA9,sZ9,sC9]
       refine wX9 22 (.bool true) rfl (Or.inl ⟨by rfl, fun w' hS => by (go_simp <;> omega)⟩) hHeld ?_
       simp only [Act.put,gA9,gZ9,gC9,sA9,sZ9,sC9]
       refine wG9 23 (.bool true) rfl hHeld ?_
       simp only [Act.put,gA9,gZ9,gC9,sA9,sZ9,sC9]
       refine wpAnyH_done (by kernel_rfl) ?_ _
       clear hHeld
       go_wp2
       go_ret
       exact ⟨congrArg (fun x => Ending.returned (.int .i64 x)) HE.out.symm, HB.out.drew⟩
     ·rw [decide_eq_false hx] at HEq
      have hx2 : (decide (f.c.id = f0.c.id) && decide (n1 = n2)) = false := by rw [decide_eq_false hx]; rfl
      have HE : Hid (togE (cos fs) = 80) := tog_unlike (i := c) (fun k hk => HS.out k (by rw [← HcL.out]; exact hk)) (by rw [HcL.out]; exact hlt) (by rw [Hal.out, hx2])
      clear hx hx2
      go_wp2_with (fail)
      refine wp_region_held_drew (S := (fun w' => w'.rangeAt b (off + c * 7) d1 ∧ w'.rangeAt b off d2 ∧ w'.cell? ⟨b, off + c * 7 + 6, none⟩ = some (.slice f.ha n1 f.hc) ∧ w'.cell? ⟨b, off + 6, none⟩ = some (.slice f0.ha n2 f0.hc))) (by kernel_rfl) ⟨r1, r0, below_at (Below.refl _ _).drew r6, below_at (Below.refl _ _).drew r06⟩ (fun hHeld => ?_)
      simp only [Act.put, List.size_toArray, List.length_cons, List.length_nil, Nat.zero_add]
      refine wG9 0 (.slice (some ⟨b, off, none⟩) L cp) rfl hHeld ?_
      simp only [Act.put,gA9,gZ9,gC9,sA9,sZ9,sC9]
      refine wG9 1 (.int .i64 (c : Int)) rfl hHeld ?_
      simp only [Act.put,gA9,gZ9,gC9,sA9,sZ9,sC9]
      refine wG9 2 (.pointer (some ⟨b, off + c * 7, none⟩)) rfl hHeld ?_
      simp only [Act.put,gA9,gZ9,gC9,sA9,sZ9,sC9]
      refine wG9 3 (.pointer (some ⟨b, off + c * 7, none⟩)) rfl hHeld ?_
      simp only [Act.put,gA9,gZ9,gC9,sA9,sZ9,sC9]
      refine wpAnyH_take (i := 4) (v := .agg (d1).toArray) rfl (by kernel_rfl) (by kernel_rfl) (by kernel_rfl) (fun _ _ _ h => h) (yieldsIf_load_mid (by rfl) 24 (.tmp 31) rfl b (off + c * 7) (by rfl) (d1) _ (fun w' hS => hS.1) Try.underlying24 rfl (by rw [Hi4.out]; exact info_id)) hHeld ?_
      simp only [Act.put,gA9,gZ9,gC9,sA9,sZ9,sC9]
      refine wG9 5 (.slice (some ⟨b, off, none⟩) L cp) rfl hHeld ?_
      simp only [Act.put,gA9,gZ9,gC9,sA9,sZ9,sC9]
      refine wX9 6 (.pointer (some ⟨b, off, none⟩)) rfl (Or.inl ⟨by rfl, fun w' hS => by (go_simp; intro hz; omega)⟩) hHeld ?_
      simp only [Act.put,gA9,gZ9,gC9,sA9,sZ9,sC9]
      refine wG9 7 (.pointer (some ⟨b, off, none⟩)) rfl hHeld ?_
      simp only [Act.put,gA9,gZ9,gC9,sA9,sZ9,sC9]
      refine wpAnyH_take (i := 8) (v := .agg (d2).toArray) rfl (by kernel_rfl) (by kernel_rfl) (by kernel_rfl) (fun _ _ _ h => h) (yieldsIf_load_mid (by rfl) 24 (.tmp 35) rfl b (off) (by rfl) (d2) _ (fun w' hS => hS.2.1) Try.underlying24 rfl (by rw [Hi04.out]; exact info_id)) hHeld ?_
      simp only [Act.put,gA9,gZ9,gC9,sA9,sZ9,sC9]
      refine wX9 9 (.bool true) rfl (Or.inl ⟨by rfl, fun w' hS => run_neqop 24 (.tmp 32) (.tmp 36) 24 rfl _ _ (by rfl) (by rfl) guard_id false (HEq.out _)⟩) hHeld ?_
      simp only [Act.put,gA9,gZ9,gC9,sA9,sZ9,sC9]
      refine wG9 10 (.bool true) rfl hHeld ?_
      simp only [Act.put,gA9,gZ9,gC9,sA9,sZ9,sC9]
      refine wS9 11 rfl hHeld ?_
      simp only [Act.put,gA9,gZ9,gC9,sA9,sZ9,sC9]
      refine wS9 12 rfl hHeld ?_
      simp only [Act.put,gA9,gZ9,gC9,sA9,sZ9,sC9]
      refine wS9 13 rfl hHeld ?_
      simp only [Act.put,gA9,gZ9,gC9,sA9,sZ9,sC9]
      refine wS9 14 rfl hHeld ?_
      simp only [Act.put,gA9,gZ9,gC9,sA9,sZ9,sC9]
      refine wS9 15 rfl hHeld ?_
      simp only [Act.put,gA9,gZ9,gC9,sA9,sZ9,sC9]
      refine wS9 16 rfl hHeld ?_
      simp only [Act.put,gA9,gZ9,gC9,sA9,sZ9,sC9]
      refine wS9 17 rfl hHeld ?_
      simp only [Act.put,gA9,gZ9,gC9,sA9,sZ9,sC9]
      refine wS9 18 rfl hHeld ?_
      simp only [Act.put,gA9,gZ9,gC9,sA9,sZ9,sC9]
      refine wS9 19 rfl hHeld ?_
      simp only [Act.put,gA9,gZ9,gC9,sA9,sZ9,sC9]
      refine wS9 20 rfl hHeld ?_
      simp only [Act.put,gA9,gZ9,gC9,sA9,sZ9,sC9]
      refine wS9 21 rfl hHeld ?_
      simp only [Act.put,gA9,gZ9,gC9,sA9,sZ9,sC9]
      refine wS9 22 rfl hHeld ?_
      simp only [Act.put,gA9,gZ9,gC9,sA9,sZ9,sC9]
      refine wG9 23 (.bool true) rfl hHeld ?_
      simp only [Act.put,gA9,gZ9,gC9,sA9,sZ9,sC9]
      refine wpAnyH_done (by kernel_rfl) ?_ _
      clear hHeld
      go_wp2
      go_ret
      exact ⟨congrArg (fun x => Ending.returned (.int .i64 x)) HE.out.symm, HB.out.drew⟩
    ·have HA2 : Hid (∀ k, k < (cos fs).length → alike (cos fs) k = true) := fun k hk => HA.out k (by have := HcL.out; omega)
     have HS2 : Hid (∀ k, k < (cos fs).length → sound ((cos fs).getD k c0) = true) := fun k hk => HS.out k (by rw [← HcL.out]; exact hk)
     have HT : Hid (togE (cos fs) = if forksB (cos fs) then 82 else 0) := tog_rest HS2.out HA2.out
     clear HA HA2
     have i2 : ¬ (c : Int) < (L : Int) := by omega
     go_wp2
     go_loopw [6] (fun i wr => ∃ c : Nat, c ≤ L ∧ i = .int .i64 c ∧ (∀ k, k < c → ∀ j, j < k → forkB ((cos fs).getD k c0) ((cos fs).getD j c0) = false) ∧ Below w.heap.size w wr) (fun i _ => L - (intOf i).toNat)
     case atStart => exact ⟨0, Nat.zero_le _, rfl, fun k hk => by omega, HB.out⟩
     case round =>
      obtain ⟨i, hi, rfl, hno, hb⟩ := hrel
      have HN : Hid (∀ k, k < i → ∀ j, j < k → forkB ((cos fs).getD k c0) ((cos fs).getD j c0) = false) := hno
      clear HB
      have HB : Hid (Below w.heap.size w wr) := hb
      clear hno hb
      by_cases hil : i < L
      ·have i3 : (i : Int) < (L : Int) := by omega
       have i4 : (0 : Int) ≤ (i : Int) := Int.natCast_nonneg _
       go_wp2
       go_loopw [7] (fun v wv => ∃ j : Nat, j ≤ i ∧ v = .int .i64 j ∧ (∀ k, k < j → forkB ((cos fs).getD i c0) ((cos fs).getD k c0) = false) ∧ Below w.heap.size w wv) (fun v _ => i - (intOf v).toNat)
       case atStart => exact ⟨0, Nat.zero_le _, rfl, fun k hk => by omega, HB.out⟩
       case round =>
        obtain ⟨j, hj, rfl, hno, hb⟩ := hrel
        have HM : Hid (∀ k, k < j → forkB ((cos fs).getD i c0) ((cos fs).getD k c0) = false) := hno
        clear HB
        have HB : Hid (Below w.heap.size w wr) := hb
        clear hno hb
        by_cases hjl : j < i
        ·have j1 : (0 : Int) ≤ (j : Int) := Int.natCast_nonneg _
         have j2 : (j : Int) < (i : Int) := by omega
         have j3 : (j : Int) < (L : Int) := by omega
         have hrw := HR.out.still (bstep HB.out (Below.refl _ _).drew)
         obtain ⟨b, off, rfl, hcc⟩ := hrw.at (i := i) (by rw [HLe.out]; exact hil)
         obtain ⟨b', off', hb', hcc0⟩ := hrw.at (i := j) (by rw [HLe.out]; omega)
         have hb2 : b = b' ∧ off = off' := by simpa using hb'
         obtain ⟨rfl, rfl⟩ := hb2
         have HQ : Hid (Calls Try.prog 68 #[.agg (fs.getD i fl0).cs.toArray, .agg (fs.getD j fl0).cs.toArray] wr.drew fun e w' => e = .returned (.bool (forkB (fs.getD i fl0).c (fs.getD j fl0).c)) ∧ Below wr.drew.heap.size wr.drew w') := qfork_any (hrw.el i (by rw [HLe.out]; exact hil)) (hrw.el j (by rw [HLe.out]; omega)) (by rw [← cos_at]; exact (sound_iff _).1 (HS2.out i (by rw [HcL.out]; exact hil))) (by rw [← cos_at]; exact (sound_iff _).1 (HS2.out j (by rw [HcL.out]; omega)))
         have HcI : Hid ((cos fs).getD i c0 = (fs.getD i fl0).c) := cos_at fs i
         have HcJ : Hid ((cos fs).getD j c0 = (fs.getD j fl0).c) := cos_at fs j
         generalize fs.getD i fl0 = f at *
         generalize fs.getD j fl0 = g at *
         have Hf7 : Hid (f.cs.length = 7) := rfl
         have Hg7 : Hid (g.cs.length = 7) := rfl
         clear hrw hb'
         cases hfk : forkB f.c g.c with
         | true =>
          rw [hfk] at HQ
          have HE : Hid (togE (cos fs) = 82) := (show togE (cos fs) = 82 from by rw [HT.out, forks_yes (i := i) (j := j) (by rw [HcL.out]; exact hil) hjl (by rw [HcI.out, HcJ.out]; exact hfk)]; rfl)
          clear hfk
          go_wp2_with (fail)
          refine wp_region_held_drew (S := (fun w' => w'.rangeAt b (off + i * 7) f.cs ∧ w'.rangeAt b (off + j * 7) g.cs)) (by kernel_rfl) ⟨hcc, hcc0⟩ (fun hHeld => ?_)
          simp only [Act.put, List.size_toArray, List.length_cons, List.length_nil, Nat.zero_add]
          refine wG9 0 (.slice (some ⟨b, off, none⟩) L cp) rfl hHeld ?_
          simp only [Act.put,gA9,gZ9,gC9,sA9,sZ9,sC9]
          refine wG9 1 (.int .i64 (i : Int)) rfl hHeld ?_
          simp only [Act.put,gA9,gZ9,gC9,sA9,sZ9,sC9]
          refine wG9 2 (.pointer (some ⟨b, off + i * 7, none⟩)) rfl hHeld ?_
          simp only [Act.put,gA9,gZ9,gC9,sA9,sZ9,sC9]
          refine wpAnyH_take (i := 3) (v := .agg (f.cs).toArray) rfl (by kernel_rfl) (by kernel_rfl) (by kernel_rfl) (fun _ _ _ h => h) (yieldsIf_load_mid (by rfl) 28 (.tmp 65) rfl b (off + i * 7) (by rfl) (f.cs) _ (fun w' hS => hS.1) Try.underlying28 rfl (by rw [Hf7.out]; exact info_flush)) hHeld ?_
          simp only [Act.put,gA9,gZ9,gC9,sA9,sZ9,sC9]
          refine wG9 4 (.slice (some ⟨b, off, none⟩) L cp) rfl hHeld ?_
          simp only [Act.put,gA9,gZ9,gC9,sA9,sZ9,sC9]
          refine wG9 5 (.int .i64 (j : Int)) rfl hHeld ?_
          simp only [Act.put,gA9,gZ9,gC9,sA9,sZ9,sC9]
          refine wG9 6 (.pointer (some ⟨b, off + j * 7, none⟩)) rfl hHeld ?_
          simp only [Act.put,gA9,gZ9,gC9,sA9,sZ9,sC9]
          refine wpAnyH_take (i := 7) (v := .agg (g.cs).toArray) rfl (by kernel_rfl) (by kernel_rfl) (by kernel_rfl) (fun _ _ _ h => h) (yieldsIf_load_mid (by rfl) 28 (.tmp 69) rfl b (off + j * 7) (by rfl) (g.cs) _ (fun w' hS => hS.2) Try.underlying28 rfl (by rw [Hg7.out]; exact info_flush)) hHeld ?_
          simp only [Act.put,gA9,gZ9,gC9,sA9,sZ9,sC9]
          refine wpAnyH_ready (rs := [8]) (by kernel_rfl) (by simp) ?_
          refine AllReadyH.cons rfl (fun K hK => ?_) AllReadyH.nil
          go_simp
          refine (HQ.out).mono ?_
          rintro e V2 ⟨rfl, hb2⟩
          refine hK.out _ _ ⟨fun q v hv => below_at hb2 (hcc q v hv), fun q v hv => below_at hb2 (hcc0 q v hv)⟩ (fun hHeld => ?_)
          clear hK K
          refine wG9 9 (.bool true) rfl hHeld ?_
          simp only [Act.put,gA9,gZ9,gC9,sA9,sZ9,sC9]
          refine wpAnyH_done (by kernel_rfl) ?_ _
          clear hHeld
          go_wp2
          go_ret
          exact ⟨congrArg (fun x => Ending.returned (.int .i64 x)) HE.out.symm, bstep HB.out.drew hb2⟩
         | false =>
          rw [hfk] at HQ
          have HM2 : Hid (∀ k, k < j + 1 → forkB ((cos fs).getD i c0) ((cos fs).getD k c0) = false) := fun k hk => by
           by_cases e : k = j
           ·subst e; rw [HcI.out, HcJ.out]; exact hfk
           ·exact HM.out k (by omega)
          clear hfk
          go_wp2_with (fail)
          refine wp_region_held_drew (S := (fun w' => w'.rangeAt b (off + i * 7) f.cs ∧ w'.rangeAt b (off + j * 7) g.cs)) (by kernel_rfl) ⟨hcc, hcc0⟩ (fun hHeld => ?_)
          simp only [Act.put, List.size_toArray, List.length_cons, List.length_nil, Nat.zero_add]
          refine wG9 0 (.slice (some ⟨b, off, none⟩) L cp) rfl hHeld ?_
          simp only [Act.put,gA9,gZ9,gC9,sA9,sZ9,sC9]
          refine wG9 1 (.int .i64 (i : Int)) rfl hHeld ?_
          simp only [Act.put,gA9,gZ9,gC9,sA9,sZ9,sC9]
          refine wG9 2 (.pointer (some ⟨b, off + i * 7, none⟩)) rfl hHeld ?_
          simp only [Act.put,gA9,gZ9,gC9,sA9,sZ9,sC9]
          refine wpAnyH_take (i := 3) (v := .agg (f.cs).toArray) rfl (by kernel_rfl) (by kernel_rfl) (by kernel_rfl) (fun _ _ _ h => h) (yieldsIf_load_mid (by rfl) 28 (.tmp 65) rfl b (off + i * 7) (by rfl) (f.cs) _ (fun w' hS => hS.1) Try.underlying28 rfl (by rw [Hf7.out]; exact info_flush)) hHeld ?_
          simp only [Act.put,gA9,gZ9,gC9,sA9,sZ9,sC9]
          refine wG9 4 (.slice (some ⟨b, off, none⟩) L cp) rfl hHeld ?_
          simp only [Act.put,gA9,gZ9,gC9,sA9,sZ9,sC9]
          refine wG9 5 (.int .i64 (j : Int)) rfl hHeld ?_
          simp only [Act.put,gA9,gZ9,gC9,sA9,sZ9,sC9]
          refine wG9 6 (.pointer (some ⟨b, off + j * 7, none⟩)) rfl hHeld ?_
          simp only [Act.put,gA9,gZ9,gC9,sA9,sZ9,sC9]
          refine wpAnyH_take (i := 7) (v := .agg (g.cs).toArray) rfl (by kernel_rfl) (by kernel_rfl) (by kernel_rfl) (fun _ _ _ h => h) (yieldsIf_load_mid (by rfl) 28 (.tmp 69) rfl b (off + j * 7) (by rfl) (g.cs) _ (fun w' hS => hS.2) Try.underlying28 rfl (by rw [Hg7.out]; exact info_flush)) hHeld ?_
          simp only [Act.put,gA9,gZ9,gC9,sA9,sZ9,sC9]
          refine wpAnyH_ready (rs := [8]) (by kernel_rfl) (by simp) ?_
          refine AllReadyH.cons rfl (fun K hK => ?_) AllReadyH.nil
          go_simp
          refine (HQ.out).mono ?_
          rintro e V2 ⟨rfl, hb2⟩
          refine hK.out _ _ ⟨fun q v hv => below_at hb2 (hcc q v hv), fun q v hv => below_at hb2 (hcc0 q v hv)⟩ (fun hHeld => ?_)
          clear hK K
          refine wG9 9 (.bool false) rfl hHeld ?_
          simp only [Act.put,gA9,gZ9,gC9,sA9,sZ9,sC9]
          refine wpAnyH_done (by kernel_rfl) ?_ _
          clear hHeld
          go_wp2
          exact ⟨⟨j + 1, by omega, by go_num, HM2.out, bstep HB.out.drew hb2⟩, by simp [intOf]; omega⟩
        ·obtain rfl : i = j := by omega
         have HN2 : Hid (∀ k, k < i + 1 → ∀ j, j < k → forkB ((cos fs).getD k c0) ((cos fs).getD j c0) = false) := fun k hk => by
          by_cases e : k = i
          ·subst e; exact HM.out
          ·exact HN.out k (by omega)
         go_wp2
         exact ⟨⟨i + 1, by omega, by go_num, HN2.out, HB.out⟩, by simp [intOf]; omega⟩
      ·obtain rfl : L = i := by omega
       have HE : Hid (togE (cos fs) = 0) := (show togE (cos fs) = 0 from by rw [HT.out, forks_no (fun i hi => HN.out i (by rw [← HcL.out]; exact hi))]; rfl)
       go_wp2
       go_ret
       exact ⟨congrArg (fun x => Ending.returned (.int .i64 x)) HE.out.symm, HB.out⟩
end
end Go.Proofs.Ytobaooebjgoaiaa.Fm
