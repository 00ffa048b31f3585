import Derived.Test.YtihcaopcfhbofaaX13
import Derived.Laws.ResultCell
namespace Go.Proofs.Ytihcaopcfhbofaa.Fm
open Go.RowKit Go.Maps Mb
set_option linter.unusedVariables false
set_option maxRecDepth 100000
set_option linter.unusedSimpArgs false
section
variable {w w' W : World} {B : Nat}
theorem fl_cell {fs : List Fl} {ao : Option Addr} (h : RdFs w ao fs) {i : Nat} (hi : i < fs.length) : ∃ b off, ao = some ⟨b, off, none⟩ ∧ w.cell? ⟨b, off + i * 7 + 4, none⟩ = some (.int .i64 (fs.getD i fl0).c.base) ∧ w.cell? ⟨b, off + i * 7 + 5, none⟩ = some (.slice (fs.getD i fl0).sa (fs.getD i fl0).c.sl.length (fs.getD i fl0).sc) ∧ w.cell? ⟨b, off + i * 7 + 6, none⟩ = some (.slice (fs.getD i fl0).ha (fs.getD i fl0).c.hv.length (fs.getD i fl0).hc) := by
  obtain ⟨b, off, h1, h2⟩ := h.at hi
  exact ⟨b, off, h1, h2 4 _ rfl, h2 5 _ rfl, h2 6 _ rfl⟩
set_option maxHeartbeats 2000000 in
theorem qBase_any {ao : Option Addr} {cp : Nat} {fs : List Fl} (hr : RdFs w ao fs) (hln : fs.length ≤ 1000000000000000000) : Calls Try.prog 35 #[.slice ao fs.length cp] w fun e w' => e = .returned (.int .i64 (baseOf (cos fs))) ∧ w' = w := by
  have HR : Hid (RdFs w ao fs) := hr
  have Hbo : Hid (baseOf (cos fs) = baseK (cos fs) fs.length) := (show _ = _ from by unfold baseOf; rw [cos_len])
  generalize hL : fs.length = L at *
  have HLe : Hid (fs.length = L) := hL
  clear hr hL
  go_enter Try.func35, Try.ntmps35
  go_wp2
  go_loopw [3, 4] (fun bv i wr => ∃ c : Nat, c ≤ L ∧ i = .int .i64 c ∧ bv = .int .i64 (baseK (cos fs) c) ∧ wr = w) (fun _ i _ => L - (intOf i).toNat)
  case atStart => exact ⟨0, Nat.zero_le _, rfl, rfl, rfl⟩
  case round =>
    obtain ⟨c, hc, rfl, rfl, rfl⟩ := hrel
    by_cases hlt : c < L
    · obtain ⟨b, off, rfl, q4, _, _⟩ := fl_cell HR.out (i := c) (by rw [HLe.out]; exact hlt)
      have i1 : (0 : Int) ≤ (c : Int) := Int.natCast_nonneg _
      have i2 : (c : Int) < (L : Int) := by omega
      have Hbk : Hid (baseK (cos fs) (c + 1) = max (baseK (cos fs) c) (fs.getD c fl0).c.base) := (show baseK (cos fs) (c + 1) = _ from by show max _ ((cos fs).getD c c0).base = _; rw [cos_at])
      generalize (fs.getD c fl0).c.base = x at *
      generalize hbk : baseK (cos fs) c = y at *
      by_cases hx : y < x
      · have Hm : Hid (max y x = x) := (show max y x = x from by omega)
        go_wp2
        exact ⟨⟨c + 1, by omega, by go_num, by rw [Hbk.out, Hm.out], by first | rfl | trivial⟩, by simp [intOf]; omega⟩
      · have Hm : Hid (max y x = y) := (show max y x = y from by omega)
        go_wp2
        exact ⟨⟨c + 1, by omega, by go_num, by rw [Hbk.out, Hm.out], by first | rfl | trivial⟩, by simp [intOf]; omega⟩
    · obtain rfl : L = c := by omega
      go_wp2
      go_ret
      exact ⟨congrArg (fun x => Ending.returned (.int .i64 x)) Hbo.out.symm, rfl⟩
theorem has_neg {f : Co} {s : Int × Int} (h : s.1 < 0) : has f s = false := by
  unfold has
  rw [decide_eq_false (by omega)]
  rfl
theorem has_far {f : Co} {s : Int × Int} (h : (f.hv.length : Int) ≤ s.1) : has f s = false := by
  unfold has
  rw [decide_eq_false (p := s.1 < (f.hv.length : Int)) (by omega)]
  simp
theorem has_near {f : Co} {k : Nat} {x : Int} (hk : k < f.hv.length) : has f ((k : Int), x) = decide (x ≤ f.hv.getD k 0) := by
  unfold has
  simp [hk]
set_option maxHeartbeats 4000000 in
theorem qhas_any {f : Fl} (hf : f.Rd w) (s : Int × Int) : Calls Try.prog 37 #[.agg f.cs.toArray, .agg (slotV s).toArray] w fun e w' => e = .returned (.bool (has f.c s)) ∧ Below w.heap.size w w' := by
  generalize hW1 : w.alloc (.cells f.cs.toArray 28) = W1
  generalize hW2 : W1.alloc (.cells (slotV s).toArray 70) = W2
  have b1 : Below w.heap.size w W1 := hW1 ▸ balloc (Below.refl _ _)
  have b2 : Below W1.heap.size W1 W2 := hW2 ▸ balloc (Below.refl _ _)
  have k1 : W1.heap[w.heap.size]? = some (.cells f.cs.toArray 28 (0, 0)) := by rw [← hW1]; exact heap_alloc_new w _
  have k2 : W2.heap[W1.heap.size]? = some (.cells (slotV s).toArray 70 (0, 0)) := by rw [← hW2]; exact heap_alloc_new W1 _
  have HB : Hid (Below w.heap.size w W2) := bstep b1 b2
  have q6 : W2.cell? ⟨w.heap.size, 6, none⟩ = some (.slice f.ha f.c.hv.length f.hc) := below_at b2 (blk_cell k1 6)
  have q0 : W2.cell? ⟨W1.heap.size, 0, none⟩ = some (.int .i64 s.1) := blk_cell k2 0
  have q1 : W2.cell? ⟨W1.heap.size, 1, none⟩ = some (.int .i64 s.2) := blk_cell k2 1
  have HF : Hid (RdI W2 f.ha f.c.hv) := (hf.h.still b1).still b2
  have hln := hf.hn
  have Hneg : Hid (s.1 < 0 → has f.c s = false) := has_neg
  have Hfar : Hid ((f.c.hv.length : Int) ≤ s.1 → has f.c s = false) := has_far
  have Hnear : Hid (∀ k : Nat, k < f.c.hv.length → s.1 = k → has f.c s = decide (s.2 ≤ f.c.hv.getD k 0)) := fun k hk e => by
    have : s = ((k : Int), s.2) := Prod.ext e rfl
    rw [this, has_near hk]
  clear hf b1 b2 k1 k2
  generalize hL : f.c.hv.length = L at *
  have HL : Hid (f.c.hv.length = L) := hL
  clear hL
  obtain ⟨s1, s2⟩ := s
  simp only at *
  generalize has f.c (s1, s2) = r at *
  generalize f.cs.toArray = pc at *
  generalize (slotV (s1, s2)).toArray = pd at *
  go_enter Try.func37, Try.ntmps37
  go_wp2_with (fail)
  clear hW1 hW2
  generalize hkf : w.heap.size = kf at *
  have Hkf : Hid (w.heap.size = kf) := hkf
  generalize hks : W1.heap.size = ks at *
  clear hkf hks
  by_cases h1 : 0 ≤ s1
  case neg =>
    have Hr : Hid (r = false) := Hneg.out (by omega)
    refine wp_region_held_drew (S := (fun w' => w'.cell? ⟨kf, 6, none⟩ = some (.slice f.ha L f.hc) ∧ w'.cell? ⟨ks, 0, none⟩ = some (.int .i64 s1) ∧ w'.cell? ⟨ks, 1, none⟩ = some (.int .i64 s2))) (by kernel_rfl) ⟨below_at (Below.refl _ _).drew q6, below_at (Below.refl _ _).drew q0, below_at (Below.refl _ _).drew q1⟩ (fun hHeld => ?_)
    simp only [Act.put, List.size_toArray, List.length_cons, List.length_nil, Nat.zero_add]
    refine wpAnyH_take (i := 0) (v := .pointer (some ⟨ks, 0, none⟩)) rfl (by kernel_rfl) (by kernel_rfl) (by kernel_rfl) (fun _ _ _ h => h) (Or.inl ⟨by rfl, fun w' hS => by go_simp⟩) hHeld ?_
    simp only [Act.put, gA9, gZ9, gC9, sA9, sZ9, sC9]
    refine wpAnyH_take (i := 1) (v := .int .i64 s1) rfl (by kernel_rfl) (by kernel_rfl) (by kernel_rfl) (fun _ _ _ h => h) (Or.inl ⟨by rfl, fun w' hS => by (obtain ⟨t6, t0, t1⟩ := hS; go_simp)⟩) hHeld ?_
    simp only [Act.put, gA9, gZ9, gC9, sA9, sZ9, sC9]
    refine wpAnyH_take (i := 2) (v := .bool false) rfl (by kernel_rfl) (by kernel_rfl) (by kernel_rfl) (fun _ _ _ h => h) (Or.inl ⟨by rfl, fun w' hS => by first | (go_simp; done) | (go_simp; omega)⟩) hHeld ?_
    simp only [Act.put, gA9, gZ9, gC9, sA9, sZ9, sC9]
    refine wpAnyH_take (i := 3) (v := .bool false) rfl (by kernel_rfl) (by kernel_rfl) (by kernel_rfl) (fun _ _ _ h => h) (Or.inl ⟨by rfl, fun w' hS => by go_simp⟩) hHeld ?_
    simp only [Act.put, gA9, gZ9, gC9, sA9, sZ9, sC9]
    refine wpAnyH_take (i := 4) (v := undef) rfl (by kernel_rfl) (by kernel_rfl) (by kernel_rfl) (fun _ _ _ h => h) (Or.inr ⟨by rfl, rfl⟩) hHeld ?_
    simp only [Act.put, gA9, gZ9, gC9, sA9, sZ9, sC9]
    refine wpAnyH_take (i := 5) (v := undef) rfl (by kernel_rfl) (by kernel_rfl) (by kernel_rfl) (fun _ _ _ h => h) (Or.inr ⟨by rfl, rfl⟩) hHeld ?_
    simp only [Act.put, gA9, gZ9, gC9, sA9, sZ9, sC9]
    refine wpAnyH_take (i := 6) (v := undef) rfl (by kernel_rfl) (by kernel_rfl) (by kernel_rfl) (fun _ _ _ h => h) (Or.inr ⟨by rfl, rfl⟩) hHeld ?_
    simp only [Act.put, gA9, gZ9, gC9, sA9, sZ9, sC9]
    refine wpAnyH_take (i := 7) (v := undef) rfl (by kernel_rfl) (by kernel_rfl) (by kernel_rfl) (fun _ _ _ h => h) (Or.inr ⟨by rfl, rfl⟩) hHeld ?_
    simp only [Act.put, gA9, gZ9, gC9, sA9, sZ9, sC9]
    refine wpAnyH_take (i := 8) (v := undef) rfl (by kernel_rfl) (by kernel_rfl) (by kernel_rfl) (fun _ _ _ h => h) (Or.inr ⟨by rfl, rfl⟩) hHeld ?_
    simp only [Act.put, gA9, gZ9, gC9, sA9, sZ9, sC9]
    refine wpAnyH_take (i := 9) (v := undef) rfl (by kernel_rfl) (by kernel_rfl) (by kernel_rfl) (fun _ _ _ h => h) (Or.inr ⟨by rfl, rfl⟩) hHeld ?_
    simp only [Act.put, gA9, gZ9, gC9, sA9, sZ9, sC9]
    refine wpAnyH_take (i := 10) (v := .bool false) rfl (by kernel_rfl) (by kernel_rfl) (by kernel_rfl) (fun _ _ _ h => h) (Or.inl ⟨by rfl, fun w' hS => by go_simp⟩) hHeld ?_
    simp only [Act.put, gA9, gZ9, gC9, sA9, sZ9, sC9]
    refine wpAnyH_take (i := 11) (v := .bool false) rfl (by kernel_rfl) (by kernel_rfl) (by kernel_rfl) (fun _ _ _ h => h) (Or.inl ⟨by rfl, fun w' hS => by go_simp⟩) hHeld ?_
    simp only [Act.put, gA9, gZ9, gC9, sA9, sZ9, sC9]
    refine wpAnyH_take (i := 12) (v := undef) rfl (by kernel_rfl) (by kernel_rfl) (by kernel_rfl) (fun _ _ _ h => h) (Or.inr ⟨by rfl, rfl⟩) hHeld ?_
    simp only [Act.put, gA9, gZ9, gC9, sA9, sZ9, sC9]
    refine wpAnyH_take (i := 13) (v := undef) rfl (by kernel_rfl) (by kernel_rfl) (by kernel_rfl) (fun _ _ _ h => h) (Or.inr ⟨by rfl, rfl⟩) hHeld ?_
    simp only [Act.put, gA9, gZ9, gC9, sA9, sZ9, sC9]
    refine wpAnyH_take (i := 14) (v := undef) rfl (by kernel_rfl) (by kernel_rfl) (by kernel_rfl) (fun _ _ _ h => h) (Or.inr ⟨by rfl, rfl⟩) hHeld ?_
    simp only [Act.put, gA9, gZ9, gC9, sA9, sZ9, sC9]
    refine wpAnyH_take (i := 15) (v := undef) rfl (by kernel_rfl) (by kernel_rfl) (by kernel_rfl) (fun _ _ _ h => h) (Or.inr ⟨by rfl, rfl⟩) hHeld ?_
    simp only [Act.put, gA9, gZ9, gC9, sA9, sZ9, sC9]
    refine wpAnyH_take (i := 16) (v := undef) rfl (by kernel_rfl) (by kernel_rfl) (by kernel_rfl) (fun _ _ _ h => h) (Or.inr ⟨by rfl, rfl⟩) hHeld ?_
    simp only [Act.put, gA9, gZ9, gC9, sA9, sZ9, sC9]
    refine wpAnyH_take (i := 17) (v := undef) rfl (by kernel_rfl) (by kernel_rfl) (by kernel_rfl) (fun _ _ _ h => h) (Or.inr ⟨by rfl, rfl⟩) hHeld ?_
    simp only [Act.put, gA9, gZ9, gC9, sA9, sZ9, sC9]
    refine wpAnyH_take (i := 18) (v := undef) rfl (by kernel_rfl) (by kernel_rfl) (by kernel_rfl) (fun _ _ _ h => h) (Or.inr ⟨by rfl, rfl⟩) hHeld ?_
    simp only [Act.put, gA9, gZ9, gC9, sA9, sZ9, sC9]
    refine wpAnyH_take (i := 19) (v := undef) rfl (by kernel_rfl) (by kernel_rfl) (by kernel_rfl) (fun _ _ _ h => h) (Or.inr ⟨by rfl, rfl⟩) hHeld ?_
    simp only [Act.put, gA9, gZ9, gC9, sA9, sZ9, sC9]
    refine wpAnyH_take (i := 20) (v := undef) rfl (by kernel_rfl) (by kernel_rfl) (by kernel_rfl) (fun _ _ _ h => h) (Or.inr ⟨by rfl, rfl⟩) hHeld ?_
    simp only [Act.put, gA9, gZ9, gC9, sA9, sZ9, sC9]
    refine wpAnyH_take (i := 21) (v := .bool false) rfl (by kernel_rfl) (by kernel_rfl) (by kernel_rfl) (fun _ _ _ h => h) (Or.inl ⟨by rfl, fun w' hS => by go_simp⟩) hHeld ?_
    simp only [Act.put, gA9, gZ9, gC9, sA9, sZ9, sC9]
    refine wpAnyH_take (i := 22) (v := .bool false) rfl (by kernel_rfl) (by kernel_rfl) (by kernel_rfl) (fun _ _ _ h => h) (Or.inl ⟨by rfl, fun w' hS => by go_simp⟩) hHeld ?_
    simp only [Act.put, gA9, gZ9, gC9, sA9, sZ9, sC9]
    refine wpAnyH_done (by kernel_rfl) ?_ _
    clear hHeld
    go_wp2
    go_ret
    exact ⟨congrArg (fun b => Ending.returned (.bool b)) Hr.out.symm, by rw [Hkf.out]; exact HB.out.drew⟩
  by_cases h2 : s1 < (L : Int)
  case neg =>
    have Hr : Hid (r = false) := Hfar.out (by omega)
    refine wp_region_held_drew (S := (fun w' => w'.cell? ⟨kf, 6, none⟩ = some (.slice f.ha L f.hc) ∧ w'.cell? ⟨ks, 0, none⟩ = some (.int .i64 s1) ∧ w'.cell? ⟨ks, 1, none⟩ = some (.int .i64 s2))) (by kernel_rfl) ⟨below_at (Below.refl _ _).drew q6, below_at (Below.refl _ _).drew q0, below_at (Below.refl _ _).drew q1⟩ (fun hHeld => ?_)
    simp only [Act.put, List.size_toArray, List.length_cons, List.length_nil, Nat.zero_add]
    refine wpAnyH_take (i := 0) (v := .pointer (some ⟨ks, 0, none⟩)) rfl (by kernel_rfl) (by kernel_rfl) (by kernel_rfl) (fun _ _ _ h => h) (Or.inl ⟨by rfl, fun w' hS => by go_simp⟩) hHeld ?_
    simp only [Act.put, gA9, gZ9, gC9, sA9, sZ9, sC9]
    refine wpAnyH_take (i := 1) (v := .int .i64 s1) rfl (by kernel_rfl) (by kernel_rfl) (by kernel_rfl) (fun _ _ _ h => h) (Or.inl ⟨by rfl, fun w' hS => by (obtain ⟨t6, t0, t1⟩ := hS; go_simp)⟩) hHeld ?_
    simp only [Act.put, gA9, gZ9, gC9, sA9, sZ9, sC9]
    refine wpAnyH_take (i := 2) (v := .bool true) rfl (by kernel_rfl) (by kernel_rfl) (by kernel_rfl) (fun _ _ _ h => h) (Or.inl ⟨by rfl, fun w' hS => by first | (go_simp; done) | (go_simp; omega)⟩) hHeld ?_
    simp only [Act.put, gA9, gZ9, gC9, sA9, sZ9, sC9]
    refine wpAnyH_take (i := 3) (v := .bool true) rfl (by kernel_rfl) (by kernel_rfl) (by kernel_rfl) (fun _ _ _ h => h) (Or.inl ⟨by rfl, fun w' hS => by go_simp⟩) hHeld ?_
    simp only [Act.put, gA9, gZ9, gC9, sA9, sZ9, sC9]
    refine wpAnyH_take (i := 4) (v := .pointer (some ⟨ks, 0, none⟩)) rfl (by kernel_rfl) (by kernel_rfl) (by kernel_rfl) (fun _ _ _ h => h) (Or.inl ⟨by rfl, fun w' hS => by go_simp⟩) hHeld ?_
    simp only [Act.put, gA9, gZ9, gC9, sA9, sZ9, sC9]
    refine wpAnyH_take (i := 5) (v := .int .i64 s1) rfl (by kernel_rfl) (by kernel_rfl) (by kernel_rfl) (fun _ _ _ h => h) (Or.inl ⟨by rfl, fun w' hS => by (obtain ⟨t6, t0, t1⟩ := hS; go_simp)⟩) hHeld ?_
    simp only [Act.put, gA9, gZ9, gC9, sA9, sZ9, sC9]
    refine wpAnyH_take (i := 6) (v := .pointer (some ⟨kf, 6, none⟩)) rfl (by kernel_rfl) (by kernel_rfl) (by kernel_rfl) (fun _ _ _ h => h) (Or.inl ⟨by rfl, fun w' hS => by go_simp⟩) hHeld ?_
    simp only [Act.put, gA9, gZ9, gC9, sA9, sZ9, sC9]
    refine wpAnyH_take (i := 7) (v := .slice f.ha L f.hc) rfl (by kernel_rfl) (by kernel_rfl) (by kernel_rfl) (fun _ _ _ h => h) (Or.inl ⟨by rfl, fun w' hS => by (obtain ⟨t6, t0, t1⟩ := hS; go_simp)⟩) hHeld ?_
    simp only [Act.put, gA9, gZ9, gC9, sA9, sZ9, sC9]
    refine wpAnyH_take (i := 8) (v := .int .i64 (L : Int)) rfl (by kernel_rfl) (by kernel_rfl) (by kernel_rfl) (fun _ _ _ h => h) (Or.inl ⟨by rfl, fun w' hS => by go_simp⟩) hHeld ?_
    simp only [Act.put, gA9, gZ9, gC9, sA9, sZ9, sC9]
    refine wpAnyH_take (i := 9) (v := .bool false) rfl (by kernel_rfl) (by kernel_rfl) (by kernel_rfl) (fun _ _ _ h => h) (Or.inl ⟨by rfl, fun w' hS => by first | (go_simp; done) | (go_simp; omega)⟩) hHeld ?_
    simp only [Act.put, gA9, gZ9, gC9, sA9, sZ9, sC9]
    refine wpAnyH_take (i := 10) (v := .bool false) rfl (by kernel_rfl) (by kernel_rfl) (by kernel_rfl) (fun _ _ _ h => h) (Or.inl ⟨by rfl, fun w' hS => by go_simp⟩) hHeld ?_
    simp only [Act.put, gA9, gZ9, gC9, sA9, sZ9, sC9]
    refine wpAnyH_take (i := 11) (v := .bool false) rfl (by kernel_rfl) (by kernel_rfl) (by kernel_rfl) (fun _ _ _ h => h) (Or.inl ⟨by rfl, fun w' hS => by go_simp⟩) hHeld ?_
    simp only [Act.put, gA9, gZ9, gC9, sA9, sZ9, sC9]
    refine wpAnyH_take (i := 12) (v := undef) rfl (by kernel_rfl) (by kernel_rfl) (by kernel_rfl) (fun _ _ _ h => h) (Or.inr ⟨by rfl, rfl⟩) hHeld ?_
    simp only [Act.put, gA9, gZ9, gC9, sA9, sZ9, sC9]
    refine wpAnyH_take (i := 13) (v := undef) rfl (by kernel_rfl) (by kernel_rfl) (by kernel_rfl) (fun _ _ _ h => h) (Or.inr ⟨by rfl, rfl⟩) hHeld ?_
    simp only [Act.put, gA9, gZ9, gC9, sA9, sZ9, sC9]
    refine wpAnyH_take (i := 14) (v := undef) rfl (by kernel_rfl) (by kernel_rfl) (by kernel_rfl) (fun _ _ _ h => h) (Or.inr ⟨by rfl, rfl⟩) hHeld ?_
    simp only [Act.put, gA9, gZ9, gC9, sA9, sZ9, sC9]
    refine wpAnyH_take (i := 15) (v := undef) rfl (by kernel_rfl) (by kernel_rfl) (by kernel_rfl) (fun _ _ _ h => h) (Or.inr ⟨by rfl, rfl⟩) hHeld ?_
    simp only [Act.put, gA9, gZ9, gC9, sA9, sZ9, sC9]
    refine wpAnyH_take (i := 16) (v := undef) rfl (by kernel_rfl) (by kernel_rfl) (by kernel_rfl) (fun _ _ _ h => h) (Or.inr ⟨by rfl, rfl⟩) hHeld ?_
    simp only [Act.put, gA9, gZ9, gC9, sA9, sZ9, sC9]
    refine wpAnyH_take (i := 17) (v := undef) rfl (by kernel_rfl) (by kernel_rfl) (by kernel_rfl) (fun _ _ _ h => h) (Or.inr ⟨by rfl, rfl⟩) hHeld ?_
    simp only [Act.put, gA9, gZ9, gC9, sA9, sZ9, sC9]
    refine wpAnyH_take (i := 18) (v := undef) rfl (by kernel_rfl) (by kernel_rfl) (by kernel_rfl) (fun _ _ _ h => h) (Or.inr ⟨by rfl, rfl⟩) hHeld ?_
    simp only [Act.put, gA9, gZ9, gC9, sA9, sZ9, sC9]
    refine wpAnyH_take (i := 19) (v := undef) rfl (by kernel_rfl) (by kernel_rfl) (by kernel_rfl) (fun _ _ _ h => h) (Or.inr ⟨by rfl, rfl⟩) hHeld ?_
    simp only [Act.put, gA9, gZ9, gC9, sA9, sZ9, sC9]
    refine wpAnyH_take (i := 20) (v := undef) rfl (by kernel_rfl) (by kernel_rfl) (by kernel_rfl) (fun _ _ _ h => h) (Or.inr ⟨by rfl, rfl⟩) hHeld ?_
    simp only [Act.put, gA9, gZ9, gC9, sA9, sZ9, sC9]
    refine wpAnyH_take (i := 21) (v := .bool false) rfl (by kernel_rfl) (by kernel_rfl) (by kernel_rfl) (fun _ _ _ h => h) (Or.inl ⟨by rfl, fun w' hS => by go_simp⟩) hHeld ?_
    simp only [Act.put, gA9, gZ9, gC9, sA9, sZ9, sC9]
    refine wpAnyH_take (i := 22) (v := .bool false) rfl (by kernel_rfl) (by kernel_rfl) (by kernel_rfl) (fun _ _ _ h => h) (Or.inl ⟨by rfl, fun w' hS => by go_simp⟩) hHeld ?_
    simp only [Act.put, gA9, gZ9, gC9, sA9, sZ9, sC9]
    refine wpAnyH_done (by kernel_rfl) ?_ _
    clear hHeld
    go_wp2
    go_ret
    exact ⟨congrArg (fun b => Ending.returned (.bool b)) Hr.out.symm, by rw [Hkf.out]; exact HB.out.drew⟩
  obtain ⟨k, rfl⟩ : ∃ k : Nat, s1 = (k : Int) := ⟨s1.toNat, by omega⟩
  have Hr0 := Hnear.out k (by omega) rfl
  obtain ⟨hb, ho, he, hc⟩ := HF.out.at (i := k) (by rw [HL.out]; omega)
  rw [he] at q6
  generalize f.c.hv.getD k 0 = y at *
  have Hr : Hid (r = decide (s2 ≤ y)) := Hr0
  clear Hr0 Hneg Hfar Hnear HF he
  refine wp_region_held_drew (S := (fun w' => w'.cell? ⟨kf, 6, none⟩ = some (.slice (some ⟨hb, ho, none⟩) L f.hc) ∧ w'.cell? ⟨ks, 0, none⟩ = some (.int .i64 (k : Int)) ∧ w'.cell? ⟨ks, 1, none⟩ = some (.int .i64 s2) ∧ w'.cell? ⟨hb, ho + k, none⟩ = some (.int .i64 y))) (by kernel_rfl) ⟨below_at (Below.refl _ _).drew q6, below_at (Below.refl _ _).drew q0, below_at (Below.refl _ _).drew q1, below_at (Below.refl _ _).drew hc⟩ (fun hHeld => ?_)
  simp only [Act.put, List.size_toArray, List.length_cons, List.length_nil, Nat.zero_add]
  refine wpAnyH_take (i := 0) (v := .pointer (some ⟨ks, 0, none⟩)) rfl (by kernel_rfl) (by kernel_rfl) (by kernel_rfl) (fun _ _ _ h => h) (Or.inl ⟨by rfl, fun w' hS => by go_simp⟩) hHeld ?_
  simp only [Act.put, gA9, gZ9, gC9, sA9, sZ9, sC9]
  refine wpAnyH_take (i := 1) (v := .int .i64 (k : Int)) rfl (by kernel_rfl) (by kernel_rfl) (by kernel_rfl) (fun _ _ _ h => h) (Or.inl ⟨by rfl, fun w' hS => by (obtain ⟨t6, t0, t1, tc⟩ := hS; go_simp)⟩) hHeld ?_
  simp only [Act.put, gA9, gZ9, gC9, sA9, sZ9, sC9]
  refine wpAnyH_take (i := 2) (v := .bool true) rfl (by kernel_rfl) (by kernel_rfl) (by kernel_rfl) (fun _ _ _ h => h) (Or.inl ⟨by rfl, fun w' hS => by first | (go_simp; done) | (go_simp; omega)⟩) hHeld ?_
  simp only [Act.put, gA9, gZ9, gC9, sA9, sZ9, sC9]
  refine wpAnyH_take (i := 3) (v := .bool true) rfl (by kernel_rfl) (by kernel_rfl) (by kernel_rfl) (fun _ _ _ h => h) (Or.inl ⟨by rfl, fun w' hS => by go_simp⟩) hHeld ?_
  simp only [Act.put, gA9, gZ9, gC9, sA9, sZ9, sC9]
  refine wpAnyH_take (i := 4) (v := .pointer (some ⟨ks, 0, none⟩)) rfl (by kernel_rfl) (by kernel_rfl) (by kernel_rfl) (fun _ _ _ h => h) (Or.inl ⟨by rfl, fun w' hS => by go_simp⟩) hHeld ?_
  simp only [Act.put, gA9, gZ9, gC9, sA9, sZ9, sC9]
  refine wpAnyH_take (i := 5) (v := .int .i64 (k : Int)) rfl (by kernel_rfl) (by kernel_rfl) (by kernel_rfl) (fun _ _ _ h => h) (Or.inl ⟨by rfl, fun w' hS => by (obtain ⟨t6, t0, t1, tc⟩ := hS; go_simp)⟩) hHeld ?_
  simp only [Act.put, gA9, gZ9, gC9, sA9, sZ9, sC9]
  refine wpAnyH_take (i := 6) (v := .pointer (some ⟨kf, 6, none⟩)) rfl (by kernel_rfl) (by kernel_rfl) (by kernel_rfl) (fun _ _ _ h => h) (Or.inl ⟨by rfl, fun w' hS => by go_simp⟩) hHeld ?_
  simp only [Act.put, gA9, gZ9, gC9, sA9, sZ9, sC9]
  refine wpAnyH_take (i := 7) (v := .slice (some ⟨hb, ho, none⟩) L f.hc) rfl (by kernel_rfl) (by kernel_rfl) (by kernel_rfl) (fun _ _ _ h => h) (Or.inl ⟨by rfl, fun w' hS => by (obtain ⟨t6, t0, t1, tc⟩ := hS; go_simp)⟩) hHeld ?_
  simp only [Act.put, gA9, gZ9, gC9, sA9, sZ9, sC9]
  refine wpAnyH_take (i := 8) (v := .int .i64 (L : Int)) rfl (by kernel_rfl) (by kernel_rfl) (by kernel_rfl) (fun _ _ _ h => h) (Or.inl ⟨by rfl, fun w' hS => by go_simp⟩) hHeld ?_
  simp only [Act.put, gA9, gZ9, gC9, sA9, sZ9, sC9]
  refine wpAnyH_take (i := 9) (v := .bool true) rfl (by kernel_rfl) (by kernel_rfl) (by kernel_rfl) (fun _ _ _ h => h) (Or.inl ⟨by rfl, fun w' hS => by first | (go_simp; done) | (go_simp; omega)⟩) hHeld ?_
  simp only [Act.put, gA9, gZ9, gC9, sA9, sZ9, sC9]
  refine wpAnyH_take (i := 10) (v := .bool true) rfl (by kernel_rfl) (by kernel_rfl) (by kernel_rfl) (fun _ _ _ h => h) (Or.inl ⟨by rfl, fun w' hS => by go_simp⟩) hHeld ?_
  simp only [Act.put, gA9, gZ9, gC9, sA9, sZ9, sC9]
  refine wpAnyH_take (i := 11) (v := .bool true) rfl (by kernel_rfl) (by kernel_rfl) (by kernel_rfl) (fun _ _ _ h => h) (Or.inl ⟨by rfl, fun w' hS => by go_simp⟩) hHeld ?_
  simp only [Act.put, gA9, gZ9, gC9, sA9, sZ9, sC9]
  refine wpAnyH_take (i := 12) (v := .pointer (some ⟨ks, 1, none⟩)) rfl (by kernel_rfl) (by kernel_rfl) (by kernel_rfl) (fun _ _ _ h => h) (Or.inl ⟨by rfl, fun w' hS => by go_simp⟩) hHeld ?_
  simp only [Act.put, gA9, gZ9, gC9, sA9, sZ9, sC9]
  refine wpAnyH_take (i := 13) (v := .int .i64 s2) rfl (by kernel_rfl) (by kernel_rfl) (by kernel_rfl) (fun _ _ _ h => h) (Or.inl ⟨by rfl, fun w' hS => by (obtain ⟨t6, t0, t1, tc⟩ := hS; go_simp)⟩) hHeld ?_
  simp only [Act.put, gA9, gZ9, gC9, sA9, sZ9, sC9]
  refine wpAnyH_take (i := 14) (v := .pointer (some ⟨kf, 6, none⟩)) rfl (by kernel_rfl) (by kernel_rfl) (by kernel_rfl) (fun _ _ _ h => h) (Or.inl ⟨by rfl, fun w' hS => by go_simp⟩) hHeld ?_
  simp only [Act.put, gA9, gZ9, gC9, sA9, sZ9, sC9]
  refine wpAnyH_take (i := 15) (v := .slice (some ⟨hb, ho, none⟩) L f.hc) rfl (by kernel_rfl) (by kernel_rfl) (by kernel_rfl) (fun _ _ _ h => h) (Or.inl ⟨by rfl, fun w' hS => by (obtain ⟨t6, t0, t1, tc⟩ := hS; go_simp)⟩) hHeld ?_
  simp only [Act.put, gA9, gZ9, gC9, sA9, sZ9, sC9]
  refine wpAnyH_take (i := 16) (v := .pointer (some ⟨ks, 0, none⟩)) rfl (by kernel_rfl) (by kernel_rfl) (by kernel_rfl) (fun _ _ _ h => h) (Or.inl ⟨by rfl, fun w' hS => by go_simp⟩) hHeld ?_
  simp only [Act.put, gA9, gZ9, gC9, sA9, sZ9, sC9]
  refine wpAnyH_take (i := 17) (v := .int .i64 (k : Int)) rfl (by kernel_rfl) (by kernel_rfl) (by kernel_rfl) (fun _ _ _ h => h) (Or.inl ⟨by rfl, fun w' hS => by (obtain ⟨t6, t0, t1, tc⟩ := hS; go_simp)⟩) hHeld ?_
  simp only [Act.put, gA9, gZ9, gC9, sA9, sZ9, sC9]
  refine wpAnyH_take (i := 18) (v := .pointer (some ⟨hb, ho + k, none⟩)) rfl (by kernel_rfl) (by kernel_rfl) (by kernel_rfl) (fun _ _ _ h => h) (Or.inl ⟨by rfl, fun w' hS => by go_simp⟩) hHeld ?_
  simp only [Act.put, gA9, gZ9, gC9, sA9, sZ9, sC9]
  refine wpAnyH_take (i := 19) (v := .int .i64 y) rfl (by kernel_rfl) (by kernel_rfl) (by kernel_rfl) (fun _ _ _ h => h) (Or.inl ⟨by rfl, fun w' hS => by (obtain ⟨t6, t0, t1, tc⟩ := hS; go_simp)⟩) hHeld ?_
  simp only [Act.put, gA9, gZ9, gC9, sA9, sZ9, sC9]
  refine wpAnyH_take (i := 20) (v := .bool (decide (s2 ≤ y))) rfl (by kernel_rfl) (by kernel_rfl) (by kernel_rfl) (fun _ _ _ h => h) (Or.inl ⟨by rfl, fun w' hS => by go_simp⟩) hHeld ?_
  simp only [Act.put, gA9, gZ9, gC9, sA9, sZ9, sC9]
  refine wpAnyH_take (i := 21) (v := .bool (decide (s2 ≤ y))) rfl (by kernel_rfl) (by kernel_rfl) (by kernel_rfl) (fun _ _ _ h => h) (Or.inl ⟨by rfl, fun w' hS => by go_simp⟩) hHeld ?_
  simp only [Act.put, gA9, gZ9, gC9, sA9, sZ9, sC9]
  refine wpAnyH_take (i := 22) (v := .bool (decide (s2 ≤ y))) rfl (by kernel_rfl) (by kernel_rfl) (by kernel_rfl) (fun _ _ _ h => h) (Or.inl ⟨by rfl, fun w' hS => by go_simp⟩) hHeld ?_
  simp only [Act.put, gA9, gZ9, gC9, sA9, sZ9, sC9]
  refine wpAnyH_done (by kernel_rfl) ?_ _
  clear hHeld
  go_wp2
  go_ret
  exact ⟨congrArg (fun b => Ending.returned (.bool b)) Hr.out.symm, by rw [Hkf.out]; exact HB.out.drew⟩
theorem atK_not {fs : List Co} {pos : Int} {k i : Nat} (h : knows (fs.getD i c0) pos = false) : atK fs pos (k + 1) i = atK fs pos k (i + 1) := by
  show (if knows (fs.getD i c0) pos then _ else _) = _
  rw [h]
  rfl
theorem atK_yes {fs : List Co} {pos : Int} {k i : Nat} (h : knows (fs.getD i c0) pos = true) : atK fs pos (k + 1) i = some ((fs.getD i c0).sl.getD (pos - (fs.getD i c0).base - 1).toNat z2) := by
  show (if knows (fs.getD i c0) pos then _ else _) = _
  rw [h]
  rfl
theorem res_slot {fn : Func} {p : Tmp} (h : fn.results = #[.cell p 70]) (tmps : Array Value) (w : World) (g : Nat) (L : List Value) (hL : L.length = 2)
    (hp : tmps.getD p undef = .pointer (some ⟨g, 0, none⟩)) (hg : w.rangeAt g 0 L) :
    (results fn tmps).run Try.prog w = .ok (.agg L.toArray) w := by
  have e : (results fn tmps).run Try.prog w = ((asAddr (tmps.getD p undef)).run Try.prog w).andThen fun a w₁ => (loadVar 70 a).run Try.prog w₁ := by
    simp only [results, h]
    simp [Sem.run_bind, Result.andThen]
  rw [e, hp]
  simp [asAddr, run_loadVar_mid w g 0 70 L _ hg Try.underlying70 rfl (by rw [hL]; exact info_slot)]
set_option maxHeartbeats 4000000 in
theorem qAt_any {ao : Option Addr} {cp : Nat} {fs : List Fl} (hr : RdFs w ao fs) (hn : fs.length ≤ 1000000000000000000) (hb : ∀ i, i < fs.length → 0 ≤ (fs.getD i fl0).c.base ∧ (fs.getD i fl0).c.base ≤ 4611686018427387904) (pos : Int) (hp0 : 0 ≤ pos) (hp1 : pos ≤ 4611686018427389904) : Calls Try.prog 36 #[.slice ao fs.length cp, .int .i64 pos] w fun e w' => e = .returned (.agg (slotV ((atP (cos fs) pos).getD z2)).toArray) ∧ Below w.heap.size w w' := by
  have HR : Hid (RdFs w ao fs) := hr
  have HS : Hid (∀ i, i < fs.length → 0 ≤ (fs.getD i fl0).c.base ∧ (fs.getD i fl0).c.base ≤ 4611686018427387904) := hb
  have Hat : Hid (atP (cos fs) pos = atK (cos fs) pos fs.length 0) := (show _ = _ from by unfold atP; rw [cos_len])
  generalize hL : fs.length = L at *
  have HLe : Hid (fs.length = L) := hL
  clear hr hL hb
  generalize hW0 : w.alloc (.cells #[.int .i64 0, .int .i64 0] 70) = W0
  have b0 : Below w.heap.size w W0 := hW0 ▸ balloc (Below.refl _ _)
  have k0 : W0.heap[w.heap.size]? = some (.cells (slotV z2).toArray 70 (0, 0)) := by rw [← hW0]; exact heap_alloc_new w _
  have HB : Hid (Below w.heap.size w W0) := b0
  have HK : Hid (W0.heap[w.heap.size]? = some (.cells (slotV z2).toArray 70 (0, 0))) := k0
  clear b0 k0
  go_enter Try.func36, Try.ntmps36
  go_wp2
  clear hW0
  generalize hkb : w.heap.size = kb at *
  have Hkb : Hid (w.heap.size = kb) := hkb
  clear hkb
  go_loopw [5] (fun i wr => ∃ c : Nat, c ≤ L ∧ i = .int .i64 c ∧ atK (cos fs) pos L 0 = atK (cos fs) pos (L - c) c ∧ wr = W0) (fun i _ => L - (intOf i).toNat)
  case atStart => exact ⟨0, Nat.zero_le _, rfl, rfl, rfl⟩
  case round =>
    obtain ⟨c, hc, rfl, hat, rfl⟩ := hrel
    have HA : Hid (atP (cos fs) pos = atK (cos fs) pos (L - c) c) := Hat.out.trans hat
    have HA2 : Hid (atK (cos fs) pos L 0 = atK (cos fs) pos (L - c) c) := hat
    clear hat
    by_cases hlt : c < L
    · have hrw := HR.out.still (show Below w.heap.size w wr from by rw [Hkb.out]; exact HB.out)
      obtain ⟨b, off, hao, q4, q5, _⟩ := fl_cell hrw (i := c) (by rw [HLe.out]; exact hlt)
      have Hcb := HS.out c hlt
      have Hrd : Hid ((fs.getD c fl0).Rd wr) := hrw.el c (by rw [HLe.out]; exact hlt)
      have hsn := Hrd.out.sn
      have HcA : Hid ((cos fs).getD c c0 = (fs.getD c fl0).c) := cos_at fs c
      have Hn : Hid (knows (fs.getD c fl0).c pos = false → atK (cos fs) pos (L - c) c = atK (cos fs) pos (L - (c + 1)) (c + 1)) := fun h => by
        have := atK_not (fs := cos fs) (pos := pos) (k := L - (c + 1)) (i := c) (by rw [HcA.out]; exact h)
        rw [show L - (c + 1) + 1 = L - c by omega] at this
        exact this
      have Hy : Hid (knows (fs.getD c fl0).c pos = true → atK (cos fs) pos (L - c) c = some ((fs.getD c fl0).c.sl.getD (pos - (fs.getD c fl0).c.base - 1).toNat z2)) := fun h => by
        have := atK_yes (fs := cos fs) (pos := pos) (k := L - (c + 1)) (i := c) (by rw [HcA.out]; exact h)
        rw [show L - (c + 1) + 1 = L - c by omega, HcA.out] at this
        exact this
      clear hrw
      have i1 : (0 : Int) ≤ (c : Int) := Int.natCast_nonneg _
      have i2 : (c : Int) < (L : Int) := by omega
      rw [hao]
      generalize fs.getD c fl0 = f at *
      have Hkn : Hid (knows f.c pos = (decide (0 ≤ pos - f.c.base - 1) && decide (pos - f.c.base - 1 < f.c.sl.length))) := rfl
      generalize hbs : f.c.base = bs at *
      generalize hsn2 : f.c.sl.length = sn at *
      have Hsn : Hid (f.c.sl.length = sn) := hsn2
      clear hbs hsn2
      go_wp2_with (first | (refine wl_at 16 rfl ?_) | fail)
      refine wl_take (v := ?_) (by kernel_rfl) (by go_simp; exact rfl) ?_
      simp only [Act.put, gA9, gZ9, gC9, sA9, sZ9, sC9]
      refine wl_take (v := ?_) (by kernel_rfl) (by go_simp; exact rfl) ?_
      simp only [Act.put, gA9, gZ9, gC9, sA9, sZ9, sC9]
      refine wl_take (v := ?_) (by kernel_rfl) (by go_simp; exact rfl) ?_
      simp only [Act.put, gA9, gZ9, gC9, sA9, sZ9, sC9]
      refine wl_take (v := .int .i64 (pos - bs)) (by kernel_rfl) (by go_simp; exact wrap_id (by omega) (by omega)) ?_
      simp only [Act.put, gA9, gZ9, gC9, sA9, sZ9, sC9]
      refine wl_take (v := .int .i64 (pos - bs - 1)) (by kernel_rfl) (by go_simp; exact wrap_id (by omega) (by omega)) ?_
      simp only [Act.put, gA9, gZ9, gC9, sA9, sZ9, sC9]
      refine wl_take (v := ?_) (by kernel_rfl) (by go_simp; exact rfl) ?_
      simp only [Act.put, gA9, gZ9, gC9, sA9, sZ9, sC9]
      refine ⟨?_⟩
      generalize hkk : pos - bs - 1 = kk at *
      have Hkk : Hid (pos - bs - 1 = kk) := hkk
      clear hkk
      by_cases h1 : 0 ≤ kk
      case neg =>
        have Hn2 : Hid (atK (cos fs) pos (L - c) c = atK (cos fs) pos (L - (c + 1)) (c + 1)) := Hn.out (by rw [Hkn.out, decide_eq_false h1]; rfl)
        go_wp2_with (first | (refine wl_at 22 rfl ?_) | fail)
        refine wl_take (v := .bool false) (by kernel_rfl) (by first | (go_simp; done) | (go_simp; omega)) ?_
        simp only [Act.put, gA9, gZ9, gC9, sA9, sZ9, sC9]
        refine wl_take (v := ?_) (by kernel_rfl) (by go_simp; exact rfl) ?_
        simp only [Act.put, gA9, gZ9, gC9, sA9, sZ9, sC9]
        refine wl_skip (by kernel_rfl) ?_
        simp only [Act.put, gA9, gZ9, gC9, sA9, sZ9, sC9]
        refine wl_skip (by kernel_rfl) ?_
        simp only [Act.put, gA9, gZ9, gC9, sA9, sZ9, sC9]
        refine wl_skip (by kernel_rfl) ?_
        simp only [Act.put, gA9, gZ9, gC9, sA9, sZ9, sC9]
        refine wl_skip (by kernel_rfl) ?_
        simp only [Act.put, gA9, gZ9, gC9, sA9, sZ9, sC9]
        refine wl_skip (by kernel_rfl) ?_
        simp only [Act.put, gA9, gZ9, gC9, sA9, sZ9, sC9]
        refine wl_skip (by kernel_rfl) ?_
        simp only [Act.put, gA9, gZ9, gC9, sA9, sZ9, sC9]
        refine wl_skip (by kernel_rfl) ?_
        simp only [Act.put, gA9, gZ9, gC9, sA9, sZ9, sC9]
        refine wl_skip (by kernel_rfl) ?_
        simp only [Act.put, gA9, gZ9, gC9, sA9, sZ9, sC9]
        refine wl_take (v := ?_) (by kernel_rfl) (by go_simp; exact rfl) ?_
        simp only [Act.put, gA9, gZ9, gC9, sA9, sZ9, sC9]
        refine ⟨?_⟩
        go_wp2
        exact ⟨⟨c + 1, by omega, by go_num, by rw [HA2.out]; exact Hn2.out, by first | rfl | trivial⟩, by simp [intOf]; omega⟩
      by_cases h2 : kk < (sn : Int)
      case neg =>
        have Hn2 : Hid (atK (cos fs) pos (L - c) c = atK (cos fs) pos (L - (c + 1)) (c + 1)) := Hn.out (by rw [Hkn.out, decide_eq_false h2]; simp)
        go_wp2_with (first | (refine wl_at 22 rfl ?_) | fail)
        refine wl_take (v := .bool true) (by kernel_rfl) (by first | (go_simp; done) | (go_simp; omega)) ?_
        simp only [Act.put, gA9, gZ9, gC9, sA9, sZ9, sC9]
        refine wl_take (v := ?_) (by kernel_rfl) (by go_simp; exact rfl) ?_
        simp only [Act.put, gA9, gZ9, gC9, sA9, sZ9, sC9]
        refine wl_take (v := ?_) (by kernel_rfl) (by go_simp; exact rfl) ?_
        simp only [Act.put, gA9, gZ9, gC9, sA9, sZ9, sC9]
        refine wl_take (v := ?_) (by kernel_rfl) (by go_simp; exact rfl) ?_
        simp only [Act.put, gA9, gZ9, gC9, sA9, sZ9, sC9]
        refine wl_take (v := ?_) (by kernel_rfl) (by go_simp; exact rfl) ?_
        simp only [Act.put, gA9, gZ9, gC9, sA9, sZ9, sC9]
        refine wl_take (v := ?_) (by kernel_rfl) (by go_simp; exact rfl) ?_
        simp only [Act.put, gA9, gZ9, gC9, sA9, sZ9, sC9]
        refine wl_take (v := ?_) (by kernel_rfl) (by go_simp; exact rfl) ?_
        simp only [Act.put, gA9, gZ9, gC9, sA9, sZ9, sC9]
        refine wl_take (v := ?_) (by kernel_rfl) (by go_simp; exact rfl) ?_
        simp only [Act.put, gA9, gZ9, gC9, sA9, sZ9, sC9]
        refine wl_take (v := ?_) (by kernel_rfl) (by go_simp; exact rfl) ?_
        simp only [Act.put, gA9, gZ9, gC9, sA9, sZ9, sC9]
        refine wl_take (v := .bool false) (by kernel_rfl) (by first | (go_simp; done) | (go_simp; omega)) ?_
        simp only [Act.put, gA9, gZ9, gC9, sA9, sZ9, sC9]
        refine wl_take (v := ?_) (by kernel_rfl) (by go_simp; exact rfl) ?_
        simp only [Act.put, gA9, gZ9, gC9, sA9, sZ9, sC9]
        refine ⟨?_⟩
        go_wp2
        exact ⟨⟨c + 1, by omega, by go_num, by rw [HA2.out]; exact Hn2.out, by first | rfl | trivial⟩, by simp [intOf]; omega⟩
      obtain ⟨m, rfl⟩ : ∃ m : Nat, kk = (m : Int) := ⟨kk.toNat, by omega⟩
      have hres : atP (cos fs) pos = some (f.c.sl.getD m z2) := by rw [HA.out, Hy.out (by rw [Hkn.out, decide_eq_true h1, decide_eq_true h2]; rfl)]; simp
      obtain ⟨b2, o2, hsa, hc2, _, _⟩ := Hrd.out.s.at (i := m) (by rw [Hsn.out]; omega)
      have HD : Hid (wr.rangeAt b2 (o2 + m * 2) (slotV (f.c.sl.getD m z2))) := hc2
      have Hres : Hid ((atP (cos fs) pos).getD z2 = f.c.sl.getD m z2) := (show _ = _ from by rw [hres]; rfl)
      rw [hsa] at q5
      clear hc2 hres
      generalize f.c.sl.getD m z2 = s at *
      go_wp2_with (first | (refine wl_at 22 rfl ?_) | fail)
      refine wl_take (v := .bool true) (by kernel_rfl) (by first | (go_simp; done) | (go_simp; omega)) ?_
      simp only [Act.put, gA9, gZ9, gC9, sA9, sZ9, sC9]
      refine wl_take (v := ?_) (by kernel_rfl) (by go_simp; exact rfl) ?_
      simp only [Act.put, gA9, gZ9, gC9, sA9, sZ9, sC9]
      refine wl_take (v := ?_) (by kernel_rfl) (by go_simp; exact rfl) ?_
      simp only [Act.put, gA9, gZ9, gC9, sA9, sZ9, sC9]
      refine wl_take (v := ?_) (by kernel_rfl) (by go_simp; exact rfl) ?_
      simp only [Act.put, gA9, gZ9, gC9, sA9, sZ9, sC9]
      refine wl_take (v := ?_) (by kernel_rfl) (by go_simp; exact rfl) ?_
      simp only [Act.put, gA9, gZ9, gC9, sA9, sZ9, sC9]
      refine wl_take (v := ?_) (by kernel_rfl) (by go_simp; exact rfl) ?_
      simp only [Act.put, gA9, gZ9, gC9, sA9, sZ9, sC9]
      refine wl_take (v := ?_) (by kernel_rfl) (by go_simp; exact rfl) ?_
      simp only [Act.put, gA9, gZ9, gC9, sA9, sZ9, sC9]
      refine wl_take (v := ?_) (by kernel_rfl) (by go_simp; exact rfl) ?_
      simp only [Act.put, gA9, gZ9, gC9, sA9, sZ9, sC9]
      refine wl_take (v := ?_) (by kernel_rfl) (by go_simp; exact rfl) ?_
      simp only [Act.put, gA9, gZ9, gC9, sA9, sZ9, sC9]
      refine wl_take (v := .bool true) (by kernel_rfl) (by first | (go_simp; done) | (go_simp; omega)) ?_
      simp only [Act.put, gA9, gZ9, gC9, sA9, sZ9, sC9]
      refine wl_take (v := ?_) (by kernel_rfl) (by go_simp; exact rfl) ?_
      simp only [Act.put, gA9, gZ9, gC9, sA9, sZ9, sC9]
      refine ⟨?_⟩
      go_wp2_with (first
        | (refine load_mid 70 (.tmp 39) HD.out _ Try.underlying70 rfl info_slot rfl rfl rfl ?_)
        | (refine wl_st 70 (.tmp 4) (.tmp 40) rfl ?_)
        | fail)
      refine wl_store 70 (.tmp 4) (.tmp 40) (L := slotV s) (blk_there HK.out rfl) info_slot (slotV_one _) rfl rfl rfl (by kernel_rfl) ?_
      simp only [Act.put, gA9, gZ9, gC9, sA9, sZ9, sC9]
      refine ⟨?_⟩
      have hs1 : (wr.setCells kb 0 (slotV s)).heap[kb]? = some (.cells (slotV s).toArray 70 (0, 0)) := sets_whole HK.out rfl
      have hs2 : Below kb w (wr.setCells kb 0 (slotV s)) := (show Below kb w _ from by rw [← Hkb.out]; exact bsets (by rw [Hkb.out]; exact Nat.le_refl _) _ _ (by rw [Hkb.out]; exact HB.out))
      generalize wr.setCells kb 0 (slotV s) = V3 at *
      go_wp2
      (try simp only [Exit.inBlock, Exit.then]); refine bodyPost_ret (res_slot rfl _ _ kb (slotV s) rfl rfl (blk_range hs1)) rfl ?_
      exact ⟨by rw [Hres.out], by rw [Hkb.out]; exact hs2⟩
    · obtain rfl : L = c := by omega
      have Hres : Hid ((atP (cos fs) pos).getD z2 = z2) := (show _ = _ from by rw [HA.out, Nat.sub_self]; rfl)
      go_wp2_with (first | (refine wl_st 70 (.tmp 4) (.tmp 41) rfl ?_) | fail)
      refine wl_store 70 (.tmp 4) (.tmp 41) (L := slotV z2) (blk_there HK.out rfl) info_slot (slotV_one _) rfl rfl rfl (by kernel_rfl) ?_
      simp only [Act.put, gA9, gZ9, gC9, sA9, sZ9, sC9]
      refine ⟨?_⟩
      have hs1 : (wr.setCells kb 0 (slotV z2)).heap[kb]? = some (.cells (slotV z2).toArray 70 (0, 0)) := sets_whole HK.out rfl
      have hs2 : Below kb w (wr.setCells kb 0 (slotV z2)) := (show Below kb w _ from by rw [← Hkb.out]; exact bsets (by rw [Hkb.out]; exact Nat.le_refl _) _ _ (by rw [Hkb.out]; exact HB.out))
      generalize wr.setCells kb 0 (slotV z2) = V3 at *
      go_wp2
      (try simp only [Exit.inBlock, Exit.then]); refine bodyPost_ret (res_slot rfl _ _ kb (slotV z2) rfl rfl (blk_range hs1)) rfl ?_
      exact ⟨by rw [Hres.out], by rw [Hkb.out]; exact hs2⟩
end
end Go.Proofs.Ytihcaopcfhbofaa.Fm
