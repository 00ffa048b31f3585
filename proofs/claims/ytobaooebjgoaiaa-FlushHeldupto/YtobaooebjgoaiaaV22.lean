import Derived.Test.YtobaooebjgoaiaaV21
import Derived.Test.YtobaooebjgoaiaaV15
import Derived.Test.YtobaooebjgoaiaaV13
namespace Go.Proofs.Ytobaooebjgoaiaa.Fm
open Go.RowKit Go.Maps Mb
set_option linter.unusedVariables false
set_option maxRecDepth 100000
set_option linter.unusedSimpArgs false
section
variable {w w' W : World} {B : Nat}
theorem sound_parts (f : Co) : sound f = true ↔ wholeI f.id = true ∧ (1 ≤ f.hv.length ∧ f.hv.length ≤ 16 ∧ f.sl.length ≤ 128) ∧ (0 ≤ f.base ∧ f.base ≤ 4611686018427387904 - f.sl.length) ∧ havesB f.hv = true ∧ slotsB f.hv.length f.sl = true := by
 unfold sound lensB
 simp only [Bool.and_eq_true, inR, decide_eq_true_eq]
 constructor
 ·rintro ⟨⟨⟨h1, ⟨⟨⟨h2, h3⟩, h4, h5⟩, h6, h7⟩, h8⟩, h9⟩, h10⟩
  exact ⟨h1, ⟨by omega, by omega, by omega⟩, ⟨h6, by omega⟩, h9, h10⟩
 ·rintro ⟨h1, ⟨h2, h3, h4⟩, ⟨h5, h6⟩, h7, h8⟩
  exact ⟨⟨⟨h1, ⟨⟨⟨by omega, by omega⟩, by omega, by omega⟩, h5, by omega⟩, by omega⟩, h7⟩, h8⟩
theorem sound_not {f : Co} (h : ¬ (wholeI f.id = true ∧ (1 ≤ f.hv.length ∧ f.hv.length ≤ 16 ∧ f.sl.length ≤ 128) ∧ (0 ≤ f.base ∧ f.base ≤ 4611686018427387904 - f.sl.length) ∧ havesB f.hv = true ∧ slotsB f.hv.length f.sl = true)) : sound f = false := by
 cases hs : sound f with
 | false => rfl
 | true => exact absurd ((sound_parts f).1 hs) h
theorem haves_no {l : List Int} {j : Nat} (hj : j < l.length) (h : l.getD j 0 < 0 ∨ 4611686018427387904 < l.getD j 0) : havesB l = false := by
 unfold havesB
 rw [List.all_eq_false]
 refine ⟨j, List.mem_range.2 hj, ?_⟩
 show ¬ inR 0 4611686018427387904 (l.getD j 0) = true
 simp only [inR, Bool.and_eq_true, decide_eq_true_eq]
 omega
theorem haves_yes {l : List Int} (h : ∀ j, j < l.length → 0 ≤ l.getD j 0 ∧ l.getD j 0 ≤ 4611686018427387904) : havesB l = true := by
 unfold havesB
 rw [List.all_eq_true]
 intro j hj
 have := h j (List.mem_range.1 hj)
 show inR 0 4611686018427387904 (l.getD j 0) = true
 simp only [inR, Bool.and_eq_true, decide_eq_true_eq]
 exact this
set_option maxHeartbeats 16000000 in
theorem qSound_any {f : Fl} (hf : f.Rd w) : Calls Try.prog 67 #[.agg f.cs.toArray] w fun e w' => e = .returned (.bool (sound f.c)) ∧ Below w.heap.size w w' := by
 generalize hW1 : w.alloc (.cells f.cs.toArray 28) = W1
 have b1 : Below w.heap.size w W1 := hW1 ▸ balloc (Below.refl _ _)
 have k1 : W1.heap[w.heap.size]? = some (.cells f.cs.toArray 28 (0, 0)) := by rw [← hW1]; exact heap_alloc_new w _
 have HF : Hid (f.Rd w) := hf
 have HR : Hid (W1.rangeAt w.heap.size 0 f.c.id.cs) := id_range k1
 have HB : Hid (Below w.heap.size w W1) := b1
 have HC : Hid (W1.heap[w.heap.size]? = some (.cells f.cs.toArray 28 (0, 0))) := k1
 have Hw : Hid (∀ b, wholeI f.c.id = b → Calls Try.prog 80 #[.agg f.c.id.cs.toArray] W1 fun e w' => e = .returned (.bool b) ∧ Below W1.heap.size W1 w') := fun b hb => by rw [← hb]; exact qWhole_any _
 have Hid4 : Hid (f.c.id.cs.length = 4) := rfl
 have Hno : Hid (¬ (wholeI f.c.id = true ∧ (1 ≤ f.c.hv.length ∧ f.c.hv.length ≤ 16 ∧ f.c.sl.length ≤ 128) ∧ (0 ≤ f.c.base ∧ f.c.base ≤ 4611686018427387904 - f.c.sl.length) ∧ havesB f.c.hv = true ∧ slotsB f.c.hv.length f.c.sl = true) → sound f.c = false) := sound_not
 have Hyes : Hid ((wholeI f.c.id = true ∧ (1 ≤ f.c.hv.length ∧ f.c.hv.length ≤ 16 ∧ f.c.sl.length ≤ 128) ∧ (0 ≤ f.c.base ∧ f.c.base ≤ 4611686018427387904 - f.c.sl.length) ∧ havesB f.c.hv = true ∧ slotsB f.c.hv.length f.c.sl = true) → sound f.c = true) := (sound_parts f.c).2
 have Hrb : Hid (i64B f.c.base) := hf.b
 have Hrs : Hid (f.c.sl.length ≤ 1000000000000000000 ∧ f.c.hv.length ≤ 1000000000000000000) := ⟨hf.sn, hf.hn⟩
 have hq := Hrs.out
 have Hcells : Hid (∀ V : World, V.heap[w.heap.size]? = some (.cells f.cs.toArray 28 (0, 0)) → V.cell? ⟨w.heap.size, 4, none⟩ = some (.int .i64 f.c.base) ∧ V.cell? ⟨w.heap.size, 5, none⟩ = some (.slice f.sa f.c.sl.length f.sc) ∧ V.cell? ⟨w.heap.size, 6, none⟩ = some (.slice f.ha f.c.hv.length f.hc)) := fun V hV => ⟨blk_cell hV 4, blk_cell hV 5, blk_cell hV 6⟩
 clear b1 k1 hf
 go_enter Try.func67, Try.ntmps67
 go_wp2_with (first | (refine wl_at 7 rfl ?_) | fail)
 clear hW1
 generalize hkb : w.heap.size = kb at *
 generalize hsl : f.c.sl.length = sn at *
 generalize hhl : f.c.hv.length = hn at *
 have Hsn : Hid (f.c.sl.length = sn) := hsl
 have Hhn : Hid (f.c.hv.length = hn) := hhl
 have Hkb : Hid (w.heap.size = kb) := hkb
 generalize hbs : f.c.base = bs at *
 generalize hic : f.c.id.cs = ic at *
 generalize hG1 : wholeI f.c.id = g1 at *
 clear hsl hhl hkb hbs hic hG1
 generalize hpc : f.cs.toArray = pc at *
 clear hpc
 have Hge : Hid (kb ≤ W1.heap.size) := Nat.le_of_lt (lt_heap HC.out)
 cases g1 with
 | false =>
  refine wT9 ?_
  simp only [Act.put,gA9,gZ9,gC9,sA9,sZ9,sC9]
  refine wl_load 24 (.tmp 7) HR.out _ Try.underlying24 rfl (by rw [Hid4.out]; exact info_id) rfl rfl (by kernel_rfl) ?_
  simp only [Act.put,gA9,gZ9,gC9,sA9,sZ9,sC9]
  refine wl_step (by kernel_rfl) fun K hK => ?_
  go_simp
  refine (Hw.out _ rfl).mono ?_
  rintro e V ⟨rfl, hV⟩
  have HV : Hid (Below W1.heap.size W1 V) := hV
  have HCV : Hid (V.heap[kb]? = some (.cells pc 28 (0, 0))) := (hV.block _ (lt_heap HC.out)).trans HC.out
  clear hV
  obtain ⟨d4, d5, d6⟩ := Hcells.out V HCV.out
  refine hK _ _ ?_
  clear hK K
  try (simp only [Act.put,gA9,gZ9,gC9,sA9,sZ9,sC9])
  refine wT9 ?_
  simp only [Act.put,gA9,gZ9,gC9,sA9,sZ9,sC9]
  refine wT9 ?_
  simp only [Act.put,gA9,gZ9,gC9,sA9,sZ9,sC9]
  refine wS9' ?_
  simp only [Act.put,gA9,gZ9,gC9,sA9,sZ9,sC9]
  refine wS9' ?_
  simp only [Act.put,gA9,gZ9,gC9,sA9,sZ9,sC9]
  refine wS9' ?_
  simp only [Act.put,gA9,gZ9,gC9,sA9,sZ9,sC9]
  refine wS9' ?_
  simp only [Act.put,gA9,gZ9,gC9,sA9,sZ9,sC9]
  refine wT9 ?_
  simp only [Act.put,gA9,gZ9,gC9,sA9,sZ9,sC9]
  refine wT9 ?_
  simp only [Act.put,gA9,gZ9,gC9,sA9,sZ9,sC9]
  refine wS9' ?_
  simp only [Act.put,gA9,gZ9,gC9,sA9,sZ9,sC9]
  refine wS9' ?_
  simp only [Act.put,gA9,gZ9,gC9,sA9,sZ9,sC9]
  refine wS9' ?_
  simp only [Act.put,gA9,gZ9,gC9,sA9,sZ9,sC9]
  refine wS9' ?_
  simp only [Act.put,gA9,gZ9,gC9,sA9,sZ9,sC9]
  refine wT9 ?_
  simp only [Act.put,gA9,gZ9,gC9,sA9,sZ9,sC9]
  refine wT9 ?_
  simp only [Act.put,gA9,gZ9,gC9,sA9,sZ9,sC9]
  refine wS9' ?_
  simp only [Act.put,gA9,gZ9,gC9,sA9,sZ9,sC9]
  refine wS9' ?_
  simp only [Act.put,gA9,gZ9,gC9,sA9,sZ9,sC9]
  refine wS9' ?_
  simp only [Act.put,gA9,gZ9,gC9,sA9,sZ9,sC9]
  refine wS9' ?_
  simp only [Act.put,gA9,gZ9,gC9,sA9,sZ9,sC9]
  refine wT9 ?_
  simp only [Act.put,gA9,gZ9,gC9,sA9,sZ9,sC9]
  refine ⟨?_⟩
  go_wp2
  go_ret
  exact ⟨congrArg (fun b => Ending.returned (.bool b)) (Hno.out (fun h => by cases h.1)).symm, by rw [Hkb.out]; exact HB.out.trans (HV.out.mono Hge.out)⟩
 | true =>
  by_cases h1 : 1 ≤ hn
  case neg =>
   refine wT9 ?_
   simp only [Act.put,gA9,gZ9,gC9,sA9,sZ9,sC9]
   refine wl_load 24 (.tmp 7) HR.out _ Try.underlying24 rfl (by rw [Hid4.out]; exact info_id) rfl rfl (by kernel_rfl) ?_
   simp only [Act.put,gA9,gZ9,gC9,sA9,sZ9,sC9]
   refine wl_step (by kernel_rfl) fun K hK => ?_
   go_simp
   refine (Hw.out _ rfl).mono ?_
   rintro e V ⟨rfl, hV⟩
   have HV : Hid (Below W1.heap.size W1 V) := hV
   have HCV : Hid (V.heap[kb]? = some (.cells pc 28 (0, 0))) := (hV.block _ (lt_heap HC.out)).trans HC.out
   clear hV
   obtain ⟨d4, d5, d6⟩ := Hcells.out V HCV.out
   refine hK _ _ ?_
   clear hK K
   try (simp only [Act.put,gA9,gZ9,gC9,sA9,sZ9,sC9])
   refine wT9 ?_
   simp only [Act.put,gA9,gZ9,gC9,sA9,sZ9,sC9]
   refine wT9 ?_
   simp only [Act.put,gA9,gZ9,gC9,sA9,sZ9,sC9]
   refine wT9 ?_
   simp only [Act.put,gA9,gZ9,gC9,sA9,sZ9,sC9]
   refine wT9 ?_
   simp only [Act.put,gA9,gZ9,gC9,sA9,sZ9,sC9]
   refine wT9 ?_
   simp only [Act.put,gA9,gZ9,gC9,sA9,sZ9,sC9]
   refine wl_take (v := .bool true) (by kernel_rfl) (by first | (go_simp; done) | (go_simp; omega)) ?_
   simp only [Act.put,gA9,gZ9,gC9,sA9,sZ9,sC9]
   refine wT9 ?_
   simp only [Act.put,gA9,gZ9,gC9,sA9,sZ9,sC9]
   refine wT9 ?_
   simp only [Act.put,gA9,gZ9,gC9,sA9,sZ9,sC9]
   refine wS9' ?_
   simp only [Act.put,gA9,gZ9,gC9,sA9,sZ9,sC9]
   refine wS9' ?_
   simp only [Act.put,gA9,gZ9,gC9,sA9,sZ9,sC9]
   refine wS9' ?_
   simp only [Act.put,gA9,gZ9,gC9,sA9,sZ9,sC9]
   refine wS9' ?_
   simp only [Act.put,gA9,gZ9,gC9,sA9,sZ9,sC9]
   refine wT9 ?_
   simp only [Act.put,gA9,gZ9,gC9,sA9,sZ9,sC9]
   refine wT9 ?_
   simp only [Act.put,gA9,gZ9,gC9,sA9,sZ9,sC9]
   refine wS9' ?_
   simp only [Act.put,gA9,gZ9,gC9,sA9,sZ9,sC9]
   refine wS9' ?_
   simp only [Act.put,gA9,gZ9,gC9,sA9,sZ9,sC9]
   refine wS9' ?_
   simp only [Act.put,gA9,gZ9,gC9,sA9,sZ9,sC9]
   refine wS9' ?_
   simp only [Act.put,gA9,gZ9,gC9,sA9,sZ9,sC9]
   refine wT9 ?_
   simp only [Act.put,gA9,gZ9,gC9,sA9,sZ9,sC9]
   refine ⟨?_⟩
   go_wp2
   go_ret
   exact ⟨congrArg (fun b => Ending.returned (.bool b)) (Hno.out (fun h => by have := h.2.1.1; omega)).symm, by rw [Hkb.out]; exact HB.out.trans (HV.out.mono Hge.out)⟩
  by_cases h2 : hn ≤ 16
  case neg =>
   refine wT9 ?_
   simp only [Act.put,gA9,gZ9,gC9,sA9,sZ9,sC9]
   refine wl_load 24 (.tmp 7) HR.out _ Try.underlying24 rfl (by rw [Hid4.out]; exact info_id) rfl rfl (by kernel_rfl) ?_
   simp only [Act.put,gA9,gZ9,gC9,sA9,sZ9,sC9]
   refine wl_step (by kernel_rfl) fun K hK => ?_
   go_simp
   refine (Hw.out _ rfl).mono ?_
   rintro e V ⟨rfl, hV⟩
   have HV : Hid (Below W1.heap.size W1 V) := hV
   have HCV : Hid (V.heap[kb]? = some (.cells pc 28 (0, 0))) := (hV.block _ (lt_heap HC.out)).trans HC.out
   clear hV
   obtain ⟨d4, d5, d6⟩ := Hcells.out V HCV.out
   refine hK _ _ ?_
   clear hK K
   try (simp only [Act.put,gA9,gZ9,gC9,sA9,sZ9,sC9])
   refine wT9 ?_
   simp only [Act.put,gA9,gZ9,gC9,sA9,sZ9,sC9]
   refine wT9 ?_
   simp only [Act.put,gA9,gZ9,gC9,sA9,sZ9,sC9]
   refine wT9 ?_
   simp only [Act.put,gA9,gZ9,gC9,sA9,sZ9,sC9]
   refine wT9 ?_
   simp only [Act.put,gA9,gZ9,gC9,sA9,sZ9,sC9]
   refine wT9 ?_
   simp only [Act.put,gA9,gZ9,gC9,sA9,sZ9,sC9]
   refine wl_take (v := .bool false) (by kernel_rfl) (by first | (go_simp; done) | (go_simp; omega)) ?_
   simp only [Act.put,gA9,gZ9,gC9,sA9,sZ9,sC9]
   refine wT9 ?_
   simp only [Act.put,gA9,gZ9,gC9,sA9,sZ9,sC9]
   refine wT9 ?_
   simp only [Act.put,gA9,gZ9,gC9,sA9,sZ9,sC9]
   refine wT9 ?_
   simp only [Act.put,gA9,gZ9,gC9,sA9,sZ9,sC9]
   refine wT9 ?_
   simp only [Act.put,gA9,gZ9,gC9,sA9,sZ9,sC9]
   refine wT9 ?_
   simp only [Act.put,gA9,gZ9,gC9,sA9,sZ9,sC9]
   refine wl_take (v := .bool true) (by kernel_rfl) (by first | (go_simp; done) | (go_simp; omega)) ?_
   simp only [Act.put,gA9,gZ9,gC9,sA9,sZ9,sC9]
   refine wT9 ?_
   simp only [Act.put,gA9,gZ9,gC9,sA9,sZ9,sC9]
   refine wT9 ?_
   simp only [Act.put,gA9,gZ9,gC9,sA9,sZ9,sC9]
   refine wS9' ?_
   simp only [Act.put,gA9,gZ9,gC9,sA9,sZ9,sC9]
   refine wS9' ?_
   simp only [Act.put,gA9,gZ9,gC9,sA9,sZ9,sC9]
   refine wS9' ?_
   simp only [Act.put,gA9,gZ9,gC9,sA9,sZ9,sC9]
   refine wS9' ?_
   simp only [Act.put,gA9,gZ9,gC9,sA9,sZ9,sC9]
   refine wT9 ?_
   simp only [Act.put,gA9,gZ9,gC9,sA9,sZ9,sC9]
   refine ⟨?_⟩
   go_wp2
   go_ret
   exact ⟨congrArg (fun b => Ending.returned (.bool b)) (Hno.out (fun h => by have := h.2.1.2.1; omega)).symm, by rw [Hkb.out]; exact HB.out.trans (HV.out.mono Hge.out)⟩
  by_cases h3 : sn ≤ 128
  case neg =>
   refine wT9 ?_
   simp only [Act.put,gA9,gZ9,gC9,sA9,sZ9,sC9]
   refine wl_load 24 (.tmp 7) HR.out _ Try.underlying24 rfl (by rw [Hid4.out]; exact info_id) rfl rfl (by kernel_rfl) ?_
   simp only [Act.put,gA9,gZ9,gC9,sA9,sZ9,sC9]
   refine wl_step (by kernel_rfl) fun K hK => ?_
   go_simp
   refine (Hw.out _ rfl).mono ?_
   rintro e V ⟨rfl, hV⟩
   have HV : Hid (Below W1.heap.size W1 V) := hV
   have HCV : Hid (V.heap[kb]? = some (.cells pc 28 (0, 0))) := (hV.block _ (lt_heap HC.out)).trans HC.out
   clear hV
   obtain ⟨d4, d5, d6⟩ := Hcells.out V HCV.out
   refine hK _ _ ?_
   clear hK K
   try (simp only [Act.put,gA9,gZ9,gC9,sA9,sZ9,sC9])
   refine wT9 ?_
   simp only [Act.put,gA9,gZ9,gC9,sA9,sZ9,sC9]
   refine wT9 ?_
   simp only [Act.put,gA9,gZ9,gC9,sA9,sZ9,sC9]
   refine wT9 ?_
   simp only [Act.put,gA9,gZ9,gC9,sA9,sZ9,sC9]
   refine wT9 ?_
   simp only [Act.put,gA9,gZ9,gC9,sA9,sZ9,sC9]
   refine wT9 ?_
   simp only [Act.put,gA9,gZ9,gC9,sA9,sZ9,sC9]
   refine wl_take (v := .bool false) (by kernel_rfl) (by first | (go_simp; done) | (go_simp; omega)) ?_
   simp only [Act.put,gA9,gZ9,gC9,sA9,sZ9,sC9]
   refine wT9 ?_
   simp only [Act.put,gA9,gZ9,gC9,sA9,sZ9,sC9]
   refine wT9 ?_
   simp only [Act.put,gA9,gZ9,gC9,sA9,sZ9,sC9]
   refine wT9 ?_
   simp only [Act.put,gA9,gZ9,gC9,sA9,sZ9,sC9]
   refine wT9 ?_
   simp only [Act.put,gA9,gZ9,gC9,sA9,sZ9,sC9]
   refine wT9 ?_
   simp only [Act.put,gA9,gZ9,gC9,sA9,sZ9,sC9]
   refine wl_take (v := .bool false) (by kernel_rfl) (by first | (go_simp; done) | (go_simp; omega)) ?_
   simp only [Act.put,gA9,gZ9,gC9,sA9,sZ9,sC9]
   refine wT9 ?_
   simp only [Act.put,gA9,gZ9,gC9,sA9,sZ9,sC9]
   refine wT9 ?_
   simp only [Act.put,gA9,gZ9,gC9,sA9,sZ9,sC9]
   refine wT9 ?_
   simp only [Act.put,gA9,gZ9,gC9,sA9,sZ9,sC9]
   refine wT9 ?_
   simp only [Act.put,gA9,gZ9,gC9,sA9,sZ9,sC9]
   refine wT9 ?_
   simp only [Act.put,gA9,gZ9,gC9,sA9,sZ9,sC9]
   refine wl_take (v := .bool true) (by kernel_rfl) (by first | (go_simp; done) | (go_simp; omega)) ?_
   simp only [Act.put,gA9,gZ9,gC9,sA9,sZ9,sC9]
   refine wT9 ?_
   simp only [Act.put,gA9,gZ9,gC9,sA9,sZ9,sC9]
   refine ⟨?_⟩
   go_wp2
   go_ret
   exact ⟨congrArg (fun b => Ending.returned (.bool b)) (Hno.out (fun h => by have := h.2.1.2.2; omega)).symm, by rw [Hkb.out]; exact HB.out.trans (HV.out.mono Hge.out)⟩
  refine wT9 ?_
  simp only [Act.put,gA9,gZ9,gC9,sA9,sZ9,sC9]
  refine wl_load 24 (.tmp 7) HR.out _ Try.underlying24 rfl (by rw [Hid4.out]; exact info_id) rfl rfl (by kernel_rfl) ?_
  simp only [Act.put,gA9,gZ9,gC9,sA9,sZ9,sC9]
  refine wl_step (by kernel_rfl) fun K hK => ?_
  go_simp
  refine (Hw.out _ rfl).mono ?_
  rintro e V ⟨rfl, hV⟩
  have HV : Hid (Below W1.heap.size W1 V) := hV
  have HCV : Hid (V.heap[kb]? = some (.cells pc 28 (0, 0))) := (hV.block _ (lt_heap HC.out)).trans HC.out
  clear hV
  obtain ⟨d4, d5, d6⟩ := Hcells.out V HCV.out
  refine hK _ _ ?_
  clear hK K
  try (simp only [Act.put,gA9,gZ9,gC9,sA9,sZ9,sC9])
  refine wT9 ?_
  simp only [Act.put,gA9,gZ9,gC9,sA9,sZ9,sC9]
  refine wT9 ?_
  simp only [Act.put,gA9,gZ9,gC9,sA9,sZ9,sC9]
  refine wT9 ?_
  simp only [Act.put,gA9,gZ9,gC9,sA9,sZ9,sC9]
  refine wT9 ?_
  simp only [Act.put,gA9,gZ9,gC9,sA9,sZ9,sC9]
  refine wT9 ?_
  simp only [Act.put,gA9,gZ9,gC9,sA9,sZ9,sC9]
  refine wl_take (v := .bool false) (by kernel_rfl) (by first | (go_simp; done) | (go_simp; omega)) ?_
  simp only [Act.put,gA9,gZ9,gC9,sA9,sZ9,sC9]
  refine wT9 ?_
  simp only [Act.put,gA9,gZ9,gC9,sA9,sZ9,sC9]
  refine wT9 ?_
  simp only [Act.put,gA9,gZ9,gC9,sA9,sZ9,sC9]
  refine wT9 ?_
  simp only [Act.put,gA9,gZ9,gC9,sA9,sZ9,sC9]
  refine wT9 ?_
  simp only [Act.put,gA9,gZ9,gC9,sA9,sZ9,sC9]
  refine wT9 ?_
  simp only [Act.put,gA9,gZ9,gC9,sA9,sZ9,sC9]
  refine wl_take (v := .bool false) (by kernel_rfl) (by first | (go_simp; done) | (go_simp; omega)) ?_
  simp only [Act.put,gA9,gZ9,gC9,sA9,sZ9,sC9]
  refine wT9 ?_
  simp only [Act.put,gA9,gZ9,gC9,sA9,sZ9,sC9]
  refine wT9 ?_
  simp only [Act.put,gA9,gZ9,gC9,sA9,sZ9,sC9]
  refine wT9 ?_
  simp only [Act.put,gA9,gZ9,gC9,sA9,sZ9,sC9]
  refine wT9 ?_
  simp only [Act.put,gA9,gZ9,gC9,sA9,sZ9,sC9]
  refine wT9 ?_
  simp only [Act.put,gA9,gZ9,gC9,sA9,sZ9,sC9]
  refine wl_take (v := .bool false) (by kernel_rfl) (by first | (go_simp; done) | (go_simp; omega)) ?_
  simp only [Act.put,gA9,gZ9,gC9,sA9,sZ9,sC9]
  refine wT9 ?_
  simp only [Act.put,gA9,gZ9,gC9,sA9,sZ9,sC9]
  refine ⟨?_⟩
  by_cases h4 : 0 ≤ bs
  case neg =>
   go_wp2_with (first | (refine wl_at 29 rfl ?_) | fail)
   refine wT9 ?_
   simp only [Act.put,gA9,gZ9,gC9,sA9,sZ9,sC9]
   refine wT9 ?_
   simp only [Act.put,gA9,gZ9,gC9,sA9,sZ9,sC9]
   refine wl_take (v := .bool true) (by kernel_rfl) (by first | (go_simp; done) | (go_simp; omega)) ?_
   simp only [Act.put,gA9,gZ9,gC9,sA9,sZ9,sC9]
   refine wT9 ?_
   simp only [Act.put,gA9,gZ9,gC9,sA9,sZ9,sC9]
   refine wS9' ?_
   simp only [Act.put,gA9,gZ9,gC9,sA9,sZ9,sC9]
   refine wS9' ?_
   simp only [Act.put,gA9,gZ9,gC9,sA9,sZ9,sC9]
   refine wS9' ?_
   simp only [Act.put,gA9,gZ9,gC9,sA9,sZ9,sC9]
   refine wS9' ?_
   simp only [Act.put,gA9,gZ9,gC9,sA9,sZ9,sC9]
   refine wS9' ?_
   simp only [Act.put,gA9,gZ9,gC9,sA9,sZ9,sC9]
   refine wS9' ?_
   simp only [Act.put,gA9,gZ9,gC9,sA9,sZ9,sC9]
   refine wS9' ?_
   simp only [Act.put,gA9,gZ9,gC9,sA9,sZ9,sC9]
   refine wT9 ?_
   simp only [Act.put,gA9,gZ9,gC9,sA9,sZ9,sC9]
   refine ⟨?_⟩
   go_wp2
   go_ret
   exact ⟨congrArg (fun b => Ending.returned (.bool b)) (Hno.out (fun h => by have := h.2.2.1.1; omega)).symm, by rw [Hkb.out]; exact HB.out.trans (HV.out.mono Hge.out)⟩
  by_cases h5 : bs ≤ 4611686018427387904 - (sn : Int)
  case neg =>
   go_wp2_with (first | (refine wl_at 29 rfl ?_) | fail)
   refine wT9 ?_
   simp only [Act.put,gA9,gZ9,gC9,sA9,sZ9,sC9]
   refine wT9 ?_
   simp only [Act.put,gA9,gZ9,gC9,sA9,sZ9,sC9]
   refine wl_take (v := .bool false) (by kernel_rfl) (by first | (go_simp; done) | (go_simp; omega)) ?_
   simp only [Act.put,gA9,gZ9,gC9,sA9,sZ9,sC9]
   refine wT9 ?_
   simp only [Act.put,gA9,gZ9,gC9,sA9,sZ9,sC9]
   refine wT9 ?_
   simp only [Act.put,gA9,gZ9,gC9,sA9,sZ9,sC9]
   refine wT9 ?_
   simp only [Act.put,gA9,gZ9,gC9,sA9,sZ9,sC9]
   refine wT9 ?_
   simp only [Act.put,gA9,gZ9,gC9,sA9,sZ9,sC9]
   refine wT9 ?_
   simp only [Act.put,gA9,gZ9,gC9,sA9,sZ9,sC9]
   refine wT9 ?_
   simp only [Act.put,gA9,gZ9,gC9,sA9,sZ9,sC9]
   refine wl_take (v := .int .i64 (4611686018427387904 - (sn : Int))) (by kernel_rfl) (by go_simp; exact wrap_id (by omega) (by omega)) ?_
   simp only [Act.put,gA9,gZ9,gC9,sA9,sZ9,sC9]
   refine wl_take (v := .bool true) (by kernel_rfl) (by first | (go_simp; done) | (go_simp; omega)) ?_
   simp only [Act.put,gA9,gZ9,gC9,sA9,sZ9,sC9]
   refine wT9 ?_
   simp only [Act.put,gA9,gZ9,gC9,sA9,sZ9,sC9]
   refine ⟨?_⟩
   go_wp2
   go_ret
   exact ⟨congrArg (fun b => Ending.returned (.bool b)) (Hno.out (fun h => by have := h.2.2.1.2; omega)).symm, by rw [Hkb.out]; exact HB.out.trans (HV.out.mono Hge.out)⟩
  go_wp2_with (first | (refine wl_at 29 rfl ?_) | fail)
  refine wT9 ?_
  simp only [Act.put,gA9,gZ9,gC9,sA9,sZ9,sC9]
  refine wT9 ?_
  simp only [Act.put,gA9,gZ9,gC9,sA9,sZ9,sC9]
  refine wl_take (v := .bool false) (by kernel_rfl) (by first | (go_simp; done) | (go_simp; omega)) ?_
  simp only [Act.put,gA9,gZ9,gC9,sA9,sZ9,sC9]
  refine wT9 ?_
  simp only [Act.put,gA9,gZ9,gC9,sA9,sZ9,sC9]
  refine wT9 ?_
  simp only [Act.put,gA9,gZ9,gC9,sA9,sZ9,sC9]
  refine wT9 ?_
  simp only [Act.put,gA9,gZ9,gC9,sA9,sZ9,sC9]
  refine wT9 ?_
  simp only [Act.put,gA9,gZ9,gC9,sA9,sZ9,sC9]
  refine wT9 ?_
  simp only [Act.put,gA9,gZ9,gC9,sA9,sZ9,sC9]
  refine wT9 ?_
  simp only [Act.put,gA9,gZ9,gC9,sA9,sZ9,sC9]
  refine wl_take (v := .int .i64 (4611686018427387904 - (sn : Int))) (by kernel_rfl) (by go_simp; exact wrap_id (by omega) (by omega)) ?_
  simp only [Act.put,gA9,gZ9,gC9,sA9,sZ9,sC9]
  refine wl_take (v := .bool false) (by kernel_rfl) (by first | (go_simp; done) | (go_simp; omega)) ?_
  simp only [Act.put,gA9,gZ9,gC9,sA9,sZ9,sC9]
  refine wT9 ?_
  simp only [Act.put,gA9,gZ9,gC9,sA9,sZ9,sC9]
  refine ⟨?_⟩
  go_wp2
  clear d4
  go_loopw [3] (fun i wr => ∃ j : Nat, j ≤ hn ∧ i = .int .i64 j ∧ (∀ k, k < j → 0 ≤ f.c.hv.getD k 0 ∧ f.c.hv.getD k 0 ≤ 4611686018427387904) ∧ wr = V) (fun i _ => hn - (intOf i).toNat)
  case atStart => exact ⟨0, Nat.zero_le _, rfl, fun k hk => by omega, rfl⟩
  case round =>
   obtain ⟨j, hj, rfl, hno, rfl⟩ := hrel
   have HN : Hid (∀ k, k < j → 0 ≤ f.c.hv.getD k 0 ∧ f.c.hv.getD k 0 ≤ 4611686018427387904) := hno
   clear hno
   have HVw : Hid (Below w.heap.size w wr) := (show Below w.heap.size w wr from by rw [Hkb.out]; exact HB.out.trans (HV.out.mono Hge.out))
   by_cases hlt : j < hn
   ·obtain ⟨b, off, hha, hc⟩ := (HF.out.h.still HVw.out).at (i := j) (by rw [Hhn.out]; exact hlt)
    have i1 : (0 : Int) ≤ (j : Int) := Int.natCast_nonneg _
    have i2 : (j : Int) < (hn : Int) := by omega
    have Hbad : Hid (f.c.hv.getD j 0 < 0 ∨ 4611686018427387904 < f.c.hv.getD j 0 → havesB f.c.hv = false) := haves_no (by rw [Hhn.out]; exact hlt)
    have Hok : Hid (0 ≤ f.c.hv.getD j 0 → f.c.hv.getD j 0 ≤ 4611686018427387904 → ∀ k, k < j + 1 → 0 ≤ f.c.hv.getD k 0 ∧ f.c.hv.getD k 0 ≤ 4611686018427387904) := fun h1 h2 k hk => by
     by_cases e : k = j
     ·rw [e]; exact ⟨h1, h2⟩
     ·exact HN.out k (by omega)
    rw [hha] at d6
    clear hha
    generalize f.c.hv.getD j 0 = x at *
    by_cases hx1 : 0 ≤ x
    case neg =>
     go_wp2_with (first | (refine wl_at 48 rfl ?_) | fail)
     refine wT9 ?_
     simp only [Act.put,gA9,gZ9,gC9,sA9,sZ9,sC9]
     refine wT9 ?_
     simp only [Act.put,gA9,gZ9,gC9,sA9,sZ9,sC9]
     refine wT9 ?_
     simp only [Act.put,gA9,gZ9,gC9,sA9,sZ9,sC9]
     refine wT9 ?_
     simp only [Act.put,gA9,gZ9,gC9,sA9,sZ9,sC9]
     refine wT9 ?_
     simp only [Act.put,gA9,gZ9,gC9,sA9,sZ9,sC9]
     refine wl_take (v := .bool true) (by kernel_rfl) (by first | (go_simp; done) | (go_simp; omega)) ?_
     simp only [Act.put,gA9,gZ9,gC9,sA9,sZ9,sC9]
     refine wT9 ?_
     simp only [Act.put,gA9,gZ9,gC9,sA9,sZ9,sC9]
     refine wS9' ?_
     simp only [Act.put,gA9,gZ9,gC9,sA9,sZ9,sC9]
     refine wS9' ?_
     simp only [Act.put,gA9,gZ9,gC9,sA9,sZ9,sC9]
     refine wS9' ?_
     simp only [Act.put,gA9,gZ9,gC9,sA9,sZ9,sC9]
     refine wS9' ?_
     simp only [Act.put,gA9,gZ9,gC9,sA9,sZ9,sC9]
     refine wS9' ?_
     simp only [Act.put,gA9,gZ9,gC9,sA9,sZ9,sC9]
     refine wS9' ?_
     simp only [Act.put,gA9,gZ9,gC9,sA9,sZ9,sC9]
     refine wT9 ?_
     simp only [Act.put,gA9,gZ9,gC9,sA9,sZ9,sC9]
     refine ⟨?_⟩
     go_wp2
     go_ret
     exact ⟨congrArg (fun b => Ending.returned (.bool b)) (Hno.out (fun h => by rw [Hbad.out (.inl (by omega))] at h; cases h.2.2.2.1)).symm, by rw [Hkb.out]; exact HB.out.trans (HV.out.mono Hge.out)⟩
    by_cases hx2 : x ≤ 4611686018427387904
    case neg =>
     go_wp2_with (first | (refine wl_at 48 rfl ?_) | fail)
     refine wT9 ?_
     simp only [Act.put,gA9,gZ9,gC9,sA9,sZ9,sC9]
     refine wT9 ?_
     simp only [Act.put,gA9,gZ9,gC9,sA9,sZ9,sC9]
     refine wT9 ?_
     simp only [Act.put,gA9,gZ9,gC9,sA9,sZ9,sC9]
     refine wT9 ?_
     simp only [Act.put,gA9,gZ9,gC9,sA9,sZ9,sC9]
     refine wT9 ?_
     simp only [Act.put,gA9,gZ9,gC9,sA9,sZ9,sC9]
     refine wl_take (v := .bool false) (by kernel_rfl) (by first | (go_simp; done) | (go_simp; omega)) ?_
     simp only [Act.put,gA9,gZ9,gC9,sA9,sZ9,sC9]
     refine wT9 ?_
     simp only [Act.put,gA9,gZ9,gC9,sA9,sZ9,sC9]
     refine wT9 ?_
     simp only [Act.put,gA9,gZ9,gC9,sA9,sZ9,sC9]
     refine wT9 ?_
     simp only [Act.put,gA9,gZ9,gC9,sA9,sZ9,sC9]
     refine wT9 ?_
     simp only [Act.put,gA9,gZ9,gC9,sA9,sZ9,sC9]
     refine wT9 ?_
     simp only [Act.put,gA9,gZ9,gC9,sA9,sZ9,sC9]
     refine wT9 ?_
     simp only [Act.put,gA9,gZ9,gC9,sA9,sZ9,sC9]
     refine wl_take (v := .bool true) (by kernel_rfl) (by first | (go_simp; done) | (go_simp; omega)) ?_
     simp only [Act.put,gA9,gZ9,gC9,sA9,sZ9,sC9]
     refine wT9 ?_
     simp only [Act.put,gA9,gZ9,gC9,sA9,sZ9,sC9]
     refine ⟨?_⟩
     go_wp2
     go_ret
     exact ⟨congrArg (fun b => Ending.returned (.bool b)) (Hno.out (fun h => by rw [Hbad.out (.inr (by omega))] at h; cases h.2.2.2.1)).symm, by rw [Hkb.out]; exact HB.out.trans (HV.out.mono Hge.out)⟩
    go_wp2_with (first | (refine wl_at 48 rfl ?_) | fail)
    refine wT9 ?_
    simp only [Act.put,gA9,gZ9,gC9,sA9,sZ9,sC9]
    refine wT9 ?_
    simp only [Act.put,gA9,gZ9,gC9,sA9,sZ9,sC9]
    refine wT9 ?_
    simp only [Act.put,gA9,gZ9,gC9,sA9,sZ9,sC9]
    refine wT9 ?_
    simp only [Act.put,gA9,gZ9,gC9,sA9,sZ9,sC9]
    refine wT9 ?_
    simp only [Act.put,gA9,gZ9,gC9,sA9,sZ9,sC9]
    refine wl_take (v := .bool false) (by kernel_rfl) (by first | (go_simp; done) | (go_simp; omega)) ?_
    simp only [Act.put,gA9,gZ9,gC9,sA9,sZ9,sC9]
    refine wT9 ?_
    simp only [Act.put,gA9,gZ9,gC9,sA9,sZ9,sC9]
    refine wT9 ?_
    simp only [Act.put,gA9,gZ9,gC9,sA9,sZ9,sC9]
    refine wT9 ?_
    simp only [Act.put,gA9,gZ9,gC9,sA9,sZ9,sC9]
    refine wT9 ?_
    simp only [Act.put,gA9,gZ9,gC9,sA9,sZ9,sC9]
    refine wT9 ?_
    simp only [Act.put,gA9,gZ9,gC9,sA9,sZ9,sC9]
    refine wT9 ?_
    simp only [Act.put,gA9,gZ9,gC9,sA9,sZ9,sC9]
    refine wl_take (v := .bool false) (by kernel_rfl) (by first | (go_simp; done) | (go_simp; omega)) ?_
    simp only [Act.put,gA9,gZ9,gC9,sA9,sZ9,sC9]
    refine wT9 ?_
    simp only [Act.put,gA9,gZ9,gC9,sA9,sZ9,sC9]
    refine ⟨?_⟩
    go_wp2
    exact ⟨⟨j + 1, by omega, by go_num, Hok.out hx1 hx2, by first | rfl | trivial⟩, by simp [intOf]; omega⟩
   ·obtain rfl : hn = j := by omega
    have Hhv : Hid (havesB f.c.hv = true) := haves_yes (fun k hk => HN.out k (by rw [← Hhn.out]; exact hk))
    clear HN
    go_wp2
    go_loopw [4] (fun i wv => ∃ j : Nat, j ≤ sn ∧ i = .int .i64 j ∧ SlK hn f.c.sl j ∧ Below kb w wv ∧ wv.heap[kb]? = some (.cells pc 28 (0, 0))) (fun i _ => sn - (intOf i).toNat)
    case atStart => exact ⟨0, Nat.zero_le _, rfl, fun k hk => by omega, Hkb.out ▸ HVw.out, HCV.out⟩
    case round =>
     obtain ⟨j, hj, rfl, hk, hbl, hbk⟩ := hrel
     have HK : Hid (SlK hn f.c.sl j) := hk
     clear HV HCV HB HVw d5 d6
     have HB : Hid (Below kb w wr) := hbl
     have HCV : Hid (wr.heap[kb]? = some (.cells pc 28 (0, 0))) := hbk
     obtain ⟨d4, d5, d6⟩ := Hcells.out wr HCV.out
     clear hk hbl hbk d4
     by_cases hlt : j < sn
     ·obtain ⟨b, off, hsa, hc, _, _⟩ := (HF.out.s.still (by rw [Hkb.out]; exact HB.out)).at (i := j) (by rw [Hsn.out]; exact hlt)
      have HD : Hid (wr.rangeAt b (off + j * 2) (slotV (f.c.sl.getD j z2))) := hc
      clear hc
      have i1 : (0 : Int) ≤ (j : Int) := Int.natCast_nonneg _
      have i2 : (j : Int) < (sn : Int) := by omega
      have Hbad : Hid (slotB hn (f.c.sl.getD j z2) = false ∨ newB f.c.sl j = false → slotsB hn f.c.sl = false) := slK_no (by rw [Hsn.out]; exact hlt)
      have Hok : Hid (slotB hn (f.c.sl.getD j z2) = true → newB f.c.sl j = true → SlK hn f.c.sl (j + 1)) := fun h1 h2 k hk => by
       by_cases e : k = j
       ·subst e; exact ⟨h1, h2⟩
       ·exact HK.out k (by omega)
      have Hnew : Hid (newB f.c.sl j = (List.range j).all fun k => decide (f.c.sl.getD k z2 ≠ f.c.sl.getD j z2)) := rfl
      rw [hsa] at d5
      clear hsa
      generalize hs : f.c.sl.getD j z2 = s at *
      clear hs
      obtain ⟨s1, s2⟩ := s
      go_wp2_with (first
       | (refine load_mid 76 (.tmp 72) HD.out _ Try.underlying76 rfl info_slot rfl rfl rfl ?_)
       | (refine wl_st 76 (.tmp 5) (.tmp 73) rfl ?_)
       | fail)
      refine wl_store 76 (.tmp 5) (.tmp 73) (L := slotV (s1, s2)) (new_there _ _ _ rfl) info_slot (slotV_one _) rfl rfl rfl (by kernel_rfl) ?_
      simp only [Act.put,gA9,gZ9,gC9,sA9,sZ9,sC9]
      refine ⟨?_⟩
      obtain ⟨hn1, hn2⟩ := newvar wr 76 #[.int .i64 0, .int .i64 0] (slotV (s1, s2)) rfl
      have HBn : Hid (Below kb w ((wr.alloc (.cells #[.int .i64 0, .int .i64 0] 76)).setCells wr.heap.size 0 (slotV (s1, s2)))) := HB.out.trans (hn1.mono (Nat.le_of_lt (lt_heap HCV.out)))
      have HCVn : Hid (((wr.alloc (.cells #[.int .i64 0, .int .i64 0] 76)).setCells wr.heap.size 0 (slotV (s1, s2))).heap[kb]? = some (.cells pc 28 (0, 0))) := (hn1.block _ (lt_heap HCV.out)).trans HCV.out
      have Hv5 : Hid (((wr.alloc (.cells #[.int .i64 0, .int .i64 0] 76)).setCells wr.heap.size 0 (slotV (s1, s2))).heap[wr.heap.size]? = some (.cells (slotV (s1, s2)).toArray 76 (0, 0))) := hn2
      have Hn1 : Hid (Below wr.heap.size wr ((wr.alloc (.cells #[.int .i64 0, .int .i64 0] 76)).setCells wr.heap.size 0 (slotV (s1, s2)))) := hn1
      clear hn1 hn2 HB HCV
      generalize (wr.alloc (.cells #[.int .i64 0, .int .i64 0] 76)).setCells wr.heap.size 0 (slotV (s1, s2)) = V2 at *
      generalize hvb : wr.heap.size = v5 at *
      have Hvbv5 : Hid (wr.heap.size = v5) := hvb
      clear hvb
      have HB := HBn
      clear HBn
      have HCV := HCVn
      clear HCVn
      clear HD d5 d6 Hn1
      obtain ⟨d4, d5, d6⟩ := Hcells.out V2 HCV.out
      clear d4
      have e0 : V2.cell? ⟨v5, 0, none⟩ = some (.int .i64 s1) := blk_cell Hv5.out 0
      have e1 : V2.cell? ⟨v5, 1, none⟩ = some (.int .i64 s2) := blk_cell Hv5.out 1
      have HW : Hid (∀ b, inR 1 4611686018427387904 s2 = b → Calls Try.prog 81 #[.int .i64 s2] V2 fun e w' => e = .returned (.bool b) ∧ w' = V2) := fun b hb => by rw [← hb]; exact count_any _
      by_cases hx1 : 0 ≤ s1
      case neg =>
       have Hq : Hid (slotB hn (s1, s2) = false) := (show slotB hn (s1, s2) = false from by unfold slotB; show (inR 0 ((hn : Int) - 1) s1 && inR 1 4611686018427387904 s2) = false; rw [inR_f1 hx1]; rfl)
       go_wp2_with (first | (refine wl_at 74 rfl ?_) | fail)
       refine wT9 ?_
       simp only [Act.put,gA9,gZ9,gC9,sA9,sZ9,sC9]
       refine wT9 ?_
       simp only [Act.put,gA9,gZ9,gC9,sA9,sZ9,sC9]
       refine wl_take (v := .bool true) (by kernel_rfl) (by first | (go_simp; done) | (go_simp; omega)) ?_
       simp only [Act.put,gA9,gZ9,gC9,sA9,sZ9,sC9]
       refine wT9 ?_
       simp only [Act.put,gA9,gZ9,gC9,sA9,sZ9,sC9]
       refine wS9' ?_
       simp only [Act.put,gA9,gZ9,gC9,sA9,sZ9,sC9]
       refine wS9' ?_
       simp only [Act.put,gA9,gZ9,gC9,sA9,sZ9,sC9]
       refine wS9' ?_
       simp only [Act.put,gA9,gZ9,gC9,sA9,sZ9,sC9]
       refine wS9' ?_
       simp only [Act.put,gA9,gZ9,gC9,sA9,sZ9,sC9]
       refine wS9' ?_
       simp only [Act.put,gA9,gZ9,gC9,sA9,sZ9,sC9]
       refine wS9' ?_
       simp only [Act.put,gA9,gZ9,gC9,sA9,sZ9,sC9]
       refine wT9 ?_
       simp only [Act.put,gA9,gZ9,gC9,sA9,sZ9,sC9]
       refine wT9 ?_
       simp only [Act.put,gA9,gZ9,gC9,sA9,sZ9,sC9]
       refine wS9' ?_
       simp only [Act.put,gA9,gZ9,gC9,sA9,sZ9,sC9]
       refine wS9' ?_
       simp only [Act.put,gA9,gZ9,gC9,sA9,sZ9,sC9]
       refine wS9' ?_
       simp only [Act.put,gA9,gZ9,gC9,sA9,sZ9,sC9]
       refine wS9' ?_
       simp only [Act.put,gA9,gZ9,gC9,sA9,sZ9,sC9]
       refine wT9 ?_
       simp only [Act.put,gA9,gZ9,gC9,sA9,sZ9,sC9]
       refine ⟨?_⟩
       go_wp2
       go_ret
       exact ⟨congrArg (fun b => Ending.returned (.bool b)) (Hno.out (fun h => by rw [Hbad.out (.inl Hq.out)] at h; cases h.2.2.2.2)).symm, by rw [Hkb.out]; exact HB.out⟩
      by_cases hx2 : s1 < (hn : Int)
      case neg =>
       have Hq : Hid (slotB hn (s1, s2) = false) := (show slotB hn (s1, s2) = false from by unfold slotB; show (inR 0 ((hn : Int) - 1) s1 && inR 1 4611686018427387904 s2) = false; rw [inR_f2 (by omega)]; rfl)
       go_wp2_with (first | (refine wl_at 74 rfl ?_) | fail)
       refine wT9 ?_
       simp only [Act.put,gA9,gZ9,gC9,sA9,sZ9,sC9]
       refine wT9 ?_
       simp only [Act.put,gA9,gZ9,gC9,sA9,sZ9,sC9]
       refine wl_take (v := .bool false) (by kernel_rfl) (by first | (go_simp; done) | (go_simp; omega)) ?_
       simp only [Act.put,gA9,gZ9,gC9,sA9,sZ9,sC9]
       refine wT9 ?_
       simp only [Act.put,gA9,gZ9,gC9,sA9,sZ9,sC9]
       refine wT9 ?_
       simp only [Act.put,gA9,gZ9,gC9,sA9,sZ9,sC9]
       refine wT9 ?_
       simp only [Act.put,gA9,gZ9,gC9,sA9,sZ9,sC9]
       refine wT9 ?_
       simp only [Act.put,gA9,gZ9,gC9,sA9,sZ9,sC9]
       refine wT9 ?_
       simp only [Act.put,gA9,gZ9,gC9,sA9,sZ9,sC9]
       refine wT9 ?_
       simp only [Act.put,gA9,gZ9,gC9,sA9,sZ9,sC9]
       refine wl_take (v := .bool true) (by kernel_rfl) (by first | (go_simp; done) | (go_simp; omega)) ?_
       simp only [Act.put,gA9,gZ9,gC9,sA9,sZ9,sC9]
       refine wT9 ?_
       simp only [Act.put,gA9,gZ9,gC9,sA9,sZ9,sC9]
       refine wT9 ?_
       simp only [Act.put,gA9,gZ9,gC9,sA9,sZ9,sC9]
       refine wS9' ?_
       simp only [Act.put,gA9,gZ9,gC9,sA9,sZ9,sC9]
       refine wS9' ?_
       simp only [Act.put,gA9,gZ9,gC9,sA9,sZ9,sC9]
       refine wS9' ?_
       simp only [Act.put,gA9,gZ9,gC9,sA9,sZ9,sC9]
       refine wS9' ?_
       simp only [Act.put,gA9,gZ9,gC9,sA9,sZ9,sC9]
       refine wT9 ?_
       simp only [Act.put,gA9,gZ9,gC9,sA9,sZ9,sC9]
       refine ⟨?_⟩
       go_wp2
       go_ret
       exact ⟨congrArg (fun b => Ending.returned (.bool b)) (Hno.out (fun h => by rw [Hbad.out (.inl Hq.out)] at h; cases h.2.2.2.2)).symm, by rw [Hkb.out]; exact HB.out⟩
      cases hC : inR 1 4611686018427387904 s2 with
      | false =>
       have Hq : Hid (slotB hn (s1, s2) = false) := (show slotB hn (s1, s2) = false from by unfold slotB; show (inR 0 ((hn : Int) - 1) s1 && inR 1 4611686018427387904 s2) = false; rw [hC]; simp)
       go_wp2_with (first | (refine wl_at 74 rfl ?_) | fail)
       refine wT9 ?_
       simp only [Act.put,gA9,gZ9,gC9,sA9,sZ9,sC9]
       refine wT9 ?_
       simp only [Act.put,gA9,gZ9,gC9,sA9,sZ9,sC9]
       refine wl_take (v := .bool false) (by kernel_rfl) (by first | (go_simp; done) | (go_simp; omega)) ?_
       simp only [Act.put,gA9,gZ9,gC9,sA9,sZ9,sC9]
       refine wT9 ?_
       simp only [Act.put,gA9,gZ9,gC9,sA9,sZ9,sC9]
       refine wT9 ?_
       simp only [Act.put,gA9,gZ9,gC9,sA9,sZ9,sC9]
       refine wT9 ?_
       simp only [Act.put,gA9,gZ9,gC9,sA9,sZ9,sC9]
       refine wT9 ?_
       simp only [Act.put,gA9,gZ9,gC9,sA9,sZ9,sC9]
       refine wT9 ?_
       simp only [Act.put,gA9,gZ9,gC9,sA9,sZ9,sC9]
       refine wT9 ?_
       simp only [Act.put,gA9,gZ9,gC9,sA9,sZ9,sC9]
       refine wl_take (v := .bool false) (by kernel_rfl) (by first | (go_simp; done) | (go_simp; omega)) ?_
       simp only [Act.put,gA9,gZ9,gC9,sA9,sZ9,sC9]
       refine wT9 ?_
       simp only [Act.put,gA9,gZ9,gC9,sA9,sZ9,sC9]
       refine wT9 ?_
       simp only [Act.put,gA9,gZ9,gC9,sA9,sZ9,sC9]
       refine wT9 ?_
       simp only [Act.put,gA9,gZ9,gC9,sA9,sZ9,sC9]
       refine wT9 ?_
       simp only [Act.put,gA9,gZ9,gC9,sA9,sZ9,sC9]
       refine wl_step (by kernel_rfl) fun K hK => ?_
       go_simp
       refine (HW.out _ hC).mono ?_
       rintro e V2 ⟨rfl, rfl⟩
       refine hK _ _ ?_
       clear hK K
       try (simp only [Act.put,gA9,gZ9,gC9,sA9,sZ9,sC9])
       refine wT9 ?_
       simp only [Act.put,gA9,gZ9,gC9,sA9,sZ9,sC9]
       refine wT9 ?_
       simp only [Act.put,gA9,gZ9,gC9,sA9,sZ9,sC9]
       refine ⟨?_⟩
       go_wp2
       go_ret
       exact ⟨congrArg (fun b => Ending.returned (.bool b)) (Hno.out (fun h => by rw [Hbad.out (.inl Hq.out)] at h; cases h.2.2.2.2)).symm, by rw [Hkb.out]; exact HB.out⟩
      | true =>
       have Hq : Hid (slotB hn (s1, s2) = true) := (show slotB hn (s1, s2) = true from by unfold slotB; show (inR 0 ((hn : Int) - 1) s1 && inR 1 4611686018427387904 s2) = true; rw [hC, inR_t hx1 (by omega)]; rfl)
       go_wp2_with (first | (refine wl_at 74 rfl ?_) | fail)
       refine wT9 ?_
       simp only [Act.put,gA9,gZ9,gC9,sA9,sZ9,sC9]
       refine wT9 ?_
       simp only [Act.put,gA9,gZ9,gC9,sA9,sZ9,sC9]
       refine wl_take (v := .bool false) (by kernel_rfl) (by first | (go_simp; done) | (go_simp; omega)) ?_
       simp only [Act.put,gA9,gZ9,gC9,sA9,sZ9,sC9]
       refine wT9 ?_
       simp only [Act.put,gA9,gZ9,gC9,sA9,sZ9,sC9]
       refine wT9 ?_
       simp only [Act.put,gA9,gZ9,gC9,sA9,sZ9,sC9]
       refine wT9 ?_
       simp only [Act.put,gA9,gZ9,gC9,sA9,sZ9,sC9]
       refine wT9 ?_
       simp only [Act.put,gA9,gZ9,gC9,sA9,sZ9,sC9]
       refine wT9 ?_
       simp only [Act.put,gA9,gZ9,gC9,sA9,sZ9,sC9]
       refine wT9 ?_
       simp only [Act.put,gA9,gZ9,gC9,sA9,sZ9,sC9]
       refine wl_take (v := .bool false) (by kernel_rfl) (by first | (go_simp; done) | (go_simp; omega)) ?_
       simp only [Act.put,gA9,gZ9,gC9,sA9,sZ9,sC9]
       refine wT9 ?_
       simp only [Act.put,gA9,gZ9,gC9,sA9,sZ9,sC9]
       refine wT9 ?_
       simp only [Act.put,gA9,gZ9,gC9,sA9,sZ9,sC9]
       refine wT9 ?_
       simp only [Act.put,gA9,gZ9,gC9,sA9,sZ9,sC9]
       refine wT9 ?_
       simp only [Act.put,gA9,gZ9,gC9,sA9,sZ9,sC9]
       refine wl_step (by kernel_rfl) fun K hK => ?_
       go_simp
       refine (HW.out _ hC).mono ?_
       rintro e V2 ⟨rfl, rfl⟩
       refine hK _ _ ?_
       clear hK K
       try (simp only [Act.put,gA9,gZ9,gC9,sA9,sZ9,sC9])
       refine wT9 ?_
       simp only [Act.put,gA9,gZ9,gC9,sA9,sZ9,sC9]
       refine wT9 ?_
       simp only [Act.put,gA9,gZ9,gC9,sA9,sZ9,sC9]
       refine ⟨?_⟩
       clear e0 e1 HW
       go_wp2
       go_loopw [6] (fun i wv => ∃ k : Nat, k ≤ j ∧ i = .int .i64 k ∧ (∀ m, m < k → f.c.sl.getD m z2 ≠ (s1, s2)) ∧ Below V2.heap.size V2 wv) (fun i _ => j - (intOf i).toNat)
       case atStart => exact ⟨0, Nat.zero_le _, rfl, fun k hk => by omega, Below.refl _ _⟩
       case round =>
        obtain ⟨k, hk, rfl, hne, hbk⟩ := hrel
        have HNe : Hid (∀ m, m < k → f.c.sl.getD m z2 ≠ (s1, s2)) := hne
        have HBk : Hid (Below V2.heap.size V2 wr) := hbk
        clear hne hbk d5 d6
        have HCk : Hid (wr.heap[kb]? = some (.cells pc 28 (0, 0))) := (HBk.out.block _ (lt_heap HCV.out)).trans HCV.out
        have Hv5k : Hid (wr.heap[v5]? = some (.cells (slotV (s1, s2)).toArray 76 (0, 0))) := (HBk.out.block _ (lt_heap Hv5.out)).trans Hv5.out
        have HBw : Hid (Below kb w wr) := HB.out.trans (HBk.out.mono (Nat.le_of_lt (lt_heap HCV.out)))
        by_cases hlk : k < j
        ·obtain ⟨d4, d5, d6⟩ := Hcells.out wr HCk.out
         obtain ⟨b', off', hsa', hc', _, _⟩ := (HF.out.s.still (by rw [Hkb.out]; exact HBw.out)).at (i := k) (by rw [Hsn.out]; omega)
         rw [hsa'] at d5
         clear hsa'
         have r5 := blk_range (w := wr.drew) Hv5k.out
         have rk : wr.drew.rangeAt b' (off' + k * 2) (slotV (f.c.sl.getD k z2)) := hc'
         clear d4 d6 hc'
         have k1 : (0 : Int) ≤ (k : Int) := Int.natCast_nonneg _
         have k2 : (k : Int) < (sn : Int) := by omega
         have k3 : (k : Int) < (j : Int) := by omega
         have HEq : Hid (∀ W, (Op.equalIn 10000 76 (.agg (slotV (f.c.sl.getD k z2)).toArray) (.agg (slotV (s1, s2)).toArray)).run Try.prog W = .ok (decide (f.c.sl.getD k z2 = (s1, s2))) W) := fun W => eq_slot _ _
         have Hdup : Hid (f.c.sl.getD k z2 = (s1, s2) → newB f.c.sl j = false) := fun h => by
          rw [Hnew.out, List.all_eq_false]
          exact ⟨k, List.mem_range.2 hlk, by simp only [h]; simp⟩
         have Hnx : Hid (f.c.sl.getD k z2 ≠ (s1, s2) → ∀ m, m < k + 1 → f.c.sl.getD m z2 ≠ (s1, s2)) := fun h m hm => by
          by_cases e : m = k
          ·rw [e]; exact h
          ·exact HNe.out m (by omega)
         generalize f.c.sl.getD k z2 = u at *
         by_cases hu : u = (s1, s2)
         ·rw [decide_eq_true hu] at HEq
          have Hd2 : Hid (newB f.c.sl j = false) := Hdup.out hu
          clear hu
          go_wp2_with (fail)
          refine wp_region_held_drew (S := (fun w' => w'.cell? ⟨kb, 5, none⟩ = some (.slice (some ⟨b', off', none⟩) sn f.sc) ∧ w'.rangeAt b' (off' + k * 2) (slotV u) ∧ w'.rangeAt v5 0 (slotV (s1, s2)))) (by kernel_rfl) ⟨below_at (Below.refl _ _).drew d5, rk, r5⟩ (fun hHeld => ?_)
          simp only [Act.put, List.size_toArray, List.length_cons, List.length_nil, Nat.zero_add]
          refine wG9 0 (.pointer (some ⟨kb, 5, none⟩)) rfl hHeld ?_
          simp only [Act.put,gA9,gZ9,gC9,sA9,sZ9,sC9]
          refine wX9 1 (.slice (some ⟨b', off', none⟩) sn f.sc) rfl (Or.inl ⟨by rfl, fun w' hS => by (obtain ⟨t5, tk, tv⟩ := hS; go_simp)⟩) hHeld ?_
          simp only [Act.put,gA9,gZ9,gC9,sA9,sZ9,sC9]
          refine wG9 2 (.int .i64 (k : Int)) rfl hHeld ?_
          simp only [Act.put,gA9,gZ9,gC9,sA9,sZ9,sC9]
          refine wG9 3 (.pointer (some ⟨b', off' + k * 2, none⟩)) rfl hHeld ?_
          simp only [Act.put,gA9,gZ9,gC9,sA9,sZ9,sC9]
          refine wpAnyH_take (i := 4) (v := .agg (slotV u).toArray) rfl (by kernel_rfl) (by kernel_rfl) (by kernel_rfl) (fun _ _ _ h => h) (yieldsIf_load_mid (by rfl) 76 (.tmp 99) rfl b' (off' + k * 2) (by rfl) (slotV u) _ (fun w' hS => hS.2.1) Try.underlying76 rfl info_slot) hHeld ?_
          simp only [Act.put,gA9,gZ9,gC9,sA9,sZ9,sC9]
          refine wpAnyH_take (i := 5) (v := .agg (slotV (s1, s2)).toArray) rfl (by kernel_rfl) (by kernel_rfl) (by kernel_rfl) (fun _ _ _ h => h) (yieldsIf_load_mid (by rfl) 76 (.tmp 5) rfl v5 (0) (by rfl) (slotV (s1, s2)) _ (fun w' hS => hS.2.2) Try.underlying76 rfl info_slot) hHeld ?_
          simp only [Act.put,gA9,gZ9,gC9,sA9,sZ9,sC9]
          refine wX9 6 (.bool true) rfl (Or.inl ⟨by rfl, fun w' hS => run_eqlop 76 (.tmp 100) (.tmp 101) 76 rfl _ _ (by rfl) (by rfl) guard_slot true (HEq.out _)⟩) hHeld ?_
          simp only [Act.put,gA9,gZ9,gC9,sA9,sZ9,sC9]
          refine wpAnyH_done (by kernel_rfl) ?_ _
          clear hHeld
          go_wp2
          go_ret
          exact ⟨congrArg (fun b => Ending.returned (.bool b)) (Hno.out (fun h => by rw [Hbad.out (.inr Hd2.out)] at h; cases h.2.2.2.2)).symm, by rw [Hkb.out]; exact HBw.out.drew⟩
         ·rw [decide_eq_false hu] at HEq
          have Hd2 : Hid (∀ m, m < k + 1 → f.c.sl.getD m z2 ≠ (s1, s2)) := Hnx.out hu
          clear hu
          go_wp2_with (fail)
          refine wp_region_held_drew (S := (fun w' => w'.cell? ⟨kb, 5, none⟩ = some (.slice (some ⟨b', off', none⟩) sn f.sc) ∧ w'.rangeAt b' (off' + k * 2) (slotV u) ∧ w'.rangeAt v5 0 (slotV (s1, s2)))) (by kernel_rfl) ⟨below_at (Below.refl _ _).drew d5, rk, r5⟩ (fun hHeld => ?_)
          simp only [Act.put, List.size_toArray, List.length_cons, List.length_nil, Nat.zero_add]
          refine wG9 0 (.pointer (some ⟨kb, 5, none⟩)) rfl hHeld ?_
          simp only [Act.put,gA9,gZ9,gC9,sA9,sZ9,sC9]
          refine wX9 1 (.slice (some ⟨b', off', none⟩) sn f.sc) rfl (Or.inl ⟨by rfl, fun w' hS => by (obtain ⟨t5, tk, tv⟩ := hS; go_simp)⟩) hHeld ?_
          simp only [Act.put,gA9,gZ9,gC9,sA9,sZ9,sC9]
          refine wG9 2 (.int .i64 (k : Int)) rfl hHeld ?_
          simp only [Act.put,gA9,gZ9,gC9,sA9,sZ9,sC9]
          refine wG9 3 (.pointer (some ⟨b', off' + k * 2, none⟩)) rfl hHeld ?_
          simp only [Act.put,gA9,gZ9,gC9,sA9,sZ9,sC9]
          refine wpAnyH_take (i := 4) (v := .agg (slotV u).toArray) rfl (by kernel_rfl) (by kernel_rfl) (by kernel_rfl) (fun _ _ _ h => h) (yieldsIf_load_mid (by rfl) 76 (.tmp 99) rfl b' (off' + k * 2) (by rfl) (slotV u) _ (fun w' hS => hS.2.1) Try.underlying76 rfl info_slot) hHeld ?_
          simp only [Act.put,gA9,gZ9,gC9,sA9,sZ9,sC9]
          refine wpAnyH_take (i := 5) (v := .agg (slotV (s1, s2)).toArray) rfl (by kernel_rfl) (by kernel_rfl) (by kernel_rfl) (fun _ _ _ h => h) (yieldsIf_load_mid (by rfl) 76 (.tmp 5) rfl v5 (0) (by rfl) (slotV (s1, s2)) _ (fun w' hS => hS.2.2) Try.underlying76 rfl info_slot) hHeld ?_
          simp only [Act.put,gA9,gZ9,gC9,sA9,sZ9,sC9]
          refine wX9 6 (.bool false) rfl (Or.inl ⟨by rfl, fun w' hS => run_eqlop 76 (.tmp 100) (.tmp 101) 76 rfl _ _ (by rfl) (by rfl) guard_slot false (HEq.out _)⟩) hHeld ?_
          simp only [Act.put,gA9,gZ9,gC9,sA9,sZ9,sC9]
          refine wpAnyH_done (by kernel_rfl) ?_ _
          clear hHeld
          go_wp2
          exact ⟨⟨k + 1, by omega, by go_num, Hd2.out, HBk.out.drew⟩, by simp [intOf]; omega⟩
        ·obtain rfl : j = k := by omega
         have hnw : newB f.c.sl j = true := by
          rw [Hnew.out, List.all_eq_true]
          intro m hm
          exact decide_eq_true (HNe.out m (List.mem_range.1 hm))
         have Hnx : Hid (SlK hn f.c.sl (j + 1)) := Hok.out Hq.out hnw
         clear hnw
         go_wp2
         exact ⟨⟨j + 1, by omega, by go_num, Hnx.out, HBw.out, HCk.out⟩, by simp [intOf]; omega⟩
     ·obtain rfl : sn = j := by omega
      have Hss : Hid (slotsB hn f.c.sl = true) := slK_yes (by rw [Hsn.out]; exact HK.out)
      go_wp2
      go_ret
      exact ⟨congrArg (fun b => Ending.returned (.bool b)) (Hyes.out ⟨by first | rfl | trivial, ⟨h1, h2, h3⟩, ⟨h4, h5⟩, Hhv.out, Hss.out⟩).symm, by rw [Hkb.out]; exact HB.out⟩
end
end Go.Proofs.Ytobaooebjgoaiaa.Fm
