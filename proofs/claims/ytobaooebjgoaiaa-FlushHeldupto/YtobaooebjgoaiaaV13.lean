import Derived.Test.YtobaooebjgoaiaaV10
import Derived.Test.YtobaooebjgoaiaaV11
import Derived.Test.YtobaooebjgoaiaaV12
namespace Go.Proofs.Ytobaooebjgoaiaa.Fm
open Go.RowKit Go.Maps Mb
set_option linter.unusedVariables false
set_option maxRecDepth 100000
set_option linter.unusedSimpArgs false
section
variable {w w' W : World} {B : Nat}
def lenS (f : Co) : Bool := decide ((f.sl.length : Int) ≤ min 128 (4611686018427387904 - f.base))
theorem sound_eq (f : Co) : sound f = (wholeI f.id && inR 0 4611686018427387904 f.base && lenS f && inR 1 16 f.hv.length && havesB f.hv && slotsB f.hv.length f.sl) := by
 unfold sound lensB lenS
 rw [Bool.eq_iff_iff]
 simp only [Bool.and_eq_true, inR, decide_eq_true_eq]
 constructor
 ·rintro ⟨⟨⟨h1, ⟨⟨⟨h2, h3⟩, h4, h5⟩, h6, h7⟩, h8⟩, h9⟩, h10⟩
  exact ⟨⟨⟨⟨⟨h1, h6, h7⟩, by omega⟩, h2, h3⟩, h9⟩, h10⟩
 ·rintro ⟨⟨⟨⟨⟨h1, h6, h7⟩, h8⟩, h2, h3⟩, h9⟩, h10⟩
  exact ⟨⟨⟨h1, ⟨⟨⟨h2, h3⟩, by omega, by omega⟩, h6, h7⟩, by omega⟩, h9⟩, h10⟩
theorem id_range {f : Fl} {k : Nat} (h : W.heap[k]? = some (.cells f.cs.toArray 28 (0, 0))) : W.rangeAt k 0 f.c.id.cs := fun j v hv => by
 have := blk_range h j v
 match j, hv with
 | 0, hv => exact this hv
 | 1, hv => exact this hv
 | 2, hv => exact this hv
 | 3, hv => exact this hv
 | j + 4, hv => cases hv
set_option maxHeartbeats 8000000 in
theorem isSound_any {f : Fl} (hf : f.Rd w) : Calls Try.prog 58 #[.agg f.cs.toArray] w fun e w' => e = .returned (.bool (sound f.c)) ∧ Below w.heap.size w w' := by
 generalize hW1 : w.alloc (.cells f.cs.toArray 28) = W1
 have b1 : Below w.heap.size w W1 := hW1 ▸ balloc (Below.refl _ _)
 have k1 : W1.heap[w.heap.size]? = some (.cells f.cs.toArray 28 (0, 0)) := by rw [← hW1]; exact heap_alloc_new w _
 have HF : Hid (f.Rd W1) := hf.still b1
 have HR : Hid (W1.rangeAt w.heap.size 0 f.c.id.cs) := id_range k1
 have HB : Hid (Below w.heap.size w W1) := b1
 have c4 : Hid (W1.cell? ⟨w.heap.size, 4, none⟩ = some (.int .i64 f.c.base)) := blk_cell k1 4
 have c5 : Hid (W1.cell? ⟨w.heap.size, 5, none⟩ = some (.slice f.sa f.c.sl.length f.sc)) := blk_cell k1 5
 have c6 : Hid (W1.cell? ⟨w.heap.size, 6, none⟩ = some (.slice f.ha f.c.hv.length f.hc)) := blk_cell k1 6
 have Hlt : Hid (∀ V, Below W1.heap.size W1 V → V.cell? ⟨w.heap.size, 4, none⟩ = some (.int .i64 f.c.base) ∧ V.cell? ⟨w.heap.size, 5, none⟩ = some (.slice f.sa f.c.sl.length f.sc) ∧ V.cell? ⟨w.heap.size, 6, none⟩ = some (.slice f.ha f.c.hv.length f.hc)) := fun V hV => ⟨below_at hV c4.out, below_at hV c5.out, below_at hV c6.out⟩
 have Hw : Hid (∀ V b, wholeI f.c.id = b → Calls Try.prog 72 #[.agg f.c.id.cs.toArray] V fun e w' => e = .returned (.bool b) ∧ Below V.heap.size V w') := fun V b hb => by rw [← hb]; exact isWhole_any _
 have Hn : Hid (∀ V x b, inR 0 4611686018427387904 x = b → Calls Try.prog 71 #[.int .i64 x] V fun e w' => e = .returned (.bool (!b)) ∧ w' = V) := fun V x b hb => by rw [← hb]; exact noCount_any _
 have HW : Hid (∀ V x lo hi b, inR lo hi x = b → Calls Try.prog 29 #[.int .i64 x, .int .i64 lo, .int .i64 hi] V fun e w' => e = .returned (.bool b) ∧ w' = V) := fun V x lo hi b hb => by rw [← hb]; exact within_any x lo hi
 have Hh : Hid (∀ V b, Below W1.heap.size W1 V → havesB f.c.hv = b → Calls Try.prog 73 #[.slice f.ha f.c.hv.length f.hc, .func (.func 71) #[] #[]] V fun e w' => e = .returned (.bool (!b)) ∧ w' = V) := fun V b hV hb => by rw [← hb]; exact hasI_any (HF.out.h.still hV) HF.out.hn
 have Hs : Hid (∀ V b, Below W1.heap.size W1 V → f.c.sl.length ≤ 128 → slotsB f.c.hv.length f.c.sl = b → Calls Try.prog 74 #[.slice f.sa f.c.sl.length f.sc, .int .i64 f.c.hv.length] V fun e w' => e = .returned (.bool b) ∧ Below V.heap.size V w') := fun V b hV h128 hb => by rw [← hb]; exact areSlots_any (HF.out.s.still hV) h128 HF.out.r _ HF.out.hn
 have Heq : Hid (sound f.c = (wholeI f.c.id && inR 0 4611686018427387904 f.c.base && lenS f.c && inR 1 16 f.c.hv.length && havesB f.c.hv && slotsB f.c.hv.length f.c.sl)) := sound_eq f.c
 have Hl : Hid (lenS f.c = decide ((f.c.sl.length : Int) ≤ min 128 (4611686018427387904 - f.c.base))) := rfl
 have Hrb : Hid (i64B f.c.base) := hf.b
 have Hid4 : Hid (f.c.id.cs.length = 4) := rfl
 generalize hpc : f.cs.toArray = pc at *
 clear b1 k1 hpc hf HF c4 c5 c6
 generalize hsl : f.c.sl.length = sn at *
 generalize hhl : f.c.hv.length = hn at *
 generalize hbs : f.c.base = bs at *
 generalize hic : f.c.id.cs = ic at *
 generalize hG1 : wholeI f.c.id = g1 at *
 generalize hG2 : inR 0 4611686018427387904 bs = g2 at *
 generalize hG3 : lenS f.c = g3 at *
 generalize hG4 : inR 1 16 (hn : Int) = g4 at *
 generalize hG5 : havesB f.c.hv = g5 at *
 generalize hG6 : slotsB hn f.c.sl = g6 at *
 generalize sound f.c = g at *
 have G2 : Hid (inR 0 4611686018427387904 bs = g2) := hG2
 have G4 : Hid (inR 1 16 (hn : Int) = g4) := hG4
 clear hG1 hG2 hG3 hG4 hG5 hG6 hbs hic
 cases g1 with
 | false =>
  go_enter Try.func58, Try.ntmps58
  go_wp2_with (first | (refine wl_at 4 rfl ?_) | fail)
  refine wT9 ?_
  simp only [Act.put,gA9,gZ9,gC9,sA9,sZ9,sC9]
  refine wl_load 24 (.tmp 4) HR.out _ Try.underlying24 rfl (by rw [Hid4.out]; exact info_id) rfl rfl (by kernel_rfl) ?_
  simp only [Act.put,gA9,gZ9,gC9,sA9,sZ9,sC9]
  refine wl_step (by kernel_rfl) fun K hK => ?_
  go_simp
  refine (Hw.out _ _ rfl).mono ?_
  rintro e V ⟨rfl, hV⟩
  have HV : Hid (Below W1.heap.size W1 V) := hV
  clear hV
  obtain ⟨d4, d5, d6⟩ := Hlt.out V HV.out
  refine hK _ _ ?_
  clear hK K
  try (simp only [Act.put,gA9,gZ9,gC9,sA9,sZ9,sC9])
  refine wT9 ?_
  simp only [Act.put,gA9,gZ9,gC9,sA9,sZ9,sC9]
  refine wS9' ?_
  simp only [Act.put,gA9,gZ9,gC9,sA9,sZ9,sC9]
  refine wS9' ?_
  simp only [Act.put,gA9,gZ9,gC9,sA9,sZ9,sC9]
  refine wS9' ?_
  simp only [Act.put,gA9,gZ9,gC9,sA9,sZ9,sC9]
  refine wS9' ?_
  simp only [Act.put,gA9,gZ9,gC9,sA9,sZ9,sC9]
  refine wS9' ?_
  simp only [Act.put,gA9,gZ9,gC9,sA9,sZ9,sC9]
  refine wT9 ?_
  simp only [Act.put,gA9,gZ9,gC9,sA9,sZ9,sC9]
  refine wT9 ?_
  simp only [Act.put,gA9,gZ9,gC9,sA9,sZ9,sC9]
  refine wS9' ?_
  simp only [Act.put,gA9,gZ9,gC9,sA9,sZ9,sC9]
  refine wS9' ?_
  simp only [Act.put,gA9,gZ9,gC9,sA9,sZ9,sC9]
  refine wS9' ?_
  simp only [Act.put,gA9,gZ9,gC9,sA9,sZ9,sC9]
  refine wS9' ?_
  simp only [Act.put,gA9,gZ9,gC9,sA9,sZ9,sC9]
  refine wS9' ?_
  simp only [Act.put,gA9,gZ9,gC9,sA9,sZ9,sC9]
  refine wS9' ?_
  simp only [Act.put,gA9,gZ9,gC9,sA9,sZ9,sC9]
  refine wS9' ?_
  simp only [Act.put,gA9,gZ9,gC9,sA9,sZ9,sC9]
  refine wS9' ?_
  simp only [Act.put,gA9,gZ9,gC9,sA9,sZ9,sC9]
  refine wT9 ?_
  simp only [Act.put,gA9,gZ9,gC9,sA9,sZ9,sC9]
  refine wT9 ?_
  simp only [Act.put,gA9,gZ9,gC9,sA9,sZ9,sC9]
  refine wS9' ?_
  simp only [Act.put,gA9,gZ9,gC9,sA9,sZ9,sC9]
  refine wS9' ?_
  simp only [Act.put,gA9,gZ9,gC9,sA9,sZ9,sC9]
  refine wS9' ?_
  simp only [Act.put,gA9,gZ9,gC9,sA9,sZ9,sC9]
  refine wS9' ?_
  simp only [Act.put,gA9,gZ9,gC9,sA9,sZ9,sC9]
  refine wT9 ?_
  simp only [Act.put,gA9,gZ9,gC9,sA9,sZ9,sC9]
  refine wT9 ?_
  simp only [Act.put,gA9,gZ9,gC9,sA9,sZ9,sC9]
  refine wS9' ?_
  simp only [Act.put,gA9,gZ9,gC9,sA9,sZ9,sC9]
  refine wS9' ?_
  simp only [Act.put,gA9,gZ9,gC9,sA9,sZ9,sC9]
  refine wS9' ?_
  simp only [Act.put,gA9,gZ9,gC9,sA9,sZ9,sC9]
  refine wS9' ?_
  simp only [Act.put,gA9,gZ9,gC9,sA9,sZ9,sC9]
  refine wS9' ?_
  simp only [Act.put,gA9,gZ9,gC9,sA9,sZ9,sC9]
  refine wT9 ?_
  simp only [Act.put,gA9,gZ9,gC9,sA9,sZ9,sC9]
  refine wT9 ?_
  simp only [Act.put,gA9,gZ9,gC9,sA9,sZ9,sC9]
  refine wS9' ?_
  simp only [Act.put,gA9,gZ9,gC9,sA9,sZ9,sC9]
  refine wS9' ?_
  simp only [Act.put,gA9,gZ9,gC9,sA9,sZ9,sC9]
  refine wS9' ?_
  simp only [Act.put,gA9,gZ9,gC9,sA9,sZ9,sC9]
  refine wS9' ?_
  simp only [Act.put,gA9,gZ9,gC9,sA9,sZ9,sC9]
  refine wS9' ?_
  simp only [Act.put,gA9,gZ9,gC9,sA9,sZ9,sC9]
  refine wS9' ?_
  simp only [Act.put,gA9,gZ9,gC9,sA9,sZ9,sC9]
  refine wT9 ?_
  simp only [Act.put,gA9,gZ9,gC9,sA9,sZ9,sC9]
  refine wT9 ?_
  simp only [Act.put,gA9,gZ9,gC9,sA9,sZ9,sC9]
  refine ⟨?_⟩
  go_wp2
  go_ret
  exact ⟨congrArg (fun b => Ending.returned (.bool b)) (Heq.out.trans (by simp)).symm, bstep HB.out HV.out⟩
 | true =>
  cases g2 with
  | false =>
   go_enter Try.func58, Try.ntmps58
   go_wp2_with (first | (refine wl_at 4 rfl ?_) | fail)
   refine wT9 ?_
   simp only [Act.put,gA9,gZ9,gC9,sA9,sZ9,sC9]
   refine wl_load 24 (.tmp 4) HR.out _ Try.underlying24 rfl (by rw [Hid4.out]; exact info_id) rfl rfl (by kernel_rfl) ?_
   simp only [Act.put,gA9,gZ9,gC9,sA9,sZ9,sC9]
   refine wl_step (by kernel_rfl) fun K hK => ?_
   go_simp
   refine (Hw.out _ _ rfl).mono ?_
   rintro e V ⟨rfl, hV⟩
   have HV : Hid (Below W1.heap.size W1 V) := hV
   clear hV
   obtain ⟨d4, d5, d6⟩ := Hlt.out V HV.out
   refine hK _ _ ?_
   clear hK K
   try (simp only [Act.put,gA9,gZ9,gC9,sA9,sZ9,sC9])
   refine wT9 ?_
   simp only [Act.put,gA9,gZ9,gC9,sA9,sZ9,sC9]
   refine wT9 ?_
   simp only [Act.put,gA9,gZ9,gC9,sA9,sZ9,sC9]
   refine wT9 ?_
   simp only [Act.put,gA9,gZ9,gC9,sA9,sZ9,sC9]
   refine wT9 ?_
   simp only [Act.put,gA9,gZ9,gC9,sA9,sZ9,sC9]
   refine wl_step (by kernel_rfl) fun K hK => ?_
   go_simp
   refine (Hn.out _ _ _ G2.out).mono ?_
   rintro e V2 ⟨rfl, rfl⟩
   refine hK _ _ ?_
   clear hK K
   try (simp only [Act.put,gA9,gZ9,gC9,sA9,sZ9,sC9])
   refine wT9 ?_
   simp only [Act.put,gA9,gZ9,gC9,sA9,sZ9,sC9]
   refine wT9 ?_
   simp only [Act.put,gA9,gZ9,gC9,sA9,sZ9,sC9]
   refine wT9 ?_
   simp only [Act.put,gA9,gZ9,gC9,sA9,sZ9,sC9]
   refine wS9' ?_
   simp only [Act.put,gA9,gZ9,gC9,sA9,sZ9,sC9]
   refine wS9' ?_
   simp only [Act.put,gA9,gZ9,gC9,sA9,sZ9,sC9]
   refine wS9' ?_
   simp only [Act.put,gA9,gZ9,gC9,sA9,sZ9,sC9]
   refine wS9' ?_
   simp only [Act.put,gA9,gZ9,gC9,sA9,sZ9,sC9]
   refine wS9' ?_
   simp only [Act.put,gA9,gZ9,gC9,sA9,sZ9,sC9]
   refine wS9' ?_
   simp only [Act.put,gA9,gZ9,gC9,sA9,sZ9,sC9]
   refine wS9' ?_
   simp only [Act.put,gA9,gZ9,gC9,sA9,sZ9,sC9]
   refine wS9' ?_
   simp only [Act.put,gA9,gZ9,gC9,sA9,sZ9,sC9]
   refine wT9 ?_
   simp only [Act.put,gA9,gZ9,gC9,sA9,sZ9,sC9]
   refine wT9 ?_
   simp only [Act.put,gA9,gZ9,gC9,sA9,sZ9,sC9]
   refine wS9' ?_
   simp only [Act.put,gA9,gZ9,gC9,sA9,sZ9,sC9]
   refine wS9' ?_
   simp only [Act.put,gA9,gZ9,gC9,sA9,sZ9,sC9]
   refine wS9' ?_
   simp only [Act.put,gA9,gZ9,gC9,sA9,sZ9,sC9]
   refine wS9' ?_
   simp only [Act.put,gA9,gZ9,gC9,sA9,sZ9,sC9]
   refine wT9 ?_
   simp only [Act.put,gA9,gZ9,gC9,sA9,sZ9,sC9]
   refine wT9 ?_
   simp only [Act.put,gA9,gZ9,gC9,sA9,sZ9,sC9]
   refine wS9' ?_
   simp only [Act.put,gA9,gZ9,gC9,sA9,sZ9,sC9]
   refine wS9' ?_
   simp only [Act.put,gA9,gZ9,gC9,sA9,sZ9,sC9]
   refine wS9' ?_
   simp only [Act.put,gA9,gZ9,gC9,sA9,sZ9,sC9]
   refine wS9' ?_
   simp only [Act.put,gA9,gZ9,gC9,sA9,sZ9,sC9]
   refine wS9' ?_
   simp only [Act.put,gA9,gZ9,gC9,sA9,sZ9,sC9]
   refine wT9 ?_
   simp only [Act.put,gA9,gZ9,gC9,sA9,sZ9,sC9]
   refine wT9 ?_
   simp only [Act.put,gA9,gZ9,gC9,sA9,sZ9,sC9]
   refine wS9' ?_
   simp only [Act.put,gA9,gZ9,gC9,sA9,sZ9,sC9]
   refine wS9' ?_
   simp only [Act.put,gA9,gZ9,gC9,sA9,sZ9,sC9]
   refine wS9' ?_
   simp only [Act.put,gA9,gZ9,gC9,sA9,sZ9,sC9]
   refine wS9' ?_
   simp only [Act.put,gA9,gZ9,gC9,sA9,sZ9,sC9]
   refine wS9' ?_
   simp only [Act.put,gA9,gZ9,gC9,sA9,sZ9,sC9]
   refine wS9' ?_
   simp only [Act.put,gA9,gZ9,gC9,sA9,sZ9,sC9]
   refine wT9 ?_
   simp only [Act.put,gA9,gZ9,gC9,sA9,sZ9,sC9]
   refine wT9 ?_
   simp only [Act.put,gA9,gZ9,gC9,sA9,sZ9,sC9]
   refine ⟨?_⟩
   go_wp2
   go_ret
   exact ⟨congrArg (fun b => Ending.returned (.bool b)) (Heq.out.trans (by simp)).symm, bstep HB.out HV.out⟩
  | true =>
   cases g3 with
   | false =>
    have hb2 : 0 ≤ bs ∧ bs ≤ 4611686018427387904 := by have := G2.out; simp [inR] at this; exact this
    go_enter Try.func58, Try.ntmps58
    go_wp2_with (first | (refine wl_at 4 rfl ?_) | fail)
    refine wT9 ?_
    simp only [Act.put,gA9,gZ9,gC9,sA9,sZ9,sC9]
    refine wl_load 24 (.tmp 4) HR.out _ Try.underlying24 rfl (by rw [Hid4.out]; exact info_id) rfl rfl (by kernel_rfl) ?_
    simp only [Act.put,gA9,gZ9,gC9,sA9,sZ9,sC9]
    refine wl_step (by kernel_rfl) fun K hK => ?_
    go_simp
    refine (Hw.out _ _ rfl).mono ?_
    rintro e V ⟨rfl, hV⟩
    have HV : Hid (Below W1.heap.size W1 V) := hV
    clear hV
    obtain ⟨d4, d5, d6⟩ := Hlt.out V HV.out
    refine hK _ _ ?_
    clear hK K
    try (simp only [Act.put,gA9,gZ9,gC9,sA9,sZ9,sC9])
    refine wT9 ?_
    simp only [Act.put,gA9,gZ9,gC9,sA9,sZ9,sC9]
    refine wT9 ?_
    simp only [Act.put,gA9,gZ9,gC9,sA9,sZ9,sC9]
    refine wT9 ?_
    simp only [Act.put,gA9,gZ9,gC9,sA9,sZ9,sC9]
    refine wT9 ?_
    simp only [Act.put,gA9,gZ9,gC9,sA9,sZ9,sC9]
    refine wl_step (by kernel_rfl) fun K hK => ?_
    go_simp
    refine (Hn.out _ _ _ G2.out).mono ?_
    rintro e V2 ⟨rfl, rfl⟩
    refine hK _ _ ?_
    clear hK K
    try (simp only [Act.put,gA9,gZ9,gC9,sA9,sZ9,sC9])
    refine wT9 ?_
    simp only [Act.put,gA9,gZ9,gC9,sA9,sZ9,sC9]
    refine wT9 ?_
    simp only [Act.put,gA9,gZ9,gC9,sA9,sZ9,sC9]
    refine wT9 ?_
    simp only [Act.put,gA9,gZ9,gC9,sA9,sZ9,sC9]
    refine wT9 ?_
    simp only [Act.put,gA9,gZ9,gC9,sA9,sZ9,sC9]
    refine wT9 ?_
    simp only [Act.put,gA9,gZ9,gC9,sA9,sZ9,sC9]
    refine wT9 ?_
    simp only [Act.put,gA9,gZ9,gC9,sA9,sZ9,sC9]
    refine wT9 ?_
    simp only [Act.put,gA9,gZ9,gC9,sA9,sZ9,sC9]
    refine wT9 ?_
    simp only [Act.put,gA9,gZ9,gC9,sA9,sZ9,sC9]
    refine wl_take (v := .int .i64 (4611686018427387904 - bs)) (by kernel_rfl) (by go_simp; exact wrap_id (by omega) (by omega)) ?_
    simp only [Act.put,gA9,gZ9,gC9,sA9,sZ9,sC9]
    refine wl_take (v := .int .i64 (min 128 (4611686018427387904 - bs))) (by kernel_rfl) (by go_simp; split <;> first | omega | (congr 1; omega)) ?_
    simp only [Act.put,gA9,gZ9,gC9,sA9,sZ9,sC9]
    refine wl_take (v := .bool false) (by kernel_rfl) (by go_simp; have hq := Hl.out.symm; simp only [decide_eq_true_eq, decide_eq_false_iff_not] at hq; omega) ?_
    simp only [Act.put,gA9,gZ9,gC9,sA9,sZ9,sC9]
    refine wT9 ?_
    simp only [Act.put,gA9,gZ9,gC9,sA9,sZ9,sC9]
    refine wT9 ?_
    simp only [Act.put,gA9,gZ9,gC9,sA9,sZ9,sC9]
    refine wS9' ?_
    simp only [Act.put,gA9,gZ9,gC9,sA9,sZ9,sC9]
    refine wS9' ?_
    simp only [Act.put,gA9,gZ9,gC9,sA9,sZ9,sC9]
    refine wS9' ?_
    simp only [Act.put,gA9,gZ9,gC9,sA9,sZ9,sC9]
    refine wS9' ?_
    simp only [Act.put,gA9,gZ9,gC9,sA9,sZ9,sC9]
    refine wT9 ?_
    simp only [Act.put,gA9,gZ9,gC9,sA9,sZ9,sC9]
    refine wT9 ?_
    simp only [Act.put,gA9,gZ9,gC9,sA9,sZ9,sC9]
    refine wS9' ?_
    simp only [Act.put,gA9,gZ9,gC9,sA9,sZ9,sC9]
    refine wS9' ?_
    simp only [Act.put,gA9,gZ9,gC9,sA9,sZ9,sC9]
    refine wS9' ?_
    simp only [Act.put,gA9,gZ9,gC9,sA9,sZ9,sC9]
    refine wS9' ?_
    simp only [Act.put,gA9,gZ9,gC9,sA9,sZ9,sC9]
    refine wS9' ?_
    simp only [Act.put,gA9,gZ9,gC9,sA9,sZ9,sC9]
    refine wT9 ?_
    simp only [Act.put,gA9,gZ9,gC9,sA9,sZ9,sC9]
    refine wT9 ?_
    simp only [Act.put,gA9,gZ9,gC9,sA9,sZ9,sC9]
    refine wS9' ?_
    simp only [Act.put,gA9,gZ9,gC9,sA9,sZ9,sC9]
    refine wS9' ?_
    simp only [Act.put,gA9,gZ9,gC9,sA9,sZ9,sC9]
    refine wS9' ?_
    simp only [Act.put,gA9,gZ9,gC9,sA9,sZ9,sC9]
    refine wS9' ?_
    simp only [Act.put,gA9,gZ9,gC9,sA9,sZ9,sC9]
    refine wS9' ?_
    simp only [Act.put,gA9,gZ9,gC9,sA9,sZ9,sC9]
    refine wS9' ?_
    simp only [Act.put,gA9,gZ9,gC9,sA9,sZ9,sC9]
    refine wT9 ?_
    simp only [Act.put,gA9,gZ9,gC9,sA9,sZ9,sC9]
    refine wT9 ?_
    simp only [Act.put,gA9,gZ9,gC9,sA9,sZ9,sC9]
    refine ⟨?_⟩
    go_wp2
    go_ret
    exact ⟨congrArg (fun b => Ending.returned (.bool b)) (Heq.out.trans (by simp)).symm, bstep HB.out HV.out⟩
   | true =>
    cases g4 with
    | false =>
     have hb2 : 0 ≤ bs ∧ bs ≤ 4611686018427387904 := by have := G2.out; simp [inR] at this; exact this
     have h128 : sn ≤ 128 := by have := of_decide_eq_true Hl.out.symm; omega
     go_enter Try.func58, Try.ntmps58
     go_wp2_with (first | (refine wl_at 4 rfl ?_) | fail)
     refine wT9 ?_
     simp only [Act.put,gA9,gZ9,gC9,sA9,sZ9,sC9]
     refine wl_load 24 (.tmp 4) HR.out _ Try.underlying24 rfl (by rw [Hid4.out]; exact info_id) rfl rfl (by kernel_rfl) ?_
     simp only [Act.put,gA9,gZ9,gC9,sA9,sZ9,sC9]
     refine wl_step (by kernel_rfl) fun K hK => ?_
     go_simp
     refine (Hw.out _ _ rfl).mono ?_
     rintro e V ⟨rfl, hV⟩
     have HV : Hid (Below W1.heap.size W1 V) := hV
     clear hV
     obtain ⟨d4, d5, d6⟩ := Hlt.out V HV.out
     refine hK _ _ ?_
     clear hK K
     try (simp only [Act.put,gA9,gZ9,gC9,sA9,sZ9,sC9])
     refine wT9 ?_
     simp only [Act.put,gA9,gZ9,gC9,sA9,sZ9,sC9]
     refine wT9 ?_
     simp only [Act.put,gA9,gZ9,gC9,sA9,sZ9,sC9]
     refine wT9 ?_
     simp only [Act.put,gA9,gZ9,gC9,sA9,sZ9,sC9]
     refine wT9 ?_
     simp only [Act.put,gA9,gZ9,gC9,sA9,sZ9,sC9]
     refine wl_step (by kernel_rfl) fun K hK => ?_
     go_simp
     refine (Hn.out _ _ _ G2.out).mono ?_
     rintro e V2 ⟨rfl, rfl⟩
     refine hK _ _ ?_
     clear hK K
     try (simp only [Act.put,gA9,gZ9,gC9,sA9,sZ9,sC9])
     refine wT9 ?_
     simp only [Act.put,gA9,gZ9,gC9,sA9,sZ9,sC9]
     refine wT9 ?_
     simp only [Act.put,gA9,gZ9,gC9,sA9,sZ9,sC9]
     refine wT9 ?_
     simp only [Act.put,gA9,gZ9,gC9,sA9,sZ9,sC9]
     refine wT9 ?_
     simp only [Act.put,gA9,gZ9,gC9,sA9,sZ9,sC9]
     refine wT9 ?_
     simp only [Act.put,gA9,gZ9,gC9,sA9,sZ9,sC9]
     refine wT9 ?_
     simp only [Act.put,gA9,gZ9,gC9,sA9,sZ9,sC9]
     refine wT9 ?_
     simp only [Act.put,gA9,gZ9,gC9,sA9,sZ9,sC9]
     refine wT9 ?_
     simp only [Act.put,gA9,gZ9,gC9,sA9,sZ9,sC9]
     refine wl_take (v := .int .i64 (4611686018427387904 - bs)) (by kernel_rfl) (by go_simp; exact wrap_id (by omega) (by omega)) ?_
     simp only [Act.put,gA9,gZ9,gC9,sA9,sZ9,sC9]
     refine wl_take (v := .int .i64 (min 128 (4611686018427387904 - bs))) (by kernel_rfl) (by go_simp; split <;> first | omega | (congr 1; omega)) ?_
     simp only [Act.put,gA9,gZ9,gC9,sA9,sZ9,sC9]
     refine wl_take (v := .bool true) (by kernel_rfl) (by go_simp; have hq := Hl.out.symm; simp only [decide_eq_true_eq, decide_eq_false_iff_not] at hq; omega) ?_
     simp only [Act.put,gA9,gZ9,gC9,sA9,sZ9,sC9]
     refine wT9 ?_
     simp only [Act.put,gA9,gZ9,gC9,sA9,sZ9,sC9]
     refine wT9 ?_
     simp only [Act.put,gA9,gZ9,gC9,sA9,sZ9,sC9]
     refine wT9 ?_
     simp only [Act.put,gA9,gZ9,gC9,sA9,sZ9,sC9]
     refine wT9 ?_
     simp only [Act.put,gA9,gZ9,gC9,sA9,sZ9,sC9]
     refine wT9 ?_
     simp only [Act.put,gA9,gZ9,gC9,sA9,sZ9,sC9]
     refine wl_step (by kernel_rfl) fun K hK => ?_
     go_simp
     refine (HW.out _ _ _ _ _ G4.out).mono ?_
     rintro e V2 ⟨rfl, rfl⟩
     refine hK _ _ ?_
     clear hK K
     try (simp only [Act.put,gA9,gZ9,gC9,sA9,sZ9,sC9])
     refine wT9 ?_
     simp only [Act.put,gA9,gZ9,gC9,sA9,sZ9,sC9]
     refine wT9 ?_
     simp only [Act.put,gA9,gZ9,gC9,sA9,sZ9,sC9]
     refine wS9' ?_
     simp only [Act.put,gA9,gZ9,gC9,sA9,sZ9,sC9]
     refine wS9' ?_
     simp only [Act.put,gA9,gZ9,gC9,sA9,sZ9,sC9]
     refine wS9' ?_
     simp only [Act.put,gA9,gZ9,gC9,sA9,sZ9,sC9]
     refine wS9' ?_
     simp only [Act.put,gA9,gZ9,gC9,sA9,sZ9,sC9]
     refine wS9' ?_
     simp only [Act.put,gA9,gZ9,gC9,sA9,sZ9,sC9]
     refine wT9 ?_
     simp only [Act.put,gA9,gZ9,gC9,sA9,sZ9,sC9]
     refine wT9 ?_
     simp only [Act.put,gA9,gZ9,gC9,sA9,sZ9,sC9]
     refine wS9' ?_
     simp only [Act.put,gA9,gZ9,gC9,sA9,sZ9,sC9]
     refine wS9' ?_
     simp only [Act.put,gA9,gZ9,gC9,sA9,sZ9,sC9]
     refine wS9' ?_
     simp only [Act.put,gA9,gZ9,gC9,sA9,sZ9,sC9]
     refine wS9' ?_
     simp only [Act.put,gA9,gZ9,gC9,sA9,sZ9,sC9]
     refine wS9' ?_
     simp only [Act.put,gA9,gZ9,gC9,sA9,sZ9,sC9]
     refine wS9' ?_
     simp only [Act.put,gA9,gZ9,gC9,sA9,sZ9,sC9]
     refine wT9 ?_
     simp only [Act.put,gA9,gZ9,gC9,sA9,sZ9,sC9]
     refine wT9 ?_
     simp only [Act.put,gA9,gZ9,gC9,sA9,sZ9,sC9]
     refine ⟨?_⟩
     go_wp2
     go_ret
     exact ⟨congrArg (fun b => Ending.returned (.bool b)) (Heq.out.trans (by simp)).symm, bstep HB.out HV.out⟩
    | true =>
     cases g5 with
     | false =>
      have hb2 : 0 ≤ bs ∧ bs ≤ 4611686018427387904 := by have := G2.out; simp [inR] at this; exact this
      have h128 : sn ≤ 128 := by have := of_decide_eq_true Hl.out.symm; omega
      go_enter Try.func58, Try.ntmps58
      go_wp2_with (first | (refine wl_at 4 rfl ?_) | fail)
      refine wT9 ?_
      simp only [Act.put,gA9,gZ9,gC9,sA9,sZ9,sC9]
      refine wl_load 24 (.tmp 4) HR.out _ Try.underlying24 rfl (by rw [Hid4.out]; exact info_id) rfl rfl (by kernel_rfl) ?_
      simp only [Act.put,gA9,gZ9,gC9,sA9,sZ9,sC9]
      refine wl_step (by kernel_rfl) fun K hK => ?_
      go_simp
      refine (Hw.out _ _ rfl).mono ?_
      rintro e V ⟨rfl, hV⟩
      have HV : Hid (Below W1.heap.size W1 V) := hV
      clear hV
      obtain ⟨d4, d5, d6⟩ := Hlt.out V HV.out
      refine hK _ _ ?_
      clear hK K
      try (simp only [Act.put,gA9,gZ9,gC9,sA9,sZ9,sC9])
      refine wT9 ?_
      simp only [Act.put,gA9,gZ9,gC9,sA9,sZ9,sC9]
      refine wT9 ?_
      simp only [Act.put,gA9,gZ9,gC9,sA9,sZ9,sC9]
      refine wT9 ?_
      simp only [Act.put,gA9,gZ9,gC9,sA9,sZ9,sC9]
      refine wT9 ?_
      simp only [Act.put,gA9,gZ9,gC9,sA9,sZ9,sC9]
      refine wl_step (by kernel_rfl) fun K hK => ?_
      go_simp
      refine (Hn.out _ _ _ G2.out).mono ?_
      rintro e V2 ⟨rfl, rfl⟩
      refine hK _ _ ?_
      clear hK K
      try (simp only [Act.put,gA9,gZ9,gC9,sA9,sZ9,sC9])
      refine wT9 ?_
      simp only [Act.put,gA9,gZ9,gC9,sA9,sZ9,sC9]
      refine wT9 ?_
      simp only [Act.put,gA9,gZ9,gC9,sA9,sZ9,sC9]
      refine wT9 ?_
      simp only [Act.put,gA9,gZ9,gC9,sA9,sZ9,sC9]
      refine wT9 ?_
      simp only [Act.put,gA9,gZ9,gC9,sA9,sZ9,sC9]
      refine wT9 ?_
      simp only [Act.put,gA9,gZ9,gC9,sA9,sZ9,sC9]
      refine wT9 ?_
      simp only [Act.put,gA9,gZ9,gC9,sA9,sZ9,sC9]
      refine wT9 ?_
      simp only [Act.put,gA9,gZ9,gC9,sA9,sZ9,sC9]
      refine wT9 ?_
      simp only [Act.put,gA9,gZ9,gC9,sA9,sZ9,sC9]
      refine wl_take (v := .int .i64 (4611686018427387904 - bs)) (by kernel_rfl) (by go_simp; exact wrap_id (by omega) (by omega)) ?_
      simp only [Act.put,gA9,gZ9,gC9,sA9,sZ9,sC9]
      refine wl_take (v := .int .i64 (min 128 (4611686018427387904 - bs))) (by kernel_rfl) (by go_simp; split <;> first | omega | (congr 1; omega)) ?_
      simp only [Act.put,gA9,gZ9,gC9,sA9,sZ9,sC9]
      refine wl_take (v := .bool true) (by kernel_rfl) (by go_simp; have hq := Hl.out.symm; simp only [decide_eq_true_eq, decide_eq_false_iff_not] at hq; omega) ?_
      simp only [Act.put,gA9,gZ9,gC9,sA9,sZ9,sC9]
      refine wT9 ?_
      simp only [Act.put,gA9,gZ9,gC9,sA9,sZ9,sC9]
      refine wT9 ?_
      simp only [Act.put,gA9,gZ9,gC9,sA9,sZ9,sC9]
      refine wT9 ?_
      simp only [Act.put,gA9,gZ9,gC9,sA9,sZ9,sC9]
      refine wT9 ?_
      simp only [Act.put,gA9,gZ9,gC9,sA9,sZ9,sC9]
      refine wT9 ?_
      simp only [Act.put,gA9,gZ9,gC9,sA9,sZ9,sC9]
      refine wl_step (by kernel_rfl) fun K hK => ?_
      go_simp
      refine (HW.out _ _ _ _ _ G4.out).mono ?_
      rintro e V2 ⟨rfl, rfl⟩
      refine hK _ _ ?_
      clear hK K
      try (simp only [Act.put,gA9,gZ9,gC9,sA9,sZ9,sC9])
      refine wT9 ?_
      simp only [Act.put,gA9,gZ9,gC9,sA9,sZ9,sC9]
      refine wT9 ?_
      simp only [Act.put,gA9,gZ9,gC9,sA9,sZ9,sC9]
      refine wT9 ?_
      simp only [Act.put,gA9,gZ9,gC9,sA9,sZ9,sC9]
      refine wT9 ?_
      simp only [Act.put,gA9,gZ9,gC9,sA9,sZ9,sC9]
      refine wT9 ?_
      simp only [Act.put,gA9,gZ9,gC9,sA9,sZ9,sC9]
      refine wl_step (by kernel_rfl) fun K hK => ?_
      go_simp
      refine (Hh.out _ _ HV.out rfl).mono ?_
      rintro e V2 ⟨rfl, rfl⟩
      refine hK _ _ ?_
      clear hK K
      try (simp only [Act.put,gA9,gZ9,gC9,sA9,sZ9,sC9])
      refine wT9 ?_
      simp only [Act.put,gA9,gZ9,gC9,sA9,sZ9,sC9]
      refine wT9 ?_
      simp only [Act.put,gA9,gZ9,gC9,sA9,sZ9,sC9]
      refine wT9 ?_
      simp only [Act.put,gA9,gZ9,gC9,sA9,sZ9,sC9]
      refine wS9' ?_
      simp only [Act.put,gA9,gZ9,gC9,sA9,sZ9,sC9]
      refine wS9' ?_
      simp only [Act.put,gA9,gZ9,gC9,sA9,sZ9,sC9]
      refine wS9' ?_
      simp only [Act.put,gA9,gZ9,gC9,sA9,sZ9,sC9]
      refine wS9' ?_
      simp only [Act.put,gA9,gZ9,gC9,sA9,sZ9,sC9]
      refine wS9' ?_
      simp only [Act.put,gA9,gZ9,gC9,sA9,sZ9,sC9]
      refine wS9' ?_
      simp only [Act.put,gA9,gZ9,gC9,sA9,sZ9,sC9]
      refine wT9 ?_
      simp only [Act.put,gA9,gZ9,gC9,sA9,sZ9,sC9]
      refine wT9 ?_
      simp only [Act.put,gA9,gZ9,gC9,sA9,sZ9,sC9]
      refine ⟨?_⟩
      go_wp2
      go_ret
      exact ⟨congrArg (fun b => Ending.returned (.bool b)) (Heq.out.trans (by simp)).symm, bstep HB.out HV.out⟩
     | true =>
      cases g6 with
      | false =>
       have hb2 : 0 ≤ bs ∧ bs ≤ 4611686018427387904 := by have := G2.out; simp [inR] at this; exact this
       have h128 : sn ≤ 128 := by have := of_decide_eq_true Hl.out.symm; omega
       go_enter Try.func58, Try.ntmps58
       go_wp2_with (first | (refine wl_at 4 rfl ?_) | fail)
       refine wT9 ?_
       simp only [Act.put,gA9,gZ9,gC9,sA9,sZ9,sC9]
       refine wl_load 24 (.tmp 4) HR.out _ Try.underlying24 rfl (by rw [Hid4.out]; exact info_id) rfl rfl (by kernel_rfl) ?_
       simp only [Act.put,gA9,gZ9,gC9,sA9,sZ9,sC9]
       refine wl_step (by kernel_rfl) fun K hK => ?_
       go_simp
       refine (Hw.out _ _ rfl).mono ?_
       rintro e V ⟨rfl, hV⟩
       have HV : Hid (Below W1.heap.size W1 V) := hV
       clear hV
       obtain ⟨d4, d5, d6⟩ := Hlt.out V HV.out
       refine hK _ _ ?_
       clear hK K
       try (simp only [Act.put,gA9,gZ9,gC9,sA9,sZ9,sC9])
       refine wT9 ?_
       simp only [Act.put,gA9,gZ9,gC9,sA9,sZ9,sC9]
       refine wT9 ?_
       simp only [Act.put,gA9,gZ9,gC9,sA9,sZ9,sC9]
       refine wT9 ?_
       simp only [Act.put,gA9,gZ9,gC9,sA9,sZ9,sC9]
       refine wT9 ?_
       simp only [Act.put,gA9,gZ9,gC9,sA9,sZ9,sC9]
       refine wl_step (by kernel_rfl) fun K hK => ?_
       go_simp
       refine (Hn.out _ _ _ G2.out).mono ?_
       rintro e V2 ⟨rfl, rfl⟩
       refine hK _ _ ?_
       clear hK K
       try (simp only [Act.put,gA9,gZ9,gC9,sA9,sZ9,sC9])
       refine wT9 ?_
       simp only [Act.put,gA9,gZ9,gC9,sA9,sZ9,sC9]
       refine wT9 ?_
       simp only [Act.put,gA9,gZ9,gC9,sA9,sZ9,sC9]
       refine wT9 ?_
       simp only [Act.put,gA9,gZ9,gC9,sA9,sZ9,sC9]
       refine wT9 ?_
       simp only [Act.put,gA9,gZ9,gC9,sA9,sZ9,sC9]
       refine wT9 ?_
       simp only [Act.put,gA9,gZ9,gC9,sA9,sZ9,sC9]
       refine wT9 ?_
       simp only [Act.put,gA9,gZ9,gC9,sA9,sZ9,sC9]
       refine wT9 ?_
       simp only [Act.put,gA9,gZ9,gC9,sA9,sZ9,sC9]
       refine wT9 ?_
       simp only [Act.put,gA9,gZ9,gC9,sA9,sZ9,sC9]
       refine wl_take (v := .int .i64 (4611686018427387904 - bs)) (by kernel_rfl) (by go_simp; exact wrap_id (by omega) (by omega)) ?_
       simp only [Act.put,gA9,gZ9,gC9,sA9,sZ9,sC9]
       refine wl_take (v := .int .i64 (min 128 (4611686018427387904 - bs))) (by kernel_rfl) (by go_simp; split <;> first | omega | (congr 1; omega)) ?_
       simp only [Act.put,gA9,gZ9,gC9,sA9,sZ9,sC9]
       refine wl_take (v := .bool true) (by kernel_rfl) (by go_simp; have hq := Hl.out.symm; simp only [decide_eq_true_eq, decide_eq_false_iff_not] at hq; omega) ?_
       simp only [Act.put,gA9,gZ9,gC9,sA9,sZ9,sC9]
       refine wT9 ?_
       simp only [Act.put,gA9,gZ9,gC9,sA9,sZ9,sC9]
       refine wT9 ?_
       simp only [Act.put,gA9,gZ9,gC9,sA9,sZ9,sC9]
       refine wT9 ?_
       simp only [Act.put,gA9,gZ9,gC9,sA9,sZ9,sC9]
       refine wT9 ?_
       simp only [Act.put,gA9,gZ9,gC9,sA9,sZ9,sC9]
       refine wT9 ?_
       simp only [Act.put,gA9,gZ9,gC9,sA9,sZ9,sC9]
       refine wl_step (by kernel_rfl) fun K hK => ?_
       go_simp
       refine (HW.out _ _ _ _ _ G4.out).mono ?_
       rintro e V2 ⟨rfl, rfl⟩
       refine hK _ _ ?_
       clear hK K
       try (simp only [Act.put,gA9,gZ9,gC9,sA9,sZ9,sC9])
       refine wT9 ?_
       simp only [Act.put,gA9,gZ9,gC9,sA9,sZ9,sC9]
       refine wT9 ?_
       simp only [Act.put,gA9,gZ9,gC9,sA9,sZ9,sC9]
       refine wT9 ?_
       simp only [Act.put,gA9,gZ9,gC9,sA9,sZ9,sC9]
       refine wT9 ?_
       simp only [Act.put,gA9,gZ9,gC9,sA9,sZ9,sC9]
       refine wT9 ?_
       simp only [Act.put,gA9,gZ9,gC9,sA9,sZ9,sC9]
       refine wl_step (by kernel_rfl) fun K hK => ?_
       go_simp
       refine (Hh.out _ _ HV.out rfl).mono ?_
       rintro e V2 ⟨rfl, rfl⟩
       refine hK _ _ ?_
       clear hK K
       try (simp only [Act.put,gA9,gZ9,gC9,sA9,sZ9,sC9])
       refine wT9 ?_
       simp only [Act.put,gA9,gZ9,gC9,sA9,sZ9,sC9]
       refine wT9 ?_
       simp only [Act.put,gA9,gZ9,gC9,sA9,sZ9,sC9]
       refine wT9 ?_
       simp only [Act.put,gA9,gZ9,gC9,sA9,sZ9,sC9]
       refine wT9 ?_
       simp only [Act.put,gA9,gZ9,gC9,sA9,sZ9,sC9]
       refine wT9 ?_
       simp only [Act.put,gA9,gZ9,gC9,sA9,sZ9,sC9]
       refine wT9 ?_
       simp only [Act.put,gA9,gZ9,gC9,sA9,sZ9,sC9]
       refine wT9 ?_
       simp only [Act.put,gA9,gZ9,gC9,sA9,sZ9,sC9]
       refine wT9 ?_
       simp only [Act.put,gA9,gZ9,gC9,sA9,sZ9,sC9]
       refine wl_step (by kernel_rfl) fun K hK => ?_
       go_simp
       refine (Hs.out _ _ HV.out h128 rfl).mono ?_
       rintro e V2 ⟨rfl, hV2⟩
       replace HV : Hid (Below W1.heap.size W1 V2) := bstep HV.out hV2
       clear hV2
       refine hK _ _ ?_
       clear hK K
       try (simp only [Act.put,gA9,gZ9,gC9,sA9,sZ9,sC9])
       refine wT9 ?_
       simp only [Act.put,gA9,gZ9,gC9,sA9,sZ9,sC9]
       refine wT9 ?_
       simp only [Act.put,gA9,gZ9,gC9,sA9,sZ9,sC9]
       refine ⟨?_⟩
       go_wp2
       go_ret
       exact ⟨congrArg (fun b => Ending.returned (.bool b)) (Heq.out.trans (by simp)).symm, bstep HB.out HV.out⟩
      | true =>
       have hb2 : 0 ≤ bs ∧ bs ≤ 4611686018427387904 := by have := G2.out; simp [inR] at this; exact this
       have h128 : sn ≤ 128 := by have := of_decide_eq_true Hl.out.symm; omega
       go_enter Try.func58, Try.ntmps58
       go_wp2_with (first | (refine wl_at 4 rfl ?_) | fail)
       refine wT9 ?_
       simp only [Act.put,gA9,gZ9,gC9,sA9,sZ9,sC9]
       refine wl_load 24 (.tmp 4) HR.out _ Try.underlying24 rfl (by rw [Hid4.out]; exact info_id) rfl rfl (by kernel_rfl) ?_
       simp only [Act.put,gA9,gZ9,gC9,sA9,sZ9,sC9]
       refine wl_step (by kernel_rfl) fun K hK => ?_
       go_simp
       refine (Hw.out _ _ rfl).mono ?_
       rintro e V ⟨rfl, hV⟩
       have HV : Hid (Below W1.heap.size W1 V) := hV
       clear hV
       obtain ⟨d4, d5, d6⟩ := Hlt.out V HV.out
       refine hK _ _ ?_
       clear hK K
       try (simp only [Act.put,gA9,gZ9,gC9,sA9,sZ9,sC9])
       refine wT9 ?_
       simp only [Act.put,gA9,gZ9,gC9,sA9,sZ9,sC9]
       refine wT9 ?_
       simp only [Act.put,gA9,gZ9,gC9,sA9,sZ9,sC9]
       refine wT9 ?_
       simp only [Act.put,gA9,gZ9,gC9,sA9,sZ9,sC9]
       refine wT9 ?_
       simp only [Act.put,gA9,gZ9,gC9,sA9,sZ9,sC9]
       refine wl_step (by kernel_rfl) fun K hK => ?_
       go_simp
       refine (Hn.out _ _ _ G2.out).mono ?_
       rintro e V2 ⟨rfl, rfl⟩
       refine hK _ _ ?_
       clear hK K
       try (simp only [Act.put,gA9,gZ9,gC9,sA9,sZ9,sC9])
       refine wT9 ?_
       simp only [Act.put,gA9,gZ9,gC9,sA9,sZ9,sC9]
       refine wT9 ?_
       simp only [Act.put,gA9,gZ9,gC9,sA9,sZ9,sC9]
       refine wT9 ?_
       simp only [Act.put,gA9,gZ9,gC9,sA9,sZ9,sC9]
       refine wT9 ?_
       simp only [Act.put,gA9,gZ9,gC9,sA9,sZ9,sC9]
       refine wT9 ?_
       simp only [Act.put,gA9,gZ9,gC9,sA9,sZ9,sC9]
       refine wT9 ?_
       simp only [Act.put,gA9,gZ9,gC9,sA9,sZ9,sC9]
       refine wT9 ?_
       simp only [Act.put,gA9,gZ9,gC9,sA9,sZ9,sC9]
       refine wT9 ?_
       simp only [Act.put,gA9,gZ9,gC9,sA9,sZ9,sC9]
       refine wl_take (v := .int .i64 (4611686018427387904 - bs)) (by kernel_rfl) (by go_simp; exact wrap_id (by omega) (by omega)) ?_
       simp only [Act.put,gA9,gZ9,gC9,sA9,sZ9,sC9]
       refine wl_take (v := .int .i64 (min 128 (4611686018427387904 - bs))) (by kernel_rfl) (by go_simp; split <;> first | omega | (congr 1; omega)) ?_
       simp only [Act.put,gA9,gZ9,gC9,sA9,sZ9,sC9]
       refine wl_take (v := .bool true) (by kernel_rfl) (by go_simp; have hq := Hl.out.symm; simp only [decide_eq_true_eq, decide_eq_false_iff_not] at hq; omega) ?_
       simp only [Act.put,gA9,gZ9,gC9,sA9,sZ9,sC9]
       refine wT9 ?_
       simp only [Act.put,gA9,gZ9,gC9,sA9,sZ9,sC9]
       refine wT9 ?_
       simp only [Act.put,gA9,gZ9,gC9,sA9,sZ9,sC9]
       refine wT9 ?_
       simp only [Act.put,gA9,gZ9,gC9,sA9,sZ9,sC9]
       refine wT9 ?_
       simp only [Act.put,gA9,gZ9,gC9,sA9,sZ9,sC9]
       refine wT9 ?_
       simp only [Act.put,gA9,gZ9,gC9,sA9,sZ9,sC9]
       refine wl_step (by kernel_rfl) fun K hK => ?_
       go_simp
       refine (HW.out _ _ _ _ _ G4.out).mono ?_
       rintro e V2 ⟨rfl, rfl⟩
       refine hK _ _ ?_
       clear hK K
       try (simp only [Act.put,gA9,gZ9,gC9,sA9,sZ9,sC9])
       refine wT9 ?_
       simp only [Act.put,gA9,gZ9,gC9,sA9,sZ9,sC9]
       refine wT9 ?_
       simp only [Act.put,gA9,gZ9,gC9,sA9,sZ9,sC9]
       refine wT9 ?_
       simp only [Act.put,gA9,gZ9,gC9,sA9,sZ9,sC9]
       refine wT9 ?_
       simp only [Act.put,gA9,gZ9,gC9,sA9,sZ9,sC9]
       refine wT9 ?_
       simp only [Act.put,gA9,gZ9,gC9,sA9,sZ9,sC9]
       refine wl_step (by kernel_rfl) fun K hK => ?_
       go_simp
       refine (Hh.out _ _ HV.out rfl).mono ?_
       rintro e V2 ⟨rfl, rfl⟩
       refine hK _ _ ?_
       clear hK K
       try (simp only [Act.put,gA9,gZ9,gC9,sA9,sZ9,sC9])
       refine wT9 ?_
       simp only [Act.put,gA9,gZ9,gC9,sA9,sZ9,sC9]
       refine wT9 ?_
       simp only [Act.put,gA9,gZ9,gC9,sA9,sZ9,sC9]
       refine wT9 ?_
       simp only [Act.put,gA9,gZ9,gC9,sA9,sZ9,sC9]
       refine wT9 ?_
       simp only [Act.put,gA9,gZ9,gC9,sA9,sZ9,sC9]
       refine wT9 ?_
       simp only [Act.put,gA9,gZ9,gC9,sA9,sZ9,sC9]
       refine wT9 ?_
       simp only [Act.put,gA9,gZ9,gC9,sA9,sZ9,sC9]
       refine wT9 ?_
       simp only [Act.put,gA9,gZ9,gC9,sA9,sZ9,sC9]
       refine wT9 ?_
       simp only [Act.put,gA9,gZ9,gC9,sA9,sZ9,sC9]
       refine wl_step (by kernel_rfl) fun K hK => ?_
       go_simp
       refine (Hs.out _ _ HV.out h128 rfl).mono ?_
       rintro e V2 ⟨rfl, hV2⟩
       replace HV : Hid (Below W1.heap.size W1 V2) := bstep HV.out hV2
       clear hV2
       refine hK _ _ ?_
       clear hK K
       try (simp only [Act.put,gA9,gZ9,gC9,sA9,sZ9,sC9])
       refine wT9 ?_
       simp only [Act.put,gA9,gZ9,gC9,sA9,sZ9,sC9]
       refine wT9 ?_
       simp only [Act.put,gA9,gZ9,gC9,sA9,sZ9,sC9]
       refine ⟨?_⟩
       go_wp2
       go_ret
       exact ⟨congrArg (fun b => Ending.returned (.bool b)) (Heq.out.trans (by simp)).symm, bstep HB.out HV.out⟩
end
end Go.Proofs.Ytobaooebjgoaiaa.Fm
