import Derived.Test.YtpkcgjnaegaecaaYl
import Derived.Test.YtpkcgjnaegaecaaYg
namespace Go.Proofs.Ytpkcgjnaegaecaa.Fm
open Go.RowKit Go.Maps Mb
set_option linter.unusedVariables false
set_option maxRecDepth 100000
set_option linter.unusedSimpArgs false
section
variable {w w' W : World} {B : Nat}
set_option maxHeartbeats 8000000 in
theorem qSame_any {f g : Fl} (hf : f.Rd w) (hg : g.Rd w) (he : f.c = g.c) : Calls Try.prog 65 #[.agg f.cs.toArray, .agg g.cs.toArray] w fun e w' => e = .returned (.bool true) ∧ Below w.heap.size w w' := by
  generalize hW1 : w.alloc (.cells f.cs.toArray 35) = W1
  generalize hW2 : W1.alloc (.cells g.cs.toArray 35) = W2
  have b1 : Below w.heap.size w W1 := hW1 ▸ balloc (Below.refl _ _)
  have b2 : Below W1.heap.size W1 W2 := hW2 ▸ balloc (Below.refl _ _)
  have k1 : W1.heap[w.heap.size]? = some (.cells f.cs.toArray 35 (0, 0)) := by rw [← hW1]; exact heap_alloc_new w _
  have k2 : W2.heap[W1.heap.size]? = some (.cells g.cs.toArray 35 (0, 0)) := by rw [← hW2]; exact heap_alloc_new W1 _
  have k1' : W2.heap[w.heap.size]? = some (.cells f.cs.toArray 35 (0, 0)) := (b2.block _ (lt_heap k1)).trans k1
  have HF : Hid (f.Rd W2) := (hf.still b1).still b2
  have HG : Hid (g.Rd W2) := (hg.still b1).still b2
  have HB : Hid (Below w.heap.size w W2) := bstep b1 b2
  have HBz : Hid (w.heap.size ≤ W2.heap.size) := (bstep b1 b2).size
  have HR1 : Hid (W2.rangeAt w.heap.size 0 f.c.id.cs) := id_range k1'
  have HR2 : Hid (W2.rangeAt W1.heap.size 0 f.c.id.cs) := by rw [he]; exact id_range k2
  have HC : Hid (∀ V : World, Below W2.heap.size W2 V → (V.cell? ⟨w.heap.size, 4, none⟩ = some (.int .i64 f.c.base) ∧ V.cell? ⟨w.heap.size, 5, none⟩ = some (.slice f.sa f.c.sl.length f.sc) ∧ V.cell? ⟨w.heap.size, 6, none⟩ = some (.slice f.ha f.c.hv.length f.hc)) ∧ (V.cell? ⟨W1.heap.size, 4, none⟩ = some (.int .i64 f.c.base) ∧ V.cell? ⟨W1.heap.size, 5, none⟩ = some (.slice g.sa f.c.sl.length g.sc) ∧ V.cell? ⟨W1.heap.size, 6, none⟩ = some (.slice g.ha f.c.hv.length g.hc))) := fun V hV => ⟨⟨below_at hV (blk_cell k1' 4), below_at hV (blk_cell k1' 5), below_at hV (blk_cell k1' 6)⟩, by rw [he]; exact ⟨below_at hV (blk_cell k2 4), below_at hV (blk_cell k2 5), below_at hV (blk_cell k2 6)⟩⟩
  have Hsn : Hid (f.c.sl.length ≤ 1000000000000000000 ∧ f.c.hv.length ≤ 1000000000000000000) := ⟨hf.sn, hf.hn⟩
  have hsn := Hsn.out
  have HE : Hid (f.c = g.c) := he
  have Hi4 : Hid (f.c.id.cs.length = 4) := rfl
  have HEq : Hid (∀ W, (Op.equalIn 10000 33 (.agg f.c.id.cs.toArray) (.agg f.c.id.cs.toArray)).run Try.prog W = .ok true W) := fun W => by rw [eq_vid]; simp
  clear hf hg he b1 b2 k1 k2 k1'
  generalize hfl : f.c.sl.length = fn at *
  generalize hgl : f.c.hv.length = gn at *
  have Hfl : Hid (f.c.sl.length = fn) := hfl
  have Hgl : Hid (f.c.hv.length = gn) := hgl
  generalize hfb : f.c.base = fb at *
  generalize f.c.id.cs = ic at *
  generalize f.cs.toArray = pf at *
  generalize g.cs.toArray = pg at *
  clear hfl hgl hfb
  obtain ⟨⟨e4, e5, e6⟩, d4, d5, d6⟩ := HC.out W2 (Below.refl _ _)
  go_enter Try.func65, Try.ntmps65
  go_wp2_with (first | (refine wl_at 7 rfl ?_) | fail)
  clear hW1 hW2
  generalize hkf : w.heap.size = kf at *
  have Hkf : Hid (w.heap.size = kf) := hkf
  generalize hkg : W1.heap.size = kg at *
  clear hkf hkg
  refine wl_take (v := ?_) (by kernel_rfl) (by go_simp; exact rfl) ?_
  simp only [Act.put, List.getElem_toArray, List.getElem_cons_zero, List.getElem_cons_succ, List.setIfInBounds_toArray, List.set_cons_zero, List.set_cons_succ]
  refine wl_load 33 (.tmp 7) HR1.out _ Try.underlying33 rfl (by rw [Hi4.out]; exact info_id) rfl rfl (by kernel_rfl) ?_
  simp only [Act.put, List.getElem_toArray, List.getElem_cons_zero, List.getElem_cons_succ, List.setIfInBounds_toArray, List.set_cons_zero, List.set_cons_succ]
  refine wl_take (v := ?_) (by kernel_rfl) (by go_simp; exact rfl) ?_
  simp only [Act.put, List.getElem_toArray, List.getElem_cons_zero, List.getElem_cons_succ, List.setIfInBounds_toArray, List.set_cons_zero, List.set_cons_succ]
  refine wl_load 33 (.tmp 9) HR2.out _ Try.underlying33 rfl (by rw [Hi4.out]; exact info_id) rfl rfl (by kernel_rfl) ?_
  simp only [Act.put, List.getElem_toArray, List.getElem_cons_zero, List.getElem_cons_succ, List.setIfInBounds_toArray, List.set_cons_zero, List.set_cons_succ]
  refine wl_take (v := .bool false) (by kernel_rfl) (run_neqop 33 (.tmp 8) (.tmp 10) 33 rfl _ _ rfl rfl guard_id true (HEq.out _)) ?_
  simp only [Act.put, List.getElem_toArray, List.getElem_cons_zero, List.getElem_cons_succ, List.setIfInBounds_toArray, List.set_cons_zero, List.set_cons_succ]
  refine wl_take (v := ?_) (by kernel_rfl) (by go_simp; exact rfl) ?_
  simp only [Act.put, List.getElem_toArray, List.getElem_cons_zero, List.getElem_cons_succ, List.setIfInBounds_toArray, List.set_cons_zero, List.set_cons_succ]
  refine wl_take (v := ?_) (by kernel_rfl) (by go_simp; exact rfl) ?_
  simp only [Act.put, List.getElem_toArray, List.getElem_cons_zero, List.getElem_cons_succ, List.setIfInBounds_toArray, List.set_cons_zero, List.set_cons_succ]
  refine wl_take (v := ?_) (by kernel_rfl) (by go_simp; exact rfl) ?_
  simp only [Act.put, List.getElem_toArray, List.getElem_cons_zero, List.getElem_cons_succ, List.setIfInBounds_toArray, List.set_cons_zero, List.set_cons_succ]
  refine wl_take (v := ?_) (by kernel_rfl) (by go_simp; exact rfl) ?_
  simp only [Act.put, List.getElem_toArray, List.getElem_cons_zero, List.getElem_cons_succ, List.setIfInBounds_toArray, List.set_cons_zero, List.set_cons_succ]
  refine wl_take (v := ?_) (by kernel_rfl) (by go_simp; exact rfl) ?_
  simp only [Act.put, List.getElem_toArray, List.getElem_cons_zero, List.getElem_cons_succ, List.setIfInBounds_toArray, List.set_cons_zero, List.set_cons_succ]
  refine wl_take (v := .bool false) (by kernel_rfl) (by first | (go_simp; done) | (go_simp; omega)) ?_
  simp only [Act.put, List.getElem_toArray, List.getElem_cons_zero, List.getElem_cons_succ, List.setIfInBounds_toArray, List.set_cons_zero, List.set_cons_succ]
  refine wl_take (v := ?_) (by kernel_rfl) (by go_simp; exact rfl) ?_
  simp only [Act.put, List.getElem_toArray, List.getElem_cons_zero, List.getElem_cons_succ, List.setIfInBounds_toArray, List.set_cons_zero, List.set_cons_succ]
  refine wl_take (v := ?_) (by kernel_rfl) (by go_simp; exact rfl) ?_
  simp only [Act.put, List.getElem_toArray, List.getElem_cons_zero, List.getElem_cons_succ, List.setIfInBounds_toArray, List.set_cons_zero, List.set_cons_succ]
  refine wl_take (v := ?_) (by kernel_rfl) (by go_simp; exact rfl) ?_
  simp only [Act.put, List.getElem_toArray, List.getElem_cons_zero, List.getElem_cons_succ, List.setIfInBounds_toArray, List.set_cons_zero, List.set_cons_succ]
  refine wl_take (v := ?_) (by kernel_rfl) (by go_simp; exact rfl) ?_
  simp only [Act.put, List.getElem_toArray, List.getElem_cons_zero, List.getElem_cons_succ, List.setIfInBounds_toArray, List.set_cons_zero, List.set_cons_succ]
  refine wl_take (v := ?_) (by kernel_rfl) (by go_simp; exact rfl) ?_
  simp only [Act.put, List.getElem_toArray, List.getElem_cons_zero, List.getElem_cons_succ, List.setIfInBounds_toArray, List.set_cons_zero, List.set_cons_succ]
  refine wl_take (v := ?_) (by kernel_rfl) (by go_simp; exact rfl) ?_
  simp only [Act.put, List.getElem_toArray, List.getElem_cons_zero, List.getElem_cons_succ, List.setIfInBounds_toArray, List.set_cons_zero, List.set_cons_succ]
  refine wl_take (v := ?_) (by kernel_rfl) (by go_simp; exact rfl) ?_
  simp only [Act.put, List.getElem_toArray, List.getElem_cons_zero, List.getElem_cons_succ, List.setIfInBounds_toArray, List.set_cons_zero, List.set_cons_succ]
  refine wl_take (v := ?_) (by kernel_rfl) (by go_simp; exact rfl) ?_
  simp only [Act.put, List.getElem_toArray, List.getElem_cons_zero, List.getElem_cons_succ, List.setIfInBounds_toArray, List.set_cons_zero, List.set_cons_succ]
  refine wl_take (v := .bool false) (by kernel_rfl) (by first | (go_simp; done) | (go_simp; omega)) ?_
  simp only [Act.put, List.getElem_toArray, List.getElem_cons_zero, List.getElem_cons_succ, List.setIfInBounds_toArray, List.set_cons_zero, List.set_cons_succ]
  refine wl_take (v := ?_) (by kernel_rfl) (by go_simp; exact rfl) ?_
  simp only [Act.put, List.getElem_toArray, List.getElem_cons_zero, List.getElem_cons_succ, List.setIfInBounds_toArray, List.set_cons_zero, List.set_cons_succ]
  refine wl_take (v := ?_) (by kernel_rfl) (by go_simp; exact rfl) ?_
  simp only [Act.put, List.getElem_toArray, List.getElem_cons_zero, List.getElem_cons_succ, List.setIfInBounds_toArray, List.set_cons_zero, List.set_cons_succ]
  refine wl_take (v := ?_) (by kernel_rfl) (by go_simp; exact rfl) ?_
  simp only [Act.put, List.getElem_toArray, List.getElem_cons_zero, List.getElem_cons_succ, List.setIfInBounds_toArray, List.set_cons_zero, List.set_cons_succ]
  refine wl_take (v := ?_) (by kernel_rfl) (by go_simp; exact rfl) ?_
  simp only [Act.put, List.getElem_toArray, List.getElem_cons_zero, List.getElem_cons_succ, List.setIfInBounds_toArray, List.set_cons_zero, List.set_cons_succ]
  refine wl_take (v := ?_) (by kernel_rfl) (by go_simp; exact rfl) ?_
  simp only [Act.put, List.getElem_toArray, List.getElem_cons_zero, List.getElem_cons_succ, List.setIfInBounds_toArray, List.set_cons_zero, List.set_cons_succ]
  refine wl_take (v := ?_) (by kernel_rfl) (by go_simp; exact rfl) ?_
  simp only [Act.put, List.getElem_toArray, List.getElem_cons_zero, List.getElem_cons_succ, List.setIfInBounds_toArray, List.set_cons_zero, List.set_cons_succ]
  refine wl_take (v := ?_) (by kernel_rfl) (by go_simp; exact rfl) ?_
  simp only [Act.put, List.getElem_toArray, List.getElem_cons_zero, List.getElem_cons_succ, List.setIfInBounds_toArray, List.set_cons_zero, List.set_cons_succ]
  refine wl_take (v := ?_) (by kernel_rfl) (by go_simp; exact rfl) ?_
  simp only [Act.put, List.getElem_toArray, List.getElem_cons_zero, List.getElem_cons_succ, List.setIfInBounds_toArray, List.set_cons_zero, List.set_cons_succ]
  refine wl_take (v := .bool false) (by kernel_rfl) (by first | (go_simp; done) | (go_simp; omega)) ?_
  simp only [Act.put, List.getElem_toArray, List.getElem_cons_zero, List.getElem_cons_succ, List.setIfInBounds_toArray, List.set_cons_zero, List.set_cons_succ]
  refine wl_take (v := ?_) (by kernel_rfl) (by go_simp; exact rfl) ?_
  simp only [Act.put, List.getElem_toArray, List.getElem_cons_zero, List.getElem_cons_succ, List.setIfInBounds_toArray, List.set_cons_zero, List.set_cons_succ]
  refine ⟨?_⟩
  go_wp2
  clear e4 e5 e6 d4 d5 d6 HR1 HR2 HEq
  go_loopw [5] (fun v wv => ∃ j : Nat, j ≤ fn ∧ v = .int .i64 j ∧ Below W2.heap.size W2 wv) (fun v _ => fn - (intOf v).toNat)
  case atStart => exact ⟨0, Nat.zero_le _, rfl, Below.refl _ _⟩
  case round =>
    obtain ⟨j, hj, rfl, hb⟩ := hrel
    have HW : Hid (Below W2.heap.size W2 wr) := hb
    clear hb
    obtain ⟨⟨e4, e5, e6⟩, d4, d5, d6⟩ := HC.out wr HW.out
    by_cases hjt : j < fn
    · have j1 : (0 : Int) ≤ (j : Int) := Int.natCast_nonneg _
      have j2 : (j : Int) < (fn : Int) := by omega
      obtain ⟨bf, of, hsf, rf, _, _⟩ := (HF.out.s.still HW.out).at (i := j) (by rw [Hfl.out]; exact hjt)
      obtain ⟨bg, og, hsg, rg, _, _⟩ := (HG.out.s.still HW.out).at (i := j) (by rw [← HE.out, Hfl.out]; exact hjt)
      rw [← HE.out] at rg
      rw [hsf] at e5
      rw [hsg] at d5
      have HEq : Hid (∀ W, (Op.equalIn 10000 40 (.agg (slotV (f.c.sl.getD j z2)).toArray) (.agg (slotV (f.c.sl.getD j z2)).toArray)).run Try.prog W = .ok true W) := fun W => by rw [eq_slot]; simp
      generalize f.c.sl.getD j z2 = u at *
      have rf2 : wr.drew.rangeAt bf (of + j * 2) (slotV u) := rf
      have rg2 : wr.drew.rangeAt bg (og + j * 2) (slotV u) := rg
      clear rf rg hsf hsg e4 e6 d4 d6
      go_wp2_with (fail)
      refine wp_region_held_drew (S := (fun w' => w'.cell? ⟨kf, 5, none⟩ = some (.slice (some ⟨bf, of, none⟩) fn f.sc) ∧ w'.cell? ⟨kg, 5, none⟩ = some (.slice (some ⟨bg, og, none⟩) fn g.sc) ∧ w'.rangeAt bf (of + j * 2) (slotV u) ∧ w'.rangeAt bg (og + j * 2) (slotV u))) (by kernel_rfl) ⟨below_at (Below.refl _ _).drew e5, below_at (Below.refl _ _).drew d5, rf2, rg2⟩ (fun hHeld => ?_)
      simp only [Act.put, List.size_toArray, List.length_cons, List.length_nil, Nat.zero_add]
      refine wpAnyH_take (i := 0) (v := .pointer (some ⟨kf, 5, none⟩)) rfl (by kernel_rfl) (by kernel_rfl) (by kernel_rfl) (fun _ _ _ h => h) (Or.inl ⟨by rfl, fun w' hS => by go_simp⟩) hHeld ?_
      simp only [Act.put, List.getElem_toArray, List.getElem_cons_zero, List.getElem_cons_succ, List.setIfInBounds_toArray, List.set_cons_zero, List.set_cons_succ]
      refine wpAnyH_take (i := 1) (v := .slice (some ⟨bf, of, none⟩) fn f.sc) rfl (by kernel_rfl) (by kernel_rfl) (by kernel_rfl) (fun _ _ _ h => h) (Or.inl ⟨by rfl, fun w' hS => by (obtain ⟨t1, t2, t3, t4⟩ := hS; go_simp)⟩) hHeld ?_
      simp only [Act.put, List.getElem_toArray, List.getElem_cons_zero, List.getElem_cons_succ, List.setIfInBounds_toArray, List.set_cons_zero, List.set_cons_succ]
      refine wpAnyH_take (i := 2) (v := .int .i64 (j : Int)) rfl (by kernel_rfl) (by kernel_rfl) (by kernel_rfl) (fun _ _ _ h => h) (Or.inl ⟨by rfl, fun w' hS => by go_simp⟩) hHeld ?_
      simp only [Act.put, List.getElem_toArray, List.getElem_cons_zero, List.getElem_cons_succ, List.setIfInBounds_toArray, List.set_cons_zero, List.set_cons_succ]
      refine wpAnyH_take (i := 3) (v := .pointer (some ⟨bf, of + j * 2, none⟩)) rfl (by kernel_rfl) (by kernel_rfl) (by kernel_rfl) (fun _ _ _ h => h) (Or.inl ⟨by rfl, fun w' hS => by go_simp⟩) hHeld ?_
      simp only [Act.put, List.getElem_toArray, List.getElem_cons_zero, List.getElem_cons_succ, List.setIfInBounds_toArray, List.set_cons_zero, List.set_cons_succ]
      refine wpAnyH_take (i := 4) (v := .agg (slotV u).toArray) rfl (by kernel_rfl) (by kernel_rfl) (by kernel_rfl) (fun _ _ _ h => h) (yieldsIf_load_mid (by rfl) 40 (.tmp 47) rfl bf (of + j * 2) (by rfl) (slotV u) _ (fun w' hS => hS.2.2.1) Try.underlying40 rfl info_slot) hHeld ?_
      simp only [Act.put, List.getElem_toArray, List.getElem_cons_zero, List.getElem_cons_succ, List.setIfInBounds_toArray, List.set_cons_zero, List.set_cons_succ]
      refine wpAnyH_take (i := 5) (v := .pointer (some ⟨kg, 5, none⟩)) rfl (by kernel_rfl) (by kernel_rfl) (by kernel_rfl) (fun _ _ _ h => h) (Or.inl ⟨by rfl, fun w' hS => by go_simp⟩) hHeld ?_
      simp only [Act.put, List.getElem_toArray, List.getElem_cons_zero, List.getElem_cons_succ, List.setIfInBounds_toArray, List.set_cons_zero, List.set_cons_succ]
      refine wpAnyH_take (i := 6) (v := .slice (some ⟨bg, og, none⟩) fn g.sc) rfl (by kernel_rfl) (by kernel_rfl) (by kernel_rfl) (fun _ _ _ h => h) (Or.inl ⟨by rfl, fun w' hS => by (obtain ⟨t1, t2, t3, t4⟩ := hS; go_simp)⟩) hHeld ?_
      simp only [Act.put, List.getElem_toArray, List.getElem_cons_zero, List.getElem_cons_succ, List.setIfInBounds_toArray, List.set_cons_zero, List.set_cons_succ]
      refine wpAnyH_take (i := 7) (v := .int .i64 (j : Int)) rfl (by kernel_rfl) (by kernel_rfl) (by kernel_rfl) (fun _ _ _ h => h) (Or.inl ⟨by rfl, fun w' hS => by go_simp⟩) hHeld ?_
      simp only [Act.put, List.getElem_toArray, List.getElem_cons_zero, List.getElem_cons_succ, List.setIfInBounds_toArray, List.set_cons_zero, List.set_cons_succ]
      refine wpAnyH_take (i := 8) (v := .pointer (some ⟨bg, og + j * 2, none⟩)) rfl (by kernel_rfl) (by kernel_rfl) (by kernel_rfl) (fun _ _ _ h => h) (Or.inl ⟨by rfl, fun w' hS => by go_simp⟩) hHeld ?_
      simp only [Act.put, List.getElem_toArray, List.getElem_cons_zero, List.getElem_cons_succ, List.setIfInBounds_toArray, List.set_cons_zero, List.set_cons_succ]
      refine wpAnyH_take (i := 9) (v := .agg (slotV u).toArray) rfl (by kernel_rfl) (by kernel_rfl) (by kernel_rfl) (fun _ _ _ h => h) (yieldsIf_load_mid (by rfl) 40 (.tmp 52) rfl bg (og + j * 2) (by rfl) (slotV u) _ (fun w' hS => hS.2.2.2) Try.underlying40 rfl info_slot) hHeld ?_
      simp only [Act.put, List.getElem_toArray, List.getElem_cons_zero, List.getElem_cons_succ, List.setIfInBounds_toArray, List.set_cons_zero, List.set_cons_succ]
      refine wpAnyH_take (i := 10) (v := .bool false) rfl (by kernel_rfl) (by kernel_rfl) (by kernel_rfl) (fun _ _ _ h => h) (Or.inl ⟨by rfl, fun w' hS => run_neqop 40 (.tmp 48) (.tmp 53) 40 rfl _ _ (by rfl) (by rfl) guard_slot true (HEq.out _)⟩) hHeld ?_
      simp only [Act.put, List.getElem_toArray, List.getElem_cons_zero, List.getElem_cons_succ, List.setIfInBounds_toArray, List.set_cons_zero, List.set_cons_succ]
      refine wpAnyH_done (by kernel_rfl) ?_ _
      clear hHeld
      go_wp2
      exact ⟨⟨j + 1, by omega, by go_num, HW.out.drew⟩, by simp [intOf]; omega⟩
    · obtain rfl : fn = j := by omega
      clear e4 d4
      go_wp2
      clear e5 e6 d5 d6
      go_loopw [6] (fun v wv => ∃ j : Nat, j ≤ gn ∧ v = .int .i64 j ∧ Below W2.heap.size W2 wv) (fun v _ => gn - (intOf v).toNat)
      case atStart => exact ⟨0, Nat.zero_le _, rfl, HW.out⟩
      case round =>
        obtain ⟨j, hj, rfl, hb⟩ := hrel
        clear HW
        have HW : Hid (Below W2.heap.size W2 wr) := hb
        clear hb
        obtain ⟨⟨e4, e5, e6⟩, d4, d5, d6⟩ := HC.out wr HW.out
        by_cases hjt : j < gn
        · have j1 : (0 : Int) ≤ (j : Int) := Int.natCast_nonneg _
          have j2 : (j : Int) < (gn : Int) := by omega
          obtain ⟨bf, of, hsf, rf⟩ := (HF.out.h.still HW.out).at (i := j) (by rw [Hgl.out]; exact hjt)
          obtain ⟨bg, og, hsg, rg⟩ := (HG.out.h.still HW.out).at (i := j) (by rw [← HE.out, Hgl.out]; exact hjt)
          rw [← HE.out] at rg
          rw [hsf] at e6
          rw [hsg] at d6
          generalize f.c.hv.getD j 0 = u at *
          clear hsf hsg e4 e5 d4 d5
          go_wp2_with (fail)
          refine wp_region_held_drew (S := (fun w' => w'.cell? ⟨kf, 6, none⟩ = some (.slice (some ⟨bf, of, none⟩) gn f.hc) ∧ w'.cell? ⟨kg, 6, none⟩ = some (.slice (some ⟨bg, og, none⟩) gn g.hc) ∧ w'.cell? ⟨bf, of + j, none⟩ = some (.int .i64 u) ∧ w'.cell? ⟨bg, og + j, none⟩ = some (.int .i64 u))) (by kernel_rfl) ⟨below_at (Below.refl _ _).drew e6, below_at (Below.refl _ _).drew d6, below_at (Below.refl _ _).drew rf, below_at (Below.refl _ _).drew rg⟩ (fun hHeld => ?_)
          simp only [Act.put, List.size_toArray, List.length_cons, List.length_nil, Nat.zero_add]
          refine wpAnyH_take (i := 0) (v := .pointer (some ⟨kf, 6, none⟩)) rfl (by kernel_rfl) (by kernel_rfl) (by kernel_rfl) (fun _ _ _ h => h) (Or.inl ⟨by rfl, fun w' hS => by go_simp⟩) hHeld ?_
          simp only [Act.put, List.getElem_toArray, List.getElem_cons_zero, List.getElem_cons_succ, List.setIfInBounds_toArray, List.set_cons_zero, List.set_cons_succ]
          refine wpAnyH_take (i := 1) (v := .slice (some ⟨bf, of, none⟩) gn f.hc) rfl (by kernel_rfl) (by kernel_rfl) (by kernel_rfl) (fun _ _ _ h => h) (Or.inl ⟨by rfl, fun w' hS => by (obtain ⟨t1, t2, t3, t4⟩ := hS; go_simp)⟩) hHeld ?_
          simp only [Act.put, List.getElem_toArray, List.getElem_cons_zero, List.getElem_cons_succ, List.setIfInBounds_toArray, List.set_cons_zero, List.set_cons_succ]
          refine wpAnyH_take (i := 2) (v := .int .i64 (j : Int)) rfl (by kernel_rfl) (by kernel_rfl) (by kernel_rfl) (fun _ _ _ h => h) (Or.inl ⟨by rfl, fun w' hS => by go_simp⟩) hHeld ?_
          simp only [Act.put, List.getElem_toArray, List.getElem_cons_zero, List.getElem_cons_succ, List.setIfInBounds_toArray, List.set_cons_zero, List.set_cons_succ]
          refine wpAnyH_take (i := 3) (v := .pointer (some ⟨bf, of + j, none⟩)) rfl (by kernel_rfl) (by kernel_rfl) (by kernel_rfl) (fun _ _ _ h => h) (Or.inl ⟨by rfl, fun w' hS => by go_simp⟩) hHeld ?_
          simp only [Act.put, List.getElem_toArray, List.getElem_cons_zero, List.getElem_cons_succ, List.setIfInBounds_toArray, List.set_cons_zero, List.set_cons_succ]
          refine wpAnyH_take (i := 4) (v := .int .i64 u) rfl (by kernel_rfl) (by kernel_rfl) (by kernel_rfl) (fun _ _ _ h => h) (Or.inl ⟨by rfl, fun w' hS => by (obtain ⟨t1, t2, t3, t4⟩ := hS; go_simp)⟩) hHeld ?_
          simp only [Act.put, List.getElem_toArray, List.getElem_cons_zero, List.getElem_cons_succ, List.setIfInBounds_toArray, List.set_cons_zero, List.set_cons_succ]
          refine wpAnyH_take (i := 5) (v := .pointer (some ⟨kg, 6, none⟩)) rfl (by kernel_rfl) (by kernel_rfl) (by kernel_rfl) (fun _ _ _ h => h) (Or.inl ⟨by rfl, fun w' hS => by go_simp⟩) hHeld ?_
          simp only [Act.put, List.getElem_toArray, List.getElem_cons_zero, List.getElem_cons_succ, List.setIfInBounds_toArray, List.set_cons_zero, List.set_cons_succ]
          refine wpAnyH_take (i := 6) (v := .slice (some ⟨bg, og, none⟩) gn g.hc) rfl (by kernel_rfl) (by kernel_rfl) (by kernel_rfl) (fun _ _ _ h => h) (Or.inl ⟨by rfl, fun w' hS => by (obtain ⟨t1, t2, t3, t4⟩ := hS; go_simp)⟩) hHeld ?_
          simp only [Act.put, List.getElem_toArray, List.getElem_cons_zero, List.getElem_cons_succ, List.setIfInBounds_toArray, List.set_cons_zero, List.set_cons_succ]
          refine wpAnyH_take (i := 7) (v := .int .i64 (j : Int)) rfl (by kernel_rfl) (by kernel_rfl) (by kernel_rfl) (fun _ _ _ h => h) (Or.inl ⟨by rfl, fun w' hS => by go_simp⟩) hHeld ?_
          simp only [Act.put, List.getElem_toArray, List.getElem_cons_zero, List.getElem_cons_succ, List.setIfInBounds_toArray, List.set_cons_zero, List.set_cons_succ]
          refine wpAnyH_take (i := 8) (v := .pointer (some ⟨bg, og + j, none⟩)) rfl (by kernel_rfl) (by kernel_rfl) (by kernel_rfl) (fun _ _ _ h => h) (Or.inl ⟨by rfl, fun w' hS => by go_simp⟩) hHeld ?_
          simp only [Act.put, List.getElem_toArray, List.getElem_cons_zero, List.getElem_cons_succ, List.setIfInBounds_toArray, List.set_cons_zero, List.set_cons_succ]
          refine wpAnyH_take (i := 9) (v := .int .i64 u) rfl (by kernel_rfl) (by kernel_rfl) (by kernel_rfl) (fun _ _ _ h => h) (Or.inl ⟨by rfl, fun w' hS => by (obtain ⟨t1, t2, t3, t4⟩ := hS; go_simp)⟩) hHeld ?_
          simp only [Act.put, List.getElem_toArray, List.getElem_cons_zero, List.getElem_cons_succ, List.setIfInBounds_toArray, List.set_cons_zero, List.set_cons_succ]
          refine wpAnyH_take (i := 10) (v := .bool false) rfl (by kernel_rfl) (by kernel_rfl) (by kernel_rfl) (fun _ _ _ h => h) (Or.inl ⟨by rfl, fun w' hS => by first | (go_simp; done) | (go_simp; omega)⟩) hHeld ?_
          simp only [Act.put, List.getElem_toArray, List.getElem_cons_zero, List.getElem_cons_succ, List.setIfInBounds_toArray, List.set_cons_zero, List.set_cons_succ]
          refine wpAnyH_done (by kernel_rfl) ?_ _
          clear hHeld
          go_wp2
          exact ⟨⟨j + 1, by omega, by go_num, HW.out.drew⟩, by simp [intOf]; omega⟩
        · obtain rfl : gn = j := by omega
          go_wp2
          go_ret
          exact ⟨rfl, by rw [Hkf.out]; exact HB.out.trans (HW.out.mono HBz.out)⟩
end
end Go.Proofs.Ytpkcgjnaegaecaa.Fm
