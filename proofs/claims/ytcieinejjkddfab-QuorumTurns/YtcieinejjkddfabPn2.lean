import Derived.Test.YtcieinejjkddfabPm2
namespace Go.Proofs.Ytcieinejjkddfab.Qm
open Go.RowKit Mb
set_option linter.unusedVariables false
set_option maxRecDepth 100000
set_option linter.unusedSimpArgs false
section
variable {w w' : World} {B : Nat} {A : Wa} {R : Rq}
theorem sets_list {k t : Nat} : ∀ (vs : List Value) (o : Nat) (w : World) (xs : List Value), w.heap[k]? = some (.cells xs.toArray t (0, 0)) → o + vs.length ≤ xs.length → (w.setCells k o vs).heap[k]? = some (.cells (xs.take o ++ vs ++ xs.drop (o + vs.length)).toArray t (0, 0))
  | [], o, w, xs, h, _ => by simpa [World.setCells] using h
  | y :: ys, o, w, xs, h, hl => by
      simp only [List.length_cons] at hl
      have h1 : (w.setCell ⟨k, o, none⟩ y).heap[k]? = some (.cells (xs.set o y).toArray t (0, 0)) := blk_set h (by simp)
      have := sets_list ys (o + 1) _ _ h1 (by simp; omega)
      have e : (xs.set o y).take (o + 1) ++ ys ++ (xs.set o y).drop (o + 1 + ys.length) = xs.take o ++ y :: ys ++ xs.drop (o + (y :: ys).length) := by
        rw [List.take_set, List.drop_set, if_pos (by omega), List.length_cons, show o + (ys.length + 1) = o + 1 + ys.length by omega]
        rw [List.take_add_one, List.set_append]
        simp [show ¬ o < min o xs.length by omega, show min o xs.length = o by omega, show o < xs.length by omega]
      rw [e] at this
      exact this
theorem sets_whole {k t : Nat} {C : Array Value} {L : List Value} (h : w.heap[k]? = some (.cells C t (0, 0))) (hl : C.size = L.length) : (w.setCells k 0 L).heap[k]? = some (.cells L.toArray t (0, 0)) := by
  have := sets_list (k := k) (t := t) L 0 w C.toList (by simpa using h) (by simp [hl])
  have hd : C.toList.drop L.length = [] := List.drop_eq_nil_of_le (by simp [hl])
  simpa [hd] using this
theorem blk_there {k t n : Nat} {C : Array Value} (h : w.heap[k]? = some (.cells C t (0, 0))) (hn : C.size = n) : w.there k 0 n := fun j hj => ⟨by rw [blk_cell h, Nat.zero_add]; simp [show j < C.size by omega], frozen_of_row w _ _ _ _ h⟩
theorem blk_range {k t : Nat} {L : List Value} (h : w.heap[k]? = some (.cells L.toArray t (0, 0))) : w.rangeAt k 0 L := fun j v hv => by
  rw [blk_cell h, Nat.zero_add, List.getElem?_toArray, hv]
theorem own3_empty (w : World) : (w.alloc (.cells #[] 115)).ownsRow w.heap.size 115 3 (.slice (some ⟨w.heap.size, 0, none⟩) 0 0) 0 (ints (fl3 [])) :=
  ⟨rfl, .inr ⟨w.heap.size, 0, _, rfl, Nat.le_refl _, heap_alloc_new w _, Nat.le_refl _, by unfold maxLen; omega, rfl, rfl⟩⟩
theorem wp_app_mo {w0 : World} {o : Oper} {a : Act} {K : Act → World → Prop} {Q : Exit → Act → World → Prop} (s x : Operand)
    (ho : o.op = .call { callee := .builtin .append, args := #[s, x], argTypes := #[50, 50] })
    (v : Value) (n : Nat) (ts : List St) (hs : a.eval s = v) (hown : w.ownsRow w0.heap.size 115 3 v n (ints (fl3 ts))) (hb : Below w0.heap.size w0 w)
    (ao : Option Addr) (k c : Nat) (ys : List St) (hx : a.eval x = .slice ao k c) (hr : Rd3 w ao k c ys) (hn : n + k ≤ 5864062014805)
    (h : ∀ v' w', Hid (w'.ownsRow w0.heap.size 115 3 v' (n + k) (ints (fl3 (ts ++ ys)))) → Hid (Below w0.heap.size w0 w') → K (a.put o.dst v') w') : o.wp Try.prog a w K Q := by
  cases ao with
  | some ad => exact wp_app_m s x ho v n ts hs hown hb ad k c ys hx hr hn (fun v' w' h1 h2 _ => h v' w' h1 h2)
  | none =>
    obtain ⟨i0, hi, hz0, hz1, hz2⟩ := mb_info
    have hk := hr.len
    obtain rfl := hr.nil rfl
    obtain rfl : k = 0 := by have := hr.cap; omega
    obtain rfl : ys = [] := List.eq_nil_of_length_eq_zero hk
    have hrun := run_append_owned_none (P := Try.prog) (w := w) w0.heap.size 50 o.type 115 i0 3 Try.underlying50 hi v n (ints (fl3 ts)) hown
    unfold Oper.wp
    simp [execOp, ho, resolve, invoke, builtin, hs, hx, hrun, Result.andThen]
    exact h v w (by show World.ownsRow _ _ _ _ _ _ _; simpa using hown) hb
def Vw.cl (v : Vw) (x : Value) : List Value := [.int .i64 v.ep, .int .i64 v.ld, .int .i64 v.ic, .int .i64 v.cd, x]
theorem Vw.cl_one (v : Vw) (a : Option Addr) (n c : Nat) : ∀ u ∈ v.cl (.slice a n c), u.oneCell' = true := by
  intro u hu
  simp only [Vw.cl, List.mem_cons, List.not_mem_nil, or_false] at hu
  rcases hu with rfl | rfl | rfl | rfl | rfl <;> rfl
set_option maxHeartbeats 4000000 in
theorem members_law {v : Vw} {mo : Option Addr} {mn mc : Nat} (hr : Rd3 w mo mn mc v.ms) (hm : mn ≤ 5864062014805) : Calls Try.prog 67 #[.agg #[.int .i64 v.ep, .int .i64 v.ld, .int .i64 v.ic, .int .i64 v.cd, .slice mo mn mc]] w fun e w' => ∃ (a : Option Addr) (c : Nat), e = .returned (.agg (v.cl (.slice a mn c)).toArray) ∧ w'.ownsRow w.heap.size 115 3 (.slice a mn c) mn (ints (fl3 v.ms)) ∧ Below w.heap.size w w' := by
  generalize hW1 : w.alloc (.cells #[.int .i64 v.ep, .int .i64 v.ld, .int .i64 v.ic, .int .i64 v.cd, .slice mo mn mc] 52) = W1
  generalize hW2 : W1.alloc (.cells #[.int .i64 0, .int .i64 0, .int .i64 0, .int .i64 0, .slice none 0 0] 52) = W2
  have b1 : Below w.heap.size w W1 := hW1 ▸ balloc (Below.refl _ _)
  have b2 : Below W1.heap.size W1 W2 := hW2 ▸ balloc (Below.refl _ _)
  have s1 : W1.heap.size = w.heap.size + 1 := by rw [← hW1]; simp
  have s2 : W2.heap.size = w.heap.size + 2 := by rw [← hW2]; simp [s1]
  have k1 : W1.heap[w.heap.size]? = some (.cells #[.int .i64 v.ep, .int .i64 v.ld, .int .i64 v.ic, .int .i64 v.cd, .slice mo mn mc] 52 (0, 0)) := by rw [← hW1]; exact heap_alloc_new w _
  have k2 : W2.heap[W1.heap.size]? = some (.cells #[.int .i64 0, .int .i64 0, .int .i64 0, .int .i64 0, .slice none 0 0] 52 (0, 0)) := by rw [← hW2]; exact heap_alloc_new W1 _
  rw [s1] at k2
  have k1' : W2.heap[w.heap.size]? = some (.cells #[.int .i64 v.ep, .int .i64 v.ld, .int .i64 v.ic, .int .i64 v.cd, .slice mo mn mc] 52 (0, 0)) := (b2.block _ (by omega)).trans k1
  have HK2 : Hid (W2.heap[w.heap.size + 1]? = some (.cells #[.int .i64 0, .int .i64 0, .int .i64 0, .int .i64 0, .slice none 0 0] 52 (0, 0))) := k2
  have HB2 : Hid (Below w.heap.size w W2) := bstep b1 b2
  have HR : Hid (Rd3 W2 mo mn mc v.ms) := hr.still (bstep b1 b2)
  have HS : Hid (∀ V, Below W2.heap.size W2 V → V.rangeAt w.heap.size 0 (ints v.id) ∧ V.cell? ⟨w.heap.size, 4, none⟩ = some (.slice mo mn mc)) := fun V hV => by
    refine ⟨fun j u hu => below_at hV ?_, below_at hV (blk_cell k1' 4)⟩
    rw [blk_cell k1', Nat.zero_add]
    match j, hu with
    | 0, hu => exact hu
    | 1, hu => exact hu
    | 2, hu => exact hu
    | 3, hu => exact hu
    | j + 4, hu => simp [ints, Vw.id] at hu
  have HS2 : Hid (W2.heap.size = w.heap.size + 2) := s2
  have HS1 : Hid (W1.heap.size = w.heap.size + 1) := s1
  clear hr k1 k1' k2 b1 b2 s2
  go_enter Try.func67, Try.ntmps67
  go_wp2_with (fail)
  refine wp_region_held_drew (S := (fun w' => w'.rangeAt w.heap.size 0 (ints v.id) ∧ w'.cell? ⟨w.heap.size, 4, none⟩ = some (.slice mo mn mc))) (by kernel_rfl) (HS.out _ (Below.refl _ _).drew) (fun hHeld => ?_)
  simp only [Act.put, List.size_toArray, List.length_cons, List.length_nil, Nat.zero_add]
  refine wpAnyH_take (i := 0) (v := .pointer (some ⟨w.heap.size, 0, none⟩)) rfl (by kernel_rfl) (by kernel_rfl) (by kernel_rfl) (fun _ _ _ h => h) (Or.inl ⟨by rfl, fun w' hS => by go_simp⟩) hHeld ?_
  simp only [Act.put, List.getElem_toArray, List.getElem_cons_zero, List.getElem_cons_succ, List.setIfInBounds_toArray, List.set_cons_zero, List.set_cons_succ]
  refine wpAnyH_take (i := 1) (v := .agg (ints v.id).toArray) rfl (by kernel_rfl) (by kernel_rfl) (by kernel_rfl) (fun _ _ _ h => h) (yieldsIf_load_mid (by rfl) 49 (.tmp 3) rfl w.heap.size 0 (by rfl) (ints v.id) _ (fun w' hS => hS.1) Try.underlying49 rfl (by rw [ints_len, (show v.id.length = 4 from rfl)]; exact info_vid)) hHeld ?_
  simp only [Act.put, List.getElem_toArray, List.getElem_cons_zero, List.getElem_cons_succ, List.setIfInBounds_toArray, List.set_cons_zero, List.set_cons_succ]
  refine wpAnyH_take (i := 3) (v := .pointer (some ⟨w.heap.size, 4, none⟩)) rfl (by kernel_rfl) (by kernel_rfl) (by kernel_rfl) (fun _ _ _ h => h) (Or.inl ⟨by rfl, fun w' hS => by go_simp⟩) hHeld ?_
  simp only [Act.put, List.getElem_toArray, List.getElem_cons_zero, List.getElem_cons_succ, List.setIfInBounds_toArray, List.set_cons_zero, List.set_cons_succ]
  refine wpAnyH_take (i := 4) (v := .slice mo mn mc) rfl (by kernel_rfl) (by kernel_rfl) (by kernel_rfl) (fun _ _ _ h => h) (Or.inl ⟨by rfl, fun w' hS => by (obtain ⟨s0, s1⟩ := hS; go_simp)⟩) hHeld ?_
  simp only [Act.put, List.getElem_toArray, List.getElem_cons_zero, List.getElem_cons_succ, List.setIfInBounds_toArray, List.set_cons_zero, List.set_cons_succ]
  obtain ⟨V1, hV1⟩ : ∃ V1, W2.drew.alloc (.cells #[] 115) = V1 := ⟨_, rfl⟩
  have HV1 : Hid (Below W2.heap.size W2 V1) := by rw [← hV1]; exact bstep (Below.refl _ _).drew (balloc (Below.refl _ _))
  have HO0 : Hid (V1.ownsRow W2.heap.size 115 3 (.slice (some ⟨W2.heap.size, 0, none⟩) 0 0) 0 (ints (fl3 []))) := by rw [← hV1]; exact own3_empty W2.drew
  refine wpAnyH_ready (rs := [2]) (by kernel_rfl) (by simp) ?_
  refine AllReadyH.cons rfl (fun K hK => ?_) AllReadyH.nil
  go_simp
  try rw [hV1]
  refine hK.out _ _ (HS.out _ HV1.out) (fun hHeld => ?_)
  clear hK K
  refine wpAnyH_ready (rs := [5]) (by kernel_rfl) (by simp) ?_
  refine AllReadyH.cons rfl (fun K hK => ?_) AllReadyH.nil
  split
  · refine wp_app_mo (w0 := W2) (.tmp 5) (.tmp 7) rfl _ 0 [] rfl HO0.out HV1.out mo mn mc v.ms rfl (HR.out.still HV1.out) (by omega) ?_
    intro v2 V2 HO2x HBV2
    have HO2 : Hid (V2.ownsRow W2.heap.size 115 3 v2 mn (ints (fl3 v.ms))) := by have := HO2x.out; rw [Nat.zero_add, List.nil_append] at this; exact this
    clear HO2x
    obtain ⟨a2, c2, rfl⟩ := own_shape HO2.out
    refine hK.out _ _ (HS.out _ HBV2.out) (fun hHeld => ?_)
    clear hK K
    refine wpAnyH_take (i := 6) (v := .agg (v.cl (.slice a2 mn c2)).toArray) rfl (by kernel_rfl) (by kernel_rfl) (by kernel_rfl) (fun _ _ _ h => h) (Or.inl ⟨by rfl, fun w' hS => by exact run_buildop 52 _ rfl _ (by kernel_rfl)⟩) hHeld ?_
    simp only [Act.put, List.getElem_toArray, List.getElem_cons_zero, List.getElem_cons_succ, List.setIfInBounds_toArray, List.set_cons_zero, List.set_cons_succ]
    have HV2b : Hid (V2.heap[w.heap.size + 1]? = some (.cells #[.int .i64 0, .int .i64 0, .int .i64 0, .int .i64 0, .slice none 0 0] 52 (0, 0))) := (HBV2.out.block _ (by rw [HS2.out]; omega)).trans HK2.out
    refine wpAnyH_ready (rs := [7]) (by kernel_rfl) (by simp) ?_
    refine AllReadyH.cons rfl (fun K hK => ?_) AllReadyH.nil
    obtain ⟨V3, hV3⟩ : ∃ V3, V2.setCells (w.heap.size + 1) 0 (v.cl (.slice a2 mn c2)) = V3 := ⟨_, rfl⟩
    have HKp : Hid (Kept V2 V3 (fun j => j = w.heap.size + 1)) := by rw [← hV3]; exact ksets (P := fun j => j = w.heap.size + 1) rfl _ _ _
    have HV3b : Hid (V3.heap[w.heap.size + 1]? = some (.cells (v.cl (.slice a2 mn c2)).toArray 52 (0, 0))) := by rw [← hV3]; exact sets_whole HV2b.out rfl
    have HO3 : Hid (V3.ownsRow w.heap.size 115 3 (.slice a2 mn c2) mn (ints (fl3 v.ms))) := own_lower (own_keepT HO2.out HKp.out (fun g cur hg e => by subst e; exact ty_ne hg HV2b.out (by decide) rfl)) (by rw [HS2.out]; omega)
    have HB3 : Hid (Below w.heap.size w V3) := by rw [← hV3]; exact bsets (by omega) _ _ (bstep HB2.out HBV2.out)
    have HS3 : Hid (V3.rangeAt w.heap.size 0 (ints v.id) ∧ V3.cell? ⟨w.heap.size, 4, none⟩ = some (.slice mo mn mc)) := by
      have := HS.out _ HBV2.out
      exact ⟨Kept.range HKp.out this.1 (by omega), Kept.cell HKp.out this.2 (by show ¬ w.heap.size = w.heap.size + 1; omega)⟩
    split
    · refine wp_store_mid 52 (.tmp 2) (.tmp 9) rfl (w.heap.size + 1) 0 (v.cl (.slice a2 mn c2)).toArray rfl rfl (blk_there HV2b.out rfl) info_view (all_oneCell_toArray (v.cl_one _ _ _)) ?_
      simp only [List.toList_toArray]
      rw [hV3]
      refine hK.out _ _ HS3.out (fun hHeld => ?_)
      clear hK K
      refine wpAnyH_done (by kernel_rfl) ?_ _
      clear hHeld
      go_wp2
      (try simp only [Exit.inBlock, Exit.then])
      refine bodyPost_ret (v := .agg (v.cl (.slice a2 mn c2)).toArray) ?_ ?_ ?_
      · exact results_cell_row rfl _ _ (w.heap.size + 1) 52 _ (0, 0) _ rfl HV3b.out Try.underlying52 rfl info_view
      · rfl
      · exact ⟨a2, c2, rfl, HO3.out, HB3.out⟩
    · rename_i hno
      exact absurd (by rfl) hno
  · rename_i hno
    exact absurd (by rfl) hno
end
end Go.Proofs.Ytcieinejjkddfab.Qm
