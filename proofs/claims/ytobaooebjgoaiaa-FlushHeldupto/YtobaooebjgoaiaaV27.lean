import Derived.Test.YtobaooebjgoaiaaV15
namespace Go.Proofs.Ytobaooebjgoaiaa.Fm
open Go.RowKit Go.Maps Mb
set_option linter.unusedVariables false
set_option maxRecDepth 100000
set_option linter.unusedSimpArgs false
section
variable {w w' W : World} {B : Nat}
set_option maxHeartbeats 4000000 in
theorem sameSlots_any {ao bo : Option Addr} {ca cb : Nat} {ss : List (Int × Int)} (ha : RdS w ao ss) (hb : RdS w bo ss) (hn : ss.length ≤ 1000000000000000000) : Calls Try.prog 19 #[.slice ao ss.length ca, .slice bo ss.length cb] w fun e w' => e = .returned (.bool true) ∧ Below w.heap.size w w' := by
 have HA : Hid (RdS w ao ss) := ha
 have HB : Hid (RdS w bo ss) := hb
 generalize hL : ss.length = L at *
 have HLe : Hid (ss.length = L) := hL
 clear ha hb hL
 go_enter Try.func19, Try.ntmps19
 go_wp2
 go_loopw [5] (fun v wv => ∃ j : Nat, j ≤ L ∧ v = .int .i64 j ∧ Below w.heap.size w wv) (fun v _ => L - (intOf v).toNat)
 case atStart => exact ⟨0, Nat.zero_le _, rfl, Below.refl _ _⟩
 case round =>
  obtain ⟨j, hj, rfl, hb⟩ := hrel
  have HW : Hid (Below w.heap.size w wr) := hb
  clear hb
  by_cases hjt : j < L
  ·have j1 : (0 : Int) ≤ (j : Int) := Int.natCast_nonneg _
   have j2 : (j : Int) < (L : Int) := by omega
   obtain ⟨bf, of, rfl, rf, _, _⟩ := (HA.out.still HW.out).at (i := j) (by rw [HLe.out]; exact hjt)
   obtain ⟨bg, og, rfl, rg, _, _⟩ := (HB.out.still HW.out).at (i := j) (by rw [HLe.out]; exact hjt)
   have HEq : Hid (∀ W, (Op.equalIn 10000 76 (.agg (slotV (ss.getD j z2)).toArray) (.agg (slotV (ss.getD j z2)).toArray)).run Try.prog W = .ok true W) := fun W => by rw [eq_slot]; simp
   generalize ss.getD j z2 = u at *
   have rf2 : wr.drew.rangeAt bf (of + j * 2) (slotV u) := rf
   have rg2 : wr.drew.rangeAt bg (og + j * 2) (slotV u) := rg
   clear rf rg
   go_wp2_with (fail)
   refine wp_region_held_drew (S := (fun w' => w'.rangeAt bf (of + j * 2) (slotV u) ∧ w'.rangeAt bg (og + j * 2) (slotV u))) (by kernel_rfl) ⟨rf2, rg2⟩ (fun hHeld => ?_)
   simp only [Act.put, List.size_toArray, List.length_cons, List.length_nil, Nat.zero_add]
   refine wG9 0 (.slice (some ⟨bf, of, none⟩) L ca) rfl hHeld ?_
   simp only [Act.put,gA9,gZ9,gC9,sA9,sZ9,sC9]
   refine wG9 1 (.int .i64 (j : Int)) rfl hHeld ?_
   simp only [Act.put,gA9,gZ9,gC9,sA9,sZ9,sC9]
   refine wG9 2 (.pointer (some ⟨bf, of + j * 2, none⟩)) rfl hHeld ?_
   simp only [Act.put,gA9,gZ9,gC9,sA9,sZ9,sC9]
   refine wpAnyH_take (i := 3) (v := .agg (slotV u).toArray) rfl (by kernel_rfl) (by kernel_rfl) (by kernel_rfl) (fun _ _ _ h => h) (yieldsIf_load_mid (by rfl) 76 (.tmp 19) rfl bf (of + j * 2) (by rfl) (slotV u) _ (fun w' hS => hS.1) Try.underlying76 rfl info_slot) hHeld ?_
   simp only [Act.put,gA9,gZ9,gC9,sA9,sZ9,sC9]
   refine wG9 4 (.slice (some ⟨bg, og, none⟩) L cb) rfl hHeld ?_
   simp only [Act.put,gA9,gZ9,gC9,sA9,sZ9,sC9]
   refine wG9 5 (.int .i64 (j : Int)) rfl hHeld ?_
   simp only [Act.put,gA9,gZ9,gC9,sA9,sZ9,sC9]
   refine wG9 6 (.pointer (some ⟨bg, og + j * 2, none⟩)) rfl hHeld ?_
   simp only [Act.put,gA9,gZ9,gC9,sA9,sZ9,sC9]
   refine wpAnyH_take (i := 7) (v := .agg (slotV u).toArray) rfl (by kernel_rfl) (by kernel_rfl) (by kernel_rfl) (fun _ _ _ h => h) (yieldsIf_load_mid (by rfl) 76 (.tmp 23) rfl bg (og + j * 2) (by rfl) (slotV u) _ (fun w' hS => hS.2) Try.underlying76 rfl info_slot) hHeld ?_
   simp only [Act.put,gA9,gZ9,gC9,sA9,sZ9,sC9]
   refine wX9 8 (.bool false) rfl (Or.inl ⟨by rfl, fun w' hS => run_neqop 76 (.tmp 20) (.tmp 24) 76 rfl _ _ (by rfl) (by rfl) guard_slot true (HEq.out _)⟩) hHeld ?_
   simp only [Act.put,gA9,gZ9,gC9,sA9,sZ9,sC9]
   refine wpAnyH_done (by kernel_rfl) ?_ _
   clear hHeld
   go_wp2
   exact ⟨⟨j + 1, by omega, by go_num, HW.out.drew⟩, by simp [intOf]; omega⟩
  ·obtain rfl : L = j := by omega
   go_wp2
   go_ret
   exact ⟨rfl, HW.out⟩
end
end Go.Proofs.Ytobaooebjgoaiaa.Fm
