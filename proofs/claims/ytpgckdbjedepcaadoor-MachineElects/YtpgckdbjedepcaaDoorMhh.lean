import Derived.Test.YtpgckdbjedepcaaDoorMhg
namespace Go.Proofs.YtpgckdbjedepcaaDoor.Mh
open Go.RowKit Mb Go.Maps
set_option linter.unusedVariables false
set_option maxRecDepth 100000
set_option linter.unusedSimpArgs false
section
variable {w w' W : World} {B : Nat}
def lkE : Value → Option (DataW Unit × List MemPlace) := fun _ => none
theorem rising_nil {lb n : Nat} (h : w.ownsMap Tryd.prog 9 lkE lb n (.map [])) : Calls Tryd.prog 30 #[.map (some lb)] w fun e w' => e = .returned (.slice none 0 0) ∧ Below w.heap.size w w' := by
  go_enter Tryd.func30, Tryd.ntmps30
  go_wp2_with (first
    | (at_range; refine wpList_range_own _ rfl _ 35 rfl 9 59 law Tryd.underlying35 lkE lb n _ rfl h ?_)
    | fail)
  intro w1 hr hg hs
  have HB : Hid (Below w.heap.size w w1) := ⟨hg.os, hg.tape, hg.output, hg.size, fun i hi => hg.block i hi (by simp)⟩
  have HR : Hid (w1.ranges Tryd.prog 9 lkE lb w.heap.size n (DataW.map []) (Maps.has (DataW.map [])) (Maps.size (DataW.map [] : DataW Unit))) := hr
  clear hr hg hs h
  go_wp2_with (fail)
  refine wp_loop_rounds 1 ?_
  rw [rounds_succ]
  go_wp2_with (first
    | (at_next; refine wpList_next_ranges (α := Value) (β := Value) _ rfl _ rfl 9 law lkE id id (fun key kl h => ⟨key, rfl⟩) (fun v y h => ⟨v, rfl⟩) lb w.heap.size n _ _ _ rfl HR.out ?_ ?_)
    | fail)
  · intro h1 h2
    go_wp2_with (first | (go_at_call 42; refine (sort_nil).mono ?_; rintro e wx ⟨rfl, rfl⟩) | fail)
    go_ret
    exact ⟨rfl, HB.out⟩
  · intros
    exfalso
    simp_all [Maps.has, lkE]
theorem release_nil {mb lb n : Nat} {q : Int} (h1 : w.cell? ⟨mb, 1, none⟩ = some (.map (some lb))) (h : w.ownsMap Tryd.prog 9 lkE lb n (.map [])) : Calls Tryd.prog 13 #[.pointer (some ⟨mb, 0, none⟩), .int .i64 q] w fun e w' => e = .returned (.int .i64 0) ∧ Below w.heap.size w w' := by
  have HR := rising_nil h
  go_enter Tryd.func13, Tryd.ntmps13
  go_wp2_with (fail)
  refine HR.mono ?_
  rintro e w1 ⟨rfl, hb⟩
  go_wp2_with (fail)
  refine wp_loop_rounds 1 ?_
  rw [rounds_succ]
  go_wp2_with (fail)
  refine wp_loop_rounds 1 ?_
  rw [rounds_succ]
  go_wp2
  go_ret
  exact ⟨rfl, hb⟩
theorem get_any {mb pb n : Nat} {s : ByteArray} (h0 : w.cell? ⟨mb, 0, none⟩ = some (.map (some pb))) (hm : w.ownsMap Tryd.prog 9 prE pb n (mp s)) : Calls Tryd.prog 6 #[.pointer (some ⟨mb, 0, none⟩), .string lead] w fun e w' => e = .returned (.tuple #[.string s, .bool true]) ∧ Below w.heap.size w w' := by
  have HL := look1 hm
  go_enter Tryd.func6, Tryd.ntmps6
  go_wp2
  (try simp only [Exit.inBlock, Exit.then])
  refine bodyPost_ret (results_tmp2 Tryd.results6 _ _ _) rfl ⟨rfl, ?_⟩
  exact balloc (Below.refl _ _)
end
end Go.Proofs.YtpgckdbjedepcaaDoor.Mh
