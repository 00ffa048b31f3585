import Derived.Test.YtfodkackfahldaaScB
namespace Go.Proofs.Ytfodkackfahldaa.Lo
open Go.RowKit
set_option linter.unusedVariables false
set_option linter.unusedSimpArgs false

def headC (no wi ba st ca ro fl : Int) (n : Nat) : Bool := inR no 1 16 && inR wi 1 8 && inR ca 1 64 && inR ba 1 ca && inR st 1 ca && inR ro 1 20000 && inR fl 0 4611686018427387904 && decide ((n : Int) = no)
def cfgE (no wi ba st ca ro fl : Int) (n : Nat) (r : Bool) : Int := if headC no wi ba st ca ro fl n && r then 0 else 22

theorem heap_new (w : World) (cs : Array Value) (t : TypeId) : (w.alloc (.cells cs t)).heap[w.heap.size]? = some (.cells cs t (0, 0)) := heap_alloc_new w _
theorem blk_cell {W : World} {cs : Array Value} {t : TypeId} {kb : Nat} (h : W.heap[kb]? = some (.cells cs t (0, 0))) (i : Nat) : W.cell? ⟨kb, i, none⟩ = cs[i]? := cell_of_row W kb i cs t (0, 0) h

set_option maxRecDepth 100000 in
set_option maxHeartbeats 2000000 in
theorem check_any (no wi ba st ca ro fl : Int) (ao : Option Addr) (n c : Nat) (xs : List Int) (r : Bool) (w : World) (hr : Ri w ao n c xs) (hn : n ≤ 140737488355328) (hB : votesB xs = r) :
    Calls Try.prog 32 #[.agg #[.int .i64 no, .int .i64 wi, .int .i64 ba, .int .i64 st, .int .i64 ca, .int .i64 ro, .int .i64 fl, .slice ao n c]] w fun e w' => e = .returned (.int .i64 (cfgE no wi ba st ca ro fl n r)) ∧ Below w.heap.size w w' := by
  have HR : Hid (Ri w ao n c xs) := hr
  have HV : Hid (votesB xs = r) := hB
  clear hr hB
  go_enter Try.func32, Try.ntmps32
  go_wp2_with (first
    | (go_at_call 49; refine (within_any _ _ _ _).mono ?_; rintro e w' ⟨rfl, rfl⟩)
    | (go_at_call 50; refine (votes_any _ _ _ xs r _ (HR.out.below ((Below.refl _ _).alloc (Nat.le_refl _) _)) hn HV.out).mono ?_; rintro e w' ⟨rfl, rfl⟩)
    | fail)
  all_goals go_ret
  all_goals refine ⟨?_, (Below.refl _ _).alloc (Nat.le_refl _) _⟩
  all_goals simp_all [cfgE, headC]

end Go.Proofs.Ytfodkackfahldaa.Lo
