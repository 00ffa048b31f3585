import Derived.Test.YtfodkackfahldaaScD
namespace Go.Proofs.Ytfodkackfahldaa.Lo
open Go.RowKit
set_option linter.unusedVariables false
set_option linter.unusedSimpArgs false

theorem bwithin_any (v lo hi : Int) (w : World) : Calls Try.prog 33 #[.int .i64 v, .int .i64 lo, .int .i64 hi] w fun e w' => e = .returned (.bool (inR v lo hi)) ∧ w = w' := by
  go_enter Try.func33, Try.ntmps33
  go_wp2
  all_goals go_ret
  all_goals refine ⟨?_, rfl⟩
  all_goals simp_all [inR]
  all_goals omega

def dv (n b : Int) : Int := Int.tdiv (n + b - 1) b

theorem dv_rng {n b : Int} (hn : 0 ≤ n) (hn2 : n ≤ 64) (hb : 1 ≤ b) (hb2 : b ≤ 64) : 0 ≤ dv n b ∧ dv n b ≤ 127 := by
  unfold dv
  refine ⟨Int.tdiv_nonneg (by omega) (by omega), ?_⟩
  rw [Int.tdiv_eq_ediv_of_nonneg (by omega)]
  exact Int.le_trans (Int.ediv_le_self _ (by omega)) (by omega)

theorem divideUp_any (n b : Int) (w : World) (hn : 0 ≤ n) (hn2 : n ≤ 64) (hb : 1 ≤ b) (hb2 : b ≤ 64) : Calls Try.prog 34 #[.int .i64 n, .int .i64 b] w fun e w' => e = .returned (.int .i64 (dv n b)) ∧ w = w' := by
  have HD := dv_rng hn hn2 hb hb2
  unfold dv at HD
  go_enter Try.func34, Try.ntmps34
  go_wp2_with fail
  all_goals go_ret
  all_goals first
    | exact ⟨rfl, rfl⟩
    | trace_state

theorem over_any (n b : Int) (w : World) (hn : 0 ≤ n) (hn2 : n ≤ 64) (hb : 1 ≤ b) (hb2 : b ≤ 64) : Calls Try.prog 30 #[.int .i64 n, .int .i64 b] w fun e w' => e = .returned (.int .i64 (dv n b)) ∧ w = w' := by
  have HD := dv_rng hn hn2 hb hb2
  unfold dv at HD
  go_enter Try.func30, Try.ntmps30
  go_wp2_with fail
  all_goals go_ret
  all_goals first
    | exact ⟨rfl, rfl⟩
    | trace_state

theorem check_eq (no wi ba st ca ro fl : Int) (ao : Option Addr) (n c : Nat) (xs : List Int) (r : Bool) (E : Int) (w : World) (hr : Ri w ao n c xs) (hn : n ≤ 140737488355328) (hB : votesB xs = r) (hE : cfgE no wi ba st ca ro fl n r = E) :
    Calls Try.prog 32 #[.agg #[.int .i64 no, .int .i64 wi, .int .i64 ba, .int .i64 st, .int .i64 ca, .int .i64 ro, .int .i64 fl, .slice ao n c]] w fun e w' => e = .returned (.int .i64 E) ∧ Below w.heap.size w w' := by
  subst hE
  exact check_any no wi ba st ca ro fl ao n c xs r w hr hn hB
theorem rcheck_eq (no wi ba st ca ro fl : Int) (ao : Option Addr) (n c : Nat) (xs : List Int) (r : Bool) (E : Int) (w : World) (hr : Ri w ao n c xs) (hn : n ≤ 140737488355328) (hB : votesB xs = r) (hE : cfgE no wi ba st ca ro fl n r = E) :
    Calls Try.prog 7 #[.agg #[.int .i64 no, .int .i64 wi, .int .i64 ba, .int .i64 st, .int .i64 ca, .int .i64 ro, .int .i64 fl, .slice ao n c]] w fun e w' => e = .returned (.int .i64 E) ∧ Below w.heap.size w w' := by
  subst hE
  exact rcheck_any no wi ba st ca ro fl ao n c xs r w hr hn hB

structure Cf (w : World) (no wi ba st ca ro fl : Int) (ao : Option Addr) (n c : Nat) (xs : List Int) (r : Bool) (E : Int) : Prop where
  rd : Ri w ao n c xs
  le : n ≤ 140737488355328
  vt : votesB xs = r
  er : cfgE no wi ba st ca ro fl n r = E

theorem Cf.below {w w1 : World} {no wi ba st ca ro fl : Int} {ao : Option Addr} {n c : Nat} {xs : List Int} {r : Bool} {E : Int} (h : Cf w no wi ba st ca ro fl ao n c xs r E) (hb : Below w.heap.size w w1) : Cf w1 no wi ba st ca ro fl ao n c xs r E := ⟨h.rd.below hb, h.le, h.vt, h.er⟩
theorem Cf.two {w : World} {no wi ba st ca ro fl : Int} {ao : Option Addr} {n c : Nat} {xs : List Int} {r : Bool} {E : Int} (h : Cf w no wi ba st ca ro fl ao n c xs r E) : E = 22 ∨ (E = 0 ∧ headC no wi ba st ca ro fl n = true) := by
  have := h.er
  unfold cfgE at this
  split at this
  · rename_i hh
    simp only [Bool.and_eq_true] at hh
    exact .inr ⟨this.symm, hh.1⟩
  · exact .inl this.symm

def dlE (ba d : Int) : Int := if inR d 1 (min ba 16) then 0 else 1

end Go.Proofs.Ytfodkackfahldaa.Lo
