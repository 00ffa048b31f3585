import Derived.Test.YtfodkackfahldaaRows
import Derived.WalkKit
import Derived.WalkLawsBesides
import Derived.WalkSpells
import Derived.Outline
import Derived.Below
import Derived.BigQuiet
import Derived.Deep.QuietTactic
import Derived.Laws.OwnMore
import Derived.Laws.AppendOwnNone
namespace Go.Proofs.Ytfodkackfahldaa.Lo
open Go.RowKit
set_option linter.unusedVariables false
set_option linter.unusedSimpArgs false

def inR (v lo hi : Int) : Bool := decide (lo ≤ v) && decide (v ≤ hi)

theorem within_any (v lo hi : Int) (w : World) : Calls Try.prog 49 #[.int .i64 v, .int .i64 lo, .int .i64 hi] w fun e w' => e = .returned (.bool (inR v lo hi)) ∧ w = w' := by
  go_enter Try.func49, Try.ntmps49
  go_wp2
  all_goals go_ret
  all_goals refine ⟨?_, rfl⟩
  all_goals simp_all [inR]
  all_goals omega

def Ri (w : World) (ao : Option Addr) (n cap : Nat) (xs : List Int) : Prop :=
  xs.length = n ∧ (ao = none → n = 0 ∧ cap = 0) ∧ (n = 0 ∨ ∃ b off, ao = some ⟨b, off, none⟩ ∧ ∀ i, i < n → w.cell? ⟨b, off + i, none⟩ = some (.int .i64 (xs.getD i 0)))

theorem Ri.below {w w1 : World} {ao : Option Addr} {n cap : Nat} {xs : List Int} (h : Ri w ao n cap xs) (hb : Below w.heap.size w w1) : Ri w1 ao n cap xs := by
  refine ⟨h.1, h.2.1, ?_⟩
  rcases h.2.2 with h | ⟨b, off, rfl, hc⟩
  · exact .inl h
  · exact .inr ⟨b, off, rfl, fun i hi => (hb.cell (World.block_lt_of_cell? w _ (hc i hi))).trans (hc i hi)⟩

theorem info_int : (Try.prog.info? 3).map (fun i => (i.zero, i.size, i.bytes)) = some (some (.int .i64 0), 1, 8) := by kernel_rfl

def okV (x : Int) : Bool := inR x 0 9
def votesB (xs : List Int) : Bool := xs.all okV && decide (0 < xs.sum)

theorem all_take_succ {xs : List Int} {f : Int → Bool} {j : Nat} (h : j < xs.length) : (xs.take (j + 1)).all f = ((xs.take j).all f && f (xs.getD j 0)) := by
  rw [List.take_add_one, List.all_append, List.getElem?_eq_getElem h]
  simp [List.getD, h]
theorem sum_take_succ {xs : List Int} {j : Nat} (h : j < xs.length) : (xs.take (j + 1)).sum = (xs.take j).sum + xs.getD j 0 := by
  rw [List.take_add_one, List.sum_append, List.getElem?_eq_getElem h]
  simp [List.getD, h]
theorem all_false {xs : List Int} {f : Int → Bool} {j : Nat} (h : (xs.take j).all f = false) : xs.all f = false := by
  rw [← List.take_append_drop j xs, List.all_append, h, Bool.false_and]
theorem sum_range {xs : List Int} : xs.all okV = true → 0 ≤ xs.sum ∧ xs.sum ≤ 9 * xs.length := by
  induction xs with
  | nil => simp
  | cons x xs ih =>
    intro h
    simp only [List.all_cons, Bool.and_eq_true] at h
    have := ih h.2
    have hx : 0 ≤ x ∧ x ≤ 9 := by simpa [okV, inR] using h.1
    simp only [List.sum_cons, List.length_cons]
    omega

theorem votes_stop {xs : List Int} {r : Bool} {j : Nat} (h : (xs.take j).all okV = false) (hr : votesB xs = r) : r = false := by
  rw [← hr, votesB, all_false h, Bool.false_and]
theorem votes_end {xs : List Int} {r : Bool} {n j : Nat} {s : Int} (hl : xs.length = n) (hj : ¬ j < n) (h : (xs.take j).all okV = true) (hs : (xs.take j).sum = s) (hr : votesB xs = r) : r = decide (0 < s) := by
  have e : xs.take j = xs := List.take_of_length_le (by omega)
  rw [e] at h hs
  rw [← hr, votesB, h, hs, Bool.true_and]

end Go.Proofs.Ytfodkackfahldaa.Lo
