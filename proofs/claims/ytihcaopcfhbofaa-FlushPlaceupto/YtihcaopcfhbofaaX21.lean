import Derived.Test.YtihcaopcfhbofaaX20
namespace Go.Proofs.Ytihcaopcfhbofaa.Fm
open Go.RowKit Go.Maps Mb
set_option linter.unusedVariables false
set_option maxRecDepth 100000
set_option linter.unusedSimpArgs false
section
variable {w w' W : World} {B : Nat}
def flCells (xs : List Fl) : List Value := xs.flatMap Fl.cs
theorem flCells_app (xs : List Fl) (x : Fl) : flCells (xs ++ [x]) = flCells xs ++ x.cs := by simp [flCells]
theorem flCells_at (xs : List Fl) (i : Nat) (hi : i < xs.length * 7) : (flCells xs)[i]? = some (flC xs i) := by
  induction xs generalizing i with
  | nil => simp at hi
  | cons x xs ih =>
    have hl : x.cs.length = 7 := rfl
    simp only [flCells, List.flatMap_cons]
    by_cases h : i < 7
    · rw [List.getElem?_append_left (by rw [hl]; exact h)]
      unfold flC
      rw [show i / 7 = 0 by omega, show i % 7 = i by omega]
      simp [List.getD, List.getElem?_eq_getElem (show i < x.cs.length by rw [hl]; exact h)]
    · rw [List.getElem?_append_right (by rw [hl]; omega), hl]
      have := ih (i - 7) (by simp at hi; omega)
      rw [show List.flatMap Fl.cs xs = flCells xs from rfl, this]
      unfold flC
      rw [show i / 7 = (i - 7) / 7 + 1 by omega, show i % 7 = (i - 7) % 7 by omega]
      simp
theorem own_row {B t k n c : Nat} {a : Option Addr} {l : List Value} {f : Nat → Value} (h : w.ownsRow B t k (.slice a n c) n l) (hf : ∀ i, i < n * k → l[i]? = some (f i)) : Row w a n k f := by
  by_cases h0 : n = 0
  · exact .inl h0
  · rcases h.2 with ⟨h1, h2⟩ | ⟨g, cap, cur, hv, hB, hg, hnc, hcm, hcs, htk⟩
    · omega
    · simp at hv
      refine .inr ⟨g, 0, hv.1, fun i hi => ?_⟩
      rw [Nat.zero_add, blk_cell hg i]
      have e1 : (cur.toList.take (n * k))[i]? = l[i]? := by rw [htk]
      rw [List.getElem?_take_of_lt hi] at e1
      rw [← Array.getElem?_toList, e1, hf i hi]
theorem flush_info : ∃ i : TypeInfo, Try.prog.info? 28 = some i ∧ i.zero = some (.agg #[.int .i64 0, .int .i64 0, .int .i64 0, .int .i64 0, .int .i64 0, .slice none 0 0, .slice none 0 0]) ∧ i.size = 7 ∧ i.bytes = 88 := by
  have h : (Try.prog.info? 28).map (fun i => (i.zero, i.size, i.bytes)) = some (some (.agg #[.int .i64 0, .int .i64 0, .int .i64 0, .int .i64 0, .int .i64 0, .slice none 0 0, .slice none 0 0]), 7, 88) := by kernel_rfl
  cases hq : Try.prog.info? 28 with
  | none => rw [hq] at h; cases h
  | some i => rw [hq] at h; simp at h; exact ⟨i, rfl, h.1, h.2.1, h.2.2⟩
end
end Go.Proofs.Ytihcaopcfhbofaa.Fm
