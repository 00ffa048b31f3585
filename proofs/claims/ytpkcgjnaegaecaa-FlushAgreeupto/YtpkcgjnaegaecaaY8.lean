import Derived.Test.YtpkcgjnaegaecaaY6
import Derived.Test.YtpkcgjnaegaecaaY3
import Derived.Test.YtpkcgjnaegaecaaZg
namespace Go.Proofs.Ytpkcgjnaegaecaa.Fm
open Go.RowKit Go.Maps Mb
set_option linter.unusedVariables false
set_option maxRecDepth 100000
set_option linter.unusedSimpArgs false
section
variable {w w' W : World} {B : Nat}
theorem tog_base {cs : List Co} (h : Tog cs) : ∀ i, i < cs.length → 0 ≤ (cs.getD i c0).base ∧ (cs.getD i c0).base ≤ 4611686018427387904 := fun i hi => by
  have h1 := h.snd i hi
  have := h1.b0
  have := h1.bM
  omega
theorem slOf_get {cs : List Co} {n : Nat} {ss : List (Int × Int)} (h : SlOf cs n ss) {j : Nat} (hj : j < n) : (atP cs (baseOf cs + (j : Int) + 1)).getD z2 = ss.getD j z2 := by
  have := h.2 j hj
  rw [show baseOf cs + (j : Int) + 1 = baseOf cs + 1 + (j : Int) by omega, this]
  rfl
theorem slOf_ex {cs : List Co} {n : Nat} (h : Ends cs n) : ∃ ss, SlOf cs n ss := by
  refine ⟨(List.range n).map (fun j : Nat => (atP cs (baseOf cs + 1 + (j : Int))).getD z2), by simp, fun j hj => ?_⟩
  have h1 := h.1 j hj
  unfold whP at h1
  split at h1
  · cases h1
  · rename_i s hs
    rw [hs]
    simp [List.getD, hj, hs]
theorem drop_take {ss : List (Int × Int)} {k j : Nat} (hj : k + j < ss.length) : (ss.drop k).take (j + 1) = (ss.drop k).take j ++ [ss.getD (k + j) z2] := by
  rw [List.take_add_one]
  simp [List.getD, hj]
structure Mo (w0 w : World) (v : Value) (fs : List Fl) : Prop where
  o : w.ownsRow w0.heap.size 35 7 v fs.length (flCells fs)
  b : Below w0.heap.size w0 w
theorem Mo.rd {w0 : World} {a : Option Addr} {n c : Nat} {fs : List Fl} (h : Mo w0 w (.slice a n c) fs) (hn : fs.length = n) (he : ∀ i, i < fs.length → (fs.getD i fl0).Rd w) : RdFs w a fs := by
  refine ⟨?_, he⟩
  have := h.o
  rw [hn] at this ⊢
  exact own_row this (fun i hi => flCells_at _ _ (by rw [hn]; exact hi))
theorem rdF_news {ao : Option Addr} {fs : List Fl} (h : RdFs w ao fs) : ∀ ad, ao = some ad → ∀ j u, (flCells fs)[j]? = some u → w.cell? (ad.add j) = some u := fun ad he j u hu => by
  have hj : j < fs.length * 7 := by have := (List.getElem?_eq_some_iff.1 hu).1; rwa [flCells_len] at this
  rcases h.row with h0 | ⟨b, off, e, hc⟩
  · omega
  · rw [e] at he
    cases he
    rw [Addr.add_lit, hc j hj, ← flCells_at _ _ hj, hu]
theorem flCells_one (fs : List Fl) : ∀ u ∈ flCells fs, u.oneCell' = true := by
  intro u hu
  obtain ⟨f, _, hf⟩ := List.mem_flatMap.1 hu
  exact flcs_one f u hf
end
end Go.Proofs.Ytpkcgjnaegaecaa.Fm
