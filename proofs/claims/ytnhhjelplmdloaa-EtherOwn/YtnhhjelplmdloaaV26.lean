import Derived.Test.YtnhhjelplmdloaaV25
namespace Go.Proofs.Ytnhhjelplmdloaa.Et
open Go.RowKit Go.Maps
set_option linter.unusedVariables false
set_option linter.unusedSimpArgs false
set_option maxRecDepth 100000
section
variable {E E' : En} {R R' : Rn} {w w' w1 w2 w3 : World} {B K m : Nat}
end
end Go.Proofs.Ytnhhjelplmdloaa.Et
namespace Go.Proofs.Ytnhhjelplmdloaa.Et
open Go.RowKit Go.Maps
set_option linter.unusedVariables false
set_option linter.unusedSimpArgs false
set_option maxRecDepth 100000
section
variable {E E' : En} {R R' : Rn} {w w' w1 w2 w3 wa W : World} {B K m : Nat}
theorem row_cell {t g n c : Nat} {l : List Value} (h : w.ownsRow B t 1 (.slice (some ⟨g, 0, none⟩) n c) n l) {i : Nat} (hi : i < n) : w.cell? ⟨g, i, none⟩ = l[i]? := by
  rcases h.2 with ⟨h1, h2⟩ | ⟨g', cap, cur, hv, hB, hg, hnc, hcm, hcs, htk⟩
  · omega
  · simp at hv
    obtain ⟨rfl, rfl⟩ := hv
    rw [blk_cell hg _, ← htk, List.getElem?_take_of_lt (by omega), Array.getElem?_toList]
theorem MarkedI.at {g n c : Nat} {xs : List Int} (h : MarkedI w B g n c xs) (hn : xs.length = n) {k : Nat} (hk : k < 64) : w.cell? ⟨g, n + k, none⟩ = some (.int .i64 (700 + (k : Int))) := by
  rw [row_cell h (by omega), List.getElem?_map, List.getElem?_append_right (by omega), show n + k - xs.length = k by omega]
  have := mks_at 64 k hk
  have hl := mks_len 64
  simp only [List.getD] at this
  rw [List.getElem?_eq_getElem (by omega)] at this ⊢
  simp at this
  simp [this]
theorem MarkedI.cells {g n c : Nat} {xs : List Int} (h : MarkedI w B g n c xs) (hn : xs.length = n) {i : Nat} (hi : i < n) : w.cell? ⟨g, 0 + i, none⟩ = some (.int .i64 (xs.getD i 0)) := by
  rw [Nat.zero_add, row_cell h (by omega), List.getElem?_map, List.getElem?_append_left (by omega), List.getElem?_eq_getElem (by omega)]
  simp [List.getD, List.getElem?_eq_getElem (show i < xs.length by omega)]
theorem MarkedI.cap {g n c : Nat} {xs : List Int} (h : MarkedI w B g n c xs) : n + 64 ≤ c := by
  rcases h.2 with ⟨h1, h2⟩ | ⟨g, cap, cur, hv, hg1, hg2, hnc, _⟩
  · omega
  · simp at hv; omega
def evC (o : Opx) (gb cb gs cs : Nat) : Ev := ⟨o.k - 20, o.p, o.q, o.n, some ⟨gb, 0, none⟩, o.bn, cb, some ⟨gs, 0, none⟩, o.sn, cs⟩
end
end Go.Proofs.Ytnhhjelplmdloaa.Et
