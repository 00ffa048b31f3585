import Derived.Test.YtghihdenbdnnjaaLkn
namespace Go.Proofs.Ytghihdenbdnnjaa.Ln
open Go.RowKit Mb
set_option linter.unusedVariables false
set_option maxRecDepth 100000
set_option linter.unusedSimpArgs false
section
variable {w w' W : World}
def Tg.whole (t : Tg) : Bool := inR 1 4611686018427387904 t.e && inR 0 15 t.l && inR 1 4611686018427387904 t.i && inR 1 4611686018427387904 t.c
set_option maxHeartbeats 1000000 in
theorem whole_any (t : Tg) : Calls Try.prog 44 #[.agg #[.int .i64 t.e, .int .i64 t.l, .int .i64 t.i, .int .i64 t.c]] w fun e w' => e = .returned (.bool t.whole) ∧ Below w.heap.size w w' := by
  unfold Tg.whole
  generalize hW : w.alloc (.cells #[.int .i64 t.e, .int .i64 t.l, .int .i64 t.i, .int .i64 t.c] 24) = W
  have hbW : Below w.heap.size w W := by rw [← hW]; exact balloc (Below.refl _ _)
  have hblk : W.heap[w.heap.size]? = some (.cells #[.int .i64 t.e, .int .i64 t.l, .int .i64 t.i, .int .i64 t.c] 24 (0, 0)) := by rw [← hW]; exact heap_alloc_new _ _
  have a0 : W.cell? ⟨w.heap.size, 0, none⟩ = some (.int .i64 t.e) := blk_cell hblk 0
  have a1 : W.cell? ⟨w.heap.size, 1, none⟩ = some (.int .i64 t.l) := blk_cell hblk 1
  have a2 : W.cell? ⟨w.heap.size, 2, none⟩ = some (.int .i64 t.i) := blk_cell hblk 2
  have a3 : W.cell? ⟨w.heap.size, 3, none⟩ = some (.int .i64 t.c) := blk_cell hblk 3
  have HB : Hid (Below w.heap.size w W) := hbW
  clear hblk hbW
  cases e0 : inR 1 4611686018427387904 t.e with
  | false =>
    go_enter Try.func44, Try.ntmps44
    go_wp2_with (first | (go_at_call 36; refine (within_any _ _ _).mono ?_; rintro e w' ⟨rfl, rfl⟩) | fail)
    go_ret
    exact ⟨rfl, HB.out⟩
  | true =>
    cases e1 : inR 0 15 t.l with
    | false =>
      go_enter Try.func44, Try.ntmps44
      go_wp2_with (first | (go_at_call 36; refine (within_any _ _ _).mono ?_; rintro e w' ⟨rfl, rfl⟩) | fail)
      go_ret
      exact ⟨rfl, HB.out⟩
    | true =>
      cases e2 : inR 1 4611686018427387904 t.i with
      | false =>
        go_enter Try.func44, Try.ntmps44
        go_wp2_with (first | (go_at_call 36; refine (within_any _ _ _).mono ?_; rintro e w' ⟨rfl, rfl⟩) | fail)
        go_ret
        exact ⟨rfl, HB.out⟩
      | true =>
        go_enter Try.func44, Try.ntmps44
        go_wp2_with (first | (go_at_call 36; refine (within_any _ _ _).mono ?_; rintro e w' ⟨rfl, rfl⟩) | fail)
        go_ret
        exact ⟨by simp, HB.out⟩
end
end Go.Proofs.Ytghihdenbdnnjaa.Ln
