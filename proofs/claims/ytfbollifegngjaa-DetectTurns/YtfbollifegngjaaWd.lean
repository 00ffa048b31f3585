import Derived.Test.YtfbollifegngjaaWc
namespace Go.Proofs.Ytfbollifegngjaa.Dt
open Go.RowKit
set_option linter.unusedVariables false
set_option maxRecDepth 100000
set_option linter.unusedSimpArgs false
section
variable {R R' : Rf} {w w' W V : World} {B m : Nat}
theorem info_past : (Try.prog.info? 100).map (fun i => (i.zero, i.size, i.bytes)) = some (some (.agg #[.int .i64 0, .int .i64 0, .int .i64 0, .int .i64 0, .bool false]), 5, 40) := by kernel_rfl
structure Rtep (w w' : World) (R R' : Rf) (B : Nat) : Prop where
  ok : R'.Ok w' B
  kept : Kept w w' R.own
  own : ∀ j, R'.own j → R.own j ∨ w.heap.size ≤ j
theorem Rtep.same (h : R.Ok w B) : Rtep w w R R B := ⟨h, Kept.refl _ _, fun j hj => .inl hj⟩
theorem Rtep.trans {w1 w2 : World} {R1 R2 : Rf} (h : Rtep w w1 R R1 B) (g : Rtep w1 w2 R1 R2 B) : Rtep w w2 R R2 B :=
  ⟨g.ok, h.kept.step g.kept (fun j hj => h.own j hj), fun j hj => (g.own j hj).elim (fun hh => h.own j hh) (fun hh => .inr (Nat.le_trans h.kept.size hh))⟩
theorem Rtep.pre {W : World} (hb : Below w.heap.size w W) (s : Rtep W w' R R' B) : Rtep w w' R R' B :=
  ⟨s.ok, (Kept.ofBelow hb _).trans s.kept, fun j hj => (s.own j hj).elim (fun hh => .inl hh) (fun hh => .inr (Nat.le_trans hb.size hh))⟩
theorem Rtep.post {W : World} (s : Rtep w W R R' B) (hb : Below W.heap.size W w') : Rtep w w' R R' B := ⟨s.ok.still hb, s.kept.trans (Kept.ofBelow hb _), s.own⟩
def Rf.push (R : Rf) (x : Pst) (g cap : Nat) : Rf := { R with va := some ⟨g, 0, none⟩, vc := cap, all := R.all ++ [x] }
theorem Rf.Ok.row_b (h : R.Ok w B) : (Value.slice R.va R.all.length R.vc).ownBlock ≠ some R.b := by
  intro e
  rcases h.row.2 with ⟨h1, _⟩ | ⟨g, cap, cur, hv, _, hg, _⟩
  · rw [h1] at e; simp [Value.ownBlock] at e
  · rw [hv] at e
    simp [Value.ownBlock] at e
    rw [e, h.blk] at hg
    simp at hg
theorem rfar {w2 w3 : World} (h : R.Ok W B) (hb2 : Below W.heap.size W w2) (hgrow : w2.grownBy w3 (Value.slice R.va R.all.length R.vc).ownBlock) :
    w3.cell? ⟨R.b, 6, none⟩ = some (.slice R.va R.all.length R.vc) ∧ w3.frozen? ⟨R.b, 6, none⟩ = false ∧ w3.heap[R.b]? = some (.cells R.cs 88 (0, 0)) := by
  have k3 : Kept W w3 (fun j => (Value.slice R.va R.all.length R.vc).ownBlock = some j) := (Kept.ofBelow hb2 _).trans ((Kept.ofGrown hgrow).mono (fun j _ e => e.symm))
  have hb3 := k3.obj h.blk h.row_b
  exact ⟨blk_cell hb3 6, frozen_of_row w3 _ 6 _ _ hb3, hb3⟩
theorem Rtep.push {w2 w3 : World} (h : R.Ok W B) (hb2 : Below W.heap.size W w2) (x : Pst) (g cap : Nat) (hown : w3.ownsRow B 100 5 (.slice (some ⟨g, 0, none⟩) (R.all.length + 1) cap) (R.all.length + 1) (psCells R.all ++ x.cs.toList))
    (hgrow : w2.grownBy w3 (Value.slice R.va R.all.length R.vc).ownBlock) (hat : (Value.slice R.va R.all.length R.vc).ownBlock = some g ∨ g = w2.heap.size) :
    Rtep W (w3.setCell ⟨R.b, 6, none⟩ (.slice (some ⟨g, 0, none⟩) (R.all.length + 1) cap)) R (R.push x g cap) B := by
  obtain ⟨_, _, hb3⟩ := rfar h hb2 hgrow
  have k3 : Kept W w3 (fun j => (Value.slice R.va R.all.length R.vc).ownBlock = some j) := (Kept.ofBelow hb2 _).trans ((Kept.ofGrown hgrow).mono (fun j _ e => e.symm))
  have hgb : g ≠ R.b := by
    intro e
    rcases hown.2 with ⟨h1, _⟩ | ⟨g', cap', cur, hv, _, hg, _⟩
    · simp at h1
    · simp at hv
      rw [← hv.1, e, hb3] at hg
      simp at hg
  have ks : Kept w3 (w3.setCell ⟨R.b, 6, none⟩ (.slice (some ⟨g, 0, none⟩) (R.all.length + 1) cap)) (fun j => j = R.b) := kset w3 R.b 6 _ rfl
  refine ⟨⟨blk_set hb3 ?_, ?_, h.ge, h.num⟩, ?_, ?_⟩
  · simp [Rf.cs, Rf.push]
  · have := ks.owns hown (fun k hk e => by simp [Value.ownBlock] at hk; omega)
    show World.ownsRow _ B 100 5 (.slice (some ⟨g, 0, none⟩) (R.all ++ [x]).length cap) (R.all ++ [x]).length (psCells (R.all ++ [x]))
    rw [psCells_app]
    simpa [psCells] using this
  · exact (k3.mono (fun j _ e => .inr e)).trans (ks.mono (fun j _ e => .inl e))
  · intro j hj
    rcases hj with hj | hj
    · exact .inl (.inl hj)
    · have : g = j := by simpa [Rf.push, Value.ownBlock] using hj
      subst this
      rcases hat with hat | hat
      · exact .inl (.inr hat)
      · exact .inr (by have := hb2.size; omega)
theorem Rf.Ok.max (h : R.Ok w B) : True := trivial
set_option maxHeartbeats 1000000 in
theorem rtick_any (h : R.Ok w B) (hA : R.all.length ≤ 2513169434917) : Calls Try.prog 43 #[.pointer (some ⟨R.b, 0, none⟩)] w fun e w' => e = .returned (.tuple #[]) ∧ ∃ g c, Rtep w w' R (R.push ⟨1, 0, 0, 0, false⟩ g c) B := by
  obtain ⟨i0, hi, hz0, hz1, hz2⟩ := info_parts info_past
  have c6 := h.cells.2.2.2.2.2.2
  have hB : B ≤ w.heap.size := Nat.le_trans h.ge (Nat.le_of_lt (lt_heap h.blk))
  have Hh : Hid (R.Ok w B) := h
  clear h
  go_enter Try.func43, Try.ntmps43
  go_wp2_with (first
    | (at_builtin; refine wpList_append_lies _ rfl _ _ 86 rfl B 100 i0 (.agg #[.int .i64 0, .int .i64 0, .int .i64 0, .int .i64 0, .bool false]) 5 40 Try.underlying86 hi hz0 hz1 hz2 rfl (by omega) (.slice R.va R.all.length R.vc) R.all.length (psCells R.all) rfl (World.ownsRow.alloc Hh.out.row _) _ 1 1 _ rfl rfl (World.news_of_block (heap_alloc_new _ _)) (by simp [Value.oneCell']) (by omega) (by unfold maxLen; omega) (by omega) (by first | (simp; omega) | omega) _ rfl ?_; intro g3 cap3 w3 hown3 hgrow3 hat3 hlt3; obtain ⟨t6, tz, tb⟩ := rfar Hh.out (balloc (Below.refl _ w)) hgrow3; have P3 : Hid (Rtep w (w3.setCell ⟨R.b, 6, none⟩ (.slice (some ⟨g3, 0, none⟩) (R.all.length + 1) cap3)) R (R.push ⟨1, 0, 0, 0, false⟩ g3 cap3) B) := (Rtep.push Hh.out (balloc (Below.refl _ w)) ⟨1, 0, 0, 0, false⟩ g3 cap3 hown3 hgrow3 hat3); clear hown3 hgrow3 hat3 tb)
    | fail)
  go_end0
  exact ⟨rfl, g3, cap3, P3.out⟩
set_option maxHeartbeats 1000000 in
theorem rleave_any (h : R.Ok w B) (hA : R.all.length ≤ 2513169434917) : Calls Try.prog 44 #[.pointer (some ⟨R.b, 0, none⟩)] w fun e w' => e = .returned (.tuple #[]) ∧ ∃ g c, Rtep w w' R (R.push ⟨3, 0, 0, 0, false⟩ g c) B := by
  obtain ⟨i0, hi, hz0, hz1, hz2⟩ := info_parts info_past
  have c6 := h.cells.2.2.2.2.2.2
  have hB : B ≤ w.heap.size := Nat.le_trans h.ge (Nat.le_of_lt (lt_heap h.blk))
  have Hh : Hid (R.Ok w B) := h
  clear h
  go_enter Try.func44, Try.ntmps44
  go_wp2_with (first
    | (at_builtin; refine wpList_append_lies _ rfl _ _ 86 rfl B 100 i0 (.agg #[.int .i64 0, .int .i64 0, .int .i64 0, .int .i64 0, .bool false]) 5 40 Try.underlying86 hi hz0 hz1 hz2 rfl (by omega) (.slice R.va R.all.length R.vc) R.all.length (psCells R.all) rfl (World.ownsRow.alloc Hh.out.row _) _ 1 1 _ rfl rfl (World.news_of_block (heap_alloc_new _ _)) (by simp [Value.oneCell']) (by omega) (by unfold maxLen; omega) (by omega) (by first | (simp; omega) | omega) _ rfl ?_; intro g3 cap3 w3 hown3 hgrow3 hat3 hlt3; obtain ⟨t6, tz, tb⟩ := rfar Hh.out (balloc (Below.refl _ w)) hgrow3; have P3 : Hid (Rtep w (w3.setCell ⟨R.b, 6, none⟩ (.slice (some ⟨g3, 0, none⟩) (R.all.length + 1) cap3)) R (R.push ⟨3, 0, 0, 0, false⟩ g3 cap3) B) := (Rtep.push Hh.out (balloc (Below.refl _ w)) ⟨3, 0, 0, 0, false⟩ g3 cap3 hown3 hgrow3 hat3); clear hown3 hgrow3 hat3 tb)
    | fail)
  go_end0
  exact ⟨rfl, g3, cap3, P3.out⟩
theorem rother_any (h : R.Ok w B) (q : Int) : Calls Try.prog 50 #[.pointer (some ⟨R.b, 0, none⟩), .int .i64 q] w fun e w' => e = .returned (.bool (decide (0 ≤ q ∧ q < R.n ∧ q ≠ R.s))) ∧ w = w' := by
  obtain ⟨c0, c1, _⟩ := h.cells
  clear h
  by_cases h0 : 0 ≤ q
  · by_cases h1 : q < R.n
    · by_cases h2 : q = R.s
      · rw [decide_eq_false (by omega)]
        have t2 : (q == (R.s : Int)) = true := by simp [h2]
        go_enter Try.func50, Try.ntmps50
        go_wp2
        go_ret
        exact ⟨by first | rfl | simp [h2], rfl⟩
      · rw [decide_eq_true ⟨h0, h1, h2⟩]
        have t2 : (q == (R.s : Int)) = false := by simp [h2]
        go_enter Try.func50, Try.ntmps50
        go_wp2
        go_ret
        exact ⟨by first | rfl | simp [h2], rfl⟩
    · rw [decide_eq_false (by omega)]
      go_enter Try.func50, Try.ntmps50
      go_wp2
      go_ret
      exact ⟨rfl, rfl⟩
  · rw [decide_eq_false (by omega)]
    go_enter Try.func50, Try.ntmps50
    go_wp2
    go_ret
    exact ⟨rfl, rfl⟩
end
end Go.Proofs.Ytfbollifegngjaa.Dt
