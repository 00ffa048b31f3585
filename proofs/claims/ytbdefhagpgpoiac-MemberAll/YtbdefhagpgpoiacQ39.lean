import Derived.Test.YtbdefhagpgpoiacQ00
import Derived.Test.YtbdefhagpgpoiacQ38
import Derived.Test.YtbdefhagpgpoiacQ27
namespace Go.Proofs.Ytbdefhagpgpoiac.Mb
open Go.RowKit
set_option linter.unusedVariables false
set_option maxRecDepth 100000
set_option linter.unusedSimpArgs false
section
variable {A A' : Ag} {w w' W : World} {B : Nat} {T : Int} {R R' : Rg}
def Rg.tg (R : Rg) (q : Nat) : Bool := decide (q = R.self) || (match lat R.all q with | some k => decide ((R.all.getD k h0).p.prev = R.own.prev) && !(decide ((R.all.getD k h0).p.prev = [0, 0, 0, 0])) | none => false)
def Rg.inS (R : Rg) (q : Nat) : Bool := R.own.ss.getD q 0 != 0
def Rg.mi (R : Rg) (k : Nat) : List Nat := (List.range k).filter R.inS
def Rg.msN (R : Rg) (k : Nat) : List Int := (R.mi k).flatMap fun q : Nat => [(q : Int), R.own.ss.getD q 0, R.own.vs.getD q 0]
def Rg.trN (R : Rg) (k : Nat) : List Int := ((List.range k).filter fun q => R.inS q && R.tg q).map (fun q : Nat => (q : Int))
def Rg.tpS (R : Rg) (t : Int) (q : Nat) : Int := if R.inS q then (if q = R.self then t else match lat R.all q with | some j => (if t < (R.all.getD j h0).p.top then (R.all.getD j h0).p.top else t) | none => t) else t
def Rg.tpN (R : Rg) (k : Nat) : Int := (List.range k).foldl R.tpS R.own.top
theorem Rg.mi_next (R : Rg) (k : Nat) : R.mi (k + 1) = R.mi k ++ (if R.inS k then [k] else []) := by
  unfold Rg.mi
  rw [List.range_succ, List.filter_append]
  congr 1
  by_cases h : R.inS k <;> simp [h]
theorem Rg.msN_next (R : Rg) (k : Nat) : R.msN (k + 1) = R.msN k ++ (if R.inS k then [(k : Int), R.own.ss.getD k 0, R.own.vs.getD k 0] else []) := by
  unfold Rg.msN
  rw [R.mi_next, List.flatMap_append]
  congr 1
  by_cases h : R.inS k <;> simp [h]
theorem Rg.trN_next (R : Rg) (k : Nat) : R.trN (k + 1) = R.trN k ++ (if R.inS k && R.tg k then [(k : Int)] else []) := by
  unfold Rg.trN
  rw [List.range_succ, List.filter_append, List.map_append]
  congr 1
  by_cases h : (R.inS k && R.tg k) = true
  · rw [if_pos h, List.filter_cons, if_pos h]; rfl
  · rw [if_neg h, List.filter_cons, if_neg h]; rfl
theorem Rg.tpN_next (R : Rg) (k : Nat) : R.tpN (k + 1) = R.tpS (R.tpN k) k := by unfold Rg.tpN; rw [List.range_succ, List.foldl_append]; rfl
theorem Rg.mi_len (R : Rg) (k : Nat) : (R.mi k).length ≤ k := by
  have := List.length_filter_le R.inS (List.range k)
  rw [List.length_range] at this
  exact this
theorem Rg.trN_len (R : Rg) (k : Nat) : (R.trN k).length ≤ k := by
  have := List.length_filter_le (fun q => R.inS q && R.tg q) (List.range k)
  rw [List.length_range] at this
  unfold Rg.trN
  rw [List.length_map]
  exact this
theorem rows_ne {b t s n b' t' s' n' : Nat} {v v' : Value} {l l' : List Value} (h : w.ownsRow b t s v n l) (h' : w.ownsRow b' t' s' v' n' l') (ht : t ≠ t') : ∀ g, v.ownBlock = some g → v'.ownBlock = some g → False := by
  intro g hg hg'
  rcases h'.2 with ⟨h1, _⟩ | ⟨g', cap, cur, h1, _, h3, _⟩
  · rw [h1] at hg'; cases hg'
  · rw [h1] at hg'
    cases hg'
    exact own_ne h h3 ht _ hg rfl
structure AS (R : Rg) (w wr : World) (K2 K6 : Nat) (k j : Nat) (v v7 : Value) : Prop where
  b6 : wr.heap[K6]? = some (.cells [.int .i64 0, .int .i64 0, .int .i64 0, .int .i64 0, v].toArray 51 (0, 0))
  b2 : wr.heap[K2]? = some (.cells [.int .i64 0, .int .i64 0, .int .i64 0, .int .i64 0, .slice none 0 0].toArray 51 (0, 0))
  om : wr.ownsRow w.heap.size 92 3 v (R.mi k).length (ints (R.msN k))
  ot : wr.ownsRow w.heap.size 3 1 v7 (R.trN j).length (ints (R.trN j))
  bl : Below w.heap.size w wr
theorem AS.still {wr wr' : World} {K2 K6 k j : Nat} {v v7 : Value} (h : AS R w wr K2 K6 k j v v7) (hb : Below wr.heap.size wr wr') : AS R w wr' K2 K6 k j v v7 := ⟨(hb.block _ (lt_heap h.b6)).trans h.b6, (hb.block _ (lt_heap h.b2)).trans h.b2, own_still h.om hb, own_still h.ot hb, bstep h.bl hb⟩
theorem AS.skipM {wr : World} {K2 K6 k j : Nat} {v v7 : Value} (h : AS R w wr K2 K6 k j v v7) (hi : R.inS k = false) : AS R w wr K2 K6 (k + 1) j v v7 := { h with om := by rw [R.mi_next, R.msN_next, hi]; simpa using h.om }
theorem AS.skipT {wr : World} {K2 K6 k j : Nat} {v v7 : Value} (h : AS R w wr K2 K6 k j v v7) (hi : (R.inS j && R.tg j) = false) : AS R w wr K2 K6 k (j + 1) v v7 := { h with ot := by rw [R.trN_next, hi]; simpa using h.ot }
theorem AS.putM {wr w3 : World} {K2 K6 k j : Nat} {v v7 : Value} (h : AS R w wr K2 K6 k j v v7) (hne : K2 ≠ K6) (hlo : w.heap.size ≤ K6) (hi : R.inS k = true) {g3 cap3 : Nat} (ho : w3.ownsRow w.heap.size 92 3 (.slice (some ⟨g3, 0, none⟩) ((R.mi k).length + 1) cap3) ((R.mi k).length + 1) (ints (R.msN k) ++ [.int .i64 (k : Int), .int .i64 (R.own.ss.getD k 0), .int .i64 (R.own.vs.getD k 0)])) (hg : wr.grownBy w3 v.ownBlock) : w3.cell? ⟨K6, 4, none⟩ = some v ∧ w3.frozen? ⟨K6, 4, none⟩ = false ∧ Below w.heap.size w w3 ∧ AS R w (w3.setCell ⟨K6, 4, none⟩ (.slice (some ⟨g3, 0, none⟩) ((R.mi k).length + 1) cap3)) K2 K6 (k + 1) j (.slice (some ⟨g3, 0, none⟩) ((R.mi k).length + 1) cap3) v7 := by
  have kg := Kept.ofGrown hg
  have k6 := kg.obj h.b6 (fun e => own_ne h.om h.b6 (by decide) _ e.symm rfl)
  have k2 := kg.obj h.b2 (fun e => own_ne h.om h.b2 (by decide) _ e.symm rfl)
  have ot3 := kg.owns h.ot (fun q hq e => rows_ne h.om h.ot (by decide) q e.symm hq)
  have kk : Kept w3 (w3.setCell ⟨K6, 4, none⟩ (.slice (some ⟨g3, 0, none⟩) ((R.mi k).length + 1) cap3)) (fun j => j = K6) := kset _ _ _ _ rfl
  have bg : Below w.heap.size w w3 := h.bl.grown hg h.bl.size (fun q hq => (World.ownsRow.lt h.om q hq).1)
  refine ⟨blk_cell k6 4, frozen_of_row w3 _ _ _ _ k6, bg, blk_set k6 rfl, kk.obj k2 hne, ?_, kk.owns ot3 (own_ne ot3 k6 (by decide)), bg.trans (kk.below bg.size (fun q hq e => by omega))⟩
  have := kk.owns ho (own_ne ho k6 (by decide))
  rw [R.mi_next, R.msN_next, if_pos hi, if_pos hi]
  simpa [ints] using this
theorem AS.putT {wr w3 : World} {K2 K6 k j : Nat} {v v7 : Value} {o : Obj} (h : AS R w wr K2 K6 k j v v7) (hi : (R.inS j && R.tg j) = true) {g3 cap3 : Nat} (ho : w3.ownsRow w.heap.size 3 1 (.slice (some ⟨g3, 0, none⟩) ((R.trN j).length + 1) cap3) ((R.trN j).length + 1) (ints (R.trN j) ++ [.int .i64 (j : Int)])) (hg : (wr.alloc o).grownBy w3 v7.ownBlock) : AS R w w3 K2 K6 k (j + 1) v (.slice (some ⟨g3, 0, none⟩) ((R.trN j).length + 1) cap3) := by
  have ba : Below wr.heap.size wr (wr.alloc o) := balloc (Below.refl _ _)
  have h1 := h.still ba
  have kg := Kept.ofGrown hg
  have k6 := kg.obj h1.b6 (fun e => own_ne h1.ot h1.b6 (by decide) _ e.symm rfl)
  have k2 := kg.obj h1.b2 (fun e => own_ne h1.ot h1.b2 (by decide) _ e.symm rfl)
  have om3 := kg.owns h1.om (fun q hq e => rows_ne h1.om h1.ot (by decide) q hq e.symm)
  have bg : Below w.heap.size w w3 := h1.bl.grown hg h1.bl.size (fun q hq => (World.ownsRow.lt h1.ot q hq).1)
  refine ⟨k6, k2, om3, ?_, bg⟩
  rw [R.trN_next, if_pos hi]
  simpa [ints] using ho
set_option maxHeartbeats 2000000 in
theorem ragreed_no (h : R.Ok w B) (hL : R.all.length ≤ 1000000000000) (hl : R.Hlat) (hg : R.ragr = false) : Calls Try.prog 23 #[.pointer (some ⟨R.b, 0, none⟩)] w fun e w' => e = .returned (.tuple #[.agg [.int .i64 0, .int .i64 0, .int .i64 0, .int .i64 0, .slice none 0 0].toArray, .slice none 0 0, .bool false]) ∧ Below w.heap.size w w' := by
  generalize hW1 : w.alloc (.cells [.int .i64 0, .int .i64 0, .int .i64 0, .int .i64 0, .slice none 0 0].toArray 51) = W1
  have b1 : Below w.heap.size w W1 := hW1 ▸ balloc (Below.refl _ _)
  have k1 : W1.heap[w.heap.size]? = some (.cells [.int .i64 0, .int .i64 0, .int .i64 0, .int .i64 0, .slice none 0 0].toArray 51 (0, 0)) := by rw [← hW1]; exact heap_alloc_new w _
  have HI : Hid (Calls Try.prog 49 #[.pointer (some ⟨R.b, 0, none⟩)] W1 fun e w' => e = .returned (.bool false) ∧ Below W1.heap.size W1 w') := hg ▸ ragreement_any (h.still b1) hL hl
  have HK : Hid (W1.heap[w.heap.size]? = some (.cells [.int .i64 0, .int .i64 0, .int .i64 0, .int .i64 0, .slice none 0 0].toArray 51 (0, 0))) := k1
  have HB1 : Hid (Below w.heap.size w W1) := b1
  simp only [List.toArray] at hW1
  clear h b1 k1
  go_enter Try.func23, Try.ntmps23
  go_wp2_with (first
    | (go_at_call 49; refine HI.out.mono ?_; rintro e W2 ⟨rfl, hb2⟩; have HB2 : Hid (Below W1.heap.size W1 W2) := hb2; have HK2 : Hid (W2.heap[w.heap.size]? = some (.cells #[.int .i64 0, .int .i64 0, .int .i64 0, .int .i64 0, .slice none 0 0] 51 (0, 0))) := (hb2.block _ (lt_heap HK.out)).trans HK.out; clear hb2)
    | (refine wpList_store_row rfl 51 (.tmp 2) (.tmp 18) rfl w.heap.size #[.int .i64 0, .int .i64 0, .int .i64 0, .int .i64 0, .slice none 0 0] rfl rfl 51 _ HK2.out (by kernel_rfl) rfl (by simp [Value.oneCell']) ?_)
    | fail)
  (try simp only [Exit.inBlock, Exit.then])
  refine bodyPost_ret (v := .tuple #[.agg #[.int .i64 0, .int .i64 0, .int .i64 0, .int .i64 0, .slice none 0 0], .slice none 0 0, .bool false]) ?_ ?_ ?_
  · exact results_cell_tmp2 rfl _ _ w.heap.size 51 _ _ _ _ rfl rfl rfl (setRow_heap W2 w.heap.size _ #[.int .i64 0, .int .i64 0, .int .i64 0, .int .i64 0, .slice none 0 0] 51 _ HK2.out) Try.underlying51 rfl (by kernel_rfl)
  · rfl
  · exact ⟨rfl, below_setRow (bstep HB1.out HB2.out) (Nat.le_refl _) _⟩
end
end Go.Proofs.Ytbdefhagpgpoiac.Mb
