import Derived.Test.YtbdefhagpgpoiacQ00
import Derived.Test.YtbdefhagpgpoiacQ30
import Derived.Test.YtbdefhagpgpoiacQ29
import Derived.Test.YtbdefhagpgpoiacQ31
import Derived.Test.YtbdefhagpgpoiacQ19
import Derived.Test.YtbdefhagpgpoiacQ21
namespace Go.Proofs.Ytbdefhagpgpoiac.Mb
open Go.RowKit
set_option linter.unusedVariables false
set_option linter.unusedSimpArgs false
section
variable {A A' : Ag} {w w' W : World} {B : Nat} {T : Int}
structure Fx (A A' : Ag) : Prop where
  b : A'.b = A.b
  n : A'.n = A.n
  self : A'.self = A.self
structure Vx (A A' : Ag) : Prop where
  id : A'.id = A.id
  msv : A'.msv = A.msv
  k : A'.k = A.k
  ms : A'.ms = A.ms
theorem rev_fx (A : Ag) (p : Pp) : Fx A (A.revA p) ∧ Vx A (A.revA p) := by
  unfold Ag.revA
  split <;> (try split) <;> exact ⟨⟨rfl, rfl, rfl⟩, ⟨rfl, rfl, rfl, rfl⟩⟩
theorem beg_fx (A : Ag) (s : List Int) : Fx A (A.begA s) ∧ Vx A (A.begA s) := by
  unfold Ag.begA
  have h := rev_fx A (A.begP s)
  split
  · exact ⟨⟨rfl, rfl, rfl⟩, ⟨rfl, rfl, rfl, rfl⟩⟩
  · split
    · exact ⟨⟨h.1.b, h.1.n, h.1.self⟩, ⟨h.2.id, h.2.msv, h.2.k, h.2.ms⟩⟩
    · exact ⟨⟨rfl, rfl, rfl⟩, ⟨rfl, rfl, rfl, rfl⟩⟩
theorem est_fx (A : Ag) (xs : List Int) : Fx A (A.estA xs) ∧ Vx A (A.estA xs) := by
  unfold Ag.estA
  split
  · exact ⟨⟨rfl, rfl, rfl⟩, ⟨rfl, rfl, rfl, rfl⟩⟩
  · split
    · exact ⟨⟨rfl, rfl, rfl⟩, ⟨rfl, rfl, rfl, rfl⟩⟩
    · exact beg_fx A _
theorem fol_fx (A : Ag) (q : Nat) : Fx A (A.folA q) ∧ Vx A (A.folA q) := by
  unfold Ag.folA
  split
  · exact rev_fx A _
  · split
    · exact beg_fx A _
    · exact ⟨⟨rfl, rfl, rfl⟩, ⟨rfl, rfl, rfl, rfl⟩⟩
theorem tak_fx (A : Ag) (q i : Int) (p : Pq) : Fx A (A.takA q i p) ∧ Vx A (A.takA q i p) := by
  unfold Ag.takA
  split
  · exact ⟨⟨rfl, rfl, rfl⟩, ⟨rfl, rfl, rfl, rfl⟩⟩
  · split
    · exact ⟨⟨rfl, rfl, rfl⟩, ⟨rfl, rfl, rfl, rfl⟩⟩
    · split
      · exact ⟨⟨rfl, rfl, rfl⟩, ⟨rfl, rfl, rfl, rfl⟩⟩
      · split
        · exact ⟨⟨rfl, rfl, rfl⟩, ⟨rfl, rfl, rfl, rfl⟩⟩
        · unfold Ag.tk1
          split
          · have h := fol_fx (A.set1 q.toNat p.pp) q.toNat
            exact ⟨⟨h.1.b, h.1.n, h.1.self⟩, ⟨h.2.id, h.2.msv, h.2.k, h.2.ms⟩⟩
          · exact ⟨⟨rfl, rfl, rfl⟩, ⟨rfl, rfl, rfl, rfl⟩⟩
theorem stp_fx {o : Opx} {E : Int} (s : Stp A o E A') : Fx A A' := by
  cases s with
  | est _ => exact (est_fx A o.ss).1
  | tak _ => exact (tak_fx A o.q o.inc o.p).1
  | ins g c _ _ => exact ⟨rfl, rfl, rfl⟩
  | apart _ _ => exact ⟨rfl, rfl, rfl⟩
  | none _ _ _ => exact ⟨rfl, rfl, rfl⟩
end
end Go.Proofs.Ytbdefhagpgpoiac.Mb
namespace Go.Proofs.Ytbdefhagpgpoiac.Mb
open Go.RowKit
set_option linter.unusedVariables false
set_option maxRecDepth 100000
set_option linter.unusedSimpArgs false
section
variable {A A' : Ag} {w w' W : World} {B : Nat} {T : Int} {R R' : Rg}
theorem info_view : (Try.prog.info? 51).map (·.size) = some 5 := by kernel_rfl
theorem info_propose : (Try.prog.info? 40).map (·.size) = some 9 := by kernel_rfl
theorem blk_ne {a b t t' : Nat} {C C' : Array Value} (h : w.heap[a]? = some (.cells C t (0, 0))) (h' : w.heap[b]? = some (.cells C' t' (0, 0))) (ht : t ≠ t') : a ≠ b := by
  rintro rfl
  rw [h] at h'
  simp at h'
  exact ht h'.2
theorem sets_list {k t : Nat} : ∀ (vs : List Value) (o : Nat) (w : World) (xs : List Value), w.heap[k]? = some (.cells xs.toArray t (0, 0)) → o + vs.length ≤ xs.length → (w.setCells k o vs).heap[k]? = some (.cells (xs.take o ++ vs ++ xs.drop (o + vs.length)).toArray t (0, 0))
  | [], o, w, xs, h, _ => by simpa [World.setCells] using h
  | y :: ys, o, w, xs, h, hl => by
      simp only [List.length_cons] at hl
      have h1 : (w.setCell ⟨k, o, none⟩ y).heap[k]? = some (.cells (xs.set o y).toArray t (0, 0)) := blk_set h (by simp)
      have := sets_list ys (o + 1) _ _ h1 (by simp; omega)
      have e : (xs.set o y).take (o + 1) ++ ys ++ (xs.set o y).drop (o + 1 + ys.length) = xs.take o ++ y :: ys ++ xs.drop (o + (y :: ys).length) := by
        rw [List.take_set, List.drop_set, if_pos (by omega), List.length_cons, show o + (ys.length + 1) = o + 1 + ys.length by omega]
        rw [List.take_add_one, List.set_append]
        simp [show ¬ o < min o xs.length by omega, show min o xs.length = o by omega, show o < xs.length by omega]
      rw [e] at this
      exact this
theorem sets_whole {k t : Nat} {C : Array Value} {L : List Value} (h : w.heap[k]? = some (.cells C t (0, 0))) (hl : C.size = L.length) : (w.setCells k 0 L).heap[k]? = some (.cells L.toArray t (0, 0)) := by
  have := sets_list (k := k) (t := t) L 0 w C.toList (by simpa using h) (by simp [hl])
  have hd : C.toList.drop L.length = [] := List.drop_eq_nil_of_le (by simp [hl])
  simpa [hd] using this
theorem blk_there {k t n : Nat} {C : Array Value} (h : w.heap[k]? = some (.cells C t (0, 0))) (hn : C.size = n) : w.there k 0 n := fun j hj => ⟨by rw [blk_cell h, Nat.zero_add]; simp [show j < C.size by omega], frozen_of_row w _ _ _ _ h⟩
theorem blk_range {k t : Nat} {L : List Value} (h : w.heap[k]? = some (.cells L.toArray t (0, 0))) : w.rangeAt k 0 L := fun j v hv => by
  rw [blk_cell h, Nat.zero_add, List.getElem?_toArray, hv]
theorem range_sub {k t o : Nat} {L cs : List Value} (h : w.heap[k]? = some (.cells L.toArray t (0, 0))) (hs : (L.drop o).take cs.length = cs) : w.rangeAt k o cs := fun j v hv => by
  have hj : j < cs.length := (List.getElem?_eq_some_iff.1 hv).1
  rw [blk_cell h, List.getElem?_toArray, ← hv]
  have e : ((L.drop o).take cs.length)[j]? = cs[j]? := by rw [hs]
  rw [List.getElem?_take_of_lt hj, List.getElem?_drop] at e
  exact e
theorem store_midL {ops : Array Oper} {rest : List Oper} {o : Oper} {a : Act} {Q : Exit → Act → World → Prop} (ty : TypeId) (x y : Operand) {b off : Nat} {L : List Value} (ht : w.there b off L.length) (hi : (Try.prog.info? ty).map (·.size) = some L.length) (h1 : ∀ u ∈ L, u.oneCell' = true)
    (ho : o.op = .store ty x y) (hx : a.eval x = .pointer (some ⟨b, off, none⟩)) (hy : a.eval y = .agg L.toArray) (hw : Region.wanted o (yielded ops a.tmps) = true) (h : wpList Try.prog ops Q rest (a.put o.dst undef) (w.setCells b off L)) : wpList Try.prog ops Q (o :: rest) a w :=
  wpList_step fun K hK => by
    rw [if_pos hw]
    exact wp_store_mid ty x y ho b off _ hx hy (by simpa using ht) (by simpa using hi) (all_oneCell_toArray h1) (hK _ _ (by simpa using h))
theorem blk_there' {k t o n : Nat} {C : Array Value} (h : w.heap[k]? = some (.cells C t (0, 0))) (hn : o + n ≤ C.size) : w.there k o n := fun j hj => ⟨by rw [blk_cell h]; simp [show o + j < C.size by omega], frozen_of_row w _ _ _ _ h⟩
theorem own_ne {b t s n k t' : Nat} {v : Value} {l : List Value} {C : Array Value} (h : w.ownsRow b t s v n l) (hk : w.heap[k]? = some (.cells C t' (0, 0))) (ht : t ≠ t') : ∀ g, v.ownBlock = some g → ¬ g = k := fun g hg e => by
  rcases h.2 with ⟨h1, _⟩ | ⟨g', cap, cur, h1, _, h3, _⟩
  · rw [h1] at hg; cases hg
  · rw [h1] at hg
    cases hg
    exact blk_ne h3 hk ht e
set_option maxHeartbeats 4000000 in
theorem qtwin_any (p : Pq) (hp : p.Rd w) (hs : p.sn ≤ 1000) (hv : p.vn ≤ 1000) : Calls Try.prog 41 #[.agg [.slice p.sa p.sn p.sc, .int .i64 p.cid, .int .i64 p.rev, .int .i64 p.top, .int .i64 (p.prev[0]?.getD 0), .int .i64 (p.prev[1]?.getD 0), .int .i64 (p.prev[2]?.getD 0), .int .i64 (p.prev[3]?.getD 0), .slice p.va p.vn p.vc].toArray] w fun e w' => ∃ a1 q1 a2 q2, e = .returned (.agg [.slice a1 p.sn q1, .int .i64 p.cid, .int .i64 p.rev, .int .i64 p.top, .int .i64 (p.prev[0]?.getD 0), .int .i64 (p.prev[1]?.getD 0), .int .i64 (p.prev[2]?.getD 0), .int .i64 (p.prev[3]?.getD 0), .slice a2 p.vn q2].toArray) ∧ RowI w' w.heap.size a1 p.sn q1 p.ss ∧ RowI w' w.heap.size a2 p.vn q2 p.vs ∧ Below w.heap.size w w' := by
  generalize hW1 : w.alloc (.cells [.slice p.sa p.sn p.sc, .int .i64 p.cid, .int .i64 p.rev, .int .i64 p.top, .int .i64 (p.prev[0]?.getD 0), .int .i64 (p.prev[1]?.getD 0), .int .i64 (p.prev[2]?.getD 0), .int .i64 (p.prev[3]?.getD 0), .slice p.va p.vn p.vc].toArray 40) = W1
  have b1 : Below w.heap.size w W1 := by rw [← hW1]; exact balloc (Below.refl _ _)
  have k1 : W1.heap[w.heap.size]? = some (.cells [.slice p.sa p.sn p.sc, .int .i64 p.cid, .int .i64 p.rev, .int .i64 p.top, .int .i64 (p.prev[0]?.getD 0), .int .i64 (p.prev[1]?.getD 0), .int .i64 (p.prev[2]?.getD 0), .int .i64 (p.prev[3]?.getD 0), .slice p.va p.vn p.vc].toArray 40 (0, 0)) := by rw [← hW1]; exact heap_alloc_new w _
  generalize hW2 : W1.alloc (.cells [.slice none 0 0, .int .i64 0, .int .i64 0, .int .i64 0, .int .i64 0, .int .i64 0, .int .i64 0, .int .i64 0, .slice none 0 0].toArray 40) = W2
  have b2 : Below W1.heap.size W1 W2 := by rw [← hW2]; exact balloc (Below.refl _ _)
  have k2 : W2.heap[W1.heap.size]? = some (.cells [.slice none 0 0, .int .i64 0, .int .i64 0, .int .i64 0, .int .i64 0, .int .i64 0, .int .i64 0, .int .i64 0, .slice none 0 0].toArray 40 (0, 0)) := by rw [← hW2]; exact heap_alloc_new W1 _
  have k1' := (b2.block _ (lt_heap k1)).trans k1
  have s1 : w.heap.size < W1.heap.size := lt_heap k1
  have s2 : W1.heap.size < W2.heap.size := lt_heap k2
  generalize hW3 : W2.alloc (.cells [.slice p.sa p.sn p.sc, .int .i64 p.cid, .int .i64 p.rev, .int .i64 p.top, .int .i64 (p.prev[0]?.getD 0), .int .i64 (p.prev[1]?.getD 0), .int .i64 (p.prev[2]?.getD 0), .int .i64 (p.prev[3]?.getD 0), .slice p.va p.vn p.vc].toArray 40) = W3
  have b3 : Below W2.heap.size W2 W3 := by rw [← hW3]; exact balloc (Below.refl _ _)
  have k3 : W3.heap[W2.heap.size]? = some (.cells [.slice p.sa p.sn p.sc, .int .i64 p.cid, .int .i64 p.rev, .int .i64 p.top, .int .i64 (p.prev[0]?.getD 0), .int .i64 (p.prev[1]?.getD 0), .int .i64 (p.prev[2]?.getD 0), .int .i64 (p.prev[3]?.getD 0), .slice p.va p.vn p.vc].toArray 40 (0, 0)) := by rw [← hW3]; exact heap_alloc_new W2 _
  have k1'' := (b3.block _ (lt_heap k1')).trans k1'
  have k2'' := (b3.block _ (lt_heap k2)).trans k2
  have R1 : Hid (W2.rangeAt w.heap.size 0 [.slice p.sa p.sn p.sc, .int .i64 p.cid, .int .i64 p.rev, .int .i64 p.top, .int .i64 (p.prev[0]?.getD 0), .int .i64 (p.prev[1]?.getD 0), .int .i64 (p.prev[2]?.getD 0), .int .i64 (p.prev[3]?.getD 0), .slice p.va p.vn p.vc]) := blk_range k1'
  have c0 : W3.cell? ⟨w.heap.size, 0, none⟩ = some (.slice p.sa p.sn p.sc) := blk_cell k1'' 0
  have hp3 := ((hp.still b1).still b2).still b3
  have HI1 := qints_any (c := p.sc) hp3.s hs
  have HI2 : Hid (∀ W, Below w.heap.size w W → Calls Try.prog 55 #[.slice p.va p.vn p.vc] W fun e w' => ∃ v, e = .returned v ∧ w'.ownsRow W.heap.size 3 1 v p.vn (ints p.vs) ∧ Below W.heap.size W w') := fun W hW => qints_any (hp.v.still hW) hv
  have HK : Hid ((W3.heap[w.heap.size]? = some (.cells [.slice p.sa p.sn p.sc, .int .i64 p.cid, .int .i64 p.rev, .int .i64 p.top, .int .i64 (p.prev[0]?.getD 0), .int .i64 (p.prev[1]?.getD 0), .int .i64 (p.prev[2]?.getD 0), .int .i64 (p.prev[3]?.getD 0), .slice p.va p.vn p.vc].toArray 40 (0, 0))) ∧ (W3.heap[W1.heap.size]? = some (.cells [.slice none 0 0, .int .i64 0, .int .i64 0, .int .i64 0, .int .i64 0, .int .i64 0, .int .i64 0, .int .i64 0, .slice none 0 0].toArray 40 (0, 0))) ∧ (W3.heap[W2.heap.size]? = some (.cells [.slice p.sa p.sn p.sc, .int .i64 p.cid, .int .i64 p.rev, .int .i64 p.top, .int .i64 (p.prev[0]?.getD 0), .int .i64 (p.prev[1]?.getD 0), .int .i64 (p.prev[2]?.getD 0), .int .i64 (p.prev[3]?.getD 0), .slice p.va p.vn p.vc].toArray 40 (0, 0)))) := ⟨k1'', k2'', k3⟩
  have HB3 : Hid (Below w.heap.size w W3) := bstep (bstep b1 b2) b3
  have hs3 : W2.heap.size < W3.heap.size := lt_heap k3
  simp only [List.toArray] at hW1 hW2 hW3
  clear hp hp3 b1 b2 b3 k1 k2 k3 k1' k1'' k2''
  go_enter Try.func41, Try.ntmps41
  go_wp2_with (first | (refine load_mid 40 (.tmp 1) R1.out _ Try.underlying40 rfl (by kernel_rfl) rfl rfl rfl ?_) | fail)
  refine HI1.mono ?_
  rintro e w4 ⟨v1, rfl, ho1, hb4⟩
  obtain ⟨a1, q1, rfl⟩ := own_slice ho1
  have k31 := (hb4.block _ (lt_heap HK.out.2.2)).trans HK.out.2.2
  have k11 := (hb4.block _ (lt_heap HK.out.1)).trans HK.out.1
  have k21 := (hb4.block _ (lt_heap HK.out.2.1)).trans HK.out.2.1
  generalize hM1 : w4.setCell ⟨W2.heap.size, 0, none⟩ (.slice a1 p.sn q1) = M1
  have kk1 : Kept w4 M1 (fun j => j = W2.heap.size) := by rw [← hM1]; exact kset w4 _ 0 _ rfl
  have m3 : M1.heap[W2.heap.size]? = some (.cells [.slice a1 p.sn q1, .int .i64 p.cid, .int .i64 p.rev, .int .i64 p.top, .int .i64 (p.prev[0]?.getD 0), .int .i64 (p.prev[1]?.getD 0), .int .i64 (p.prev[2]?.getD 0), .int .i64 (p.prev[3]?.getD 0), .slice p.va p.vn p.vc].toArray 40 (0, 0)) := by rw [← hM1]; exact blk_set k31 rfl
  have m1 := kk1.obj k11 (by omega)
  have m2 := kk1.obj k21 (by omega)
  have ho1' := kk1.owns ho1 (own_ne ho1 k31 (by decide))
  have f0 : w4.cell? ⟨W2.heap.size, 0, none⟩ = some (.slice p.sa p.sn p.sc) := blk_cell k31 0
  have z0 : w4.frozen? ⟨W2.heap.size, 0, none⟩ = false := frozen_of_row w4 _ _ _ _ k31
  have c8 : M1.cell? ⟨w.heap.size, 8, none⟩ = some (.slice p.va p.vn p.vc) := blk_cell m1 8
  have BM1 : Below w.heap.size w M1 := (bstep HB3.out hb4).trans (kk1.below (bstep HB3.out hb4).size (fun k hk e => by omega))
  have HN2 := HI2.out M1 BM1
  have HKm : Hid ((M1.heap[w.heap.size]? = some (.cells [.slice p.sa p.sn p.sc, .int .i64 p.cid, .int .i64 p.rev, .int .i64 p.top, .int .i64 (p.prev[0]?.getD 0), .int .i64 (p.prev[1]?.getD 0), .int .i64 (p.prev[2]?.getD 0), .int .i64 (p.prev[3]?.getD 0), .slice p.va p.vn p.vc].toArray 40 (0, 0))) ∧ (M1.heap[W1.heap.size]? = some (.cells [.slice none 0 0, .int .i64 0, .int .i64 0, .int .i64 0, .int .i64 0, .int .i64 0, .int .i64 0, .int .i64 0, .slice none 0 0].toArray 40 (0, 0))) ∧ (M1.heap[W2.heap.size]? = some (.cells [.slice a1 p.sn q1, .int .i64 p.cid, .int .i64 p.rev, .int .i64 p.top, .int .i64 (p.prev[0]?.getD 0), .int .i64 (p.prev[1]?.getD 0), .int .i64 (p.prev[2]?.getD 0), .int .i64 (p.prev[3]?.getD 0), .slice p.va p.vn p.vc].toArray 40 (0, 0)))) := ⟨m1, m2, m3⟩
  have HBM1 : Hid (Below w.heap.size w M1) := BM1
  have Ho1 : Hid (RowI M1 w.heap.size a1 p.sn q1 p.ss) := own_lower ho1' (by omega)
  have hsM : W3.heap.size ≤ M1.heap.size := Nat.le_trans hb4.size kk1.size
  clear HI1 ho1 hb4 k31 k11 k21 kk1 m1 m2 m3 ho1' BM1 HI2 hW1 hW2 hW3 c0 R1
  go_wp2_with (fail)
  refine HN2.mono ?_
  rintro e w5 ⟨v2, rfl, ho2, hb5⟩
  obtain ⟨a2, q2, rfl⟩ := own_slice ho2
  have k32 := (hb5.block _ (lt_heap HKm.out.2.2)).trans HKm.out.2.2
  have k22 := (hb5.block _ (lt_heap HKm.out.2.1)).trans HKm.out.2.1
  generalize hM2 : w5.setCell ⟨W2.heap.size, 8, none⟩ (.slice a2 p.vn q2) = M2
  have kk2 : Kept w5 M2 (fun j => j = W2.heap.size) := by rw [← hM2]; exact kset w5 _ 8 _ rfl
  have n3 : M2.heap[W2.heap.size]? = some (.cells [.slice a1 p.sn q1, .int .i64 p.cid, .int .i64 p.rev, .int .i64 p.top, .int .i64 (p.prev[0]?.getD 0), .int .i64 (p.prev[1]?.getD 0), .int .i64 (p.prev[2]?.getD 0), .int .i64 (p.prev[3]?.getD 0), .slice a2 p.vn q2].toArray 40 (0, 0)) := by rw [← hM2]; exact blk_set k32 rfl
  have n2 := kk2.obj k22 (by omega)
  generalize hM3 : M2.setCells W1.heap.size 0 [.slice a1 p.sn q1, .int .i64 p.cid, .int .i64 p.rev, .int .i64 p.top, .int .i64 (p.prev[0]?.getD 0), .int .i64 (p.prev[1]?.getD 0), .int .i64 (p.prev[2]?.getD 0), .int .i64 (p.prev[3]?.getD 0), .slice a2 p.vn q2] = M3
  have kk3 : Kept M2 M3 (fun j => j = W1.heap.size) := by rw [← hM3]; exact ksets (P := fun j => j = W1.heap.size) (b := W1.heap.size) rfl [.slice a1 p.sn q1, .int .i64 p.cid, .int .i64 p.rev, .int .i64 p.top, .int .i64 (p.prev[0]?.getD 0), .int .i64 (p.prev[1]?.getD 0), .int .i64 (p.prev[2]?.getD 0), .int .i64 (p.prev[3]?.getD 0), .slice a2 p.vn q2] 0 M2
  have n4 : M3.heap[W1.heap.size]? = some (.cells [.slice a1 p.sn q1, .int .i64 p.cid, .int .i64 p.rev, .int .i64 p.top, .int .i64 (p.prev[0]?.getD 0), .int .i64 (p.prev[1]?.getD 0), .int .i64 (p.prev[2]?.getD 0), .int .i64 (p.prev[3]?.getD 0), .slice a2 p.vn q2].toArray 40 (0, 0)) := by rw [← hM3]; exact sets_whole n2 rfl
  have f8 : w5.cell? ⟨W2.heap.size, 8, none⟩ = some (.slice p.va p.vn p.vc) := blk_cell k32 8
  have z8 : w5.frozen? ⟨W2.heap.size, 8, none⟩ = false := frozen_of_row w5 _ _ _ _ k32
  have R3 : Hid (M2.rangeAt W2.heap.size 0 [.slice a1 p.sn q1, .int .i64 p.cid, .int .i64 p.rev, .int .i64 p.top, .int .i64 (p.prev[0]?.getD 0), .int .i64 (p.prev[1]?.getD 0), .int .i64 (p.prev[2]?.getD 0), .int .i64 (p.prev[3]?.getD 0), .slice a2 p.vn q2]) := blk_range n3
  have T3 : Hid (M2.there W1.heap.size 0 9) := blk_there n2 rfl
  have o1a := kk2.owns (Ho1.out.still hb5) (own_ne (Ho1.out.still hb5) k32 (by decide))
  have o1b := kk3.owns o1a (own_ne o1a n2 (by decide))
  have o2a := kk2.owns ho2 (own_ne ho2 k32 (by decide))
  have o2b := kk3.owns o2a (own_ne o2a n2 (by decide))
  have B5 := bstep HBM1.out hb5
  have HFin : Hid (∃ a1' q1' a2' q2', (Ending.returned (.agg [.slice a1 p.sn q1, .int .i64 p.cid, .int .i64 p.rev, .int .i64 p.top, .int .i64 (p.prev[0]?.getD 0), .int .i64 (p.prev[1]?.getD 0), .int .i64 (p.prev[2]?.getD 0), .int .i64 (p.prev[3]?.getD 0), .slice a2 p.vn q2].toArray)) = .returned (.agg [.slice a1' p.sn q1', .int .i64 p.cid, .int .i64 p.rev, .int .i64 p.top, .int .i64 (p.prev[0]?.getD 0), .int .i64 (p.prev[1]?.getD 0), .int .i64 (p.prev[2]?.getD 0), .int .i64 (p.prev[3]?.getD 0), .slice a2' p.vn q2'].toArray) ∧ RowI M3 w.heap.size a1' p.sn q1' p.ss ∧ RowI M3 w.heap.size a2' p.vn q2' p.vs ∧ Below w.heap.size w M3) := ⟨a1, q1, a2, q2, rfl, o1b, own_lower o2b (by have := HBM1.out.size; omega), (B5.trans (kk2.below B5.size (fun k hk e => by omega))).trans (kk3.below (Nat.le_trans B5.size kk2.size) (fun k hk e => by omega))⟩
  clear HN2 ho2 hb5 k32 k22 kk2 n3 n2 kk3 o1a o1b o2a o2b B5 HKm Ho1 c8 f0 z0 hM1
  go_wp2_with (first
    | (refine load_mid 40 (.tmp 3) R3.out _ Try.underlying40 rfl (by kernel_rfl) rfl rfl rfl ?_)
    | (refine store_midL 40 (.tmp 2) (.tmp 13) (L := [.slice a1 p.sn q1, .int .i64 p.cid, .int .i64 p.rev, .int .i64 p.top, .int .i64 (p.prev[0]?.getD 0), .int .i64 (p.prev[1]?.getD 0), .int .i64 (p.prev[2]?.getD 0), .int .i64 (p.prev[3]?.getD 0), .slice a2 p.vn q2]) T3.out info_propose (by simp [Value.oneCell']) rfl rfl rfl rfl ?_; rw [hM3])
    | fail)
  (try simp only [Exit.inBlock, Exit.then])
  refine bodyPost_ret (v := .agg [.slice a1 p.sn q1, .int .i64 p.cid, .int .i64 p.rev, .int .i64 p.top, .int .i64 (p.prev[0]?.getD 0), .int .i64 (p.prev[1]?.getD 0), .int .i64 (p.prev[2]?.getD 0), .int .i64 (p.prev[3]?.getD 0), .slice a2 p.vn q2].toArray) ?_ ?_ ?_
  · exact results_cell_row rfl _ _ W1.heap.size 40 _ (0, 0) _ rfl n4 Try.underlying40 rfl (by kernel_rfl)
  · rfl
  · exact HFin.out
end
end Go.Proofs.Ytbdefhagpgpoiac.Mb
namespace Go.Proofs.Ytbdefhagpgpoiac.Mb
open Go.RowKit
set_option linter.unusedVariables false
set_option maxRecDepth 100000
set_option linter.unusedSimpArgs false
section
variable {A A' : Ag} {w w' W : World} {B : Nat} {T : Int} {R R' : Rg}
theorem Rg.Ok.sn (h : R.Ok w B) : R.own.sn = R.n ∧ R.own.vn = R.n := ⟨by have := h.os.rd.1; have := h.sl; omega, by have := h.ov.rd.1; have := h.vl; omega⟩
theorem Rg.Ok.ord (h : R.Ok w B) : R.own.Rd w := ⟨h.os.rd, h.ov.rd, h.pl, by have := h.sn; have := h.n16; omega, by have := h.sn; have := h.n16; omega⟩
theorem Rg.Ok.own_r (h : R.Ok w B) : w.rangeAt R.b 9 [.slice R.own.sa R.own.sn R.own.sc, .int .i64 R.own.cid, .int .i64 R.own.rev, .int .i64 R.own.top, .int .i64 (R.own.prev[0]?.getD 0), .int .i64 (R.own.prev[1]?.getD 0), .int .i64 (R.own.prev[2]?.getD 0), .int .i64 (R.own.prev[3]?.getD 0), .slice R.own.va R.own.vn R.own.vc] := range_sub h.blk rfl
theorem rchanging_any (h : R.Ok w B) : Calls Try.prog 31 #[.pointer (some ⟨R.b, 0, none⟩)] w fun e w' => e = .returned (.bool R.op) ∧ w = w' := by
  have c8 : w.cell? ⟨R.b, 8, none⟩ = some (.bool R.op) := h.c 8
  clear h
  go_enter Try.func31, Try.ntmps31
  go_wp2
  go_ret
  exact ⟨rfl, rfl⟩
set_option maxHeartbeats 2000000 in
theorem rproposal_any (h : R.Ok w B) : Calls Try.prog 20 #[.pointer (some ⟨R.b, 0, none⟩)] w fun e w' => ∃ a1 q1 a2 q2, e = .returned (.agg [.slice a1 R.own.sn q1, .int .i64 R.own.cid, .int .i64 R.own.rev, .int .i64 R.own.top, .int .i64 (R.own.prev[0]?.getD 0), .int .i64 (R.own.prev[1]?.getD 0), .int .i64 (R.own.prev[2]?.getD 0), .int .i64 (R.own.prev[3]?.getD 0), .slice a2 R.own.vn q2].toArray) ∧ RowI w' w.heap.size a1 R.own.sn q1 R.own.ss ∧ RowI w' w.heap.size a2 R.own.vn q2 R.own.vs ∧ Below w.heap.size w w' := by
  generalize hW1 : w.alloc (.cells [.slice none 0 0, .int .i64 0, .int .i64 0, .int .i64 0, .int .i64 0, .int .i64 0, .int .i64 0, .int .i64 0, .slice none 0 0].toArray 40) = W1
  have b1 : Below w.heap.size w W1 := by rw [← hW1]; exact balloc (Below.refl _ _)
  have k1 : W1.heap[w.heap.size]? = some (.cells [.slice none 0 0, .int .i64 0, .int .i64 0, .int .i64 0, .int .i64 0, .int .i64 0, .int .i64 0, .int .i64 0, .slice none 0 0].toArray 40 (0, 0)) := by rw [← hW1]; exact heap_alloc_new w _
  have hR := h.still b1
  have R9 : Hid (W1.rangeAt R.b 9 [.slice R.own.sa R.own.sn R.own.sc, .int .i64 R.own.cid, .int .i64 R.own.rev, .int .i64 R.own.top, .int .i64 (R.own.prev[0]?.getD 0), .int .i64 (R.own.prev[1]?.getD 0), .int .i64 (R.own.prev[2]?.getD 0), .int .i64 (R.own.prev[3]?.getD 0), .slice R.own.va R.own.vn R.own.vc]) := hR.own_r
  have hsn := hR.sn
  have h16 := hR.n16
  have HT := qtwin_any R.own hR.ord (by omega) (by omega)
  have HK1 : Hid (W1.heap[w.heap.size]? = some (.cells [.slice none 0 0, .int .i64 0, .int .i64 0, .int .i64 0, .int .i64 0, .int .i64 0, .int .i64 0, .int .i64 0, .slice none 0 0].toArray 40 (0, 0))) := k1
  have HB1 : Hid (Below w.heap.size w W1) := b1
  have hs1 : w.heap.size < W1.heap.size := lt_heap k1
  simp only [List.toArray] at hW1
  clear h hR b1 k1 hsn h16
  go_enter Try.func20, Try.ntmps20
  go_wp2_with (first | (refine load_mid 40 (.tmp 5) R9.out _ Try.underlying40 rfl (by kernel_rfl) rfl rfl rfl ?_) | fail)
  refine HT.mono ?_
  rintro e w2 ⟨a1, q1, a2, q2, rfl, o1, o2, hb2⟩
  have k2 := (hb2.block _ (lt_heap HK1.out)).trans HK1.out
  generalize hM : w2.setCells w.heap.size 0 [.slice a1 R.own.sn q1, .int .i64 R.own.cid, .int .i64 R.own.rev, .int .i64 R.own.top, .int .i64 (R.own.prev[0]?.getD 0), .int .i64 (R.own.prev[1]?.getD 0), .int .i64 (R.own.prev[2]?.getD 0), .int .i64 (R.own.prev[3]?.getD 0), .slice a2 R.own.vn q2] = M
  have kk : Kept w2 M (fun j => j = w.heap.size) := by rw [← hM]; exact ksets (P := fun j => j = w.heap.size) (b := w.heap.size) rfl [.slice a1 R.own.sn q1, .int .i64 R.own.cid, .int .i64 R.own.rev, .int .i64 R.own.top, .int .i64 (R.own.prev[0]?.getD 0), .int .i64 (R.own.prev[1]?.getD 0), .int .i64 (R.own.prev[2]?.getD 0), .int .i64 (R.own.prev[3]?.getD 0), .slice a2 R.own.vn q2] 0 w2
  have m2 : M.heap[w.heap.size]? = some (.cells [.slice a1 R.own.sn q1, .int .i64 R.own.cid, .int .i64 R.own.rev, .int .i64 R.own.top, .int .i64 (R.own.prev[0]?.getD 0), .int .i64 (R.own.prev[1]?.getD 0), .int .i64 (R.own.prev[2]?.getD 0), .int .i64 (R.own.prev[3]?.getD 0), .slice a2 R.own.vn q2].toArray 40 (0, 0)) := by rw [← hM]; exact sets_whole k2 rfl
  have T3 : Hid (w2.there w.heap.size 0 9) := blk_there k2 rfl
  have B2 := bstep HB1.out hb2
  have HFin : Hid (∃ a1' q1' a2' q2', (Ending.returned (.agg [.slice a1 R.own.sn q1, .int .i64 R.own.cid, .int .i64 R.own.rev, .int .i64 R.own.top, .int .i64 (R.own.prev[0]?.getD 0), .int .i64 (R.own.prev[1]?.getD 0), .int .i64 (R.own.prev[2]?.getD 0), .int .i64 (R.own.prev[3]?.getD 0), .slice a2 R.own.vn q2].toArray)) = .returned (.agg [.slice a1' R.own.sn q1', .int .i64 R.own.cid, .int .i64 R.own.rev, .int .i64 R.own.top, .int .i64 (R.own.prev[0]?.getD 0), .int .i64 (R.own.prev[1]?.getD 0), .int .i64 (R.own.prev[2]?.getD 0), .int .i64 (R.own.prev[3]?.getD 0), .slice a2' R.own.vn q2'].toArray) ∧ RowI M w.heap.size a1' R.own.sn q1' R.own.ss ∧ RowI M w.heap.size a2' R.own.vn q2' R.own.vs ∧ Below w.heap.size w M) := ⟨a1, q1, a2, q2, rfl, own_lower (kk.owns o1 (own_ne o1 k2 (by decide))) (by omega), own_lower (kk.owns o2 (own_ne o2 k2 (by decide))) (by omega), B2.trans (kk.below B2.size (fun k hk e => by omega))⟩
  clear HT o1 o2 hb2 k2 kk B2 hW1
  go_wp2_with (first
    | (refine store_midL 40 (.tmp 2) (.tmp 7) (L := [.slice a1 R.own.sn q1, .int .i64 R.own.cid, .int .i64 R.own.rev, .int .i64 R.own.top, .int .i64 (R.own.prev[0]?.getD 0), .int .i64 (R.own.prev[1]?.getD 0), .int .i64 (R.own.prev[2]?.getD 0), .int .i64 (R.own.prev[3]?.getD 0), .slice a2 R.own.vn q2]) T3.out info_propose (by simp [Value.oneCell']) rfl rfl rfl rfl ?_; rw [hM])
    | fail)
  (try simp only [Exit.inBlock, Exit.then])
  refine bodyPost_ret (v := .agg [.slice a1 R.own.sn q1, .int .i64 R.own.cid, .int .i64 R.own.rev, .int .i64 R.own.top, .int .i64 (R.own.prev[0]?.getD 0), .int .i64 (R.own.prev[1]?.getD 0), .int .i64 (R.own.prev[2]?.getD 0), .int .i64 (R.own.prev[3]?.getD 0), .slice a2 R.own.vn q2].toArray) ?_ ?_ ?_
  · exact results_cell_row rfl _ _ w.heap.size 40 _ (0, 0) _ rfl m2 Try.underlying40 rfl (by kernel_rfl)
  · rfl
  · exact HFin.out
set_option maxHeartbeats 4000000 in
theorem rleaves_any (h : R.Ok w B) (q inc cid : Int) : Calls Try.prog 42 #[.pointer (some ⟨R.b, 0, none⟩), .int .i64 q, .int .i64 inc, .int .i64 cid] w fun e w' => e = .returned (.bool ((List.range R.k).any (lvs q inc cid R.ms))) ∧ Below w.heap.size w w' := by
  obtain ⟨ma, mc, hmv⟩ := own_slice h.mem
  have Hh : Hid (R.Ok w B) := h
  have Hmv : Hid (R.mv = .slice ma R.k mc) := hmv
  have hk16 := h.k16
  clear h hmv
  go_enter Try.func42, Try.ntmps42
  go_wp2
  go_loopw [9] (fun v9 wr => ∃ k : Nat, k ≤ R.k ∧ v9 = .int .i64 (k : Int) ∧ (∀ i, i < k → lvs q inc cid R.ms i = false) ∧ Below w.heap.size w wr) (fun v9 _ => R.k - (intOf v9).toNat)
  case atStart => exact ⟨0, Nat.zero_le _, rfl, fun i hi => by omega, Below.refl _ _⟩
  case round =>
    obtain ⟨k, hk, rfl, hno, hb⟩ := hrel
    have hR := Hh.out.still hb
    have c7 : wr.cell? ⟨R.b, 7, none⟩ = some (.slice ma R.k mc) := by rw [← Hmv.out]; exact hR.c 7
    by_cases hlt : k < R.k
    · have hm := hR.mem
      rw [Hmv.out] at hm
      obtain ⟨g, hg, hrg⟩ := (own_rdM hm).at hlt
      have Hno : Hid (∀ i, i < k → lvs q inc cid R.ms i = false) := hno
      have hlv : lvs q inc cid R.ms k = lvB q inc cid (R.ms.getD (k * 3) 0) (R.ms.getD (k * 3 + 1) 0) (R.ms.getD (k * 3 + 2) 0) := rfl
      generalize R.ms.getD (k * 3) 0 = x0 at hrg hlv
      generalize R.ms.getD (k * 3 + 1) 0 = x1 at hrg hlv
      generalize R.ms.getD (k * 3 + 2) 0 = x2 at hrg hlv
      have Hrg : Hid (wr.rangeAt g (k * 3) [.int .i64 x0, .int .i64 x1, .int .i64 x2]) := hrg
      generalize hX : wr.alloc (.cells #[.int .i64 x0, .int .i64 x1, .int .i64 x2] 92) = X
      have bX : Below wr.heap.size wr X := by rw [← hX]; exact balloc (Below.refl _ _)
      have kX : X.heap[wr.heap.size]? = some (.cells #[.int .i64 x0, .int .i64 x1, .int .i64 x2] 92 (0, 0)) := by rw [← hX]; exact heap_alloc_new wr _
      have y0 : X.cell? ⟨wr.heap.size, 0, none⟩ = some (.int .i64 x0) := blk_cell kX 0
      have y1 : X.cell? ⟨wr.heap.size, 1, none⟩ = some (.int .i64 x1) := blk_cell kX 1
      have y2 : X.cell? ⟨wr.heap.size, 2, none⟩ = some (.int .i64 x2) := blk_cell kX 2
      have HbX : Hid (Below w.heap.size w X) := bstep hb bX
      have i1 : (0 : Int) ≤ (k : Int) := Int.natCast_nonneg _
      have i2 : (k : Int) < (R.k : Int) := by omega
      subst hg
      have Hlv : Hid (lvs q inc cid R.ms k = lvB q inc cid x0 x1 x2) := hlv
      clear hno hR hm hrg bX kX hb hlv
      have HNX : Hid (lvB q inc cid x0 x1 x2 = false → ∃ k_1 : Nat, k_1 ≤ R.k ∧ Value.int .i64 ((k : Int) + 1) = .int .i64 (k_1 : Int) ∧ (∀ i, i < k_1 → lvs q inc cid R.ms i = false) ∧ Below w.heap.size w X) := fun hf => ⟨k + 1, by omega, by simp, fun i hi => by
        by_cases e : i = k
        · subst e; rw [Hlv.out]; exact hf
        · exact Hno.out i (by omega), HbX.out⟩
      have HYES : Hid (lvB q inc cid x0 x1 x2 = true → (List.range R.k).any (lvs q inc cid R.ms) = true) := fun hf => List.any_eq_true.2 ⟨k, List.mem_range.2 hlt, by rw [Hlv.out]; exact hf⟩
      unfold lvB at HNX HYES
      by_cases g0 : x0 = q
      · by_cases g1 : x1 = inc
        · by_cases g2 : x2 < cid
          · have HV : Hid ((List.range R.k).any (lvs q inc cid R.ms) = true) := HYES.out (by rw [g0, g1, decide_eq_true g2]; simp)
            subst g0
            subst g1
            clear HNX HYES
            go_wp2_with (first | (refine load_mid 92 (.tmp 27) Hrg.out _ Try.underlying92 rfl (by kernel_rfl) rfl rfl rfl ?_) | fail)
            go_ret
            exact ⟨by rw [HV.out]; rfl, HbX.out⟩
          · have HE := HNX.out (by rw [decide_eq_false g2]; simp)
            have HEh : Hid (∃ k_1 : Nat, k_1 ≤ R.k ∧ Value.int .i64 ((k : Int) + 1) = .int .i64 (k_1 : Int) ∧ (∀ i, i < k_1 → lvs q inc cid R.ms i = false) ∧ Below w.heap.size w X) := HE
            have g2' : decide (x2 < cid) = false := decide_eq_false g2
            clear HNX HYES HE
            subst g0
            subst g1
            go_wp2_with (first | (refine load_mid 92 (.tmp 27) Hrg.out _ Try.underlying92 rfl (by kernel_rfl) rfl rfl rfl ?_) | fail)
            first
              | exact ⟨HEh.out, by simp [intOf]; omega⟩
              | (go_roundw
                 case rel => exact HEh.out
                 case measure => simp [intOf]; omega)
        · have HE := HNX.out (by rw [show (x1 == inc) = false by simpa using g1]; simp)
          have HEh : Hid (∃ k_1 : Nat, k_1 ≤ R.k ∧ Value.int .i64 ((k : Int) + 1) = .int .i64 (k_1 : Int) ∧ (∀ i, i < k_1 → lvs q inc cid R.ms i = false) ∧ Below w.heap.size w X) := HE
          have g1' : (x1 == inc) = false := by simpa using g1
          clear HNX HYES HE
          subst g0
          go_wp2_with (first | (refine load_mid 92 (.tmp 27) Hrg.out _ Try.underlying92 rfl (by kernel_rfl) rfl rfl rfl ?_) | fail)
          first
            | exact ⟨HEh.out, by simp [intOf]; omega⟩
            | (go_roundw
               case rel => exact HEh.out
               case measure => simp [intOf]; omega)
      · have HE := HNX.out (by rw [show (x0 == q) = false by simpa using g0]; simp)
        have HEh : Hid (∃ k_1 : Nat, k_1 ≤ R.k ∧ Value.int .i64 ((k : Int) + 1) = .int .i64 (k_1 : Int) ∧ (∀ i, i < k_1 → lvs q inc cid R.ms i = false) ∧ Below w.heap.size w X) := HE
        have g0' : (x0 == q) = false := by simpa using g0
        clear HNX HYES HE
        go_wp2_with (first | (refine load_mid 92 (.tmp 27) Hrg.out _ Try.underlying92 rfl (by kernel_rfl) rfl rfl rfl ?_) | fail)
        first
          | exact ⟨HEh.out, by simp [intOf]; omega⟩
          | (go_roundw
             case rel => exact HEh.out
             case measure => simp [intOf]; omega)
    · obtain rfl : k = R.k := by omega
      have j2 : decide ((R.k : Int) < (R.k : Int)) = false := decide_eq_false (by omega)
      have HV : Hid ((List.range R.k).any (lvs q inc cid R.ms) = false) := by
        show _ = _
        rw [List.any_eq_false]
        intro i hi
        rw [hno i (List.mem_range.1 hi)]
        simp
      clear hR hno
      go_wp2
      go_ret
      exact ⟨by rw [HV.out]; rfl, hb⟩
end
end Go.Proofs.Ytbdefhagpgpoiac.Mb
