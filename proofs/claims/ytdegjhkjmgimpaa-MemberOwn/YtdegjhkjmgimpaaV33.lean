import Derived.Test.YtdegjhkjmgimpaaV30
import Derived.Test.YtdegjhkjmgimpaaV26
import Derived.Test.YtdegjhkjmgimpaaV31
import Derived.Test.YtdegjhkjmgimpaaV32
namespace Go.Proofs.Ytdegjhkjmgimpaa.Mb
open Go.RowKit
set_option linter.unusedVariables false
set_option linter.unusedSimpArgs false
section
variable {A A' : Ag} {w w' W : World} {B : Nat} {T : Int}
structure Fx (A A' : Ag) : Prop where
  b : A'.b = A.b
  n : A'.n = A.n
  self : A'.self = A.self
structure Vx (A A' : Ag) : Prop where
  id : A'.id = A.id
  msv : A'.msv = A.msv
  k : A'.k = A.k
  ms : A'.ms = A.ms
theorem rev_fx (A : Ag) (p : Pp) : Fx A (A.revA p) ∧ Vx A (A.revA p) := by
  unfold Ag.revA
  split <;> (try split) <;> exact ⟨⟨rfl, rfl, rfl⟩, ⟨rfl, rfl, rfl, rfl⟩⟩
theorem beg_fx (A : Ag) (s : List Int) : Fx A (A.begA s) ∧ Vx A (A.begA s) := by
  unfold Ag.begA
  have h := rev_fx A (A.begP s)
  split
  · exact ⟨⟨rfl, rfl, rfl⟩, ⟨rfl, rfl, rfl, rfl⟩⟩
  · split
    · exact ⟨⟨h.1.b, h.1.n, h.1.self⟩, ⟨h.2.id, h.2.msv, h.2.k, h.2.ms⟩⟩
    · exact ⟨⟨rfl, rfl, rfl⟩, ⟨rfl, rfl, rfl, rfl⟩⟩
theorem est_fx (A : Ag) (xs : List Int) : Fx A (A.estA xs) ∧ Vx A (A.estA xs) := by
  unfold Ag.estA
  split
  · exact ⟨⟨rfl, rfl, rfl⟩, ⟨rfl, rfl, rfl, rfl⟩⟩
  · split
    · exact ⟨⟨rfl, rfl, rfl⟩, ⟨rfl, rfl, rfl, rfl⟩⟩
    · exact beg_fx A _
theorem fol_fx (A : Ag) (q : Nat) : Fx A (A.folA q) ∧ Vx A (A.folA q) := by
  unfold Ag.folA
  split
  · exact rev_fx A _
  · split
    · exact beg_fx A _
    · exact ⟨⟨rfl, rfl, rfl⟩, ⟨rfl, rfl, rfl, rfl⟩⟩
theorem tak_fx (A : Ag) (q i : Int) (p : Pq) : Fx A (A.takA q i p) ∧ Vx A (A.takA q i p) := by
  unfold Ag.takA
  split
  · exact ⟨⟨rfl, rfl, rfl⟩, ⟨rfl, rfl, rfl, rfl⟩⟩
  · split
    · exact ⟨⟨rfl, rfl, rfl⟩, ⟨rfl, rfl, rfl, rfl⟩⟩
    · split
      · exact ⟨⟨rfl, rfl, rfl⟩, ⟨rfl, rfl, rfl, rfl⟩⟩
      · split
        · exact ⟨⟨rfl, rfl, rfl⟩, ⟨rfl, rfl, rfl, rfl⟩⟩
        · unfold Ag.tk1
          split
          · have h := fol_fx (A.set1 q.toNat p.pp) q.toNat
            exact ⟨⟨h.1.b, h.1.n, h.1.self⟩, ⟨h.2.id, h.2.msv, h.2.k, h.2.ms⟩⟩
          · exact ⟨⟨rfl, rfl, rfl⟩, ⟨rfl, rfl, rfl, rfl⟩⟩
theorem stp_fx {o : Opx} {E : Int} (s : Stp A o E A') : Fx A A' := by
  cases s with
  | est _ => exact (est_fx A o.ss).1
  | tak _ => exact (tak_fx A o.q o.inc o.p).1
  | ins g c _ _ => exact ⟨rfl, rfl, rfl⟩
  | apart _ _ => exact ⟨rfl, rfl, rfl⟩
  | none _ _ _ => exact ⟨rfl, rfl, rfl⟩
theorem stp_vx {o : Opx} {E : Int} (s : Stp A o E A') (h5 : o.kind ≠ 5) : Vx A A' := by
  cases s with
  | est _ => exact (est_fx A o.ss).2
  | tak _ => exact (tak_fx A o.q o.inc o.p).2
  | ins g c h _ => exact absurd h h5
  | apart _ _ => exact ⟨rfl, rfl, rfl, rfl⟩
  | none _ _ _ => exact ⟨rfl, rfl, rfl, rfl⟩
theorem topL_nn {inc : Int} (h : A.Ok w B T) : 0 ≤ A.topL A.mids := Int.le_trans h.top.1 (topL_ge A A.mids)
theorem RdM.keep {P : Nat → Prop} {g k : Nat} {ms : List Int} (h : RdM w (some ⟨g, 0, none⟩) k ms) (hk : Kept w w' P) (hp : ¬ P g) : RdM w' (some ⟨g, 0, none⟩) k ms := by
  obtain ⟨h1, h2⟩ := h
  refine ⟨h1, h2.elim .inl fun ⟨g', e, hc⟩ => ?_⟩
  cases e
  refine .inr ⟨g, rfl, fun j hj => ?_⟩
  have hlt := World.block_lt_of_cell? w _ (hc j hj)
  have e1 := hk.block g hlt hp
  have e2 := hc j hj
  rw [← e2]
  unfold World.cell?
  simp only [e1]
theorem pq_rd {inc : Int} (h : A.Iv inc) (g1 g2 : Nat) (r1 : Rw w g1 3 (A.own.set.take A.n)) (r2 : Rw w g2 3 (A.own.vec.take A.n)) : (A.pq g1 g2).Rd w := by
  have h16 := h.n16
  have l1 : (A.own.set.take A.n).length = A.n := by rw [List.length_take, h.ol.ls]; omega
  have l2 : (A.own.vec.take A.n).length = A.n := by rw [List.length_take, h.ol.lv]; omega
  refine ⟨⟨l1, .inr ⟨g1, 0, rfl, fun i hi => ?_⟩⟩, ⟨l2, .inr ⟨g2, 0, rfl, fun i hi => ?_⟩⟩, h.ol.lp, by show A.n ≤ _; omega, by show A.n ≤ _; omega⟩
  · rw [Nat.zero_add]; exact r1.cell (by have : i < A.n := hi; omega)
  · rw [Nat.zero_add]; exact r2.cell (by have : i < A.n := hi; omega)
end
end Go.Proofs.Ytdegjhkjmgimpaa.Mb
namespace Go.Proofs.Ytdegjhkjmgimpaa.Mb
open Go.RowKit Oe
set_option linter.unusedVariables false
set_option maxRecDepth 100000
set_option linter.unusedSimpArgs false
section
variable {A A' : Ag} {w w' W : World} {B : Nat} {T : Int}
theorem info_view : (Try.prog.info? 42).map (·.size) = some 5 := by kernel_rfl
theorem info_propose : (Try.prog.info? 33).map (·.size) = some 9 := by kernel_rfl
theorem own_base {t k n : Nat} {v : Value} {l : List Value} (h : w.ownsRow B t k v n l) : w.ownsRow 0 t k v n l := own_lower h (Nat.zero_le _)
theorem blk_ne {a b t t' : Nat} {C C' : Array Value} (h : w.heap[a]? = some (.cells C t (0, 0))) (h' : w.heap[b]? = some (.cells C' t' (0, 0))) (ht : t ≠ t') : a ≠ b := by
  rintro rfl
  rw [h] at h'
  simp at h'
  exact ht h'.2
theorem sets_list {k t : Nat} : ∀ (vs : List Value) (o : Nat) (w : World) (xs : List Value), w.heap[k]? = some (.cells xs.toArray t (0, 0)) → o + vs.length ≤ xs.length → (w.setCells k o vs).heap[k]? = some (.cells (xs.take o ++ vs ++ xs.drop (o + vs.length)).toArray t (0, 0))
  | [], o, w, xs, h, _ => by simpa [World.setCells] using h
  | y :: ys, o, w, xs, h, hl => by
      simp only [List.length_cons] at hl
      have h1 : (w.setCell ⟨k, o, none⟩ y).heap[k]? = some (.cells (xs.set o y).toArray t (0, 0)) := blk_set h (by simp)
      have := sets_list ys (o + 1) _ _ h1 (by simp; omega)
      have e : (xs.set o y).take (o + 1) ++ ys ++ (xs.set o y).drop (o + 1 + ys.length) = xs.take o ++ y :: ys ++ xs.drop (o + (y :: ys).length) := by
        rw [List.take_set, List.drop_set, if_pos (by omega), List.length_cons, show o + (ys.length + 1) = o + 1 + ys.length by omega]
        rw [List.take_add_one, List.set_append]
        simp [show ¬ o < min o xs.length by omega, show min o xs.length = o by omega, show o < xs.length by omega]
      rw [e] at this
      exact this
theorem sets_whole {k t : Nat} {C : Array Value} {L : List Value} (h : w.heap[k]? = some (.cells C t (0, 0))) (hl : C.size = L.length) : (w.setCells k 0 L).heap[k]? = some (.cells L.toArray t (0, 0)) := by
  have := sets_list (k := k) (t := t) L 0 w C.toList (by simpa using h) (by simp [hl])
  have hd : C.toList.drop L.length = [] := List.drop_eq_nil_of_le (by simp [hl])
  simpa [hd] using this
theorem blk_there {k t n : Nat} {C : Array Value} (h : w.heap[k]? = some (.cells C t (0, 0))) (hn : C.size = n) : w.there k 0 n := fun j hj => ⟨by rw [blk_cell h, Nat.zero_add]; simp [show j < C.size by omega], frozen_of_row w _ _ _ _ h⟩
theorem blk_range {k t : Nat} {L : List Value} (h : w.heap[k]? = some (.cells L.toArray t (0, 0))) : w.rangeAt k 0 L := fun j v hv => by
  rw [blk_cell h, Nat.zero_add, List.getElem?_toArray, hv]
structure Gd (A : Ag) (b n s : Nat) (inc : Int) (w : World) : Prop where
  ok : A.Ok w b 4611686018427387903
  iv : A.Iv inc
  iw : A.Iw inc
  b : A.b = b
  n : A.n = n
  self : A.self = s
theorem Gd.still {b n s : Nat} {inc : Int} (h : Gd A b n s inc w) (hb : Below w.heap.size w w') : Gd A b n s inc w' := { h with ok := h.ok.still hb }
def vC (i0 i1 i2 i3 : Int) (gv k cv : Nat) : List Value := [.int .i64 i0, .int .i64 i1, .int .i64 i2, .int .i64 i3, .slice (some ⟨gv, 0, none⟩) k cv]
def pC (A : Ag) (n g1 g2 : Nat) : List Value := [.slice (some ⟨g1, 0, none⟩) n n, .int .i64 A.own.cid, .int .i64 A.own.rev, .int .i64 A.own.top, .int .i64 (A.own.prev[0]?.getD 0), .int .i64 (A.own.prev[1]?.getD 0), .int .i64 (A.own.prev[2]?.getD 0), .int .i64 (A.own.prev[3]?.getD 0), .slice (some ⟨g2, 0, none⟩) n n]
structure Tst (wr : World) (b n s : Nat) (inc : Int) (kc k5 k8 : Nat) (cc : Array Value) (A A' : Ag) (g1 g2 gv cv : Nat) (i0 i1 i2 i3 : Int) : Prop where
  gd : Gd A' b n s inc wr
  iv : A.Iv inc
  an : A.n = n
  nz : A'.id ≠ [0, 0, 0, 0]
  id4 : A'.id = [i0, i1, i2, i3]
  m1 : wr.heap[kc]? = some (.cells cc 24 (0, 0))
  m5 : wr.heap[k5]? = some (.cells (vC i0 i1 i2 i3 gv A'.k cv).toArray 42 (0, 0))
  m8 : wr.heap[k8]? = some (.cells (pC A n g1 g2).toArray 33 (0, 0))
  rv : wr.ownsRow 0 79 3 (.slice (some ⟨gv, 0, none⟩) A'.k cv) A'.k (ints A'.ms)
  r1 : Rw wr g1 3 (A.own.set.take n)
  r2 : Rw wr g2 3 (A.own.vec.take n)
  mv : Mv A.own A'.own
  rb : 0 ≤ A.own.rev ∧ A.own.rev ≤ 4611686018427387904
section
variable {b n s kc k5 k8 g1 g2 gv cv : Nat} {inc i0 i1 i2 i3 : Int} {cc : Array Value}
theorem Tst.still (h : Tst w b n s inc kc k5 k8 cc A A' g1 g2 gv cv i0 i1 i2 i3) (hb : Below w.heap.size w w') : Tst w' b n s inc kc k5 k8 cc A A' g1 g2 gv cv i0 i1 i2 i3 :=
  { h with gd := h.gd.still hb, m1 := (hb.block _ (lt_heap h.m1)).trans h.m1, m5 := (hb.block _ (lt_heap h.m5)).trans h.m5, m8 := (hb.block _ (lt_heap h.m8)).trans h.m8, rv := own_still h.rv hb, r1 := h.r1.still hb, r2 := h.r2.still hb }
theorem Tst.refl (h : Tst w b n s inc kc k5 k8 cc A A g1 g2 gv cv i0 i1 i2 i3) : Tst w b n s inc kc k5 k8 cc A A g1 g2 gv cv i0 i1 i2 i3 := h
theorem Tst.call (h : Tst w b n s inc kc k5 k8 cc A A g1 g2 gv cv i0 i1 i2 i3) {o : Opx} {E : Int} (hO : A'.Ok w' b 4611686018427387903) (hK : Kept w w' (fun j => j = b)) (hs : Stp A o E A') (h5 : o.kind ≠ 5) : Tst w' b n s inc kc k5 k8 cc A A' g1 g2 gv cv i0 i1 i2 i3 := by
  have hf := stp_fx hs
  have hv := stp_vx hs h5
  obtain ⟨Cb, hCb, _⟩ := h.gd.ok.blk
  rw [h.gd.b] at hCb
  have hiv := h.gd.iv.stp h.gd.ok.il (topL_nn (inc := inc) h.gd.ok) hs
  have hiw := h.gd.iw.stp h.gd.iv hs
  have n1 : ¬ kc = b := blk_ne h.m1 hCb (by decide)
  have n5 : ¬ k5 = b := blk_ne h.m5 hCb (by decide)
  have n8 : ¬ k8 = b := blk_ne h.m8 hCb (by decide)
  have m1 : ¬ g1 = b := blk_ne h.r1 hCb (by decide)
  have m2 : ¬ g2 = b := blk_ne h.r2 hCb (by decide)
  refine ⟨⟨hO, hiv, hiw, hf.b.trans h.gd.b, hf.n.trans h.gd.n, hf.self.trans h.gd.self⟩, h.iv, h.an, by rw [hv.id]; exact h.nz, by rw [hv.id]; exact h.id4, hK.obj h.m1 n1, by rw [hv.k]; exact hK.obj h.m5 n5, hK.obj h.m8 n8, ?_, h.r1.keep hK m1, h.r2.keep hK m2, stp_mv hs, h.rb⟩
  rw [hv.k, hv.ms]
  refine hK.owns h.rv fun g hg e => ?_
  rcases h.rv.2 with ⟨h1, _⟩ | ⟨g', cap, cur, h1, _, h3, _⟩
  · cases h1
  · cases h1
    cases hg
    exact blk_ne h3 hCb (by decide) e
end
theorem _root_.Go.Proofs.Ytdegjhkjmgimpaa.Oe.RdOps.at {oa : Option Addr} {on k : Nat} {os : Nat → Opx} (h : RdOps w oa on os) (hb : Below w.heap.size w w') (hk : k < on) : ∃ ob off, oa = some ⟨ob, off, none⟩ ∧ w'.rangeAt ob (off + k * 13) (os k).cs.toList ∧ (os k).Rd w' := by
  obtain ⟨h1, h2⟩ := h
  rcases h1 with h1 | ⟨ob, off, rfl, hc⟩
  · omega
  · refine ⟨ob, off, rfl, fun j v hv => ?_, (h2 k hk).still hb⟩
    have hj : j < 13 := by
      have := (List.getElem?_eq_some_iff.1 hv).1
      have e : (os k).cs.toList.length = 13 := rfl
      omega
    have e := hc k hk j hj
    rw [← Array.getElem?_toList, hv] at e
    rw [Nat.add_assoc]
    exact below_at hb e
end
end Go.Proofs.Ytdegjhkjmgimpaa.Mb
