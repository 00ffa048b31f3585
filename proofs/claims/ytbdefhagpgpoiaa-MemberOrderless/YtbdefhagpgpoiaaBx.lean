import Derived.Test.YtbdefhagpgpoiaaBw
import Derived.Test.YtbdefhagpgpoiaaBt
namespace Go.Proofs.Ytbdefhagpgpoiaa.Mb
open Go.RowKit Oe
set_option linter.unusedVariables false
set_option maxRecDepth 100000
set_option linter.unusedSimpArgs false
section
variable {A A' : Ag} {w w' W : World} {B : Nat} {T : Int}
theorem info_view : (Try.prog.info? 32).map (·.size) = some 5 := by kernel_rfl
theorem info_propose : (Try.prog.info? 41).map (·.size) = some 9 := by kernel_rfl
theorem info_op : (Try.prog.info? 44).map (·.size) = some 13 := by kernel_rfl
theorem own_base {t k n : Nat} {v : Value} {l : List Value} (h : w.ownsRow B t k v n l) : w.ownsRow 0 t k v n l := own_lower h (Nat.zero_le _)
theorem blk_ne {a b t t' : Nat} {C C' : Array Value} (h : w.heap[a]? = some (.cells C t (0, 0))) (h' : w.heap[b]? = some (.cells C' t' (0, 0))) (ht : t ≠ t') : a ≠ b := by
  rintro rfl
  rw [h] at h'
  simp at h'
  exact ht h'.2
theorem sets_list {k t : Nat} : ∀ (vs : List Value) (o : Nat) (w : World) (xs : List Value), w.heap[k]? = some (.cells xs.toArray t (0, 0)) → o + vs.length ≤ xs.length → (w.setCells k o vs).heap[k]? = some (.cells (xs.take o ++ vs ++ xs.drop (o + vs.length)).toArray t (0, 0))
  | [], o, w, xs, h, _ => by simpa [World.setCells] using h
  | y :: ys, o, w, xs, h, hl => by
      simp only [List.length_cons] at hl
      have h1 : (w.setCell ⟨k, o, none⟩ y).heap[k]? = some (.cells (xs.set o y).toArray t (0, 0)) := blk_set h (by simp)
      have := sets_list ys (o + 1) _ _ h1 (by simp; omega)
      have e : (xs.set o y).take (o + 1) ++ ys ++ (xs.set o y).drop (o + 1 + ys.length) = xs.take o ++ y :: ys ++ xs.drop (o + (y :: ys).length) := by
        rw [List.take_set, List.drop_set, if_pos (by omega), List.length_cons, show o + (ys.length + 1) = o + 1 + ys.length by omega]
        rw [List.take_add_one, List.set_append]
        simp [show ¬ o < min o xs.length by omega, show min o xs.length = o by omega, show o < xs.length by omega]
      rw [e] at this
      exact this
theorem sets_whole {k t : Nat} {C : Array Value} {L : List Value} (h : w.heap[k]? = some (.cells C t (0, 0))) (hl : C.size = L.length) : (w.setCells k 0 L).heap[k]? = some (.cells L.toArray t (0, 0)) := by
  have := sets_list (k := k) (t := t) L 0 w C.toList (by simpa using h) (by simp [hl])
  have hd : C.toList.drop L.length = [] := List.drop_eq_nil_of_le (by simp [hl])
  simpa [hd] using this
theorem blk_there {k t n : Nat} {C : Array Value} (h : w.heap[k]? = some (.cells C t (0, 0))) (hn : C.size = n) : w.there k 0 n := fun j hj => ⟨by rw [blk_cell h, Nat.zero_add]; simp [show j < C.size by omega], frozen_of_row w _ _ _ _ h⟩
theorem blk_range {k t : Nat} {L : List Value} (h : w.heap[k]? = some (.cells L.toArray t (0, 0))) : w.rangeAt k 0 L := fun j v hv => by
  rw [blk_cell h, Nat.zero_add, List.getElem?_toArray, hv]
theorem store_rowL {ops : Array Oper} {rest : List Oper} {o : Oper} {a : Act} {Q : Exit → Act → World → Prop} (ty : TypeId) (x y : Operand) {b : Nat} {L : List Value} (ht : w.there b 0 L.length) (hi : (Try.prog.info? ty).map (·.size) = some L.length) (h1 : ∀ u ∈ L, u.oneCell' = true)
    (ho : o.op = .store ty x y) (hx : a.eval x = .pointer (some ⟨b, 0, none⟩)) (hy : a.eval y = .agg L.toArray) (hw : Region.wanted o (yielded ops a.tmps) = true) (h : wpList Try.prog ops Q rest (a.put o.dst undef) (w.setCells b 0 L)) : wpList Try.prog ops Q (o :: rest) a w :=
  wpList_step fun K hK => by
    rw [if_pos hw]
    exact wp_store_mid ty x y ho b 0 _ hx hy (by simpa using ht) (by simpa using hi) (all_oneCell_toArray h1) (hK _ _ (by simpa using h))
structure Gd (A : Ag) (b n s : Nat) (inc : Int) (w : World) : Prop where
  ok : A.Ok w b 4611686018427387903
  iv : A.Iv inc
  iw : A.Iw inc
  b : A.b = b
  n : A.n = n
  self : A.self = s
theorem Gd.still {b n s : Nat} {inc : Int} (h : Gd A b n s inc w) (hb : Below w.heap.size w w') : Gd A b n s inc w' := { h with ok := h.ok.still hb }
def vC (i0 i1 i2 i3 : Int) (gv k cv : Nat) : List Value := [.int .i64 i0, .int .i64 i1, .int .i64 i2, .int .i64 i3, .slice (some ⟨gv, 0, none⟩) k cv]
def pC (A : Ag) (n g1 g2 : Nat) : List Value := [.slice (some ⟨g1, 0, none⟩) n n, .int .i64 A.own.cid, .int .i64 A.own.rev, .int .i64 A.own.top, .int .i64 (A.own.prev[0]?.getD 0), .int .i64 (A.own.prev[1]?.getD 0), .int .i64 (A.own.prev[2]?.getD 0), .int .i64 (A.own.prev[3]?.getD 0), .slice (some ⟨g2, 0, none⟩) n n]
structure Tst (wr : World) (b n s : Nat) (inc : Int) (kc k5 k8 : Nat) (cc : Array Value) (A A' : Ag) (g1 g2 gv cv : Nat) (i0 i1 i2 i3 : Int) : Prop where
  gd : Gd A' b n s inc wr
  iv : A.Iv inc
  an : A.n = n
  nz : A'.id ≠ [0, 0, 0, 0]
  id4 : A'.id = [i0, i1, i2, i3]
  m1 : wr.heap[kc]? = some (.cells cc 24 (0, 0))
  m5 : wr.heap[k5]? = some (.cells (vC i0 i1 i2 i3 gv A'.k cv).toArray 32 (0, 0))
  m8 : wr.heap[k8]? = some (.cells (pC A n g1 g2).toArray 41 (0, 0))
  rv : wr.ownsRow 0 86 3 (.slice (some ⟨gv, 0, none⟩) A'.k cv) A'.k (ints A'.ms)
  r1 : Rw wr g1 3 (A.own.set.take n)
  r2 : Rw wr g2 3 (A.own.vec.take n)
  mv : Mv A.own A'.own
  rb : 0 ≤ A.own.rev ∧ A.own.rev ≤ 4611686018427387904
section
variable {b n s kc k5 k8 g1 g2 gv cv : Nat} {inc i0 i1 i2 i3 : Int} {cc : Array Value}
theorem Tst.still (h : Tst w b n s inc kc k5 k8 cc A A' g1 g2 gv cv i0 i1 i2 i3) (hb : Below w.heap.size w w') : Tst w' b n s inc kc k5 k8 cc A A' g1 g2 gv cv i0 i1 i2 i3 :=
  { h with gd := h.gd.still hb, m1 := (hb.block _ (lt_heap h.m1)).trans h.m1, m5 := (hb.block _ (lt_heap h.m5)).trans h.m5, m8 := (hb.block _ (lt_heap h.m8)).trans h.m8, rv := own_still h.rv hb, r1 := h.r1.still hb, r2 := h.r2.still hb }
theorem Tst.refl (h : Tst w b n s inc kc k5 k8 cc A A g1 g2 gv cv i0 i1 i2 i3) : Tst w b n s inc kc k5 k8 cc A A g1 g2 gv cv i0 i1 i2 i3 := h
theorem Tst.kp (h : Tst w b n s inc kc k5 k8 cc A A' g1 g2 gv cv i0 i1 i2 i3) : 0 < A'.k ∧ A'.k ≤ 16 := by
  rcases h.gd.iv.vw with ⟨h1, _⟩ | ⟨_, h2, _⟩
  · exact absurd h1 h.nz
  · exact ⟨h2, h.gd.ok.ml.2⟩
theorem Tst.call (h : Tst w b n s inc kc k5 k8 cc A A g1 g2 gv cv i0 i1 i2 i3) {o : Opx} {E : Int} (hO : A'.Ok w' b 4611686018427387903) (hK : Kept w w' (fun j => j = b)) (hs : Stp A o E A') (h5 : o.kind ≠ 5) : Tst w' b n s inc kc k5 k8 cc A A' g1 g2 gv cv i0 i1 i2 i3 := by
  have hf := stp_fx hs
  have hv := stp_vx hs h5
  obtain ⟨Cb, hCb, _⟩ := h.gd.ok.blk
  rw [h.gd.b] at hCb
  have hiv := h.gd.iv.stp h.gd.ok.il (topL_nn (inc := inc) h.gd.ok) hs
  have hiw := h.gd.iw.stp h.gd.iv hs
  have n1 : ¬ kc = b := blk_ne h.m1 hCb (by decide)
  have n5 : ¬ k5 = b := blk_ne h.m5 hCb (by decide)
  have n8 : ¬ k8 = b := blk_ne h.m8 hCb (by decide)
  have m1 : ¬ g1 = b := blk_ne h.r1 hCb (by decide)
  have m2 : ¬ g2 = b := blk_ne h.r2 hCb (by decide)
  refine ⟨⟨hO, hiv, hiw, hf.b.trans h.gd.b, hf.n.trans h.gd.n, hf.self.trans h.gd.self⟩, h.iv, h.an, by rw [hv.id]; exact h.nz, by rw [hv.id]; exact h.id4, hK.obj h.m1 n1, by rw [hv.k]; exact hK.obj h.m5 n5, hK.obj h.m8 n8, ?_, h.r1.keep hK m1, h.r2.keep hK m2, stp_mv hs, h.rb⟩
  rw [hv.k, hv.ms]
  refine hK.owns h.rv fun g hg e => ?_
  rcases h.rv.2 with ⟨h1, _⟩ | ⟨g', cap, cur, h1, _, h3, _⟩
  · cases h1
  · cases h1
    cases hg
    exact blk_ne h3 hCb (by decide) e
theorem Tst.next (h : Tst w b n s inc kc k5 k8 cc A A' g1 g2 gv cv i0 i1 i2 i3) {g3 g4 : Nat} (r3 : Rw w g3 3 (A'.own.set.take n)) (r4 : Rw w g4 3 (A'.own.vec.take n)) : Tst (w.setCells k8 0 (pC A' n g3 g4)) b n s inc kc k5 k8 cc A' A' g3 g4 gv cv i0 i1 i2 i3 := by
  have hk := ksets (P := fun j => j = k8) (b := k8) rfl (pC A' n g3 g4) 0 w
  obtain ⟨Cb, hCb, _⟩ := h.gd.ok.blk
  have n8 : ¬ A'.b = k8 := blk_ne hCb h.m8 (by decide)
  have hmem : ∀ g, A'.msv.ownBlock = some g → ¬ g = k8 := fun g hg e => by
    rcases h.gd.ok.mem.2 with ⟨h1, _⟩ | ⟨g', cap, cur, h1, _, h3, _⟩
    · rw [h1] at hg; cases hg
    · rw [h1] at hg
      cases hg
      exact blk_ne h3 h.m8 (by decide) e
  refine ⟨{ h.gd with ok := h.gd.ok.keep hk n8 hmem }, h.gd.iv, h.gd.n, h.nz, h.id4, hk.obj h.m1 (fun e => blk_ne h.m1 h.m8 (by decide) e), hk.obj h.m5 (fun e => blk_ne h.m5 h.m8 (by decide) e), sets_whole h.m8 rfl, ?_, r3.keep hk (fun e => blk_ne r3 h.m8 (by decide) e), r4.keep hk (fun e => blk_ne r4 h.m8 (by decide) e), .inl rfl, h.gd.ok.rev⟩
  refine hk.owns h.rv fun g hg e => ?_
  rcases h.rv.2 with ⟨h1, _⟩ | ⟨g', cap, cur, h1, _, h3, _⟩
  · cases h1
  · cases h1
    cases hg
    exact blk_ne h3 h.m8 (by decide) e
theorem Tst.view (h : Tst w b n s inc kc k5 k8 cc A A g1 g2 gv cv i0 i1 i2 i3) {gw cw : Nat} {j0 j1 j2 j3 : Int} (hg : Gd A' b n s inc w') (hK : Kept w w' (fun j => j = b)) (ho : A'.own = A.own) (hid : A'.id = [j0, j1, j2, j3]) (hnz : A'.id ≠ [0, 0, 0, 0]) (hrv : w'.ownsRow 0 86 3 (.slice (some ⟨gw, 0, none⟩) A'.k cw) A'.k (ints A'.ms)) : Tst (w'.setCells k5 0 (vC j0 j1 j2 j3 gw A'.k cw)) b n s inc kc k5 k8 cc A A' g1 g2 gw cw j0 j1 j2 j3 := by
  have hk := ksets (P := fun j => j = k5) (b := k5) rfl (vC j0 j1 j2 j3 gw A'.k cw) 0 w'
  obtain ⟨Cb, hCb, _⟩ := h.gd.ok.blk
  rw [h.gd.b] at hCb
  have m1 := hK.obj h.m1 (fun e => blk_ne h.m1 hCb (by decide) e)
  have m5 := hK.obj h.m5 (fun e => blk_ne h.m5 hCb (by decide) e)
  have m8 := hK.obj h.m8 (fun e => blk_ne h.m8 hCb (by decide) e)
  have r1 := h.r1.keep hK (fun e => blk_ne h.r1 hCb (by decide) e)
  have r2 := h.r2.keep hK (fun e => blk_ne h.r2 hCb (by decide) e)
  obtain ⟨Cc, hCc, _⟩ := hg.ok.blk
  have n5 : ¬ A'.b = k5 := blk_ne hCc m5 (by decide)
  have hmem : ∀ g, A'.msv.ownBlock = some g → ¬ g = k5 := fun g hg' e => by
    rcases hg.ok.mem.2 with ⟨h1, _⟩ | ⟨g', cap, cur, h1, _, h3, _⟩
    · rw [h1] at hg'; cases hg'
    · rw [h1] at hg'
      cases hg'
      exact blk_ne h3 m5 (by decide) e
  refine ⟨{ hg with ok := hg.ok.keep hk n5 hmem }, h.iv, h.an, hnz, hid, hk.obj m1 (fun e => blk_ne m1 m5 (by decide) e), sets_whole m5 rfl, hk.obj m8 (fun e => blk_ne m8 m5 (by decide) e), ?_, r1.keep hk (fun e => blk_ne r1 m5 (by decide) e), r2.keep hk (fun e => blk_ne r2 m5 (by decide) e), .inl ho, h.rb⟩
  refine hk.owns hrv fun g hg e => ?_
  rcases hrv.2 with ⟨h1, _⟩ | ⟨g', cap, cur, h1, _, h3, _⟩
  · cases h1
  · cases h1
    cases hg
    exact blk_ne h3 m5 (by decide) e
end
theorem _root_.Go.Proofs.Ytbdefhagpgpoiaa.Oe.RdOps.at {oa : Option Addr} {on k : Nat} {os : Nat → Opx} (h : RdOps w oa on os) (hb : Below w.heap.size w w') (hk : k < on) : ∃ ob off, oa = some ⟨ob, off, none⟩ ∧ w'.rangeAt ob (off + k * 13) (os k).cs.toList ∧ (os k).Rd w' := by
  obtain ⟨h1, h2⟩ := h
  rcases h1 with h1 | ⟨ob, off, rfl, hc⟩
  · omega
  · refine ⟨ob, off, rfl, fun j v hv => ?_, (h2 k hk).still hb⟩
    have hj : j < 13 := by
      have := (List.getElem?_eq_some_iff.1 hv).1
      have e : (os k).cs.toList.length = 13 := rfl
      omega
    have e := hc k hk j hj
    rw [← Array.getElem?_toList, hv] at e
    rw [Nat.add_assoc]
    exact below_at hb e
theorem inst1 (b n s : Nat) (inc fl : Int) (h16 : 1 ≤ n ∧ n ≤ 16 ∧ s < n) (hi : 1 ≤ inc ∧ inc ≤ 4611686018427387904) (hf : 0 ≤ fl ∧ fl < 4611686018427387904) (hA : (A1 b n s inc fl).Ok w b 4611686018427387903) : Calls Try.prog 10 #[.pointer (some ⟨b, 0, none⟩)] w fun e w' => ∃ g' c' ao cp A2, e = .returned (.tuple #[.agg #[.int .i64 (fl + 1), .int .i64 (s : Int), .int .i64 inc, .int .i64 (fl + 1), .slice (some ⟨g', 0, none⟩) 1 c'], .slice ao 1 cp, .int .i64 0]) ∧ Gd A2 b n s inc w' ∧ A2.id = [fl + 1, (s : Int), inc, fl + 1] ∧ A2.k = 1 ∧ w'.ownsRow 0 86 3 (.slice (some ⟨g', 0, none⟩) 1 c') 1 (ints A2.ms) ∧ hld A2.ms s inc 1 = fl + 1 ∧ RdI w' ao 1 [(s : Int)] ∧ Kept w w' (fun j => j = b) := by
  have hv := A1_iv b n s inc fl h16 hi.1
  refine (install_yes hA (by rw [hv.set]; omega) (A1_agr b n s inc fl h16)).mono ?_
  rintro e w3 ⟨g, c, g', c', v, rfl, hA3, ho1, ho2, hg, hgg, hvb, hK⟩
  have hm := A1_mids b n s inc fl h16 hi.1
  have hw := A1_wl b n s inc fl h16 hi.1
  have hh := A1_hld b n s inc fl h16 hi.1
  have hav := A1_av b n s inc fl h16 hi.1 hf.1
  have hvi := hv.ins g c (by rw [A1_top b n s inc fl h16 hi.1 hf.1]; exact hf.1)
  rw [hw] at ho2
  obtain ⟨ao, cp, rfl⟩ := own_slice ho2
  have hml : (A1 b n s inc fl).mids.length = 1 := by rw [hm]; rfl
  rw [hml] at ho1 hh
  refine ⟨g', c', ao, cp, (A1 b n s inc fl).inst g c, ?_, ⟨hA3, hvi, Ag.Iw.ins hv g c, rfl, rfl, rfl⟩, hav, hml, own_base ho1, hh, own_rd ho2, hK⟩
  rw [hml]
  unfold Ag.viewC
  have e0 : ((A1 b n s inc fl).inst g c).id = [fl + 1, (s : Int), inc, fl + 1] := hav
  rw [e0]
  rfl
theorem inst2 {b n s kc k5 k8 g1 g2 gv cv : Nat} {inc i0 i1 i2 i3 : Int} {cc : Array Value} (h : Tst w b n s inc kc k5 k8 cc A A g1 g2 gv cv i0 i1 i2 i3) (hg : A.agr = true) : Calls Try.prog 10 #[.pointer (some ⟨b, 0, none⟩)] w fun e w' => ∃ gw cw ao tn cp A' j0 j1 j2 j3, e = .returned (.tuple #[.agg #[.int .i64 j0, .int .i64 j1, .int .i64 j2, .int .i64 j3, .slice (some ⟨gw, 0, none⟩) A'.k cw], .slice ao tn cp, .int .i64 0]) ∧ Gd A' b n s inc w' ∧ A'.id = [j0, j1, j2, j3] ∧ A'.id ≠ [0, 0, 0, 0] ∧ w'.ownsRow 0 86 3 (.slice (some ⟨gw, 0, none⟩) A'.k cw) A'.k (ints A'.ms) ∧ 0 < tn ∧ tn ≤ 16 ∧ i0 < j0 ∧ hld A.ms s inc A.k < hld A'.ms s inc A'.k ∧ A'.own = A.own ∧ A'.chg = false ∧ Kept w w' (fun j => j = b) := by
  have hv := h.gd.iv
  have hy := install_yes h.gd.ok (by rw [hv.set]; have := hv.inc1; omega) hg
  rw [h.gd.b] at hy
  refine hy.mono ?_
  rintro e w3 ⟨g, c, g', c', v, rfl, hA3, ho1, ho2, hgs, hgg, hvb, hK⟩
  obtain ⟨ao, cp, rfl⟩ := own_slice ho2
  have hr := inst_rises h.gd.iw hv hg h.nz
  have hi0 : A.id.getD 0 0 = i0 := by rw [h.id4]; rfl
  have htn : (A.wl A.tog).length ≤ 16 := by
    unfold Ag.wl Ag.wlN
    rw [List.length_map]
    exact Nat.le_trans (List.length_filter_le _ _) (by rw [List.length_range]; exact hv.n16.2.1)
  have hnn := topL_nn (inc := inc) h.gd.ok
  have hsf := h.gd.self
  refine ⟨g', c', ao, _, cp, A.inst g c, _, _, _, _, rfl, ⟨hA3, hv.ins g c hnn, Ag.Iw.ins hv g c, h.gd.b, h.gd.n, hsf⟩, rfl, ?_, own_base ho1, wl_pos hv, htn, ?_, ?_, rfl, rfl, hK⟩
  · intro e
    have : A.topL A.mids + 1 = 0 := (List.cons.inj e).1
    omega
  · rw [← hi0]; exact hr.1
  · have := hr.2
    unfold Ag.hv at this
    rw [hsf] at this
    exact this
end
end Go.Proofs.Ytbdefhagpgpoiaa.Mb
