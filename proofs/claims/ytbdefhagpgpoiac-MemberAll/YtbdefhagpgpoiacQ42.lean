import Derived.Test.YtbdefhagpgpoiacQ00
import Derived.Test.YtbdefhagpgpoiacQ41
import Derived.Test.YtbdefhagpgpoiacQ23
import Derived.Deep.DeepCutAuto
namespace Go.Proofs.Ytbdefhagpgpoiac.Mb
open Go.RowKit
set_option linter.unusedVariables false
set_option maxRecDepth 100000
set_option linter.unusedSimpArgs false
section
variable {A A' : Ag} {w w' W : World} {B : Nat} {T : Int} {R R' : Rg}
theorem pad_getA {xs : List Int} (h : xs.length ≤ 16) (q : Nat) : (pad xs).getD q 0 = xs.getD q 0 := by
  by_cases hq : q < 16
  · exact pad_get xs hq
  · have h1 : (pad xs).length ≤ q := by rw [pad_len]; omega
    have h2 : xs.length ≤ q := by omega
    simp [List.getD, List.getElem?_eq_none h1, List.getElem?_eq_none h2]
theorem Sim.old (S : Sim A R) {q : Nat} {inc : Int} (hq : q < R.n) (hi : 1 ≤ inc) : decide (inc < (A.lat q).set.getD q 0) = R.b7 q inc := by
  have h16 := S.n16
  unfold Rg.b7
  cases hl : Mb.lat R.all (q : Int) with
  | none =>
    rw [S.no hq hl]
    have : Pz.set.getD q 0 = 0 := zs_at q
    rw [this]
    exact decide_eq_false (by omega)
  | some j =>
    obtain ⟨-, -, g2, g3⟩ := S.h hq hl
    rw [g3]
    have : (R.all.getD j h0).p.pp.set.getD q 0 = (R.all.getD j h0).inc := (pad_get _ (by omega)).trans g2.s
    rw [this]
theorem Sim.frs (S : Sim A R) {q : Nat} {inc : Int} {p : Pq} (hq : q < R.n) (hi : 1 ≤ inc) (h7 : R.b7 q inc = false) : A.fresh q inc p = !(R.b9 q inc p) := by
  have h16 := S.n16
  unfold Rg.b7 at h7
  unfold Rg.b9 Ag.fresh
  cases hl : Mb.lat R.all (q : Int) with
  | none =>
    rw [S.no hq hl]
    have : Pz.set.getD q 0 = 0 := zs_at q
    rw [this, decide_eq_true (show (0 : Int) < inc by omega)]
    rfl
  | some j =>
    rw [hl] at h7
    have h7' := of_decide_eq_false h7
    obtain ⟨-, -, g2, g3⟩ := S.h hq hl
    rw [g3]
    have e : (R.all.getD j h0).p.pp.set.getD q 0 = (R.all.getD j h0).inc := (pad_get _ (by omega)).trans g2.s
    rw [e]
    show (decide ((R.all.getD j h0).inc < inc) || (decide (inc = (R.all.getD j h0).inc) && decide ((R.all.getD j h0).p.rev < p.rev))) = !(decide ((R.all.getD j h0).inc = inc) && decide (p.rev ≤ (R.all.getD j h0).p.rev))
    generalize R.all.getD j h0 = y at *
    by_cases e1 : y.inc = inc
    · rw [decide_eq_false (show ¬ y.inc < inc by omega), decide_eq_true e1, decide_eq_true e1.symm]
      by_cases e2 : p.rev ≤ y.p.rev
      · rw [decide_eq_true e2, decide_eq_false (by omega)]; rfl
      · rw [decide_eq_false e2, decide_eq_true (by omega)]; rfl
    · rw [decide_eq_true (show y.inc < inc by omega), decide_eq_false e1]; rfl
theorem tak_sim (S : Sim A R) (hil : A.id.length = 4) (hrv : R.own.rev < 4611686018427387904) {q : Nat} {inc : Int} {p : Pq} {x : Bool} {E : Int} (hq : q < R.n) (hne : q ≠ R.self) (hi : 1 ≤ inc ∧ inc ≤ 4611686018427387904) (h : RTk R q inc p x E R') : A.takB (q : Int) inc p = x ∧ A.takE (q : Int) inc p = E ∧ Sim (A.takA (q : Int) inc p) R' := by
  have h16 := S.n16
  have htk : A.tkOk (q : Int) inc = true := by
    unfold Ag.tkOk wB
    rw [S.n, S.self]
    simp
    omega
  have hV : p.valid (q : Int).toNat inc A.n = p.valid q inc R.n := by rw [S.n]; rfl
  have hold := S.old (inc := inc) hq hi.1
  have hT : ∀ b, b = true → ¬ b = false := fun b h e => by rw [h] at e; cases e
  unfold Ag.takB Ag.takE Ag.takA
  rw [if_neg (hT _ htk), if_neg (hT _ htk), if_neg (hT _ htk), hV]
  simp only [Int.toNat_natCast]
  have fr : RFr R q inc p → (A.fresh q inc p = true ∧ ¬ inc < (A.lat q).set.getD q 0) := fun hF => by
    refine ⟨by rw [S.frs hq hi.1 hF.b7, hF.b9]; rfl, fun e => ?_⟩
    rw [hF.b7] at hold
    exact of_decide_eq_false hold e
  have lv : ∀ (hF : RFr R q inc p), (A.set1 q p.pp).leaves q = (List.range R.k).any (lvs q inc p.cid R.ms) := fun hF => by
    have vp := valid_vp hq h16.2.1 hF.ok
    unfold Ag.leaves
    show (List.range A.k).any (lvs q ((upd A.lat q p.pp q).set.getD q 0) (upd A.lat q p.pp q).cid A.ms) = _
    rw [upd_same, S.k, S.ms]
    have : p.pp.set.getD q 0 = inc := (pad_get _ (by omega)).trans vp.s
    rw [this]
    rfl
  have cg : (A.set1 q p.pp).chg = R.op := S.chg
  cases h with
  | set hv => rw [if_pos hv, if_pos hv, if_pos hv]; exact ⟨rfl, rfl, S⟩
  | old hv h7 =>
    have : inc < (A.lat q).set.getD q 0 := by rw [h7] at hold; exact of_decide_eq_true hold
    rw [if_neg (hT _ hv), if_neg (hT _ hv), if_neg (hT _ hv), if_pos this, if_pos this, if_pos this]
    exact ⟨rfl, rfl, S⟩
  | stale hv h7 h9 =>
    have g : ¬ inc < (A.lat q).set.getD q 0 := by rw [h7] at hold; exact of_decide_eq_false hold
    have f : A.fresh q inc p = false := by rw [S.frs hq hi.1 h7, h9]; rfl
    rw [if_neg (hT _ hv), if_neg (hT _ hv), if_neg (hT _ hv), if_neg g, if_neg g, if_neg g, if_pos f, if_pos f, if_pos f]
    exact ⟨rfl, rfl, S⟩
  | add ha hc p' hF ht hop hl =>
    have g := fr hF
    have hv := hF.ok
    have hlv := lv hF
    rw [if_neg (hT _ hv), if_neg (hT _ hv), if_neg (hT _ hv), if_neg g.2, if_neg g.2, if_neg g.2, if_neg (hT _ g.1), if_neg (hT _ g.1), if_neg (hT _ g.1)]
    unfold Ag.tk1 Ag.folB Ag.folE Ag.folA
    rw [cg, hop, hlv, hl]
    exact ⟨rfl, rfl, add_sim S hF ht⟩
  | spent hF hop hl hsp =>
    have g := fr hF
    have hv := hF.ok
    have hlv := lv hF
    have S1 := add_sim (ha := none) (hc := 0) S hF (⟨rfl, rfl, rfl, rfl, rfl, rfl⟩ : Tw p p)
    obtain ⟨e1, e2⟩ := begE_no (A.set1 q p.pp) (A.set1 q p.pp).own.set rfl (S1.spent.1 hsp)
    rw [if_neg (hT _ hv), if_neg (hT _ hv), if_neg (hT _ hv), if_neg g.2, if_neg g.2, if_neg g.2, if_neg (hT _ g.1), if_neg (hT _ g.1), if_neg (hT _ g.1)]
    unfold Ag.tk1 Ag.folB Ag.folE Ag.folA
    rw [cg, hop, hlv, hl]
    simp only [Bool.false_eq_true, if_false, if_true, ite_true, ite_false]
    rw [e1]
    exact ⟨rfl, rfl, S⟩
  | beg ha hc p' P hF ht hop hl hsp hN =>
    have g := fr hF
    have hv := hF.ok
    have hlv := lv hF
    have S1 := add_sim (ha := ha) (hc := hc) S hF ht
    have hs : R.own.ss.getD R.self 0 = R.inc := by have := S.iv.set; rwa [S.os, S.self, pad_get _ (by omega)] at this
    obtain ⟨e1, e2⟩ := beg_yes S1 hil (xs := R.own.ss) S.sl hs hsp hN
    have hos : (A.set1 q p.pp).own.set = pad R.own.ss := S.os
    rw [if_neg (hT _ hv), if_neg (hT _ hv), if_neg (hT _ hv), if_neg g.2, if_neg g.2, if_neg g.2, if_neg (hT _ g.1), if_neg (hT _ g.1), if_neg (hT _ g.1)]
    unfold Ag.tk1 Ag.folB Ag.folE Ag.folA
    rw [cg, hop, hlv, hl, hos]
    simp only [Bool.false_eq_true, if_false, if_true, ite_true, ite_false]
    rw [e1]
    exact ⟨rfl, rfl, e2⟩
  | same ha hc p' hF ht hop hvec =>
    have g := fr hF
    have hv := hF.ok
    have S1 := add_sim (ha := ha) (hc := hc) S hF ht
    have e : (A.set1 q p.pp).vecOf (A.set1 q p.pp).own = (A.set1 q p.pp).own.vec := by
      rw [S1.vec S1.sl S1.os, S1.ov, S1.cid]
      exact congrArg pad hvec
    have ef := (own_fl (A.set1 q p.pp)).2 e
    rw [if_neg (hT _ hv), if_neg (hT _ hv), if_neg (hT _ hv), if_neg g.2, if_neg g.2, if_neg g.2, if_neg (hT _ g.1), if_neg (hT _ g.1), if_neg (hT _ g.1)]
    unfold Ag.tk1 Ag.folB Ag.folE Ag.folA
    rw [cg, hop]
    simp only [if_true, ite_true]
    unfold Ag.revE Ag.revA
    rw [if_pos ef, if_pos ef]
    exact ⟨by trivial, rfl, S1⟩
  | rev ha hc p' va vc hF ht hop hvec =>
    have g := fr hF
    have hv := hF.ok
    have S1 := add_sim (ha := ha) (hc := hc) S hF ht
    have e0 : (A.set1 q p.pp).vecOf (A.set1 q p.pp).own = pad (rvecN (R.add ha hc ⟨q, inc, p'⟩) R.own.ss R.own.cid R.n) := by
      rw [S1.vec S1.sl S1.os, S1.cid]; rfl
    have e : ¬ ((A.set1 q p.pp).wv (A.set1 q p.pp).own).fl = (A.set1 q p.pp).own.fl := fun c => by
      have c1 := (own_fl (A.set1 q p.pp)).1 c
      rw [e0, S1.ov] at c1
      exact hvec (pad_inj16 (rvecN_len _ _ _ _) S.vl h16.2.1 c1)
    have r : ¬ (A.set1 q p.pp).own.rev = 4611686018427387904 := by rw [S1.rev]; show ¬ R.own.rev = _; omega
    have iv := S1.iv.fol hil q
    have hf : (A.set1 q p.pp).folA q = { A.set1 q p.pp with own := { (A.set1 q p.pp).wv (A.set1 q p.pp).own with rev := (A.set1 q p.pp).own.rev + 1 } } := by
      unfold Ag.folA
      rw [cg, hop]
      simp only [if_true, ite_true]
      unfold Ag.revA
      rw [if_neg e, if_neg r]
    rw [if_neg (hT _ hv), if_neg (hT _ hv), if_neg (hT _ hv), if_neg g.2, if_neg g.2, if_neg g.2, if_neg (hT _ g.1), if_neg (hT _ g.1), if_neg (hT _ g.1)]
    have hE : (A.set1 q p.pp).folE q = 0 := by
      unfold Ag.folE
      rw [cg, hop]
      simp only [if_true, ite_true]
      unfold Ag.revE
      rw [if_neg e, if_neg r]
    have hB : (A.set1 q p.pp).folB q = false := by unfold Ag.folB; rw [cg, hop]; rfl
    unfold Ag.tk1
    rw [hE, hB, if_pos rfl]
    refine ⟨rfl, rfl, ?_⟩
    rw [hf] at iv ⊢
    exact {
      n := S1.n, self := S1.self, n16 := S1.n16, sl := S1.sl, vl := rvecN_len _ _ _ _, os := S1.os, ov := e0, cid := S1.cid
      rev := by show (A.set1 q p.pp).own.rev + 1 = R.own.rev + 1; rw [S1.rev]; rfl
      top := S1.top, prev := S1.prev, id := S1.id, k := S1.k, ms := S1.ms, chg := S1.chg, iv := iv, c1 := S1.c1
      hl := fun q' hq' hne' hv' => by
        have hv2 : (rvecN (R.add ha hc ⟨q, inc, p'⟩) R.own.ss R.own.cid R.n).getD q' 0 ≠ 0 := hv'
        rw [rvecN_get, if_pos (show q' < R.n from hq')] at hv2
        exact rvE_some (R := R.add ha hc ⟨q, inc, p'⟩) hne' hv2
      val := S1.val, lat := S1.lat }
theorem Sim.sg (S : Sim A R) (q : Nat) : A.own.set.getD q 0 = R.own.ss.getD q 0 := by
  rw [S.os]; exact pad_getA (by have := S.sl; have := S.n16; omega) q
theorem Sim.vg (S : Sim A R) (q : Nat) : A.own.vec.getD q 0 = R.own.vs.getD q 0 := by
  rw [S.ov]; exact pad_getA (by have := S.vl; have := S.n16; omega) q
theorem Sim.vself (S : Sim A R) : R.own.vs.getD R.self 0 = R.own.cid := by
  rw [← S.vg, ← S.self, S.iv.vec, S.cid]
theorem Sim.rag (S : Sim A R) {q : Nat} (hq : q < R.n) : R.ragP q = !(A.own.set.getD q 0 != 0 && A.apart q) := by
  have h16 := S.n16
  unfold Rg.ragP Ag.apart
  rw [S.sg, S.self]
  by_cases hs : R.own.ss.getD q 0 = 0
  · rw [hs]; rfl
  · rw [decide_eq_false hs, show (R.own.ss.getD q 0 != 0) = true by simpa using hs, Bool.false_or, Bool.true_and]
    by_cases hme : q = R.self
    · have : ¬ R.own.vs.getD q 0 = 0 := by rw [hme, S.vself]; have := S.c1; omega
      rw [decide_eq_false this, decide_eq_true hme, decide_eq_false (fun e : q ≠ R.self => e hme)]
      rfl
    · rw [decide_eq_false hme, decide_eq_true (show q ≠ R.self from hme), Bool.false_or, Bool.true_and, Bool.not_not]
      cases hl : Mb.lat R.all (q : Int) with
      | none =>
        rw [S.no hq hl]
        have : ¬ Pz.vec = A.own.vec := fun e => by
          have h1 := S.iv.vec
          rw [← e] at h1
          have h2 : Pz.vec.getD A.self 0 = 0 := zs_at _
          rw [h2, S.cid] at h1
          have := S.c1
          omega
        rw [decide_eq_false this, Bool.and_false]
      | some j =>
        obtain ⟨-, -, g2, g3⟩ := S.h hq hl
        rw [g3]
        by_cases he : (R.all.getD j h0).p.vs = R.own.vs
        · have e1 : (R.all.getD j h0).p.pp.vec = A.own.vec := by rw [S.ov, ← he]; rfl
          have e2 : ¬ R.own.vs.getD q 0 = 0 := by rw [← he, g2.v]; have := g2.c; omega
          rw [decide_eq_true e1, decide_eq_false e2]
          show (!false && decide _) = true
          rw [decide_eq_true he]; rfl
        · have e1 : ¬ (R.all.getD j h0).p.pp.vec = A.own.vec := fun e => by
            rw [S.ov] at e
            exact he (pad_inj16 g2.lv S.vl h16.2.1 e)
          rw [decide_eq_false e1]
          show (_ && decide _) = false
          rw [decide_eq_false he, Bool.and_false]
theorem Sim.agr (S : Sim A R) : A.agr = R.ragr := by
  unfold Ag.agr Rg.ragr Ag.wl Ag.wlN
  rw [S.chg, S.n]
  congr 1
  apply Bool.eq_iff_iff.2
  rw [beq_iff_eq, List.length_map, List.length_eq_zero_iff, List.filter_eq_nil_iff, List.all_eq_true]
  constructor
  · intro h q hq
    rw [S.rag (List.mem_range.1 hq)]
    have g := h q hq
    cases hb : (A.own.set.getD q 0 != 0 && A.apart q) with
    | false => rfl
    | true => exact absurd hb g
  · intro h q hq
    have g := h q hq
    rw [S.rag (List.mem_range.1 hq)] at g
    intro c
    rw [c] at g
    cases g
theorem Sim.mid (S : Sim A R) : A.mids = R.mi R.n := by
  unfold Ag.mids Rg.mi Ag.all1
  rw [S.n]
  apply List.filter_congr
  intro q hq
  unfold Rg.inS
  rw [S.sg, Bool.and_true]
theorem Sim.msl (S : Sim A R) : A.msL A.mids = R.msN R.n := by
  unfold Ag.msL Rg.msN
  rw [S.mid]
  simp only [S.sg, S.vg]
theorem Sim.tpk (S : Sim A R) (hp0 : 0 ≤ A.own.top) (k : Nat) (hk : k ≤ R.n) : A.topL (R.mi k) = R.tpN k ∧ 0 ≤ R.tpN k := by
  induction k with
  | zero => exact ⟨S.top, by show 0 ≤ R.own.top; rw [← S.top]; exact hp0⟩
  | succ k ih =>
    obtain ⟨e, g⟩ := ih (by omega)
    have e2 : R.tpN (k + 1) = R.tpS (R.tpN k) k := by unfold Rg.tpN; rw [List.range_succ, List.foldl_append]; rfl
    have e3 : R.mi (k + 1) = R.mi k ++ (if R.inS k then [k] else []) := by unfold Rg.mi; rw [List.range_succ, List.filter_append]; congr 1; by_cases h : R.inS k <;> simp [h]
    rw [e2, e3]
    unfold Rg.tpS
    by_cases hin : R.inS k = true
    · rw [if_pos hin, if_pos hin]
      have e4 : A.topL (R.mi k ++ [k]) = max (R.tpN k) (A.lat k).top := by rw [← e]; unfold Ag.topL; rw [List.foldl_append]; rfl
      rw [e4]
      by_cases hme : k = R.self
      · rw [if_pos hme]
        have : A.lat k = Pz := S.no (by omega) (by rw [hme]; exact S.me)
        rw [this]
        have : Pz.top = 0 := rfl
        rw [this]
        omega
      · rw [if_neg hme]
        cases hl : Mb.lat R.all (k : Int) with
        | none =>
          rw [S.no (by omega) hl]
          have : Pz.top = 0 := rfl
          rw [this]
          show _ = R.tpN k ∧ 0 ≤ R.tpN k
          omega
        | some j =>
          obtain ⟨-, -, g2, g3⟩ := S.h (show k < R.n by omega) hl
          rw [g3]
          have : (R.all.getD j h0).p.pp.top = (R.all.getD j h0).p.top := rfl
          rw [this]
          show _ = (if R.tpN k < (R.all.getD j h0).p.top then _ else _) ∧ 0 ≤ (if R.tpN k < (R.all.getD j h0).p.top then _ else _)
          generalize (R.all.getD j h0).p.top = y
          split <;> omega
    · rw [if_neg hin, if_neg hin, List.append_nil]
      exact ⟨e, g⟩
theorem Sim.tp (S : Sim A R) (h0 : 0 ≤ A.own.top) : A.topL A.mids = R.tpN R.n := by
  rw [S.mid]; exact (S.tpk h0 R.n (Nat.le_refl _)).1
theorem Sim.tr (S : Sim A R) : A.wl A.tog = R.trN R.n := by
  unfold Ag.wl Ag.wlN Rg.trN
  rw [S.n]
  congr 1
  apply List.filter_congr
  intro q hq
  unfold Rg.inS
  rw [S.sg]
  congr 1
  unfold Ag.tog Rg.tg
  rw [S.self, S.prev]
  congr 1
  cases hl : Mb.lat R.all (q : Int) with
  | none =>
    rw [S.no (List.mem_range.1 hq) hl]
    by_cases h : R.own.prev = [0, 0, 0, 0]
    · rw [decide_eq_true h]; rfl
    · rw [decide_eq_false (fun e : Pz.prev = R.own.prev => h e.symm), Bool.and_false]
  | some j =>
    obtain ⟨-, -, g2, g3⟩ := S.h (List.mem_range.1 hq) hl
    rw [g3]
    show (!decide (R.own.prev = [0, 0, 0, 0]) && decide ((R.all.getD j h0).p.prev = R.own.prev)) = (decide ((R.all.getD j h0).p.prev = R.own.prev) && !decide ((R.all.getD j h0).p.prev = [0, 0, 0, 0]))
    by_cases h : (R.all.getD j h0).p.prev = R.own.prev
    · rw [h]; exact Bool.and_comm _ _
    · rw [decide_eq_false h, Bool.and_false, Bool.false_and]
theorem Sim.av (S : Sim A R) (h0 : 0 ≤ A.own.top) : A.avI = R.avI := by
  unfold Ag.avI Rg.avI
  rw [S.tp h0, S.mid, S.sg, S.vg]
theorem inst_sim (S : Sim A R) (h0 : 0 ≤ A.own.top) (g c : Nat) (mv' : Value) : Sim (A.inst g c) (R.rinst mv') := by
  exact {
    n := S.n, self := S.self, n16 := S.n16, sl := S.sl, vl := S.vl, os := S.os, ov := S.ov, cid := S.cid, rev := S.rev, top := S.top, prev := S.prev
    id := S.av h0
    k := by show A.mids.length = (R.mi R.n).length; rw [S.mid]
    ms := S.msl
    chg := rfl
    iv := S.iv.ins g c (by rw [S.tp h0]; exact (S.tpk h0 R.n (Nat.le_refl _)).2)
    c1 := S.c1, hl := S.hl, val := S.val, lat := S.lat }
theorem pad_ssL (s n : Nat) (x : Int) (hs : s < n) (hn : n ≤ 16) : pad (ssL s x n) = zs.set s x := by
  unfold pad ssL zs
  apply List.ext_getElem (by simp)
  intro i h1 h2
  have hi : i < 16 := by simpa using h1
  rw [List.getElem_map, List.getElem_range, List.getElem_set, List.getElem_replicate]
  by_cases h : i < n
  · by_cases e : s = i
    · simp [List.getD, h, e]
    · have e' : ¬ i = s := fun c => e c.symm
      simp [List.getD, h, e, e']
  · have : ¬ s = i := by omega
    simp [List.getD, h, this]
theorem new_sim {b n s : Nat} {inc fl : Int} (h16 : 1 ≤ n ∧ n ≤ 16 ∧ s < n) (hi : 1 ≤ inc) (hf : 0 ≤ fl) (h : RNew R n s inc fl) : Sim (A1 b n s inc fl) R := by
  have hv : (A1 b n s inc fl).own.vec = zs.set s (fl + 1) := by
    show (A0 b n s fl).vecOf ((A0 b n s fl).begP (zs.set s inc)) = _
    rw [begP0]
    unfold Ag.vecOf
    show ((A0 b n s fl).vecK _ n).set s (fl + 1) = _
    congr 1
    unfold Ag.vecK zs
    apply List.ext_getElem (by simp)
    intro i h1 h2
    rw [List.getElem_map, List.getElem_range, List.getElem_replicate]
    show (if _ then (0 : Int) else 0) = 0
    split <;> rfl
  exact {
    n := h.en.symm, self := h.eself.symm, n16 := by rw [h.en, h.eself]; exact h16
    sl := by rw [h.ss, h.en]; exact ssL_len _ _ _
    vl := by rw [h.vs, h.en]; exact ssL_len _ _ _
    os := by rw [A1_set, h.ss, pad_ssL s n inc h16.2.2 h16.2.1]
    ov := by rw [hv, h.vs, pad_ssL s n (fl + 1) h16.2.2 h16.2.1]
    cid := by show ((A0 b n s fl).begP (zs.set s inc)).cid = _; rw [begP0, h.cid]
    rev := by rw [h.rev]; rfl
    top := by show ((A0 b n s fl).begP (zs.set s inc)).top = _; rw [begP0, h.top]
    prev := by show ((A0 b n s fl).begP (zs.set s inc)).prev = _; rw [begP0, h.prev]
    id := h.id.symm, k := h.k.symm, ms := h.ms.symm, chg := h.op.symm
    iv := by rw [h.einc]; exact A1_iv b n s inc fl h16 hi
    c1 := by rw [h.cid]; omega
    hl := fun q hq hne hv' => by
      rw [h.vs, h.en] at *
      rw [h.eself] at hne
      exfalso
      apply hv'
      unfold ssL
      simp [List.getD, hq, hne]
    val := fun x hx => by rw [h.all] at hx; cases hx
    lat := fun q hq => by rw [h.all]; rfl }
end
end Go.Proofs.Ytbdefhagpgpoiac.Mb
namespace Go.Proofs.Ytbdefhagpgpoiac.Mb
open Go.RowKit
set_option linter.unusedVariables false
set_option maxRecDepth 100000
set_option linter.unusedSimpArgs false
section
variable {A A' : Ag} {w w' W : World} {B : Nat} {T : Int} {R R' : Rg}
set_option maxHeartbeats 4000000 in
theorem rtake_arg (h : R.Ok w B) (q inc : Int) (p : Pq) (hno : ¬ (0 ≤ q ∧ q < R.n ∧ q ≠ R.self ∧ 1 ≤ inc ∧ inc ≤ 4611686018427387904)) : Calls Try.prog 18 #[.pointer (some ⟨R.b, 0, none⟩), .int .i64 q, .int .i64 inc, .agg p.cs] w fun e w' => e = .returned (.tuple #[.bool false, .int .i64 1]) ∧ Below w.heap.size w w' := by
  have h16 := h.n16
  generalize hW1 : w.alloc (.cells p.cs 40) = W1
  have b1 : Below w.heap.size w W1 := hW1 ▸ balloc (Below.refl _ _)
  have c0 := (h.still b1).cn
  have c1 := (h.still b1).cself
  have HB1 : Hid (Below w.heap.size w W1) := b1
  generalize p.cs = pcs at *
  clear h b1
  by_cases h0 : q < 0
  · clear hno
    go_enter Try.func18, Try.ntmps18
    go_wp2
    (try simp only [Exit.inBlock, Exit.then]); refine bodyPost_ret (results_tmp2 rfl _ _ _) rfl ?_
    exact ⟨rfl, HB1.out⟩
  by_cases h1 : q ≥ R.n
  · clear hno
    go_enter Try.func18, Try.ntmps18
    go_wp2
    (try simp only [Exit.inBlock, Exit.then]); refine bodyPost_ret (results_tmp2 rfl _ _ _) rfl ?_
    exact ⟨rfl, HB1.out⟩
  by_cases h2 : q = R.self
  · clear hno
    go_enter Try.func18, Try.ntmps18
    go_wp2
    (try simp only [Exit.inBlock, Exit.then]); refine bodyPost_ret (results_tmp2 rfl _ _ _) rfl ?_
    exact ⟨rfl, HB1.out⟩
  by_cases h3 : inc < 1
  · clear hno
    go_enter Try.func18, Try.ntmps18
    go_wp2
    (try simp only [Exit.inBlock, Exit.then]); refine bodyPost_ret (results_tmp2 rfl _ _ _) rfl ?_
    exact ⟨rfl, HB1.out⟩
  have h4 : inc > 4611686018427387904 := by omega
  clear hno
  go_enter Try.func18, Try.ntmps18
  go_wp2
  (try simp only [Exit.inBlock, Exit.then]); refine bodyPost_ret (results_tmp2 rfl _ _ _) rfl ?_
  exact ⟨rfl, HB1.out⟩
end
end Go.Proofs.Ytbdefhagpgpoiac.Mb
