import Derived.Test.YtbdefhagpgpoiaaBv
import Derived.Test.YtbdefhagpgpoiaaBl
import Derived.Test.YtbdefhagpgpoiaaBk
namespace Go.Proofs.Ytbdefhagpgpoiaa.Mb
open Go.RowKit
set_option linter.unusedVariables false
set_option linter.unusedSimpArgs false
section
variable {A A' : Ag} {w w' W : World} {B : Nat} {T : Int}
structure Fx (A A' : Ag) : Prop where
  b : A'.b = A.b
  n : A'.n = A.n
  self : A'.self = A.self
structure Vx (A A' : Ag) : Prop where
  id : A'.id = A.id
  msv : A'.msv = A.msv
  k : A'.k = A.k
  ms : A'.ms = A.ms
theorem rev_fx (A : Ag) (p : Pp) : Fx A (A.revA p) ∧ Vx A (A.revA p) := by
  unfold Ag.revA
  split <;> (try split) <;> exact ⟨⟨rfl, rfl, rfl⟩, ⟨rfl, rfl, rfl, rfl⟩⟩
theorem beg_fx (A : Ag) (s : List Int) : Fx A (A.begA s) ∧ Vx A (A.begA s) := by
  unfold Ag.begA
  have h := rev_fx A (A.begP s)
  split
  · exact ⟨⟨rfl, rfl, rfl⟩, ⟨rfl, rfl, rfl, rfl⟩⟩
  · split
    · exact ⟨⟨h.1.b, h.1.n, h.1.self⟩, ⟨h.2.id, h.2.msv, h.2.k, h.2.ms⟩⟩
    · exact ⟨⟨rfl, rfl, rfl⟩, ⟨rfl, rfl, rfl, rfl⟩⟩
theorem est_fx (A : Ag) (xs : List Int) : Fx A (A.estA xs) ∧ Vx A (A.estA xs) := by
  unfold Ag.estA
  split
  · exact ⟨⟨rfl, rfl, rfl⟩, ⟨rfl, rfl, rfl, rfl⟩⟩
  · split
    · exact ⟨⟨rfl, rfl, rfl⟩, ⟨rfl, rfl, rfl, rfl⟩⟩
    · exact beg_fx A _
theorem fol_fx (A : Ag) (q : Nat) : Fx A (A.folA q) ∧ Vx A (A.folA q) := by
  unfold Ag.folA
  split
  · exact rev_fx A _
  · split
    · exact beg_fx A _
    · exact ⟨⟨rfl, rfl, rfl⟩, ⟨rfl, rfl, rfl, rfl⟩⟩
theorem tak_fx (A : Ag) (q i : Int) (p : Pq) : Fx A (A.takA q i p) ∧ Vx A (A.takA q i p) := by
  unfold Ag.takA
  split
  · exact ⟨⟨rfl, rfl, rfl⟩, ⟨rfl, rfl, rfl, rfl⟩⟩
  · split
    · exact ⟨⟨rfl, rfl, rfl⟩, ⟨rfl, rfl, rfl, rfl⟩⟩
    · split
      · exact ⟨⟨rfl, rfl, rfl⟩, ⟨rfl, rfl, rfl, rfl⟩⟩
      · split
        · exact ⟨⟨rfl, rfl, rfl⟩, ⟨rfl, rfl, rfl, rfl⟩⟩
        · unfold Ag.tk1
          split
          · have h := fol_fx (A.set1 q.toNat p.pp) q.toNat
            exact ⟨⟨h.1.b, h.1.n, h.1.self⟩, ⟨h.2.id, h.2.msv, h.2.k, h.2.ms⟩⟩
          · exact ⟨⟨rfl, rfl, rfl⟩, ⟨rfl, rfl, rfl, rfl⟩⟩
theorem stp_fx {o : Opx} {E : Int} (s : Stp A o E A') : Fx A A' := by
  cases s with
  | est _ => exact (est_fx A o.ss).1
  | tak _ => exact (tak_fx A o.q o.inc o.p).1
  | ins g c _ _ => exact ⟨rfl, rfl, rfl⟩
  | apart _ _ => exact ⟨rfl, rfl, rfl⟩
  | none _ _ _ => exact ⟨rfl, rfl, rfl⟩
theorem stp_vx {o : Opx} {E : Int} (s : Stp A o E A') (h5 : o.kind ≠ 5) : Vx A A' := by
  cases s with
  | est _ => exact (est_fx A o.ss).2
  | tak _ => exact (tak_fx A o.q o.inc o.p).2
  | ins g c h _ => exact absurd h h5
  | apart _ _ => exact ⟨rfl, rfl, rfl, rfl⟩
  | none _ _ _ => exact ⟨rfl, rfl, rfl, rfl⟩
theorem ext16 {a b : List Int} {n : Nat} (ha : a.length = 16) (hb : b.length = 16) (za : ∀ q, n ≤ q → a.getD q 0 = 0) (zb : ∀ q, n ≤ q → b.getD q 0 = 0) (h : a.take n = b.take n) : a = b := by
  apply List.ext_getElem (by omega)
  intro i h1 h2
  have e1 : a.getD i 0 = a[i] := by simp [List.getD, h1]
  have e2 : b.getD i 0 = b[i] := by simp [List.getD, h2]
  rw [← e1, ← e2]
  by_cases hi : n ≤ i
  · rw [za i hi, zb i hi]
  · have h3 : (a.take n).getD i 0 = (b.take n).getD i 0 := by rw [h]
    simpa [List.getD, List.getElem?_take, show i < n by omega] using h3
theorem rise_same {inc : Int} (h : A.Iv inc) (h' : A'.Iv inc) (hn : A'.n = A.n) (m : Mv A.own A'.own) (g1 g2 g3 g4 : Nat) : A.own.cid ≤ A'.own.cid ∧ A.own.rev ≤ A'.own.rev ∧ A'.own.rev ≤ A.own.rev + 1 ∧ (A'.own.rev == A.own.rev) = (A.pq g1 g2).same { A'.pq g3 g4 with rev := A.own.rev } := by
  rcases m with e | ⟨e1, e2, e3⟩
  · refine ⟨by rw [e]; exact Int.le_refl _, by rw [e]; exact Int.le_refl _, by rw [e]; omega, ?_⟩
    unfold Pq.same Ag.pq
    simp [e, hn]
  · refine ⟨e2, by omega, by omega, ?_⟩
    have h1 : (A'.own.rev == A.own.rev) = false := by simp; omega
    rw [h1]
    symm
    cases hs : (A.pq g1 g2).same { A'.pq g3 g4 with rev := A.own.rev } with
    | false => rfl
    | true =>
      exfalso
      apply e3
      unfold Pq.same Ag.pq at hs
      simp only [Bool.and_eq_true, decide_eq_true_eq, beq_iff_eq] at hs
      obtain ⟨⟨⟨⟨⟨s1, s2⟩, s3⟩, _⟩, s4⟩, s5⟩ := hs
      rw [hn] at s1 s2
      have t1 := ext16 h.ol.ls h'.ol.ls h.sz (fun q hq => h'.sz q (by omega)) s1
      have t2 := ext16 h.ol.lv h'.ol.lv h.vz (fun q hq => h'.vz q (by omega)) s2
      unfold Pp.fl
      rw [t1, t2, s3, s4, s5]
theorem P1_eq (b n s : Nat) (inc fl : Int) : (P1 b n s inc fl).cid = fl + 1 ∧ (P1 b n s inc fl).top = fl ∧ (P1 b n s inc fl).prev = [0, 0, 0, 0] := by
  unfold P1
  rw [begP0]
  exact ⟨rfl, rfl, rfl⟩
theorem A1_top (b n s : Nat) (inc fl : Int) (h16 : 1 ≤ n ∧ n ≤ 16 ∧ s < n) (hi : 1 ≤ inc) (hf : 0 ≤ fl) : (A1 b n s inc fl).topL (A1 b n s inc fl).mids = fl := by
  rw [A1_mids b n s inc fl h16 hi]
  show max (P1 b n s inc fl).top (0 : Int) = fl
  rw [(P1_eq b n s inc fl).2.1]
  omega
theorem A1_av (b n s : Nat) (inc fl : Int) (h16 : 1 ≤ n ∧ n ≤ 16 ∧ s < n) (hi : 1 ≤ inc) (hf : 0 ≤ fl) : (A1 b n s inc fl).avI = [fl + 1, (s : Int), inc, fl + 1] := by
  have hv := A1_iv b n s inc fl h16 hi
  have h1 : (A1 b n s inc fl).own.set.getD s 0 = inc := hv.set
  have h2 : (A1 b n s inc fl).own.vec.getD s 0 = (P1 b n s inc fl).cid := hv.vec
  unfold Ag.avI
  rw [A1_top b n s inc fl h16 hi hf, A1_mids b n s inc fl h16 hi]
  show [fl + 1, (s : Int), (A1 b n s inc fl).own.set.getD s 0, (A1 b n s inc fl).own.vec.getD s 0] = _
  rw [h1, h2, (P1_eq b n s inc fl).1]
theorem A1_wl (b n s : Nat) (inc fl : Int) (h16 : 1 ≤ n ∧ n ≤ 16 ∧ s < n) (hi : 1 ≤ inc) : (A1 b n s inc fl).wl (A1 b n s inc fl).tog = [(s : Int)] := by
  have e : ((List.range n).filter fun q => (A1 b n s inc fl).own.set.getD q 0 != 0 && (A1 b n s inc fl).tog q) = (A1 b n s inc fl).mids := by
    unfold Ag.mids
    apply List.filter_congr
    intro q _
    rw [A1_set, set_at s q inc (by omega)]
    by_cases h : q = s
    · have : (A1 b n s inc fl).tog q = true := by
        unfold Ag.tog
        rw [decide_eq_true (show q = (A1 b n s inc fl).self from h), Bool.true_or]
      rw [this]
      rfl
    · rw [if_neg h]
      simp
  unfold Ag.wl Ag.wlN
  show ((List.range n).filter _).map _ = _
  rw [e, A1_mids b n s inc fl h16 hi]
  rfl
theorem wl_pos {inc : Int} (h : A.Iv inc) : 0 < (A.wl A.tog).length := by
  have hs : A.own.set.getD A.self 0 ≠ 0 := by rw [h.set]; have := h.inc1; omega
  have hm : A.self ∈ (List.range A.n).filter fun q => A.own.set.getD q 0 != 0 && A.tog q := List.mem_filter.2 ⟨List.mem_range.2 h.n16.2.2, by
    unfold Ag.tog
    rw [decide_eq_true (rfl : A.self = A.self), Bool.true_or, Bool.and_true]
    simpa using hs⟩
  unfold Ag.wl Ag.wlN
  rw [List.length_map]
  exact List.length_pos_of_mem hm
theorem A1_hld (b n s : Nat) (inc fl : Int) (h16 : 1 ≤ n ∧ n ≤ 16 ∧ s < n) (hi : 1 ≤ inc) : hld ((A1 b n s inc fl).msL (A1 b n s inc fl).mids) s inc (A1 b n s inc fl).mids.length = fl + 1 := by
  have := hld_self (A1_iv b n s inc fl h16 hi)
  have e : (A1 b n s inc fl).self = s := rfl
  rw [e] at this
  rw [this]
  exact (P1_eq b n s inc fl).1
theorem topL_nn {inc : Int} (h : A.Ok w B T) : 0 ≤ A.topL A.mids := Int.le_trans h.top.1 (topL_ge A A.mids)
theorem RdM.keep {P : Nat → Prop} {g k : Nat} {ms : List Int} (h : RdM w (some ⟨g, 0, none⟩) k ms) (hk : Kept w w' P) (hp : ¬ P g) : RdM w' (some ⟨g, 0, none⟩) k ms := by
  obtain ⟨h1, h2⟩ := h
  refine ⟨h1, h2.elim .inl fun ⟨g', e, hc⟩ => ?_⟩
  cases e
  refine .inr ⟨g, rfl, fun j hj => ?_⟩
  have hlt := World.block_lt_of_cell? w _ (hc j hj)
  have e1 := hk.block g hlt hp
  have e2 := hc j hj
  rw [← e2]
  unfold World.cell?
  simp only [e1]
theorem pq_rd {inc : Int} (h : A.Iv inc) (g1 g2 : Nat) (r1 : Rw w g1 3 (A.own.set.take A.n)) (r2 : Rw w g2 3 (A.own.vec.take A.n)) : (A.pq g1 g2).Rd w := by
  have h16 := h.n16
  have l1 : (A.own.set.take A.n).length = A.n := by rw [List.length_take, h.ol.ls]; omega
  have l2 : (A.own.vec.take A.n).length = A.n := by rw [List.length_take, h.ol.lv]; omega
  refine ⟨⟨l1, .inr ⟨g1, 0, rfl, fun i hi => ?_⟩⟩, ⟨l2, .inr ⟨g2, 0, rfl, fun i hi => ?_⟩⟩, h.ol.lp, by show A.n ≤ _; omega, by show A.n ≤ _; omega⟩
  · rw [Nat.zero_add]; exact r1.cell (by have : i < A.n := hi; omega)
  · rw [Nat.zero_add]; exact r2.cell (by have : i < A.n := hi; omega)
end
end Go.Proofs.Ytbdefhagpgpoiaa.Mb
