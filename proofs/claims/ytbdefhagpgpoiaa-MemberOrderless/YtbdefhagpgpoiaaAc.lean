import Derived.Test.YtbdefhagpgpoiaaAb
namespace Go.Proofs.Ytbdefhagpgpoiaa.Mb
open Go.RowKit
set_option linter.unusedVariables false
set_option maxRecDepth 100000
set_option linter.unusedSimpArgs false

structure Ag where
  b : Nat
  n : Nat
  self : Nat
  own : Pp
  lat : Nat → Pp
  id : List Int
  msv : Value
  k : Nat
  ms : List Int
  chg : Bool
def Ag.at (A : Ag) (i : Nat) : Value :=
  if i = 0 then .int .i64 A.n else if i = 1 then .int .i64 A.self else if i < 41 then .int .i64 (A.own.fl.getD (i - 2) 0)
  else if i < 665 then .int .i64 ((A.lat ((i - 41) / 39)).fl.getD ((i - 41) % 39) 0) else if i < 669 then .int .i64 (A.id.getD (i - 665) 0) else if i = 669 then A.msv else .bool A.chg
structure Ag.Ok (A : Ag) (w : World) (B : Nat) (T : Int) : Prop where
  blk : Fb w A.b 105 671 A.at
  n16 : 1 ≤ A.n ∧ A.n ≤ 16 ∧ A.self < A.n
  ol : A.own.L
  ll : ∀ q, (A.lat q).L
  il : A.id.length = 4
  ge : B ≤ A.b
  mem : w.ownsRow B 86 3 A.msv A.k (ints A.ms)
  ml : A.ms.length = 3 * A.k ∧ A.k ≤ 16
  cid : 0 ≤ A.own.cid ∧ A.own.cid ≤ 4611686018427387904
  rev : 0 ≤ A.own.rev ∧ A.own.rev ≤ 4611686018427387904
  top : 0 ≤ A.own.top ∧ A.own.top ≤ T
  ep : 0 ≤ A.id.getD 0 0 ∧ A.id.getD 0 0 ≤ 4611686018427387904
  lt : ∀ q, 0 ≤ (A.lat q).top ∧ (A.lat q).top ≤ 4611686018427387903
section
variable {A A' : Ag} {w w' W : World} {B : Nat} {T : Int}
theorem Ag.Ok.c (h : A.Ok w B T) (i : Nat) (hi : i < 671) : w.cell? ⟨A.b, i, none⟩ = some (A.at i) := h.blk.cell i hi
theorem Ag.Ok.c0 (h : A.Ok w B T) : w.cell? ⟨A.b, 0, none⟩ = some (.int .i64 A.n) := h.c 0 (by omega)
theorem Ag.Ok.c1 (h : A.Ok w B T) : w.cell? ⟨A.b, 1, none⟩ = some (.int .i64 A.self) := h.c 1 (by omega)
theorem Ag.at_own (A : Ag) (j : Nat) (hj : j < 39) : A.at (2 + j) = .int .i64 (A.own.fl.getD j 0) := by
  unfold Ag.at
  rw [if_neg (by omega), if_neg (by omega), if_pos (by omega), show 2 + j - 2 = j by omega]
theorem Ag.at_lat (A : Ag) (q j : Nat) (hq : q < 16) (hj : j < 39) : A.at (41 + q * 39 + j) = .int .i64 ((A.lat q).fl.getD j 0) := by
  unfold Ag.at
  rw [if_neg (by omega), if_neg (by omega), if_neg (by omega), if_pos (by omega), show (41 + q * 39 + j - 41) / 39 = q by omega, show (41 + q * 39 + j - 41) % 39 = j by omega]
theorem Ag.at_id (A : Ag) (j : Nat) (hj : j < 4) : A.at (665 + j) = .int .i64 (A.id.getD j 0) := by
  unfold Ag.at
  rw [if_neg (by omega), if_neg (by omega), if_neg (by omega), if_neg (by omega), if_pos (by omega), show 665 + j - 665 = j by omega]
theorem Ag.Ok.c669 (h : A.Ok w B T) : w.cell? ⟨A.b, 669, none⟩ = some A.msv := h.c 669 (by omega)
theorem Ag.Ok.c670 (h : A.Ok w B T) : w.cell? ⟨A.b, 670, none⟩ = some (.bool A.chg) := h.c 670 (by omega)
theorem Ag.Ok.cid_c (h : A.Ok w B T) : w.cell? ⟨A.b, 18, none⟩ = some (.int .i64 A.own.cid) := by
  rw [h.c 18 (by omega), show (18 : Nat) = 2 + 16 from rfl, A.at_own 16 (by omega), h.ol.cid]
theorem Ag.Ok.rev_c (h : A.Ok w B T) : w.cell? ⟨A.b, 19, none⟩ = some (.int .i64 A.own.rev) := by
  rw [h.c 19 (by omega), show (19 : Nat) = 2 + 17 from rfl, A.at_own 17 (by omega), h.ol.rev]
theorem Ag.Ok.top_c (h : A.Ok w B T) : w.cell? ⟨A.b, 20, none⟩ = some (.int .i64 A.own.top) := by
  rw [h.c 20 (by omega), show (20 : Nat) = 2 + 18 from rfl, A.at_own 18 (by omega), h.ol.top]
theorem Ag.Ok.own_r (h : A.Ok w B T) : w.rangeAt A.b 2 (ints A.own.fl) := h.blk.range 2 _ fun j v hv => by
  have hj : j < A.own.fl.length := by have := (List.getElem?_eq_some_iff.1 hv).1; rwa [ints_len] at this
  have l := h.ol.fl
  rw [ints_at _ _ hj] at hv
  cases hv
  exact ⟨by omega, A.at_own j (by omega)⟩
theorem Ag.Ok.set_r (h : A.Ok w B T) : w.rangeAt A.b 2 (ints A.own.set) := h.blk.range 2 _ fun j v hv => by
  have hj : j < A.own.set.length := by have := (List.getElem?_eq_some_iff.1 hv).1; rwa [ints_len] at this
  have l := h.ol.ls
  rw [ints_at _ _ hj] at hv
  cases hv
  exact ⟨by omega, by rw [A.at_own j (by omega), h.ol.at_set j (by omega)]⟩
theorem Ag.Ok.vec_r (h : A.Ok w B T) : w.rangeAt A.b 25 (ints A.own.vec) := h.blk.range 25 _ fun j v hv => by
  have hj : j < A.own.vec.length := by have := (List.getElem?_eq_some_iff.1 hv).1; rwa [ints_len] at this
  have l := h.ol.lv
  rw [ints_at _ _ hj] at hv
  cases hv
  exact ⟨by omega, by rw [show 25 + j = 2 + (23 + j) by omega, A.at_own (23 + j) (by omega), h.ol.at_vec j (by omega)]⟩
theorem Ag.Ok.prev_r (h : A.Ok w B T) : w.rangeAt A.b 21 (ints A.own.prev) := h.blk.range 21 _ fun j v hv => by
  have hj : j < A.own.prev.length := by have := (List.getElem?_eq_some_iff.1 hv).1; rwa [ints_len] at this
  have l := h.ol.lp
  rw [ints_at _ _ hj] at hv
  cases hv
  exact ⟨by omega, by rw [show 21 + j = 2 + (19 + j) by omega, A.at_own (19 + j) (by omega), h.ol.at_prev j (by omega)]⟩
theorem Ag.Ok.id_r (h : A.Ok w B T) : w.rangeAt A.b 665 (ints A.id) := h.blk.range 665 _ fun j v hv => by
  have hj : j < A.id.length := by have := (List.getElem?_eq_some_iff.1 hv).1; rwa [ints_len] at this
  have l := h.il
  rw [ints_at _ _ hj] at hv
  cases hv
  exact ⟨by omega, A.at_id j (by omega)⟩
theorem Ag.Ok.lat_r (h : A.Ok w B T) (q : Nat) (hq : q < 16) : w.rangeAt A.b (41 + q * 39) (ints (A.lat q).fl) := h.blk.range _ _ fun j v hv => by
  have hj : j < (A.lat q).fl.length := by have := (List.getElem?_eq_some_iff.1 hv).1; rwa [ints_len] at this
  have l := (h.ll q).fl
  rw [ints_at _ _ hj] at hv
  cases hv
  exact ⟨by omega, A.at_lat q j hq (by omega)⟩
theorem Ag.Ok.lset_r (h : A.Ok w B T) (q : Nat) (hq : q < 16) : w.rangeAt A.b (41 + q * 39) (ints (A.lat q).set) := h.blk.range _ _ fun j v hv => by
  have hj : j < (A.lat q).set.length := by have := (List.getElem?_eq_some_iff.1 hv).1; rwa [ints_len] at this
  have l := (h.ll q).ls
  rw [ints_at _ _ hj] at hv
  cases hv
  exact ⟨by omega, by rw [A.at_lat q j hq (by omega), (h.ll q).at_set j (by omega)]⟩
theorem Ag.Ok.lprev_r (h : A.Ok w B T) (q : Nat) (hq : q < 16) : w.rangeAt A.b (41 + q * 39 + 19) (ints (A.lat q).prev) := h.blk.range _ _ fun j v hv => by
  have hj : j < (A.lat q).prev.length := by have := (List.getElem?_eq_some_iff.1 hv).1; rwa [ints_len] at this
  have l := (h.ll q).lp
  rw [ints_at _ _ hj] at hv
  cases hv
  exact ⟨by omega, by rw [show 41 + q * 39 + 19 + j = 41 + q * 39 + (19 + j) by omega, A.at_lat q (19 + j) hq (by omega), (h.ll q).at_prev j (by omega)]⟩
theorem Ag.Ok.lvec_r (h : A.Ok w B T) (q : Nat) (hq : q < 16) : w.rangeAt A.b (41 + q * 39 + 23) (ints (A.lat q).vec) := h.blk.range _ _ fun j v hv => by
  have hj : j < (A.lat q).vec.length := by have := (List.getElem?_eq_some_iff.1 hv).1; rwa [ints_len] at this
  have l := (h.ll q).lv
  rw [ints_at _ _ hj] at hv
  cases hv
  exact ⟨by omega, by rw [show 41 + q * 39 + 23 + j = 41 + q * 39 + (23 + j) by omega, A.at_lat q (23 + j) hq (by omega), (h.ll q).at_vec j (by omega)]⟩
theorem Ag.Ok.lat_c (h : A.Ok w B T) (q j : Nat) (hq : q < 16) (hj : j < 39) : w.cell? ⟨A.b, 41 + q * 39 + j, none⟩ = some (.int .i64 ((A.lat q).fl.getD j 0)) := by
  rw [h.c _ (by omega), A.at_lat q j hq hj]
theorem Ag.Ok.own_c (h : A.Ok w B T) (j : Nat) (hj : j < 39) : w.cell? ⟨A.b, 2 + j, none⟩ = some (.int .i64 (A.own.fl.getD j 0)) := by
  rw [h.c _ (by omega), A.at_own j hj]
theorem Ag.Ok.fz (h : A.Ok w B T) (i : Nat) : w.frozen? ⟨A.b, i, none⟩ = false := h.blk.fz i
theorem Ag.Ok.lt_b (h : A.Ok w B T) : A.b < w.heap.size := h.blk.lt
theorem Ag.Ok.mem_ne (h : A.Ok w B T) : ∀ g, A.msv.ownBlock = some g → g ≠ A.b := by
  intro g hg e
  subst e
  obtain ⟨C, h1, _⟩ := h.blk
  rcases h.mem.2 with ⟨h2, _⟩ | ⟨g', cap, cur, h2, _, h3, _⟩
  · rw [h2] at hg; cases hg
  · rw [h2] at hg
    cases hg
    rw [h1] at h3
    simp at h3
theorem Ag.Ok.keep {P : Nat → Prop} (h : A.Ok w B T) (k : Kept w w' P) (hp : ¬ P A.b) (hm : ∀ g, A.msv.ownBlock = some g → ¬ P g) : A.Ok w' B T :=
  { h with blk := h.blk.keep k hp, mem := k.owns h.mem hm }
theorem Ag.Ok.still (h : A.Ok w B T) (hb : Below w.heap.size w w') : A.Ok w' B T := h.keep (Kept.ofBelow hb (fun _ => False)) (fun hh => hh) (fun _ _ hh => hh)
theorem Ag.Ok.lower {B' : Nat} (h : A.Ok w B T) (hB : B' ≤ B) : A.Ok w B' T := { h with ge := Nat.le_trans hB h.ge, mem := own_lower h.mem hB }
/- own := p -/
theorem Ag.Ok.putOwn (h : A.Ok w B T) (p : Pp) (hp : p.L) (hc : 0 ≤ p.cid ∧ p.cid ≤ 4611686018427387904) (hr : 0 ≤ p.rev ∧ p.rev ≤ 4611686018427387904) (ht : 0 ≤ p.top ∧ p.top ≤ T) : ({ A with own := p } : Ag).Ok (w.setCells A.b 2 (ints p.fl)) B T := by
  have k := ksets (P := fun j => j = A.b) rfl (ints p.fl) 2 w
  refine { h with blk := ?_, mem := k.owns h.mem (fun g hg e => h.mem_ne g hg e), ol := hp, cid := hc, rev := hr, top := ht }
  refine (Fb.sets (ints p.fl) 2 w _ h.blk).congr fun i hi => ?_
  rw [ints_len, hp.fl]
  by_cases e : 2 ≤ i ∧ i < 2 + 39
  · rw [if_pos e]
    obtain ⟨j, rfl⟩ : ∃ j, i = 2 + j := ⟨i - 2, by omega⟩
    rw [Ag.at_own _ j (by omega), show 2 + j - 2 = j by omega]
    have := ints_at p.fl j (by rw [hp.fl]; omega)
    simp [List.getD, this]
  · rw [if_neg e]
    unfold Ag.at
    by_cases e0 : i = 0
    · rw [if_pos e0, if_pos e0]
    by_cases e1 : i = 1
    · rw [if_neg e0, if_pos e1, if_neg e0, if_pos e1]
    rw [if_neg e0, if_neg e1, if_neg (show ¬ i < 41 by omega), if_neg e0, if_neg e1, if_neg (show ¬ i < 41 by omega)]
theorem Ag.Ok.putLat (h : A.Ok w B T) (q : Nat) (hq : q < 16) (p : Pp) (hp : p.L) (ht : 0 ≤ p.top ∧ p.top ≤ 4611686018427387903) : ({ A with lat := upd A.lat q p } : Ag).Ok (w.setCells A.b (41 + q * 39) (ints p.fl)) B T := by
  have k := ksets (P := fun j => j = A.b) rfl (ints p.fl) (41 + q * 39) w
  refine { h with blk := ?_, mem := k.owns h.mem (fun g hg e => h.mem_ne g hg e), ll := fun a => ?_, lt := fun a => ?_ }
  · refine (Fb.sets (ints p.fl) (41 + q * 39) w _ h.blk).congr fun i hi => ?_
    rw [ints_len, hp.fl]
    by_cases e : 41 + q * 39 ≤ i ∧ i < 41 + q * 39 + 39
    · rw [if_pos e]
      obtain ⟨j, rfl⟩ : ∃ j, i = 41 + q * 39 + j := ⟨i - (41 + q * 39), by omega⟩
      rw [Ag.at_lat _ q j hq (by omega), show 41 + q * 39 + j - (41 + q * 39) = j by omega]
      have := ints_at p.fl j (by rw [hp.fl]; omega)
      simp [List.getD, this, upd_same]
    · rw [if_neg e]
      by_cases e2 : 41 ≤ i ∧ i < 665
      · obtain ⟨a, j, rfl, hj, ha⟩ : ∃ a j, i = 41 + a * 39 + j ∧ j < 39 ∧ a < 16 := ⟨(i - 41) / 39, (i - 41) % 39, by omega, by omega, by omega⟩
        rw [Ag.at_lat _ a j ha hj, Ag.at_lat _ a j ha hj]
        have : a ≠ q := by rintro rfl; omega
        simp [upd_ne _ _ this]
      · unfold Ag.at
        by_cases e0 : i < 41
        · rw [if_pos e0, if_pos e0]
        · rw [if_neg e0, if_neg e0, if_neg (show ¬ i < 665 by omega), if_neg (show ¬ i < 665 by omega)]
  · show (upd A.lat q p a).L
    by_cases e : a = q
    · subst e; rw [upd_same]; exact hp
    · rw [upd_ne _ _ e]; exact h.ll a
  · show 0 ≤ (upd A.lat q p a).top ∧ (upd A.lat q p a).top ≤ _
    by_cases e : a = q
    · subst e; rw [upd_same]; exact ht
    · rw [upd_ne _ _ e]; exact h.lt a
theorem Ag.Ok.putChg (h : A.Ok w B T) (c : Bool) : ({ A with chg := c } : Ag).Ok (w.setCell ⟨A.b, 670, none⟩ (.bool c)) B T := by
  have k := kset (P := fun j => j = A.b) w A.b 670 (.bool c) rfl
  refine { h with blk := ?_, mem := k.owns h.mem (fun g hg e => h.mem_ne g hg e) }
  refine (h.blk.set 670 (.bool c)).congr fun i hi => ?_
  by_cases e : i = 670
  · subst e; rfl
  · rw [if_neg e]
    unfold Ag.at
    by_cases e9 : i = 669
    · subst e9; rfl
    · repeat' split
      all_goals first | rfl | omega
end
end Go.Proofs.Ytbdefhagpgpoiaa.Mb
