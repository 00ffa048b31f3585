import Derived.Test.YtfbollifegngjaaWi
namespace Go.Proofs.Ytfbollifegngjaa.Dt
open Go.RowKit
set_option linter.unusedVariables false
set_option maxRecDepth 100000
set_option linter.unusedSimpArgs false
section
variable {D D' : De} {R R' : Rf} {w w' W V : World} {B m : Nat}
def pyOf (p : Pe) (l : Bool) : Py := ⟨p.known, p.last, p.age, p.ticks, p.wrong, p.heard, p.both, l⟩
structure Sim (D : De) (R : Rf) : Prop where
  n : D.n = R.n
  s : D.self = R.s
  inc : D.inc = R.inc
  step : D.step = R.step
  lim : D.limit = R.lim
  pe : ∀ q, D.is q → R.of (q : Int) = pyOf (D.pe q) D.left
  left : D.left = R.lf
  tick : D.tick = (R.tk : Int)
theorem push_of (R : Rf) (x : Pst) (g c : Nat) (q : Int) : (R.push x g c).of q = (R.of q).next q R.step R.lim x := by
  unfold Rf.of Rf.push
  exact ofP_app _ _ _ _ _ _
theorem push_lf (R : Rf) (x : Pst) (g c : Nat) : (R.push x g c).lf = (R.lf || decide (x.k = 3)) := by
  unfold Rf.lf Rf.push
  simp
theorem push_tk (R : Rf) (x : Pst) (g c : Nat) : (R.push x g c).tk = R.tk + (if x.k = 1 then 1 else 0) := by
  unfold Rf.tk Rf.push
  simp only [List.filter_append, List.length_append]
  congr 1
  by_cases h : x.k = 1
  · simp [List.filter_cons, h]
  · simp [List.filter_cons, h]
theorem tk_le (R : Rf) : R.tk ≤ R.all.length := List.length_filter_le _ _
theorem Sim.ticked (h : Sim D R) (hl : R.all.length < 4611686018427387904) (g c : Nat) : Sim D.ticked (R.push ⟨1, 0, 0, 0, false⟩ g c) := by
  have ht : (if D.tick < 4611686018427387904 then D.tick + 1 else D.tick) = ((R.tk + 1 : Nat) : Int) := by
    have h1 := tk_le R
    have h2 := h.tick
    rw [if_pos (by omega)]
    omega
  refine ⟨h.n, h.s, h.inc, h.step, h.lim, fun q hq => ?_, ?_, ?_⟩
  · have hq' : D.is q := hq
    rw [push_of, h.pe q hq']
    show _ = pyOf (if q < D.n ∧ q ≠ D.self then Pe.tick (D.pe q) else D.pe q) D.left
    rw [if_pos (show q < D.n ∧ q ≠ D.self from hq')]
    unfold Py.next Pe.tick
    rw [if_neg (by show ¬ (1 : Int) = 3; omega)]
    cases hh : (D.pe q).heard with
    | true =>
      rw [if_pos ⟨rfl, hh⟩, if_pos rfl]
      rfl
    | false =>
      rw [if_neg (by show ¬ ((1 : Int) = 1 ∧ (D.pe q).heard = true); rw [hh]; simp), if_neg (by show ¬ ((1 : Int) = 2 ∧ _); omega), if_neg (by simp)]
  · rw [push_lf]
    show D.left = _
    rw [h.left]
    simp
  · rw [push_tk]
    show (if D.tick < 4611686018427387904 then D.tick + 1 else D.tick) = _
    rw [ht]
    rfl
theorem Sim.gone (h : Sim D R) (g c : Nat) : Sim D.gone (R.push ⟨3, 0, 0, 0, false⟩ g c) := by
  refine ⟨h.n, h.s, h.inc, h.step, h.lim, fun q hq => ?_, ?_, ?_⟩
  · have hq' : D.is q := hq
    rw [push_of, h.pe q hq']
    show _ = pyOf (if q < D.n ∧ q ≠ D.self then Pe.deaf (D.pe q) else D.pe q) true
    rw [if_pos (show q < D.n ∧ q ≠ D.self from hq')]
    unfold Py.next
    rw [if_pos rfl]
    rfl
  · rw [push_lf]
    show true = _
    simp
  · rw [push_tk]
    show D.tick = _
    rw [h.tick]
    simp
theorem Sim.okQ (h : Sim D R) (q : Int) : D.isI q = R.okQ q := by
  unfold De.isI Rf.okQ
  rw [h.n, h.s]
theorem Sim.okArg (h : Sim D R) (q inc t : Int) (xs : List Int) : D.okArg q inc t xs = R.okArg q inc t xs := by
  unfold De.okArg Rf.okArg De.fits
  rw [h.okQ, h.n]
theorem Sim.at (h : Sim D R) {q : Int} (hq : R.okQ q = true) : R.of q = pyOf (D.pe q.toNat) D.left := by
  have hi : D.isI q = true := by rw [h.okQ]; exact hq
  obtain ⟨h1, h2⟩ := isI_is hi
  have := h.pe _ h1
  rw [← h2] at this
  exact this
def Rf.herr (R : Rf) (q inc t : Int) (xs : List Int) : Int :=
  if R.okArg q inc t xs = false then 1 else if inc < (R.of q).known then 50 else if inc = (R.of q).known ∧ t ≤ (R.of q).last then 51 else 0
theorem okArg_q {q inc t : Int} {xs : List Int} (h : R.okArg q inc t xs = true) : R.okQ q = true := by
  unfold Rf.okArg at h
  simp only [Bool.and_eq_true] at h
  exact h.1
theorem Sim.herr (h : Sim D R) (q inc t : Int) (xs : List Int) : D.herr q inc t xs = R.herr q inc t xs := by
  unfold De.herr Rf.herr
  rw [h.okArg]
  cases ho : R.okArg q inc t xs with
  | false => rfl
  | true => rw [h.at (okArg_q ho)]; rfl
theorem beat_taken (p : Pe) (l : Bool) (q inc t step lim : Int) (b : Bool) (hnl : ¬ inc < p.known) : (pyOf p l).beat ⟨2, q, inc, t, b⟩ step lim = pyOf { (if inc = p.known ∧ p.heard = false ∧ l = false then { p with wrong := p.wrong + 1, ticks := min lim (p.ticks + step) } else p) with known := inc, last := t, age := 0, heard := !l, both := b } l := by
  obtain ⟨kn, la, ag, wr, ti, he, bo⟩ := p
  unfold Py.beat Py.meet pyOf
  simp only at hnl ⊢
  by_cases k1 : kn < inc
  · rw [if_pos k1, if_neg (by omega)]
  · have k2 : inc = kn := by omega
    rw [if_neg k1]
    by_cases k3 : he = false ∧ l = false
    · have e1 : (if lim < ti + step then lim else ti + step) = min lim (ti + step) := by split <;> omega
      subst k2
      obtain ⟨rfl, rfl⟩ := k3
      simp only [and_self, if_true, e1]
    · rw [if_neg k3, if_neg (fun e => k3 e.2)]
      simp only [k2]
theorem Sim.heard (h : Sim D R) (hO : D.Ok w B m) (q inc t : Int) (xs : List Int) (he : R.herr q inc t xs = 0) (g c : Nat) : Sim (D.after q inc t xs) (R.push ⟨2, q, inc, t, decide (xs.getD R.s 0 = R.inc)⟩ g c) := by
  have hd : D.herr q inc t xs = 0 := by rw [h.herr]; exact he
  have hoa : R.okArg q inc t xs = true := by
    unfold Rf.herr at he
    cases ho : R.okArg q inc t xs with
    | true => rfl
    | false => rw [ho, if_pos rfl] at he; omega
  have hnl : ¬ inc < (D.pe q.toNat).known := by
    intro hlt
    unfold De.herr at hd
    rw [h.okArg, hoa, if_neg (by simp), if_pos hlt] at hd
    omega
  have hi : D.isI q = true := by rw [h.okQ]; exact okArg_q hoa
  obtain ⟨hi1, hi2⟩ := isI_is hi
  unfold De.after
  rw [if_pos hd]
  refine ⟨h.n, h.s, h.inc, h.step, h.lim, fun p hp => ?_, ?_, ?_⟩
  · have hp' : D.is p := hp
    rw [push_of, h.pe p hp']
    show _ = pyOf (upd D.pe q.toNat _ p) D.left
    by_cases e : p = q.toNat
    · subst e
      rw [upd_same]
      unfold Py.next
      rw [if_neg (by show ¬ (2 : Int) = 3; omega), if_neg (by show ¬ ((2 : Int) = 1 ∧ _); omega), if_pos (show (2 : Int) = 2 ∧ q = (q.toNat : Int) from ⟨rfl, hi2⟩)]
      rw [beat_taken _ _ _ _ _ _ _ _ hnl]
      unfold De.taken De.blame Pe.grown Pe.got
      rw [h.s, h.inc, h.lim, h.step]
      try (split <;> rfl)
    · rw [upd_ne _ _ e]
      unfold Py.next
      rw [if_neg (by show ¬ (2 : Int) = 3; omega), if_neg (by show ¬ ((2 : Int) = 1 ∧ _); omega), if_neg (by show ¬ ((2 : Int) = 2 ∧ q = (p : Int)); omega)]
  · rw [push_lf]
    show D.left = _
    rw [h.left]
    simp
  · rw [push_tk]
    show D.tick = _
    rw [h.tick]
    simp
theorem Sim.hears (h : Sim D R) (hl : ∀ q, D.is q → D.left = true → (D.pe q).heard = false) : D.hears = R.hears R.n := by
  unfold De.hears De.lst Rf.hears
  rw [h.n]
  apply List.map_congr_left
  intro q hq
  have hqn := List.mem_range.1 hq
  unfold Rf.hv
  rw [h.s, h.left]
  cases hf : R.lf with
  | true =>
    simp only [if_true]
    by_cases e : q = R.s
    · rw [if_pos e]
    · rw [if_neg e]
      have := hl q ⟨by rw [h.n]; exact hqn, by rw [h.s]; exact e⟩ (by rw [h.left]; exact hf)
      unfold Pe.hrd
      rw [this]
      rfl
  | false =>
    simp only [if_false, Bool.false_eq_true]
    rw [h.inc]
    by_cases e : q = R.s
    · rw [if_pos e, if_pos e]
    · rw [if_neg e, if_neg e, h.pe q ⟨by rw [h.n]; exact hqn, by rw [h.s]; exact e⟩]
      rfl
theorem Sim.ests (h : Sim D R) : D.ests = R.ests R.n := by
  unfold De.ests De.lst Rf.ests
  rw [h.n]
  apply List.map_congr_left
  intro q hq
  have hqn := List.mem_range.1 hq
  unfold Rf.ev
  rw [h.s, h.inc]
  by_cases e : q = R.s
  · rw [if_pos e, if_pos e]
  · rw [if_neg e, if_neg e, h.pe q ⟨by rw [h.n]; exact hqn, by rw [h.s]; exact e⟩]
    rfl
theorem Sim.sus (h : Sim D R) (hO : D.Ok w B m) : D.sus = R.sus R.n := by
  unfold De.sus susN Rf.sus
  rw [h.n]
  congr 1
  apply List.filter_congr
  intro q hq
  have hqn := List.mem_range.1 hq
  unfold Rf.sv
  rw [h.s]
  by_cases e : q = R.s
  · rw [decide_eq_false (by simp [e]), Bool.false_and, Bool.false_and]
  · have hi : D.is q := ⟨by rw [h.n]; exact hqn, by rw [h.s]; exact e⟩
    rw [h.pe q hi]
    have := (hO.rng q hi).known
    congr 2
    show decide (0 < (D.pe q).known) = decide ((D.pe q).known ≠ 0)
    by_cases k : (D.pe q).known = 0
    · rw [decide_eq_false (by omega), decide_eq_false (by simp [k])]
    · rw [decide_eq_true (by omega), decide_eq_true k]
theorem Sim.known (h : Sim D R) (q : Int) : D.known q = if R.okQ q then (R.of q).known else if q = R.s then R.inc else 0 := by
  unfold De.known
  rw [h.okQ, h.s, h.inc]
  cases hk : R.okQ q with
  | true =>
    have hne : q ≠ R.s := by unfold Rf.okQ at hk; exact (of_decide_eq_true hk).2.2
    rw [if_neg hne, if_pos rfl, if_pos rfl, h.at hk]
    rfl
  | false =>
    simp only [if_false, Bool.false_eq_true]
theorem Sim.timeout (h : Sim D R) (q : Int) : D.timeout q = if R.okQ q then (R.of q).ticks else 0 := by
  unfold De.timeout
  rw [h.okQ]
  cases hk : R.okQ q with
  | true => rw [if_pos rfl, if_pos rfl, h.at hk]; rfl
  | false => simp only [if_false, Bool.false_eq_true]
theorem Sim.wrong (h : Sim D R) (q : Int) : D.wrong q = if R.okQ q then (R.of q).wrong else 0 := by
  unfold De.wrong
  rw [h.okQ]
  cases hk : R.okQ q with
  | true => rw [if_pos rfl, if_pos rfl, h.at hk]; rfl
  | false => simp only [if_false, Bool.false_eq_true]
theorem Sim.deaf (h : Sim D R) (hR : R.Ok w B) : ∀ q, D.is q → D.left = true → (D.pe q).heard = false := by
  intro q hq hl
  have h1 := (ofK_in hR (q : Int) R.all.length (Nat.le_refl _)).left
  unfold Rf.ofK at h1
  rw [List.take_length] at h1
  have h2 : ofP R.base R.step R.lim (q : Int) R.all = pyOf (D.pe q) D.left := h.pe q hq
  rw [h2] at h1
  exact h1 hl
structure Du (D : De) (R : Rf) (w : World) (B m : Nat) : Prop where
  d : D.Ok w B m
  r : R.Ok w B
  ap : ∀ j, D.own j → ¬ R.own j
  sim : Sim D R
  len : R.all.length ≤ m
theorem Du.hB (h : Du D R w B m) : B ≤ w.heap.size := Nat.le_trans h.r.ge (Nat.le_of_lt (lt_heap h.r.blk))
theorem Du.still (h : Du D R w B m) (hb : Below w.heap.size w w') : Du D R w' B m := ⟨h.d.still hb, h.r.still hb, h.ap, h.sim, h.len⟩
structure Dq (w w' : World) (D D' : De) (R R' : Rf) (B m : Nat) : Prop where
  du : Du D' R' w' B m
  kept : Kept w w' (fun j => D.own j ∨ R.own j)
  own : ∀ j, D'.own j ∨ R'.own j → D.own j ∨ R.own j ∨ w.heap.size ≤ j
  db : D'.b = D.b
  rb : R'.b = R.b
theorem Du.go {m' : Nat} {w1 w2 w3 : World} (h : Du D R w B m) (s : Dtep w w1 D D' B m') (hb : Below w1.heap.size w1 w2) (t : Rtep w2 w3 R R' B) (hs : Sim D' R') (hl : R'.all.length ≤ m') (db : D'.b = D.b) (rb : R'.b = R.b) : Dq w w3 D D' R R' B m' := by
  have k1 : Kept w w2 D.own := s.kept.trans (Kept.ofBelow hb _)
  have hD2 := s.ok.still hb
  have hsz : w.heap.size ≤ w2.heap.size := k1.size
  refine ⟨⟨hD2.keep t.kept (fun j hj e => h.ap j ((s.own j).1 hj) e), t.ok, fun j hj e => ?_, hs, hl⟩, ?_, fun j hj => ?_, db, rb⟩
  · rcases t.own j e with e1 | e1
    · exact h.ap j ((s.own j).1 hj) e1
    · have := h.d.ltOwn ((s.own j).1 hj)
      omega
  · exact (k1.mono (fun j _ e => .inl e)).trans (t.kept.mono (fun j _ e => .inr e))
  · rcases hj with hj | hj
    · exact .inl ((s.own j).1 hj)
    · rcases t.own j hj with e1 | e1
      · exact .inr (.inl e1)
      · exact .inr (.inr (Nat.le_trans hsz e1))
theorem Dq.low (s : Dq w w' D D' R R' B m) (h : Du D R w B V.heap.size) : True := trivial
end
end Go.Proofs.Ytfbollifegngjaa.Dt
