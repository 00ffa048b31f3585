import Derived.Test.YtfbollifegngjaaXo
namespace Go.Proofs.Ytfbollifegngjaa.Dt
open Go.RowKit
set_option linter.unusedVariables false
set_option maxRecDepth 100000
set_option linter.unusedSimpArgs false
def bts (l : List Bx) : List Bt := l.map Bx.b
section
variable {D D' : De} {w w' W V w0 wr : World} {B m k pt ps : Nat} {b : Nat → Nat} {A : Nat → De} {T : Nat → List Bx} {S : Nat → Bool} {v : Nat → Value} {L : Bool} {i0 i1 : Int}
structure Pu (A : Nat → De) (T : Nat → List Bx) (S : Nat → Bool) (L : Bool) (k : Nat) (i0 i1 : Int) : Prop where
  nn : ∀ i, i < 2 → (A i).n = 2 ∧ (A i).self = i
  inc : (A 0).inc = i0 ∧ (A 1).inc = i1
  hf : ∀ i, i < 2 → Hf (A i) (A (1 - i)) i (1 - i) (bts (T (1 - i))) (S (1 - i)) k
  left : ∀ i, i < 2 → (A i).left = true → L = true
theorem mp_of (h : D.Ok w B m) {s : Nat} (hs : s < 2) (hn : D.n = 2 ∧ D.self = s) : Mp D s (1 - s) := by
  have hq : D.is (1 - s) := ⟨by rw [hn.1]; omega, by rw [hn.2]; omega⟩
  have hr := h.rng _ hq
  have hu := h.num
  exact ⟨hn.1, hn.2, by omega, hs, by omega, ⟨hu.1, hu.2.1⟩, hr.known, hr.ticks.1, hu.2.2.2.2.2.2.1⟩
theorem Ms.mp (h : Ms w0 wr B k pt ps b A T S v) (p : Pu A T S L k i0 i1) {i : Nat} (hi : i < 2) : Mp (A i) i (1 - i) := mp_of (h.ok i hi) hi (p.nn i hi)
theorem Pu.same (p : Pu A T S L k i0 i1) : Pu A T S L (k + 1) i0 i1 := ⟨p.nn, p.inc, fun i hi => (p.hf i hi).up, p.left⟩
theorem Pu.inc' (p : Pu A T S L k i0 i1) {i : Nat} (hi : i < 2) : (A i).inc = if i = 0 then i0 else i1 := by
  rcases two_cases hi with rfl | rfl
  · exact p.inc.1
  · exact p.inc.2
theorem upd_inc {me : Nat} (hinc : D'.inc = (A me).inc) (i : Nat) : (upd A me D' i).inc = (A i).inc := by
  by_cases e : i = me
  · subst e; rw [upd_same, hinc]
  · rw [upd_ne _ _ e]
theorem Pu.tick (p : Pu A T S L k i0 i1) (M : ∀ i, i < 2 → Mp (A i) i (1 - i)) (hk : k ≤ 900) {me : Nat} (hm : me < 2) (g : Nat) : Pu (upd A me (A me).ticked) (upd T me (T me ++ [⟨g, ⟨(A me).ticked.tick, (A me).ticked.hears⟩⟩])) (upd S me (S me || (atI (A me).ticked.hears ((1 - me : Nat) : Int) == (A (1 - me)).inc))) L (k + 1) i0 i1 := by
  refine ⟨fun i hi => ?_, ⟨(upd_inc (by rfl) 0).trans p.inc.1, (upd_inc (by rfl) 1).trans p.inc.2⟩, fun i hi => ?_, fun i hi => ?_⟩
  · by_cases e : i = me
    · subst e; rw [upd_same]; exact p.nn i hi
    · rw [upd_ne _ _ e]; exact p.nn i hi
  · by_cases e : i = me
    · subst e
      have e2 : 1 - i ≠ i := by omega
      rw [upd_same, upd_ne _ _ e2, upd_ne _ _ e2, upd_ne _ _ e2]
      exact (p.hf i hi).tick1 (M i hi)
    · obtain rfl : me = 1 - i := by omega
      rw [upd_ne _ _ e, upd_same, upd_same, upd_same]
      have e3 : 1 - (1 - i) = i := by omega
      rw [e3]
      have := (p.hf i hi).tick2 (by have := M (1 - i) (by omega); rw [e3] at this; exact this) (M i hi).inc.1 hk
      unfold bts at this ⊢
      rw [List.map_append]
      exact this
  · by_cases e : i = me
    · subst e; rw [upd_same]; exact p.left i hi
    · rw [upd_ne _ _ e]; exact p.left i hi
theorem Pu.gone (p : Pu A T S L k i0 i1) (M : ∀ i, i < 2 → Mp (A i) i (1 - i)) {me : Nat} (hm : me < 2) : Pu (upd A me (A me).gone) T S true (k + 1) i0 i1 := by
  refine ⟨fun i hi => ?_, ⟨(upd_inc (by rfl) 0).trans p.inc.1, (upd_inc (by rfl) 1).trans p.inc.2⟩, fun i hi => ?_, fun i hi _ => rfl⟩
  · by_cases e : i = me
    · subst e; rw [upd_same]; exact p.nn i hi
    · rw [upd_ne _ _ e]; exact p.nn i hi
  · by_cases e : i = me
    · subst e
      rw [upd_same, upd_ne _ _ (show 1 - i ≠ i by omega)]
      exact (p.hf i hi).gone1 (M i hi)
    · obtain rfl : me = 1 - i := by omega
      rw [upd_ne _ _ e, upd_same]
      have e3 : 1 - (1 - i) = i := by omega
      exact (p.hf i hi).gone2 (by have := M (1 - i) (by omega); rw [e3] at this; exact this)
theorem Pu.hear (p : Pu A T S L k i0 i1) (M : ∀ i, i < 2 → Mp (A i) i (1 - i)) {me : Nat} (hm : me < 2) {x : Bx} (hx : x ∈ T (1 - me)) : Pu (upd A me ((A me).after ((1 - me : Nat) : Int) (A (1 - me)).inc x.b.t x.b.xs)) T S L (k + 1) i0 i1 := by
  obtain ⟨f1, f2, f3, f4, f5, f6, f7, f8⟩ := after_fields (A me) ((1 - me : Nat) : Int) (A (1 - me)).inc x.b.t x.b.xs
  refine ⟨fun i hi => ?_, ⟨(upd_inc f3 0).trans p.inc.1, (upd_inc f3 1).trans p.inc.2⟩, fun i hi => ?_, fun i hi => ?_⟩
  · by_cases e : i = me
    · subst e; rw [upd_same, f1, f2]; exact p.nn i hi
    · rw [upd_ne _ _ e]; exact p.nn i hi
  · by_cases e : i = me
    · subst e
      rw [upd_same, upd_ne _ _ (show 1 - i ≠ i by omega)]
      exact (p.hf i hi).hear1 (M i hi) (List.mem_map.2 ⟨x, hx, rfl⟩)
    · obtain rfl : me = 1 - i := by omega
      rw [upd_ne _ _ e, upd_same]
      have e3 : 1 - (1 - i) = i := by omega
      rw [e3]
      exact (p.hf i hi).hear2 _ _ _ rfl
  · by_cases e : i = me
    · subst e; rw [upd_same, f5]; exact p.left i hi
    · rw [upd_ne _ _ e]; exact p.left i hi
def hb (A : Nat → De) (s : Nat) : Prop := ((A s).pe (1 - s)).heard = true ∧ ((A s).pe (1 - s)).both = true ∧ ((A s).pe (1 - s)).known = (A (1 - s)).inc
def Frx (A : Nat → De) (T : Nat → List Bx) (s : Nat) (z : Bool) : Prop := Fr (A s) (A (1 - s)) s (1 - s) (bts (T (1 - s))) z
def yg (A : Nat → De) (s : Nat) : Prop := ((A s).pe (1 - s)).heard = true ∧ ((A s).pe (1 - s)).age = 0 ∧ ((A s).pe (1 - s)).known = (A (1 - s)).inc
def Ph (A : Nat → De) (T : Nat → List Bx) : Nat → Prop
  | 0 => True
  | 1 => Frx A T 1 false
  | 2 => yg A 1
  | 3 => Frx A T 0 true
  | 4 => yg A 0 ∧ hb A 0
  | 5 => hb A 0 ∧ Frx A T 1 true
  | 6 => hb A 0 ∧ yg A 1 ∧ hb A 1
  | 7 => hb A 0 ∧ hb A 1 ∧ Frx A T 0 true
  | _ => hb A 0 ∧ hb A 1
structure Sx where
  k : Int
  s : Int
  b : Int
def endS : Nat → Sx
  | 0 => ⟨1, 0, 0⟩
  | 1 => ⟨2, 1, -1⟩
  | 2 => ⟨1, 1, 0⟩
  | 3 => ⟨2, 0, -1⟩
  | 4 => ⟨1, 0, 0⟩
  | 5 => ⟨2, 1, -1⟩
  | 6 => ⟨1, 1, 0⟩
  | _ => ⟨2, 0, -1⟩
def Tk (A : Nat → De) (T : Nat → List Bx) (me g : Nat) : (Nat → De) × (Nat → List Bx) := (upd A me (A me).ticked, upd T me (T me ++ [⟨g, ⟨(A me).ticked.tick, (A me).ticked.hears⟩⟩]))
theorem fresh_tick (p : Pu A T S L k i0 i1) (M : ∀ i, i < 2 → Mp (A i) i (1 - i)) (hk : k ≤ 900) {me : Nat} (hm : me < 2) (g : Nat) (z : Bool) (hz : z = true → yg A me) : Frx (Tk A T me g).1 (Tk A T me g).2 (1 - me) z := by
  unfold Frx Tk
  have e3 : 1 - (1 - me) = me := by omega
  have e4 : 1 - me ≠ me := by omega
  simp only [e3]
  rw [upd_same, upd_same, upd_ne _ _ e4]
  have hM := M me hm
  have hF := p.hf (1 - me) (by omega)
  rw [e3] at hF
  have := hF.fresh (by have := M me hm; exact this) (M (1 - me) (by omega)).inc.1 hk z (fun e ht => by
    obtain ⟨h1, h2, h3⟩ := hz e
    refine ⟨?_, h3⟩
    rw [ht]
    exact (petick _).2.2.2.2.2 h1 h2 hM.ticks)
  unfold bts
  rw [List.map_append]
  exact this
theorem hb_other {me : Nat} (hm : me < 2) (h : hb A (1 - me)) (hi : D'.inc = (A me).inc) : hb (upd A me D') (1 - me) := by
  unfold hb at h ⊢
  have e3 : 1 - (1 - me) = me := by omega
  rw [upd_ne _ _ (show 1 - me ≠ me by omega)]
  rw [e3] at h ⊢
  rw [upd_same, hi]
  exact h
theorem hb_tick (M : ∀ i, i < 2 → Mp (A i) i (1 - i)) {me : Nat} (hm : me < 2) (h : hb A me) (hy : yg A me) : hb (upd A me (A me).ticked) me := by
  unfold hb at h ⊢
  have e4 : 1 - me ≠ me := by omega
  rw [upd_same, upd_ne _ _ e4, tick_pe (M me hm)]
  obtain ⟨e1, e2, e5, e6, e7, e8⟩ := petick ((A me).pe (1 - me))
  exact ⟨e8 hy.1 hy.2.1 (M me hm).ticks, by rw [e5]; exact h.2.1, by rw [e1]; exact h.2.2⟩
theorem Ph.tick (p : Pu A T S L k i0 i1) (M : ∀ i, i < 2 → Mp (A i) i (1 - i)) (hk : k ≤ 900) {me : Nat} (hm : me < 2) (g : Nat) {j : Nat} (hj : j < 8) (hK : (endS j).k = 1) (hS : (endS j).s = me) (h : Ph A T j) : Ph (Tk A T me g).1 (Tk A T me g).2 (j + 1) := by
  match j, hj with
  | 0, _ =>
    obtain rfl : me = 0 := by simp [endS] at hS; omega
    exact fresh_tick p M hk hm g false (fun e => by cases e)
  | 1, _ => simp [endS] at hK
  | 2, _ =>
    obtain rfl : me = 1 := by simp [endS] at hS; omega
    exact fresh_tick p M hk hm g true (fun _ => h)
  | 3, _ => simp [endS] at hK
  | 4, _ =>
    obtain rfl : me = 0 := by simp [endS] at hS; omega
    exact ⟨hb_tick M hm h.2 h.1, fresh_tick p M hk hm g true (fun _ => h.1)⟩
  | 5, _ => simp [endS] at hK
  | 6, _ =>
    obtain rfl : me = 1 := by simp [endS] at hS; omega
    exact ⟨hb_other hm h.1 rfl, hb_tick M hm h.2.2 h.2.1, fresh_tick p M hk hm g true (fun _ => h.2.1)⟩
  | 7, _ => simp [endS] at hK
theorem Ph.hear (p : Pu A T S L k i0 i1) (M : ∀ i, i < 2 → Mp (A i) i (1 - i)) (hL : L = false) (hk : k ≤ 900) {me : Nat} (hm : me < 2) {j : Nat} (hj : j < 8) (hK : (endS j).k = 2) (hS : (endS j).s = me) (h : Ph A T j) {x : Bx} (hx : (T (1 - me)).getLast? = some x) : Ph (upd A me ((A me).after ((1 - me : Nat) : Int) (A (1 - me)).inc x.b.t x.b.xs)) T (j + 1) := by
  have e4 : 1 - me ≠ me := by omega
  have hl : (A me).left = false := by
    cases e : (A me).left with
    | false => rfl
    | true => have := p.left me hm e; rw [hL] at this; cases this
  have hb2 : (bts (T (1 - me))).getLast? = some x.b := by unfold bts; rw [List.getLast?_map, hx]; rfl
  have key : ∀ z, Frx A T me z → yg (upd A me ((A me).after ((1 - me : Nat) : Int) (A (1 - me)).inc x.b.t x.b.xs)) me ∧ (z = true → hb (upd A me ((A me).after ((1 - me : Nat) : Int) (A (1 - me)).inc x.b.t x.b.xs)) me) := fun z hz => by
    obtain ⟨t1, t2, t3, t4⟩ := (p.hf me hm).takes (M me hm) (M (1 - me) (by omega)).inc hk hl hb2 hz
    unfold yg hb
    rw [upd_same, upd_ne _ _ e4]
    exact ⟨⟨t1, t2, t3⟩, fun e => ⟨t1, t4 e, t3⟩⟩
  have f3 := (after_fields (A me) ((1 - me : Nat) : Int) (A (1 - me)).inc x.b.t x.b.xs).2.2.1
  match j, hj with
  | 0, _ => simp [endS] at hK
  | 1, _ =>
    obtain rfl : me = 1 := by simp [endS] at hS; omega
    exact (key false h).1
  | 2, _ => simp [endS] at hK
  | 3, _ =>
    obtain rfl : me = 0 := by simp [endS] at hS; omega
    exact ⟨(key true h).1, (key true h).2 rfl⟩
  | 4, _ => simp [endS] at hK
  | 5, _ =>
    obtain rfl : me = 1 := by simp [endS] at hS; omega
    exact ⟨hb_other hm h.1 f3, (key true h.2).1, (key true h.2).2 rfl⟩
  | 6, _ => simp [endS] at hK
  | 7, _ =>
    obtain rfl : me = 0 := by simp [endS] at hS; omega
    exact ⟨(key true h.2.2).2 rfl, hb_other hm h.2.1 f3⟩
theorem endS_kind {j : Nat} (hj : j < 8) : (endS j).k = 1 ∨ (endS j).k = 2 := by
  match j, hj with
  | 0, _ => exact .inl rfl
  | 1, _ => exact .inr rfl
  | 2, _ => exact .inl rfl
  | 3, _ => exact .inr rfl
  | 4, _ => exact .inl rfl
  | 5, _ => exact .inr rfl
  | 6, _ => exact .inl rfl
  | 7, _ => exact .inr rfl
theorem endS_beat {j : Nat} (hj : j < 8) (h : (endS j).k = 2) : (endS j).b = -1 := by
  match j, hj with
  | 0, _ => simp [endS] at h
  | 1, _ => rfl
  | 2, _ => simp [endS] at h
  | 3, _ => rfl
  | 4, _ => simp [endS] at h
  | 5, _ => rfl
  | 6, _ => simp [endS] at h
  | 7, _ => rfl
theorem endS_side {j : Nat} (hj : j < 8) : (endS j).s = 0 ∨ (endS j).s = 1 := by
  match j, hj with
  | 0, _ => exact .inl rfl
  | 1, _ => exact .inr rfl
  | 2, _ => exact .inr rfl
  | 3, _ => exact .inl rfl
  | 4, _ => exact .inl rfl
  | 5, _ => exact .inr rfl
  | 6, _ => exact .inr rfl
  | 7, _ => exact .inl rfl
theorem Ph.hears {j : Nat} (hj : j < 8) (h : (endS j).k = 2) {me : Nat} (hm : me < 2) (hS : (endS j).s = me) (p : Ph A T j) : T (1 - me) ≠ [] := by
  have key : ∀ z, Frx A T me z → T (1 - me) ≠ [] := fun z hz e => by
    obtain ⟨x, hx, _⟩ := hz.out
    rw [e] at hx
    simp [bts] at hx
  match j, hj with
  | 0, _ => simp [endS] at h
  | 1, _ =>
    obtain rfl : me = 1 := by simp [endS] at hS; omega
    exact key _ p
  | 2, _ => simp [endS] at h
  | 3, _ =>
    obtain rfl : me = 0 := by simp [endS] at hS; omega
    exact key _ p
  | 4, _ => simp [endS] at h
  | 5, _ =>
    obtain rfl : me = 1 := by simp [endS] at hS; omega
    exact key _ p.2
  | 6, _ => simp [endS] at h
  | 7, _ =>
    obtain rfl : me = 0 := by simp [endS] at hS; omega
    exact key _ p.2.2
theorem hb_est {s : Nat} (M : Mp (A s) s (1 - s)) (h : hb A s) : atI (A s).ests ((1 - s : Nat) : Int) = (A (1 - s)).inc := by
  rw [atI_ests M, h.1, h.2.1]
  exact h.2.2
end
end Go.Proofs.Ytfbollifegngjaa.Dt
