import Derived.Test.YtapenemfnngniaaPu3
namespace Go.Proofs.Ytapenemfnngniaa.Qm
open Go.RowKit Mb
set_option linter.unusedVariables false
set_option maxRecDepth 100000
set_option linter.unusedSimpArgs false
section
variable {w w' W : World} {B : Nat}
structure Gi (w : World) (B n : Nat) (v : Value) (xs : List Int) (y : Int) (j : Nat) (g : Value) (wr : World) : Prop where
  row : wr.ownsRow B 3 1 g (n + j) (ints (xs ++ List.replicate j y))
  old : wr.ownsRow B 3 1 v n (ints xs)
  kp : Kept w wr (fun i => some i = v.ownBlock)
  at_ : (∃ gb c, v = .slice (some ⟨gb, 0, none⟩) n c ∧ g = .slice (some ⟨gb, 0, none⟩) (n + j) c) ∨ (g = .slice none 0 0 ∧ v = .slice none 0 0) ∨ (∃ q, g.ownBlock = some q ∧ w.heap.size ≤ q)
theorem Gi.start {n : Nat} {v : Value} {xs : List Int} {y : Int} (h : w.ownsRow B 3 1 v n (ints xs)) : Gi w B n v xs y 0 v w :=
  ⟨by simpa using h, h, Kept.refl _ _, by
    rcases h.2 with ⟨h1, h2⟩ | ⟨g, cap, cur, hv, _⟩
    · exact .inr (.inl ⟨h1, h1⟩)
    · exact .inl ⟨g, cap, hv, hv⟩⟩
theorem Gi.still {n j : Nat} {v g : Value} {xs : List Int} {y : Int} {wr X2 : World} (h : Gi w B n v xs y j g wr) (hb : Below wr.heap.size wr X2) : Gi w B n v xs y j g X2 :=
  ⟨own_still h.row hb, own_still h.old hb, h.kp.trans (Kept.ofBelow hb _), h.at_⟩
theorem Gi.next {n j : Nat} {v g g' : Value} {xs : List Int} {y : Int} {wr w2 : World} (h : Gi w B n v xs y j g wr)
    (h1 : w2.ownsRow B 3 1 g' (n + j + 1) (ints (xs ++ List.replicate j y) ++ ints [y])) (h2 : wr.grownBy w2 g.ownBlock) (h3 : (∃ gb c, g = .slice (some ⟨gb, 0, none⟩) (n + j) c ∧ g' = .slice (some ⟨gb, 0, none⟩) (n + j + 1) c) ∨ g'.ownBlock = some wr.heap.size) (h4 : w2.ownsRow B 3 1 g (n + j) (ints (xs ++ List.replicate j y))) (hx : xs.length = n) (hlt : ∀ q, v.ownBlock = some q → q < w.heap.size) : Gi w B n v xs y (j + 1) g' w2 := by
  have k := Kept.ofGrown h2
  have hkp : Kept w w2 (fun i => some i = v.ownBlock) := h.kp.step k fun q hq => by
    rcases h.at_ with ⟨gb, c, e1, e2⟩ | ⟨e1, e2⟩ | ⟨q2, e1, e2⟩
    · rw [e2] at hq; rw [e1]; exact .inl hq
    · rw [e1] at hq; cases hq
    · rw [e1] at hq
      simp only [Option.some.injEq] at hq
      exact .inr (by omega)
  have hsz := h.kp.size
  have e0 : ints (xs ++ List.replicate j y) ++ ints [y] = ints (xs ++ List.replicate (j + 1) y) := by
    simp [ints, List.replicate_succ']
  rw [e0] at h1
  refine ⟨h1, ?_, hkp, ?_⟩
  · rcases h.at_ with ⟨gb, c, e1, e2⟩ | ⟨e1, e2⟩ | ⟨q2, e1, e2⟩
    · subst e1
      subst e2
      have h5 := h4
      unfold ints at h5
      rw [List.map_append] at h5
      exact own_cut h5 (by rw [ints_len]; exact hx)
    · exact k.owns h.old (fun q hq => by rw [e2] at hq; cases hq)
    · exact k.owns h.old (fun q hq e3 => by
        have := hlt q hq
        rw [e1] at e3
        simp only [Option.some.injEq] at e3
        omega)
  · rcases h3 with ⟨gb, c, e1, e2⟩ | e1
    · rcases h.at_ with ⟨gb', c', e3, e4⟩ | ⟨e3, e4⟩ | ⟨q2, e3, e4⟩
      · rw [e1] at e4
        simp only [Value.slice.injEq, Option.some.injEq, Addr.mk.injEq] at e4
        obtain ⟨⟨rfl, -⟩, -, rfl⟩ := e4
        exact .inl ⟨gb, c, e3, e2⟩
      · rw [e1] at e3; cases e3
      · rw [e1] at e3
        refine .inr (.inr ⟨q2, ?_, e4⟩)
        rw [e2]
        exact e3
    · exact .inr (.inr ⟨_, e1, hsz⟩)
theorem Gi.block {n j : Nat} {v g : Value} {xs : List Int} {y : Int} {wr : World} (h : Gi w B n v xs y j g wr) : ∀ q, g.ownBlock = some q → v.ownBlock = some q ∨ w.heap.size ≤ q := fun q hq => by
  rcases h.at_ with ⟨gb, c, e1, e2⟩ | ⟨e1, e2⟩ | ⟨q2, e1, e2⟩
  · rw [e2] at hq; rw [e1]; exact .inl hq
  · rw [e1] at hq; cases hq
  · rw [e1] at hq
    simp only [Option.some.injEq] at hq
    exact .inr (by omega)
def mkI (i : Nat) : Int := -1000 - (i : Int)
def inE (E : List El) (g : Nat) : Prop := ∃ i, i < E.length ∧ (E.getD i el0).b = some g
structure S1 (w : World) (B : Nat) (v : Value) (E : List El) (ln : Nat → Nat) (k j : Nat) (wr : World) : Prop where
  ex : ∃ C, Al wr B v E C ∧ (∀ i, i < E.length → (C i).length = ln i) ∧ (∀ i, i < k → i < E.length → ∀ q, q < ln i → (C i)[q]? = some (mkI i)) ∧ (∀ q, q < j → q < ln k → (C k)[q]? = some (mkI k))
  kp : Kept w wr (inE E)
theorem S1.start {v : Value} {E : List El} {C : Nat → List Int} (h : Al w B v E C) : S1 w B v E (fun i => (C i).length) 0 0 w :=
  ⟨⟨C, h, fun _ _ => rfl, fun i hi => absurd hi (by omega), fun q hq => absurd hq (by omega)⟩, Kept.refl _ _⟩
theorem S1.row {v : Value} {E : List El} {ln : Nat → Nat} {k j : Nat} {wr : World} (h : S1 w B v E ln k j wr) {i : Nat} (hi : i < E.length) : ∃ ys : List Int, ys.length = ln i ∧ wr.ownsRow B 3 1 (E.getD i el0).v (ln i) (ints ys) := by
  obtain ⟨C, h1, h2, _⟩ := h.ex
  have := h1.el i hi
  rw [h2 i hi] at this
  exact ⟨C i, h2 i hi, this⟩
theorem S1.set {v : Value} {E : List El} {ln : Nat → Nat} {k j g c : Nat} {wr : World} (h : S1 w B v E ln k j wr) (hk : k < E.length) (hj : j < ln k) (hv : (E.getD k el0).v = .slice (some ⟨g, 0, none⟩) (ln k) c) : S1 w B v E ln k (j + 1) (wr.setCell ⟨g, j, none⟩ (.int .i64 (mkI k))) := by
  obtain ⟨C, h1, h2, h3, h4⟩ := h.ex
  have hl := h2 k hk
  refine ⟨⟨upC C k ((C k).set j (mkI k)), h1.set hk (by omega) (by rw [hl]; exact hv) (mkI k), fun i hi => ?_, fun i hi hi2 q hq => ?_, fun q hq hq2 => ?_⟩, ?_⟩
  · unfold upC
    split
    · rename_i e; subst e; rw [List.length_set]; exact hl
    · exact h2 i hi
  · unfold upC
    rw [if_neg (by omega)]
    exact h3 i hi hi2 q hq
  · unfold upC
    rw [if_pos rfl]
    by_cases e : q = j
    · subst e
      rw [List.getElem?_set_self (by omega)]
    · rw [List.getElem?_set_ne (by omega)]
      exact h4 q (by omega) hq2
  · refine h.kp.trans (kset _ _ _ _ ⟨k, hk, ?_⟩)
    unfold El.b
    rw [hv]
    rfl
theorem S1.turn {v : Value} {E : List El} {ln : Nat → Nat} {k j : Nat} {wr : World} (h : S1 w B v E ln k j wr) (hj : ln k ≤ j) : S1 w B v E ln (k + 1) 0 wr := by
  obtain ⟨C, h1, h2, h3, h4⟩ := h.ex
  refine ⟨⟨C, h1, h2, fun i hi hi2 q hq => ?_, fun q hq => absurd hq (by omega)⟩, h.kp⟩
  by_cases e : i = k
  · subst e
    exact h4 q (by omega) hq
  · exact h3 i (by omega) hi2 q hq
def Cm (ln : Nat → Nat) : Nat → List Int := fun i => List.replicate (ln i) (mkI i)
theorem S1.all {v : Value} {E : List El} {ln : Nat → Nat} {k j : Nat} {wr : World} (h : S1 w B v E ln k j wr) (hk : E.length ≤ k) : Al wr B v E (Cm ln) := by
  obtain ⟨C, h1, h2, h3, h4⟩ := h.ex
  refine ⟨h1.row, fun i hi => ?_, h1.ap⟩
  have := h1.el i hi
  have e : C i = Cm ln i := by
    unfold Cm
    refine List.eq_replicate_iff.2 ⟨h2 i hi, fun b hb => ?_⟩
    obtain ⟨q, hq, rfl⟩ := List.mem_iff_getElem.1 hb
    have := h3 i (by omega) hi q (by rw [← h2 i hi]; exact hq)
    rw [List.getElem?_eq_getElem hq] at this
    exact Option.some.inj this
  rw [← e]
  exact this
structure S2 (w : World) (B : Nat) (v : Value) (E : List El) (ln : Nat → Nat) (k : Nat) (m : Value) (wr : World) : Prop where
  al : Al wr B v E (Cm ln)
  more : ∃ F : List Value, F.length = k ∧ wr.ownsRow w.heap.size 22 1 m k F ∧ ∀ i, i < k → wr.ownsRow B 3 1 (F.getD i undef) (ln i + 64) (ints (List.replicate (ln i + 64) (mkI i))) ∧ ∀ g, (F.getD i undef).ownBlock = some g → (E.getD i el0).b = some g ∨ w.heap.size ≤ g
  kp : Kept w wr (inE E)
theorem S2.start {v : Value} {E : List El} {ln : Nat → Nat} (h : Al w B v E (Cm ln)) : S2 w B v E ln 0 (.slice none 0 0) w :=
  ⟨h, ⟨[], rfl, ⟨rfl, .inl ⟨rfl, rfl⟩⟩, fun i hi => absurd hi (by omega)⟩, Kept.refl _ _⟩
theorem S2.still {v m : Value} {E : List El} {ln : Nat → Nat} {k : Nat} {wr X : World} (h : S2 w B v E ln k m wr) (hb : Below wr.heap.size wr X) : S2 w B v E ln k m X := by
  obtain ⟨F, h1, h2, h3⟩ := h.more
  exact ⟨⟨own_still h.al.row hb, fun i hi => own_still (h.al.el i hi) hb, h.al.ap⟩, ⟨F, h1, own_still h2 hb, fun i hi => ⟨own_still (h3 i hi).1 hb, (h3 i hi).2⟩⟩, h.kp.trans (Kept.ofBelow hb _)⟩
theorem S2.grow {v m g : Value} {E : List El} {ln : Nat → Nat} {k j : Nat} {wr X : World} (h : S2 w B v E ln k m wr) (hE : ∀ q, inE E q → q < w.heap.size) (hk : k < E.length) (hk2 : k ≤ E.length) (hg : Gi wr B (ln k) (E.getD k el0).v (Cm ln k) (mkI k) j g X) : S2 w B v E ln k m X := by
  obtain ⟨F, h1, h2, h3⟩ := h.more
  have hrow := h.al.el k hk
  have hty : ∀ t cur, t ≠ 3 → ∀ q, wr.heap[q]? = some (.cells cur t (0, 0)) → ¬ some q = (E.getD k el0).v.ownBlock := fun t cur ht q hq e => by
    obtain ⟨c3, h4⟩ := own_type hrow e.symm
    exact ty_ne hq h4 ht rfl
  refine ⟨⟨own_keepT h.al.row hg.kp (fun q cur hq => hty _ cur (by decide) q hq), fun i hi => ?_, h.al.ap⟩, ⟨F, h1, own_keepT h2 hg.kp (fun q cur hq => hty _ cur (by decide) q hq), fun i hi => ⟨hg.kp.owns (h3 i hi).1 (fun q hq e => ?_), (h3 i hi).2⟩⟩, h.kp.step hg.kp fun q hq => .inl ⟨k, hk, hq.symm⟩⟩
  · by_cases e : i = k
    · subst e
      have := hg.old
      unfold Cm at this ⊢
      rw [List.length_replicate]
      exact this
    · exact hg.kp.owns (h.al.el i hi) (fun q hq e2 => ap_at h.al.ap hk hi (Ne.symm e) (g := q) e2.symm hq)
  · rcases (h3 i hi).2 q hq with h5 | h5
    · exact ap_at h.al.ap (i := i) (j := k) (by omega) hk (by omega) h5 e.symm
    · have := hE q ⟨k, hk, e.symm⟩
      omega
theorem S2.next {v m m' g : Value} {E : List El} {ln : Nat → Nat} {k : Nat} {wr X : World} (F : List Value) (h : S2 w B v E ln k m wr) (hF : F.length = k) (hr : wr.ownsRow w.heap.size 22 1 m k F) (hFr : ∀ i, i < k → wr.ownsRow B 3 1 (F.getD i undef) (ln i + 64) (ints (List.replicate (ln i + 64) (mkI i))) ∧ ∀ g, (F.getD i undef).ownBlock = some g → (E.getD i el0).b = some g ∨ w.heap.size ≤ g)
    (hv : ∀ q, v.ownBlock = some q → q < w.heap.size) (hg : wr.ownsRow B 3 1 g (ln k + 64) (ints (List.replicate (ln k + 64) (mkI k)))) (hgb : ∀ q, g.ownBlock = some q → (E.getD k el0).b = some q ∨ w.heap.size ≤ q)
    (h1 : X.ownsRow w.heap.size 22 1 m' (k + 1) (F ++ [g])) (h2 : wr.grownBy X m.ownBlock) : S2 w B v E ln (k + 1) m' X := by
  have kp := Kept.ofGrown h2
  have hty : ∀ cur q, wr.heap[q]? = some (.cells cur 3 (0, 0)) → ¬ some q = m.ownBlock := fun cur q hq e => by
    obtain ⟨c3, h4⟩ := own_type hr e.symm
    exact ty_ne hq h4 (by decide) rfl
  have hlo : ∀ q, m.ownBlock = some q → w.heap.size ≤ q := fun q hq => (World.ownsRow.lt hr q hq).1
  refine ⟨⟨kp.owns h.al.row (fun q hq e => ?_), fun i hi => own_keepT (h.al.el i hi) kp (fun q cur hq => hty cur q hq), h.al.ap⟩, ⟨F ++ [g], by simp [hF], h1, fun i hi => ?_⟩, h.kp.step kp fun q hq => .inr (hlo q hq.symm)⟩
  · have := hv q hq
    have := hlo q e.symm
    omega
  · by_cases e : i = k
    · subst e
      have e1 : (F ++ [g]).getD i undef = g := by simp [List.getD, hF]
      rw [e1]
      exact ⟨own_keepT hg kp (fun q cur hq => hty cur q hq), hgb⟩
    · have e1 : (F ++ [g]).getD i undef = F.getD i undef := by
        simp only [List.getD]
        rw [List.getElem?_append_left (by omega)]
      rw [e1]
      exact ⟨own_keepT (hFr i (by omega)).1 kp (fun q cur hq => hty cur q hq), (hFr i (by omega)).2⟩
end
end Go.Proofs.Ytapenemfnngniaa.Qm
