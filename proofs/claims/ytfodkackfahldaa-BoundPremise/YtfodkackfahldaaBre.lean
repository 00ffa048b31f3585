import Derived.Test.YtfodkackfahldaaBrd
namespace Go.Proofs.Ytfodkackfahldaa.Lo
open Go.RowKit
set_option linter.unusedVariables false
set_option linter.unusedSimpArgs false

theorem lgR_le (f : Nat → Int) (p : Nat) (a M : Int) : ∀ n, lgR f p a n ≤ M ↔ a ≤ M ∧ ∀ q, q < n → p ≠ q → f (273 + p) = 1 → f (273 + q) = 1 → f (17 + p * 16 + q) ≤ M := by
  intro n
  induction n with
  | zero => simp [lgR]
  | succ n ih =>
    unfold lgR
    by_cases h : p ≠ n ∧ f (273 + p) = 1 ∧ f (273 + n) = 1
    · rw [if_pos h]
      constructor
      · intro hm
        have h1 := ih.1 (by omega)
        refine ⟨h1.1, fun q hq a1 a2 a3 => ?_⟩
        by_cases e : q = n
        · subst e; omega
        · exact h1.2 q (by omega) a1 a2 a3
      · intro hm
        have h1 := ih.2 ⟨hm.1, fun q hq => hm.2 q (by omega)⟩
        have h2 := hm.2 n (by omega) h.1 h.2.1 h.2.2
        omega
    · rw [if_neg h]
      constructor
      · intro hm
        have h1 := ih.1 hm
        refine ⟨h1.1, fun q hq a1 a2 a3 => ?_⟩
        by_cases e : q = n
        · subst e; exact absurd ⟨a1, a2, a3⟩ h
        · exact h1.2 q (by omega) a1 a2 a3
      · intro hm
        exact ih.2 ⟨hm.1, fun q hq => hm.2 q (by omega)⟩
theorem lgA_le (f : Nat → Int) (N : Nat) (M : Int) : ∀ n, lgA f N n ≤ M ↔ 0 ≤ M ∧ ∀ p, p < n → ∀ q, q < N → p ≠ q → f (273 + p) = 1 → f (273 + q) = 1 → f (17 + p * 16 + q) ≤ M := by
  intro n
  induction n with
  | zero => simp [lgA]
  | succ n ih =>
    unfold lgA
    rw [lgR_le, ih]
    constructor
    · rintro ⟨⟨h1, h2⟩, h3⟩
      refine ⟨h1, fun p hp => ?_⟩
      by_cases e : p = n
      · subst e; exact h3
      · exact h2 p (by omega)
    · rintro ⟨h1, h2⟩
      exact ⟨⟨h1, fun p hp => h2 p (by omega)⟩, h2 n (by omega)⟩
def Ag (f g : Nat → Int) : Prop := ∀ i, i < 290 → f i = g i
def Nt (f g : Nat → Int) : Prop := ∀ i, i < 273 → f i = g i
def Hh (f g : Nat → Int) : Prop := ∀ i, 273 ≤ i → i < 290 → f i = g i
theorem Ag.symm {f g : Nat → Int} (h : Ag f g) : Ag g f := fun i hi => (h i hi).symm
theorem Ag.trans {f g k : Nat → Int} (h : Ag f g) (h' : Ag g k) : Ag f k := fun i hi => (h i hi).trans (h' i hi)
theorem Ag.nt {f g : Nat → Int} (h : Ag f g) : Nt f g := fun i hi => h i (by omega)
theorem Ag.hh {f g : Nat → Int} (h : Ag f g) : Hh f g := fun i _ hi => h i hi
theorem ag_of {f g : Nat → Int} (h : Nt f g) (h' : Hh f g) : Ag f g := fun i hi => if e : i < 273 then h i e else h' i (by omega) hi
theorem lgA_ag {f g : Nat → Int} {N : Nat} (n2 : N ≤ 16) (h : Ag f g) : lgA f N N = lgA g N N := by
  apply Int.le_antisymm
  · rw [lgA_le]
    have := (lgA_le g N (lgA g N N) N).1 (Int.le_refl _)
    refine ⟨this.1, fun p hp q hq a1 a2 a3 => ?_⟩
    rw [h _ (by omega)] at a2 a3 ⊢
    exact this.2 p hp q hq a1 a2 a3
  · rw [lgA_le]
    have := (lgA_le f N (lgA f N N) N).1 (Int.le_refl _)
    refine ⟨this.1, fun p hp q hq a1 a2 a3 => ?_⟩
    rw [← h _ (by omega)] at a2 a3 ⊢
    exact this.2 p hp q hq a1 a2 a3
theorem rtB_ag {f g : Nat → Int} {p q : Nat} (hp : p < 16) (hq : q < 16) (h : Ag f g) : rtB f p q = rtB g p q := by
  unfold rtB
  rw [h (273 + p) (by omega), h (17 + p * 16 + q) (by omega), h 289 (by omega)]
theorem alP_ag {f g : Nat → Int} {N : Nat} (n2 : N ≤ 16) (h : Ag f g) (ha : alP f N) : alP g N := by
  intro q hq
  rcases ha q hq with h1 | ⟨h1, h2⟩
  · exact .inl (by rw [← h _ (by omega)]; exact h1)
  · refine .inr ⟨by rw [← h _ (by omega)]; exact h1, fun p hp => ?_⟩
    rw [← rtB_ag (by omega) (by omega) h]
    exact h2 p hp
theorem loF_ag (f : Nat → Int) (N : Nat) (t : Int) : Ag (loF f N t) f := by
  intro i hi
  unfold loF
  split
  · simp only []
    split
    · rw [upF_ne _ _ (by omega), upF_ne _ _ (by omega), upF_ne _ _ (by omega)]
    · rw [upF_ne _ _ (by omega)]
  · rw [upF_ne _ _ (by omega)]
theorem diF_ag (f : Nat → Int) (e : Em) : Ag (diF f e) f := by
  intro i hi
  unfold diF
  split
  · rw [upF_ne _ _ (by omega)]
  · rfl
theorem haE_hh {f : Nat → Int} {N : Nat} (h : f 0 = (N : Int)) (n2 : N ≤ 16) (e : Em) : ∀ i, 273 ≤ i → haE f N e i = f i := by
  intro i hi
  unfold haE
  split
  · unfold haS
    split
    · rename_i h1
      rw [inR_iff, h] at h1
      rw [upF_ne _ _ (by omega)]
    · rfl
  · split
    · unfold haP
      split
      · rename_i h1
        simp only [Bool.and_eq_true, inR_iff, h] at h1
        rw [upF_ne _ _ (by omega)]
      · rfl
    · split
      · unfold haL
        split
        · unfold spG
          rw [if_neg (by omega)]
        · rfl
      · rfl
theorem haE_nt {f g : Nat → Int} {N : Nat} (h : f 0 = (N : Int)) (n2 : N ≤ 16) (hn : Nt f g) (e : Em) : Nt (haE f N e) (haE g N e) := by
  intro i hi
  have h0 : g 0 = f 0 := (hn 0 (by omega)).symm
  unfold haE
  split
  · unfold haS
    rw [h0]
    split
    · rename_i h1
      rw [inR_iff, h] at h1
      unfold upF
      rw [hn i hi, hn (1 + e.a.toNat) (by omega)]
    · exact hn i hi
  · split
    · unfold haP
      rw [h0]
      split
      · rename_i h1
        simp only [Bool.and_eq_true, inR_iff, h] at h1
        unfold upF
        rw [hn i hi, hn (17 + e.a.toNat * 16 + e.b.toNat) (by omega)]
      · exact hn i hi
    · split
      · unfold haL
        rw [h0]
        split
        · unfold spG
          rw [hn i hi]
        · exact hn i hi
      · exact hn i hi
theorem prK_nt {f g : Nat → Int} {N : Nat} (hI : Iv N f) (n2 : N ≤ 16) (hn : Nt f g) (es : List Em) : ∀ j, Nt (prK N f es j) (prK N g es j)
  | 0 => fun i hi => by
    show loF f N 0 i = loF g N 0 i
    rw [loF_ag f N 0 i (by omega), loF_ag g N 0 i (by omega)]
    exact hn i hi
  | j + 1 => fun i hi => by
    have ih := prK_nt hI n2 hn es j
    show loF (haE (diF (prK N f es j) (es.getD j em0)) N (es.getD j em0)) N _ i = loF (haE (diF (prK N g es j) (es.getD j em0)) N (es.getD j em0)) N _ i
    rw [loF_ag _ N _ i (by omega), loF_ag _ N _ i (by omega)]
    exact haE_nt (((hI.pr n2 es j).di _).n) n2 (fun k hk => by rw [diF_ag _ _ k (by omega), diF_ag _ _ k (by omega)]; exact ih k hk) _ i hi
theorem prK_hh {f : Nat → Int} {N : Nat} (hI : Iv N f) (n2 : N ≤ 16) (es : List Em) : ∀ j, Hh (prK N f es j) f
  | 0 => fun i h1 hi => by
    show loF f N 0 i = f i
    exact loF_ag f N 0 i hi
  | j + 1 => fun i h1 hi => by
    have ih := prK_hh hI n2 es j
    show loF (haE (diF (prK N f es j) (es.getD j em0)) N (es.getD j em0)) N _ i = f i
    rw [loF_ag _ N _ i hi, haE_hh (((hI.pr n2 es j).di _).n) n2 _ i h1, diF_ag _ _ i hi]
    exact ih i h1 hi
theorem loF_no {f : Nat → Int} {N : Nat} {t : Int} (h : ¬ alP f N) : loF f N t 290 = -1 := by
  unfold loF
  rw [if_neg h, upF_at]
theorem loF_al {f : Nat → Int} {N : Nat} {t : Int} (n2 : N ≤ 16) (h : alP f N) : loF f N t 290 = (if f 290 = -1 then t else f 290) ∧ loF f N t 291 = max (if f 290 = -1 then 1 else f 291) (lgA f N N) := by
  unfold loF
  rw [if_pos h]
  try simp only []
  by_cases e : f 290 = -1
  · rw [if_pos e, if_pos e, if_pos e, upF_ne _ _ (by omega), upF_ne _ _ (by omega), upF_at, upF_at, upF_at]
    refine ⟨rfl, ?_⟩
    rw [lgA_ag n2 (show Ag (upF (upF f 290 t) 291 1) f from fun i hi => by rw [upF_ne _ _ (by omega), upF_ne _ _ (by omega)])]
  · rw [if_neg e, if_neg e, if_neg e, upF_ne _ _ (by omega), upF_at]
    exact ⟨rfl, rfl⟩
theorem loF_yes {f : Nat → Int} {N : Nat} {t : Int} (n2 : N ≤ 16) (h : loF f N t 290 ≠ -1) : alP f N ∧ lgA f N N ≤ loF f N t 291 := by
  by_cases ha : alP f N
  · refine ⟨ha, ?_⟩
    rw [(loF_al n2 ha).2]
    omega
  · exact absurd (loF_no ha) h
theorem inF_at (f : Nat → Int) : ∀ (l : List Int) (p : Nat), (∀ x ∈ l, 0 ≤ x) → inF f l (273 + p) = if (p : Int) ∈ l then 1 else f (273 + p) := by
  intro l
  induction l generalizing f with
  | nil => intro p _; simp [inF]
  | cons x l ih =>
    intro p hp
    have hx := hp x (List.mem_cons_self ..)
    show inF (upF f (273 + x.toNat) 1) l (273 + p) = _
    rw [ih _ p (fun y hy => hp y (List.mem_cons_of_mem _ hy))]
    by_cases e : (p : Int) ∈ l
    · rw [if_pos e, if_pos (List.mem_cons_of_mem _ e)]
    · rw [if_neg e]
      by_cases e2 : (p : Int) = x
      · rw [if_pos (by rw [e2]; exact List.mem_cons_self ..), show 273 + p = 273 + x.toNat by omega, upF_at]
      · rw [if_neg (by simp [e, e2]), upF_ne _ _ (by omega)]
theorem inF_out (f : Nat → Int) : ∀ (l : List Int) (i : Nat), (∀ x ∈ l, 0 ≤ x ∧ x < 16) → (i < 273 ∨ 289 ≤ i) → inF f l i = f i := by
  intro l
  induction l generalizing f with
  | nil => intro i _ _; rfl
  | cons x l ih =>
    intro i hp hi
    have hx := hp x (List.mem_cons_self ..)
    show inF (upF f (273 + x.toNat) 1) l i = _
    rw [ih _ i (fun y hy => hp y (List.mem_cons_of_mem _ hy)) hi, upF_ne _ _ (by omega)]
theorem rg_mem {N : Nat} {x : Int} : x ∈ rg N ↔ 0 ≤ x ∧ x < N := by
  simp only [rg, List.mem_map, List.mem_range]
  constructor
  · rintro ⟨i, h, rfl⟩; omega
  · rintro ⟨h1, h2⟩; exact ⟨x.toNat, by omega, by omega⟩
theorem al_all {F : Nat → Int} {N : Nat} (hin : ∀ p, p < N → F (273 + p) = 1) (hal : alP F N) : (∀ q, q < N → F (1 + q) = 1) ∧ ∀ p q, p < N → q < N → p ≠ q → 1 ≤ F (17 + p * 16 + q) ∧ F (17 + p * 16 + q) ≤ F 289 := by
  refine ⟨fun q hq => ?_, fun p q hp hq hne => ?_⟩
  · rcases hal q hq with h | h
    · rw [hin q hq] at h; omega
    · exact h.1
  · rcases hal q hq with h | h
    · rw [hin q hq] at h; omega
    · rcases h.2 p hp with h1 | h1
      · exact absurd h1 hne
      · unfold rtB at h1
        rw [if_pos (hin p hp), inR_iff] at h1
        exact h1
theorem prK_ext {N : Nat} {f : Nat → Int} {es es' : List Em} : ∀ j, (∀ i, i < j → es'.getD i em0 = es.getD i em0) → prK N f es' j = prK N f es j
  | 0, _ => rfl
  | j + 1, h => by
    show stF N (prK N f es' j) (es'.getD j em0) _ = stF N (prK N f es j) (es.getD j em0) _
    rw [prK_ext j (fun i hi => h i (by omega)), h j (by omega)]
end Go.Proofs.Ytfodkackfahldaa.Lo
