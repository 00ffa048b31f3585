import Derived.Test.YtihcaopcfhbofaaRows
import Derived.WalkKit
namespace Go.Proofs.Ytihcaopcfhbofaa.Fm
set_option linter.unusedVariables false
set_option linter.unusedSimpArgs false
structure Vi where
  e : Int
  l : Int
  i : Int
  c : Int
deriving DecidableEq
structure Co where
  id : Vi
  base : Int
  sl : List (Int × Int)
  hv : List Int
deriving DecidableEq
def z2 : Int × Int := (0, 0)
def v0 : Vi := ⟨0, 0, 0, 0⟩
def c0 : Co := ⟨v0, 0, [], []⟩
def inR (a b x : Int) : Bool := decide (a ≤ x) && decide (x ≤ b)
def wholeI (v : Vi) : Bool := inR 1 4611686018427387904 v.e && inR 0 15 v.l && inR 1 4611686018427387904 v.i && inR 1 4611686018427387904 v.c
def slotB (n : Nat) (s : Int × Int) : Bool := inR 0 (n - 1) s.1 && inR 1 4611686018427387904 s.2
def newB (l : List (Int × Int)) (i : Nat) : Bool := (List.range i).all fun j => decide (l.getD j z2 ≠ l.getD i z2)
def slotsB (n : Nat) (l : List (Int × Int)) : Bool := (List.range l.length).all fun i => slotB n (l.getD i z2) && newB l i
def havesB (l : List Int) : Bool := (List.range l.length).all fun i => inR 0 4611686018427387904 (l.getD i 0)
def lensB (f : Co) : Bool := inR 1 16 f.hv.length && inR 0 128 f.sl.length && inR 0 4611686018427387904 f.base && decide (f.base + f.sl.length ≤ 4611686018427387904)
def sound (f : Co) : Bool := wholeI f.id && lensB f && havesB f.hv && slotsB f.hv.length f.sl
structure Snd (f : Co) : Prop where
  whole : wholeI f.id = true
  h1 : 1 ≤ f.hv.length
  h16 : f.hv.length ≤ 16
  s128 : f.sl.length ≤ 128
  b0 : 0 ≤ f.base
  bM : f.base + f.sl.length ≤ 4611686018427387904
  hv : ∀ i, i < f.hv.length → 0 ≤ f.hv.getD i 0 ∧ f.hv.getD i 0 ≤ 4611686018427387904
  sl : ∀ i, i < f.sl.length → 0 ≤ (f.sl.getD i z2).1 ∧ (f.sl.getD i z2).1 < f.hv.length ∧ 1 ≤ (f.sl.getD i z2).2 ∧ (f.sl.getD i z2).2 ≤ 4611686018427387904
  nd : ∀ i j, i < f.sl.length → j < f.sl.length → f.sl.getD i z2 = f.sl.getD j z2 → i = j
theorem sound_iff (f : Co) : sound f = true ↔ Snd f := by
  constructor
  · intro h
    simp only [sound, Bool.and_eq_true, lensB, inR, decide_eq_true_eq, havesB, slotsB, List.all_eq_true, List.mem_range, slotB, newB] at h
    obtain ⟨⟨⟨hw, ⟨⟨⟨h1, h2⟩, h3, h4⟩, h5, h6⟩, h7⟩, h8⟩, h9⟩ := h
    refine ⟨hw, by omega, by omega, by omega, h5, h7, h8, fun i hi => ?_, fun i j hi hj e => ?_⟩
    · have := h9 i hi
      exact ⟨this.1.1.1, by have := this.1.1.2; omega, this.1.2.1, this.1.2.2⟩
    · by_cases hij : i < j
      · exact absurd e ((h9 j hj).2 i hij)
      · by_cases hji : j < i
        · exact absurd e.symm ((h9 i hi).2 j hji)
        · omega
  · intro h
    simp only [sound, Bool.and_eq_true, lensB, inR, decide_eq_true_eq, havesB, slotsB, List.all_eq_true, List.mem_range, slotB, newB]
    refine ⟨⟨⟨h.whole, ⟨⟨⟨by have := h.h1; omega, by have := h.h16; omega⟩, by omega, by have := h.s128; omega⟩, h.b0, by have := h.bM; omega⟩, h.bM⟩, h.hv⟩, fun i hi => ⟨⟨⟨(h.sl i hi).1, by have := (h.sl i hi).2.1; omega⟩, (h.sl i hi).2.2⟩, fun j hj e => ?_⟩⟩
    have := h.nd j i (by omega) hi e
    omega
def pairs (f : Co) : List (Int × (Int × Int)) := (List.range f.sl.length).map fun i : Nat => (f.base + 1 + (i : Int), f.sl.getD i z2)
def allP (fs : List Co) : List (Int × (Int × Int)) := fs.flatMap pairs
theorem mem_pairs {f : Co} {p : Int × (Int × Int)} : p ∈ pairs f ↔ ∃ i : Nat, i < f.sl.length ∧ p = (f.base + 1 + (i : Int), f.sl.getD i z2) := by
  simp only [pairs, List.mem_map, List.mem_range]
  constructor
  · rintro ⟨i, hi, rfl⟩; exact ⟨i, hi, rfl⟩
  · rintro ⟨i, hi, rfl⟩; exact ⟨i, hi, rfl⟩
theorem mem_allP {fs : List Co} {p : Int × (Int × Int)} : p ∈ allP fs ↔ ∃ f ∈ fs, p ∈ pairs f := by simp [allP]
def Con (ps : List (Int × (Int × Int))) : Prop := ∀ p ∈ ps, ∀ q ∈ ps, (p.1 = q.1 ↔ p.2 = q.2)
theorem con_pairs {f : Co} (h : Snd f) : Con (pairs f) := by
  intro p hp q hq
  obtain ⟨i, hi, rfl⟩ := mem_pairs.1 hp
  obtain ⟨j, hj, rfl⟩ := mem_pairs.1 hq
  constructor
  · intro e
    have : i = j := by simp at e; omega
    rw [this]
  · intro e
    rw [h.nd i j hi hj e]
def forkB (a b : Co) : Bool := (List.range a.sl.length).any fun i : Nat => (List.range b.sl.length).any fun j : Nat => (decide (a.base + (i : Int) = b.base + (j : Int))) != (decide (a.sl.getD i z2 = b.sl.getD j z2))
theorem fork_iff {a b : Co} : forkB a b = false ↔ ∀ p ∈ pairs a, ∀ q ∈ pairs b, (p.1 = q.1 ↔ p.2 = q.2) := by
  simp only [forkB, List.any_eq_false, List.mem_range, Bool.not_eq_true, bne_eq_false_iff_eq, decide_eq_decide]
  constructor
  · intro h p hp q hq
    obtain ⟨i, hi, rfl⟩ := mem_pairs.1 hp
    obtain ⟨j, hj, rfl⟩ := mem_pairs.1 hq
    have := h i hi j hj
    rw [← this]
    simp only
    omega
  · intro h i hi j hj
    have := h _ (mem_pairs.2 ⟨i, hi, rfl⟩) _ (mem_pairs.2 ⟨j, hj, rfl⟩)
    simp only at this
    rw [← this]
    omega
def forksB (fs : List Co) : Bool := (List.range fs.length).any fun i => (List.range i).any fun j => forkB (fs.getD i c0) (fs.getD j c0)
theorem con_iff {fs : List Co} (hs : ∀ f ∈ fs, Snd f) : forksB fs = false ↔ Con (allP fs) := by
  have hmem : ∀ i, i < fs.length → fs.getD i c0 ∈ fs := fun i hi => by simp [List.getD, hi]
  simp only [forksB, List.any_eq_false, List.mem_range, Bool.not_eq_true]
  constructor
  · intro h p hp q hq
    obtain ⟨a, ha, hpa⟩ := mem_allP.1 hp
    obtain ⟨b, hb, hqb⟩ := mem_allP.1 hq
    obtain ⟨i, hi, rfl⟩ := List.mem_iff_getElem.1 ha
    obtain ⟨j, hj, rfl⟩ := List.mem_iff_getElem.1 hb
    by_cases hij : i = j
    · subst hij
      exact con_pairs (hs _ ha) p hpa q hqb
    · by_cases hlt : j < i
      · have := h i hi j hlt
        simp only [List.getD, List.getElem?_eq_getElem hi, List.getElem?_eq_getElem hj, Option.getD_some] at this
        exact fork_iff.1 this p hpa q hqb
      · have := h j hj i (by omega)
        simp only [List.getD, List.getElem?_eq_getElem hi, List.getElem?_eq_getElem hj, Option.getD_some] at this
        have := fork_iff.1 this q hqb p hpa
        rw [eq_comm, this, eq_comm]
  · intro h i hi j hj
    refine fork_iff.2 fun p hp q hq => h p (mem_allP.2 ⟨_, hmem i hi, hp⟩) q (mem_allP.2 ⟨_, hmem j (by omega), hq⟩)
def alike (fs : List Co) (i : Nat) : Bool := decide ((fs.getD i c0).id = (fs.getD 0 c0).id) && decide ((fs.getD i c0).hv.length = (fs.getD 0 c0).hv.length)
def togE (fs : List Co) : Int :=
  if (List.range fs.length).all (fun i => sound (fs.getD i c0)) then
    if (List.range fs.length).all (alike fs) then (if forksB fs then 82 else 0) else 80
  else 1
structure Tog (fs : List Co) : Prop where
  snd : ∀ i, i < fs.length → Snd (fs.getD i c0)
  len : ∀ i, i < fs.length → (fs.getD i c0).hv.length = (fs.getD 0 c0).hv.length
  con : Con (allP fs)
theorem getD_mem {fs : List Co} {f : Co} (h : f ∈ fs) : ∃ i, i < fs.length ∧ fs.getD i c0 = f := by
  obtain ⟨i, hi, rfl⟩ := List.mem_iff_getElem.1 h
  exact ⟨i, hi, by simp [List.getD, hi]⟩
theorem tog_of {fs : List Co} (h : togE fs = 0) : Tog fs := by
  unfold togE at h
  split at h
  · rename_i h1
    split at h
    · rename_i h2
      split at h
      · cases h
      · rename_i h3
        simp only [List.all_eq_true, List.mem_range] at h1 h2
        have hs : ∀ i, i < fs.length → Snd (fs.getD i c0) := fun i hi => (sound_iff _).1 (h1 i hi)
        refine ⟨hs, fun i hi => ?_, (con_iff fun f hf => ?_).1 (by simpa using h3)⟩
        · have := h2 i hi
          simp [alike] at this
          exact this.2
        · obtain ⟨i, hi, rfl⟩ := getD_mem hf
          exact hs i hi
    · cases h
  · cases h
def baseK (fs : List Co) : Nat → Int
  | 0 => 0
  | k + 1 => max (baseK fs k) (fs.getD k c0).base
def baseOf (fs : List Co) : Int := baseK fs fs.length
theorem baseK_ge (fs : List Co) : ∀ k i, i < k → (fs.getD i c0).base ≤ baseK fs k
  | 0, i, h => by omega
  | k + 1, i, h => by
      unfold baseK
      by_cases e : i = k
      · subst e; omega
      · have := baseK_ge fs k i (by omega); omega
theorem baseK_nn (fs : List Co) : ∀ k, 0 ≤ baseK fs k
  | 0 => by simp [baseK]
  | k + 1 => by have := baseK_nn fs k; unfold baseK; omega
theorem baseK_le (fs : List Co) (hs : ∀ i, i < fs.length → Snd (fs.getD i c0)) : ∀ k, k ≤ fs.length → baseK fs k ≤ 4611686018427387904
  | 0, _ => by simp [baseK]
  | k + 1, hk => by
      have := baseK_le fs hs k (by omega)
      have := (hs k (by omega)).bM
      unfold baseK; omega
def knows (f : Co) (pos : Int) : Bool := decide (0 ≤ pos - f.base - 1) && decide (pos - f.base - 1 < f.sl.length)
def atK (fs : List Co) (pos : Int) : Nat → Nat → Option (Int × Int)
  | 0, _ => none
  | k + 1, i => if knows (fs.getD i c0) pos then some ((fs.getD i c0).sl.getD (pos - (fs.getD i c0).base - 1).toNat z2) else atK fs pos k (i + 1)
def atP (fs : List Co) (pos : Int) : Option (Int × Int) := atK fs pos fs.length 0
theorem knows_pair {f : Co} {pos : Int} (h : knows f pos = true) : (pos, f.sl.getD (pos - f.base - 1).toNat z2) ∈ pairs f := by
  simp [knows] at h
  refine mem_pairs.2 ⟨(pos - f.base - 1).toNat, by omega, ?_⟩
  simp only [Prod.mk.injEq, and_true]
  omega
theorem pair_knows {f : Co} {pos : Int} {s : Int × Int} (h : (pos, s) ∈ pairs f) : knows f pos = true ∧ s = f.sl.getD (pos - f.base - 1).toNat z2 := by
  obtain ⟨i, hi, e⟩ := mem_pairs.1 h
  simp only [Prod.mk.injEq] at e
  obtain ⟨rfl, rfl⟩ := e
  refine ⟨by simp [knows]; omega, ?_⟩
  congr 1
  omega
theorem atK_none {fs : List Co} {pos : Int} : ∀ k i, atK fs pos k i = none → ∀ j, i ≤ j → j < i + k → knows (fs.getD j c0) pos = false
  | 0, i, _, j, h1, h2 => by omega
  | k + 1, i, h, j, h1, h2 => by
      unfold atK at h
      split at h
      · cases h
      · rename_i hk
        by_cases e : j = i
        · subst e; simpa using hk
        · exact atK_none k (i + 1) h j (by omega) (by omega)
theorem atK_some {fs : List Co} {pos : Int} {s : Int × Int} : ∀ k i, atK fs pos k i = some s → ∃ j, i ≤ j ∧ j < i + k ∧ (pos, s) ∈ pairs (fs.getD j c0)
  | 0, i, h => by cases h
  | k + 1, i, h => by
      unfold atK at h
      split at h
      · rename_i hk
        cases h
        exact ⟨i, by omega, by omega, knows_pair hk⟩
      · obtain ⟨j, h1, h2, h3⟩ := atK_some k (i + 1) h
        exact ⟨j, by omega, by omega, h3⟩
theorem mem_getD {fs : List Co} {i : Nat} (hi : i < fs.length) : fs.getD i c0 ∈ fs := by simp [List.getD, hi]
theorem atP_iff {fs : List Co} (h : Con (allP fs)) (pos : Int) (s : Int × Int) : atP fs pos = some s ↔ (pos, s) ∈ allP fs := by
  constructor
  · intro e
    obtain ⟨j, h1, h2, h3⟩ := atK_some _ _ e
    exact mem_allP.2 ⟨_, mem_getD (by omega), h3⟩
  · intro e
    cases ha : atP fs pos with
    | none =>
      obtain ⟨f, hf, hp⟩ := mem_allP.1 e
      obtain ⟨i, hi, rfl⟩ := getD_mem hf
      have := atK_none _ _ ha i (by omega) (by omega)
      rw [(pair_knows hp).1] at this
      cases this
    | some s' =>
      obtain ⟨j, h1, h2, h3⟩ := atK_some _ _ ha
      have := (h (pos, s') (mem_allP.2 ⟨_, mem_getD (by omega), h3⟩) (pos, s) e).1 rfl
      simp at this
      rw [this]
def has (f : Co) (s : Int × Int) : Bool := decide (0 ≤ s.1) && decide (s.1 < f.hv.length) && decide (s.2 ≤ f.hv.getD s.1.toNat 0)
def hasA (fs : List Co) (s : Int × Int) : Bool := (List.range fs.length).any fun i => has (fs.getD i c0) s
def whP (fs : List Co) (pos : Int) : Bool := match atP fs pos with | none => false | some s => hasA fs s
theorem snd_pair {f : Co} (h : Snd f) {p : Int × (Int × Int)} (hp : p ∈ pairs f) : f.base + 1 ≤ p.1 ∧ p.1 ≤ f.base + f.sl.length ∧ 0 ≤ p.2.1 ∧ p.2.1 < f.hv.length ∧ 1 ≤ p.2.2 ∧ p.2.2 ≤ 4611686018427387904 := by
  obtain ⟨i, hi, rfl⟩ := mem_pairs.1 hp
  have := h.sl i hi
  refine ⟨?_, ?_, this⟩ <;> simp only <;> omega
theorem tog_pair {fs : List Co} (h : Tog fs) {p : Int × (Int × Int)} (hp : p ∈ allP fs) : 1 ≤ p.1 ∧ p.1 ≤ baseOf fs + 128 ∧ p.1 ≤ 4611686018427387904 ∧ 0 ≤ p.2.1 ∧ p.2.1 < (fs.getD 0 c0).hv.length ∧ 1 ≤ p.2.2 ∧ p.2.2 ≤ 4611686018427387904 := by
  obtain ⟨f, hf, hp⟩ := mem_allP.1 hp
  obtain ⟨i, hi, rfl⟩ := getD_mem hf
  have h1 := h.snd i hi
  have h2 := snd_pair h1 hp
  have h3 := baseK_ge fs fs.length i hi
  have h4 := h1.s128
  have h5 := h1.b0
  have h6 := h1.bM
  have h7 := h.len i hi
  unfold baseOf
  refine ⟨by omega, by omega, by omega, by omega, by omega, by omega, by omega⟩
theorem whP_le {fs : List Co} (h : Tog fs) {pos : Int} (hp : whP fs pos = true) : pos ≤ baseOf fs + 128 := by
  unfold whP at hp
  split at hp
  · cases hp
  · rename_i s hs
    exact (tog_pair h ((atP_iff h.con pos s).1 hs)).2.1
def Ends (fs : List Co) (n : Nat) : Prop := (∀ j : Nat, j < n → whP fs (baseOf fs + 1 + j) = true) ∧ whP fs (baseOf fs + 1 + n) = false
theorem Ends.eq {fs : List Co} {n m : Nat} (h : Ends fs n) (k : Ends fs m) : n = m := by
  by_cases h1 : n < m
  · have := k.1 n h1; rw [h.2] at this; cases this
  · by_cases h2 : m < n
    · have := h.1 m h2; rw [k.2] at this; cases this
    · omega
theorem Ends.le {fs : List Co} (ht : Tog fs) {n : Nat} (h : ∀ j : Nat, j < n → whP fs (baseOf fs + 1 + j) = true) : n ≤ 128 := by
  by_cases h0 : n = 0
  · omega
  · have := whP_le ht (h (n - 1) (by omega)); omega
end Go.Proofs.Ytihcaopcfhbofaa.Fm
