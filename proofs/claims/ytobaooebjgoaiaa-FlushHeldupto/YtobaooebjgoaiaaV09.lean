import Derived.Test.YtobaooebjgoaiaaRows
import Derived.WalkKit
import Derived.Test.YtobaooebjgoaiaaV00
import Derived.Maps.OwnSet
import Derived.Maps.OwnOps
import Derived.DeepKeys4
namespace Go.Proofs.Ytobaooebjgoaiaa.Fm
set_option linter.unusedVariables false
set_option linter.unusedSimpArgs false
structure Vi where
 e : Int
 l : Int
 i : Int
 c : Int
deriving DecidableEq
structure Co where
 id : Vi
 base : Int
 sl : List (Int × Int)
 hv : List Int
deriving DecidableEq
def z2 : Int × Int := (0, 0)
def v0 : Vi := ⟨0, 0, 0, 0⟩
def c0 : Co := ⟨v0, 0, [], []⟩
def inR (a b x : Int) : Bool := decide (a ≤ x) && decide (x ≤ b)
def wholeI (v : Vi) : Bool := inR 1 4611686018427387904 v.e && inR 0 15 v.l && inR 1 4611686018427387904 v.i && inR 1 4611686018427387904 v.c
def slotB (n : Nat) (s : Int × Int) : Bool := inR 0 (n - 1) s.1 && inR 1 4611686018427387904 s.2
def newB (l : List (Int × Int)) (i : Nat) : Bool := (List.range i).all fun j => decide (l.getD j z2 ≠ l.getD i z2)
def slotsB (n : Nat) (l : List (Int × Int)) : Bool := (List.range l.length).all fun i => slotB n (l.getD i z2) && newB l i
def havesB (l : List Int) : Bool := (List.range l.length).all fun i => inR 0 4611686018427387904 (l.getD i 0)
def lensB (f : Co) : Bool := inR 1 16 f.hv.length && inR 0 128 f.sl.length && inR 0 4611686018427387904 f.base && decide (f.base + f.sl.length ≤ 4611686018427387904)
def sound (f : Co) : Bool := wholeI f.id && lensB f && havesB f.hv && slotsB f.hv.length f.sl
structure Snd (f : Co) : Prop where
 whole : wholeI f.id = true
 h1 : 1 ≤ f.hv.length
 h16 : f.hv.length ≤ 16
 s128 : f.sl.length ≤ 128
 b0 : 0 ≤ f.base
 bM : f.base + f.sl.length ≤ 4611686018427387904
 hv : ∀ i, i < f.hv.length → 0 ≤ f.hv.getD i 0 ∧ f.hv.getD i 0 ≤ 4611686018427387904
 sl : ∀ i, i < f.sl.length → 0 ≤ (f.sl.getD i z2).1 ∧ (f.sl.getD i z2).1 < f.hv.length ∧ 1 ≤ (f.sl.getD i z2).2 ∧ (f.sl.getD i z2).2 ≤ 4611686018427387904
 nd : ∀ i j, i < f.sl.length → j < f.sl.length → f.sl.getD i z2 = f.sl.getD j z2 → i = j
theorem sound_iff (f : Co) : sound f = true ↔ Snd f := by
 constructor
 ·intro h
  simp only [sound, Bool.and_eq_true, lensB, inR, decide_eq_true_eq, havesB, slotsB, List.all_eq_true, List.mem_range, slotB, newB] at h
  obtain ⟨⟨⟨hw, ⟨⟨⟨h1, h2⟩, h3, h4⟩, h5, h6⟩, h7⟩, h8⟩, h9⟩ := h
  refine ⟨hw, by omega, by omega, by omega, h5, h7, h8, fun i hi => ?_, fun i j hi hj e => ?_⟩
  ·have := h9 i hi
   exact ⟨this.1.1.1, by have := this.1.1.2; omega, this.1.2.1, this.1.2.2⟩
  ·by_cases hij : i < j
   ·exact absurd e ((h9 j hj).2 i hij)
   ·by_cases hji : j < i
    ·exact absurd e.symm ((h9 i hi).2 j hji)
    ·omega
 ·intro h
  simp only [sound, Bool.and_eq_true, lensB, inR, decide_eq_true_eq, havesB, slotsB, List.all_eq_true, List.mem_range, slotB, newB]
  refine ⟨⟨⟨h.whole, ⟨⟨⟨by have := h.h1; omega, by have := h.h16; omega⟩, by omega, by have := h.s128; omega⟩, h.b0, by have := h.bM; omega⟩, h.bM⟩, h.hv⟩, fun i hi => ⟨⟨⟨(h.sl i hi).1, by have := (h.sl i hi).2.1; omega⟩, (h.sl i hi).2.2⟩, fun j hj e => ?_⟩⟩
  have := h.nd j i (by omega) hi e
  omega
def pairs (f : Co) : List (Int × (Int × Int)) := (List.range f.sl.length).map fun i : Nat => (f.base + 1 + (i : Int), f.sl.getD i z2)
def allP (fs : List Co) : List (Int × (Int × Int)) := fs.flatMap pairs
theorem mem_pairs {f : Co} {p : Int × (Int × Int)} : p ∈ pairs f ↔ ∃ i : Nat, i < f.sl.length ∧ p = (f.base + 1 + (i : Int), f.sl.getD i z2) := by
 simp only [pairs, List.mem_map, List.mem_range]
 constructor
 ·rintro ⟨i, hi, rfl⟩; exact ⟨i, hi, rfl⟩
 ·rintro ⟨i, hi, rfl⟩; exact ⟨i, hi, rfl⟩
theorem mem_allP {fs : List Co} {p : Int × (Int × Int)} : p ∈ allP fs ↔ ∃ f ∈ fs, p ∈ pairs f := by simp [allP]
def Con (ps : List (Int × (Int × Int))) : Prop := ∀ p ∈ ps, ∀ q ∈ ps, (p.1 = q.1 ↔ p.2 = q.2)
theorem con_pairs {f : Co} (h : Snd f) : Con (pairs f) := by
 intro p hp q hq
 obtain ⟨i, hi, rfl⟩ := mem_pairs.1 hp
 obtain ⟨j, hj, rfl⟩ := mem_pairs.1 hq
 constructor
 ·intro e
  have : i = j := by simp at e; omega
  rw [this]
 ·intro e
  rw [h.nd i j hi hj e]
def forkB (a b : Co) : Bool := (List.range a.sl.length).any fun i : Nat => (List.range b.sl.length).any fun j : Nat => (decide (a.base + (i : Int) = b.base + (j : Int))) != (decide (a.sl.getD i z2 = b.sl.getD j z2))
theorem fork_iff {a b : Co} : forkB a b = false ↔ ∀ p ∈ pairs a, ∀ q ∈ pairs b, (p.1 = q.1 ↔ p.2 = q.2) := by
 simp only [forkB, List.any_eq_false, List.mem_range, Bool.not_eq_true, bne_eq_false_iff_eq, decide_eq_decide]
 constructor
 ·intro h p hp q hq
  obtain ⟨i, hi, rfl⟩ := mem_pairs.1 hp
  obtain ⟨j, hj, rfl⟩ := mem_pairs.1 hq
  have := h i hi j hj
  rw [← this]
  simp only
  omega
 ·intro h i hi j hj
  have := h _ (mem_pairs.2 ⟨i, hi, rfl⟩) _ (mem_pairs.2 ⟨j, hj, rfl⟩)
  simp only at this
  rw [← this]
  omega
def forksB (fs : List Co) : Bool := (List.range fs.length).any fun i => (List.range i).any fun j => forkB (fs.getD i c0) (fs.getD j c0)
theorem con_iff {fs : List Co} (hs : ∀ f ∈ fs, Snd f) : forksB fs = false ↔ Con (allP fs) := by
 have hmem : ∀ i, i < fs.length → fs.getD i c0 ∈ fs := fun i hi => by simp [List.getD, hi]
 simp only [forksB, List.any_eq_false, List.mem_range, Bool.not_eq_true]
 constructor
 ·intro h p hp q hq
  obtain ⟨a, ha, hpa⟩ := mem_allP.1 hp
  obtain ⟨b, hb, hqb⟩ := mem_allP.1 hq
  obtain ⟨i, hi, rfl⟩ := List.mem_iff_getElem.1 ha
  obtain ⟨j, hj, rfl⟩ := List.mem_iff_getElem.1 hb
  by_cases hij : i = j
  ·subst hij
   exact con_pairs (hs _ ha) p hpa q hqb
  ·by_cases hlt : j < i
   ·have := h i hi j hlt
    simp only [List.getD, List.getElem?_eq_getElem hi, List.getElem?_eq_getElem hj, Option.getD_some] at this
    exact fork_iff.1 this p hpa q hqb
   ·have := h j hj i (by omega)
    simp only [List.getD, List.getElem?_eq_getElem hi, List.getElem?_eq_getElem hj, Option.getD_some] at this
    have := fork_iff.1 this q hqb p hpa
    rw [eq_comm, this, eq_comm]
 ·intro h i hi j hj
  refine fork_iff.2 fun p hp q hq => h p (mem_allP.2 ⟨_, hmem i hi, hp⟩) q (mem_allP.2 ⟨_, hmem j (by omega), hq⟩)
def alike (fs : List Co) (i : Nat) : Bool := decide ((fs.getD i c0).id = (fs.getD 0 c0).id) && decide ((fs.getD i c0).hv.length = (fs.getD 0 c0).hv.length)
def togE (fs : List Co) : Int :=
 if (List.range fs.length).all (fun i => sound (fs.getD i c0)) then
  if (List.range fs.length).all (alike fs) then (if forksB fs then 82 else 0) else 80
 else 1
structure Tog (fs : List Co) : Prop where
 snd : ∀ i, i < fs.length → Snd (fs.getD i c0)
 len : ∀ i, i < fs.length → (fs.getD i c0).hv.length = (fs.getD 0 c0).hv.length
 con : Con (allP fs)
theorem getD_mem {fs : List Co} {f : Co} (h : f ∈ fs) : ∃ i, i < fs.length ∧ fs.getD i c0 = f := by
 obtain ⟨i, hi, rfl⟩ := List.mem_iff_getElem.1 h
 exact ⟨i, hi, by simp [List.getD, hi]⟩
theorem tog_of {fs : List Co} (h : togE fs = 0) : Tog fs := by
 unfold togE at h
 split at h
 ·rename_i h1
  split at h
  ·rename_i h2
   split at h
   ·cases h
   ·rename_i h3
    simp only [List.all_eq_true, List.mem_range] at h1 h2
    have hs : ∀ i, i < fs.length → Snd (fs.getD i c0) := fun i hi => (sound_iff _).1 (h1 i hi)
    refine ⟨hs, fun i hi => ?_, (con_iff fun f hf => ?_).1 (by simpa using h3)⟩
    ·have := h2 i hi
     simp [alike] at this
     exact this.2
    ·obtain ⟨i, hi, rfl⟩ := getD_mem hf
     exact hs i hi
  ·cases h
 ·cases h
def baseK (fs : List Co) : Nat → Int
 | 0 => 0
 | k + 1 => max (baseK fs k) (fs.getD k c0).base
def baseOf (fs : List Co) : Int := baseK fs fs.length
theorem baseK_ge (fs : List Co) : ∀ k i, i < k → (fs.getD i c0).base ≤ baseK fs k
 | 0, i, h => by omega
 | k + 1, i, h => by
   unfold baseK
   by_cases e : i = k
   ·subst e; omega
   ·have := baseK_ge fs k i (by omega); omega
theorem baseK_nn (fs : List Co) : ∀ k, 0 ≤ baseK fs k
 | 0 => by simp [baseK]
 | k + 1 => by have := baseK_nn fs k; unfold baseK; omega
theorem baseK_le (fs : List Co) (hs : ∀ i, i < fs.length → Snd (fs.getD i c0)) : ∀ k, k ≤ fs.length → baseK fs k ≤ 4611686018427387904
 | 0, _ => by simp [baseK]
 | k + 1, hk => by
   have := baseK_le fs hs k (by omega)
   have := (hs k (by omega)).bM
   unfold baseK; omega
def knows (f : Co) (pos : Int) : Bool := decide (0 ≤ pos - f.base - 1) && decide (pos - f.base - 1 < f.sl.length)
def atK (fs : List Co) (pos : Int) : Nat → Nat → Option (Int × Int)
 | 0, _ => none
 | k + 1, i => if knows (fs.getD i c0) pos then some ((fs.getD i c0).sl.getD (pos - (fs.getD i c0).base - 1).toNat z2) else atK fs pos k (i + 1)
def atP (fs : List Co) (pos : Int) : Option (Int × Int) := atK fs pos fs.length 0
theorem knows_pair {f : Co} {pos : Int} (h : knows f pos = true) : (pos, f.sl.getD (pos - f.base - 1).toNat z2) ∈ pairs f := by
 simp [knows] at h
 refine mem_pairs.2 ⟨(pos - f.base - 1).toNat, by omega, ?_⟩
 simp only [Prod.mk.injEq, and_true]
 omega
theorem pair_knows {f : Co} {pos : Int} {s : Int × Int} (h : (pos, s) ∈ pairs f) : knows f pos = true ∧ s = f.sl.getD (pos - f.base - 1).toNat z2 := by
 obtain ⟨i, hi, e⟩ := mem_pairs.1 h
 simp only [Prod.mk.injEq] at e
 obtain ⟨rfl, rfl⟩ := e
 refine ⟨by simp [knows]; omega, ?_⟩
 congr 1
 omega
theorem atK_none {fs : List Co} {pos : Int} : ∀ k i, atK fs pos k i = none → ∀ j, i ≤ j → j < i + k → knows (fs.getD j c0) pos = false
 | 0, i, _, j, h1, h2 => by omega
 | k + 1, i, h, j, h1, h2 => by
   unfold atK at h
   split at h
   ·cases h
   ·rename_i hk
    by_cases e : j = i
    ·subst e; simpa using hk
    ·exact atK_none k (i + 1) h j (by omega) (by omega)
theorem atK_some {fs : List Co} {pos : Int} {s : Int × Int} : ∀ k i, atK fs pos k i = some s → ∃ j, i ≤ j ∧ j < i + k ∧ (pos, s) ∈ pairs (fs.getD j c0)
 | 0, i, h => by cases h
 | k + 1, i, h => by
   unfold atK at h
   split at h
   ·rename_i hk
    cases h
    exact ⟨i, by omega, by omega, knows_pair hk⟩
   ·obtain ⟨j, h1, h2, h3⟩ := atK_some k (i + 1) h
    exact ⟨j, by omega, by omega, h3⟩
theorem mem_getD {fs : List Co} {i : Nat} (hi : i < fs.length) : fs.getD i c0 ∈ fs := by simp [List.getD, hi]
theorem atP_iff {fs : List Co} (h : Con (allP fs)) (pos : Int) (s : Int × Int) : atP fs pos = some s ↔ (pos, s) ∈ allP fs := by
 constructor
 ·intro e
  obtain ⟨j, h1, h2, h3⟩ := atK_some _ _ e
  exact mem_allP.2 ⟨_, mem_getD (by omega), h3⟩
 ·intro e
  cases ha : atP fs pos with
  | none =>
   obtain ⟨f, hf, hp⟩ := mem_allP.1 e
   obtain ⟨i, hi, rfl⟩ := getD_mem hf
   have := atK_none _ _ ha i (by omega) (by omega)
   rw [(pair_knows hp).1] at this
   cases this
  | some s' =>
   obtain ⟨j, h1, h2, h3⟩ := atK_some _ _ ha
   have := (h (pos, s') (mem_allP.2 ⟨_, mem_getD (by omega), h3⟩) (pos, s) e).1 rfl
   simp at this
   rw [this]
def has (f : Co) (s : Int × Int) : Bool := decide (0 ≤ s.1) && decide (s.1 < f.hv.length) && decide (s.2 ≤ f.hv.getD s.1.toNat 0)
def hasA (fs : List Co) (s : Int × Int) : Bool := (List.range fs.length).any fun i => has (fs.getD i c0) s
def whP (fs : List Co) (pos : Int) : Bool := match atP fs pos with | none => false | some s => hasA fs s
theorem snd_pair {f : Co} (h : Snd f) {p : Int × (Int × Int)} (hp : p ∈ pairs f) : f.base + 1 ≤ p.1 ∧ p.1 ≤ f.base + f.sl.length ∧ 0 ≤ p.2.1 ∧ p.2.1 < f.hv.length ∧ 1 ≤ p.2.2 ∧ p.2.2 ≤ 4611686018427387904 := by
 obtain ⟨i, hi, rfl⟩ := mem_pairs.1 hp
 have := h.sl i hi
 refine ⟨?_, ?_, this⟩ <;> simp only <;> omega
theorem tog_pair {fs : List Co} (h : Tog fs) {p : Int × (Int × Int)} (hp : p ∈ allP fs) : 1 ≤ p.1 ∧ p.1 ≤ baseOf fs + 128 ∧ p.1 ≤ 4611686018427387904 ∧ 0 ≤ p.2.1 ∧ p.2.1 < (fs.getD 0 c0).hv.length ∧ 1 ≤ p.2.2 ∧ p.2.2 ≤ 4611686018427387904 := by
 obtain ⟨f, hf, hp⟩ := mem_allP.1 hp
 obtain ⟨i, hi, rfl⟩ := getD_mem hf
 have h1 := h.snd i hi
 have h2 := snd_pair h1 hp
 have h3 := baseK_ge fs fs.length i hi
 have h4 := h1.s128
 have h5 := h1.b0
 have h6 := h1.bM
 have h7 := h.len i hi
 unfold baseOf
 refine ⟨by omega, by omega, by omega, by omega, by omega, by omega, by omega⟩
theorem whP_le {fs : List Co} (h : Tog fs) {pos : Int} (hp : whP fs pos = true) : pos ≤ baseOf fs + 128 := by
 unfold whP at hp
 split at hp
 ·cases hp
 ·rename_i s hs
  exact (tog_pair h ((atP_iff h.con pos s).1 hs)).2.1
def Ends (fs : List Co) (n : Nat) : Prop := (∀ j : Nat, j < n → whP fs (baseOf fs + 1 + j) = true) ∧ whP fs (baseOf fs + 1 + n) = false
theorem Ends.eq {fs : List Co} {n m : Nat} (h : Ends fs n) (k : Ends fs m) : n = m := by
 by_cases h1 : n < m
 ·have := k.1 n h1; rw [h.2] at this; cases this
 ·by_cases h2 : m < n
  ·have := h.1 m h2; rw [k.2] at this; cases this
  ·omega
theorem Ends.le {fs : List Co} (ht : Tog fs) {n : Nat} (h : ∀ j : Nat, j < n → whP fs (baseOf fs + 1 + j) = true) : n ≤ 128 := by
 by_cases h0 : n = 0
 ·omega
 ·have := whP_le ht (h (n - 1) (by omega)); omega
end Go.Proofs.Ytobaooebjgoaiaa.Fm
namespace Go.Proofs.Ytobaooebjgoaiaa.Fm
open Go.RowKit Go.Maps Mb
set_option linter.unusedVariables false
set_option maxRecDepth 100000
set_option linter.unusedSimpArgs false
section
variable {w w' W : World} {B : Nat}
def Row (w : World) (ao : Option Addr) (n k : Nat) (f : Nat → Value) : Prop := n = 0 ∨ ∃ b off, ao = some ⟨b, off, none⟩ ∧ ∀ i, i < n * k → w.cell? ⟨b, off + i, none⟩ = some (f i)
theorem Row.still {ao : Option Addr} {n k : Nat} {f : Nat → Value} (h : Row w ao n k f) (hb : Below w.heap.size w w') : Row w' ao n k f := by
 rcases h with h | ⟨b, off, rfl, hc⟩
 ·exact .inl h
 ·exact .inr ⟨b, off, rfl, fun i hi => below_at hb (hc i hi)⟩
def RdI (w : World) (ao : Option Addr) (xs : List Int) : Prop := Row w ao xs.length 1 fun i => .int .i64 (xs.getD i 0)
def slotV (s : Int × Int) : List Value := [.int .i64 s.1, .int .i64 s.2]
def slotC (ss : List (Int × Int)) (i : Nat) : Value := (slotV (ss.getD (i / 2) z2)).getD (i % 2) undef
def RdS (w : World) (ao : Option Addr) (ss : List (Int × Int)) : Prop := Row w ao ss.length 2 (slotC ss)
theorem RdI.still {ao : Option Addr} {xs : List Int} (h : RdI w ao xs) (hb : Below w.heap.size w w') : RdI w' ao xs := Row.still h hb
theorem RdS.still {ao : Option Addr} {ss : List (Int × Int)} (h : RdS w ao ss) (hb : Below w.heap.size w w') : RdS w' ao ss := Row.still h hb
theorem RdI.at {ao : Option Addr} {xs : List Int} (h : RdI w ao xs) {i : Nat} (hi : i < xs.length) : ∃ b off, ao = some ⟨b, off, none⟩ ∧ w.cell? ⟨b, off + i, none⟩ = some (.int .i64 (xs.getD i 0)) := by
 rcases h with h | ⟨b, off, h1, h2⟩
 ·omega
 ·exact ⟨b, off, h1, h2 i (by omega)⟩
theorem RdS.at {ao : Option Addr} {ss : List (Int × Int)} (h : RdS w ao ss) {i : Nat} (hi : i < ss.length) : ∃ b off, ao = some ⟨b, off, none⟩ ∧ w.rangeAt b (off + i * 2) (slotV (ss.getD i z2)) ∧ w.cell? ⟨b, off + i * 2, none⟩ = some (.int .i64 (ss.getD i z2).1) ∧ w.cell? ⟨b, off + i * 2 + 1, none⟩ = some (.int .i64 (ss.getD i z2).2) := by
 rcases h with h | ⟨b, off, h1, h2⟩
 ·omega
 ·have e0 := h2 (i * 2) (by omega)
  have e1 := h2 (i * 2 + 1) (by omega)
  simp only [slotC, show i * 2 / 2 = i by omega, show (i * 2 + 1) / 2 = i by omega, show i * 2 % 2 = 0 by omega, show (i * 2 + 1) % 2 = 1 by omega, slotV, ← Nat.add_assoc] at e0 e1
  refine ⟨b, off, h1, fun j v hv => ?_, e0, e1⟩
  match j, hv with
  | 0, hv => cases hv; exact e0
  | 1, hv => cases hv; exact e1
  | j + 2, hv => cases hv
structure Fl where
 c : Co
 sa : Option Addr
 sc : Nat
 ha : Option Addr
 hc : Nat
def Vi.cs (v : Vi) : List Value := [.int .i64 v.e, .int .i64 v.l, .int .i64 v.i, .int .i64 v.c]
def Fl.cs (f : Fl) : List Value := [.int .i64 f.c.id.e, .int .i64 f.c.id.l, .int .i64 f.c.id.i, .int .i64 f.c.id.c, .int .i64 f.c.base, .slice f.sa f.c.sl.length f.sc, .slice f.ha f.c.hv.length f.hc]
def fl0 : Fl := ⟨c0, none, 0, none, 0⟩
def i64B (x : Int) : Prop := -9223372036854775808 ≤ x ∧ x ≤ 9223372036854775807
structure Fl.Rd (f : Fl) (w : World) : Prop where
 s : RdS w f.sa f.c.sl
 h : RdI w f.ha f.c.hv
 r : ∀ i, i < f.c.sl.length → i64B (f.c.sl.getD i z2).1 ∧ i64B (f.c.sl.getD i z2).2
 b : i64B f.c.base
 sn : f.c.sl.length ≤ 1000000000000000000
 hn : f.c.hv.length ≤ 1000000000000000000
theorem Fl.Rd.still {f : Fl} (h : f.Rd w) (hb : Below w.heap.size w w') : f.Rd w' := ⟨h.s.still hb, h.h.still hb, h.r, h.b, h.sn, h.hn⟩
def flC (fs : List Fl) (i : Nat) : Value := ((fs.getD (i / 7) fl0).cs).getD (i % 7) undef
structure RdFs (w : World) (ao : Option Addr) (fs : List Fl) : Prop where
 row : Row w ao fs.length 7 (flC fs)
 el : ∀ i, i < fs.length → (fs.getD i fl0).Rd w
theorem RdFs.still {ao : Option Addr} {fs : List Fl} (h : RdFs w ao fs) (hb : Below w.heap.size w w') : RdFs w' ao fs := ⟨h.row.still hb, fun i hi => (h.el i hi).still hb⟩
theorem Fl.cs_len (f : Fl) : f.cs.length = 7 := rfl
theorem RdFs.at {ao : Option Addr} {fs : List Fl} (h : RdFs w ao fs) {i : Nat} (hi : i < fs.length) : ∃ b off, ao = some ⟨b, off, none⟩ ∧ w.rangeAt b (off + i * 7) (fs.getD i fl0).cs := by
 rcases h.row with h1 | ⟨b, off, h1, h2⟩
 ·omega
 ·refine ⟨b, off, h1, fun j v hv => ?_⟩
  have hj : j < 7 := by have := (List.getElem?_eq_some_iff.1 hv).1; rwa [Fl.cs_len] at this
  have e := h2 (i * 7 + j) (by omega)
  simp only [flC, show (i * 7 + j) / 7 = i by omega, show (i * 7 + j) % 7 = j by omega] at e
  rw [← Nat.add_assoc] at e
  rw [e, List.getD, hv]
  rfl
def cos (fs : List Fl) : List Co := fs.map (·.c)
theorem cos_len (fs : List Fl) : (cos fs).length = fs.length := by simp [cos]
theorem cos_at (fs : List Fl) (i : Nat) : (cos fs).getD i c0 = (fs.getD i fl0).c := by
 simp only [cos, List.getD, List.getElem?_map]
 cases fs[i]? <;> rfl
theorem laidOut : laidOutB Try.prog = true := by kernel_rfl
theorem rowSlot : (76 : TypeId) < Try.prog.types.size := of_decide_eq_true (by kernel_rfl)
theorem wideSlot : (match Try.prog.underlying 76 with | some (.array _ _) | some (.struct _) => true | _ => false) = true := by rw [Try.underlying76]
theorem keyT : Try.prog.keyTypeAt 2 76 = true := by kernel_rfl
theorem klaw : WideMaps.KeyLaw Try.prog 76 := deep_law_laid laidOut (m := 2) (by omega) rowSlot keyT wideSlot
theorem lawS : Keyed Try.prog 76 := Keyed.of_law klaw
theorem lawI : Keyed Try.prog 3 := int_keyed Try.underlying3
theorem ktype : Try.prog.keyType 76 = true := by kernel_rfl
theorem tsize : Try.prog.types.size = (Try.prog.types.size - 1) + 1 := of_decide_eq_true (by kernel_rfl)
theorem cellsS : Try.prog.cellsOf 76 = 2 := by kernel_rfl
theorem cellsI : Try.prog.cellsOf 3 = 1 := by kernel_rfl
theorem wf64 {x : Int} (h : i64B x) : (Lit.int .i64 x).wf = true := by
 unfold i64B at h
 simp [Lit.wf, IntKind.min, IntKind.max, IntKind.signed, IntKind.bits]
 omega
def klS (s : Int × Int) : Lit := .string (keyBytes [.int .i64 s.1, .int .i64 s.2])
def slV (s : Int × Int) : Value := .agg #[.int .i64 s.1, .int .i64 s.2]
theorem key_two {P : Program} {k e : TypeId} {fs : Array Field} (hu : P.underlying k = some (.struct fs)) (he : P.underlying e = some (.int .i64)) (hk : P.keyType k = true) (hc : P.cellsOf k = 2) (hce : P.cellsOf e = 1) (hsz : ∃ m, P.types.size = m + 1) (f1 f2 : Field) (hfs : fs = #[f1, f2]) (o1 : f1.offset = 0 ∧ f1.type = e ∧ (f1.name != "_") = true) (o2 : f2.offset = 1 ∧ f2.type = e ∧ (f2.name != "_") = true) {a b : Int} (h1 : (Lit.int .i64 a).wf = true) (h2 : (Lit.int .i64 b).wf = true) : keyOf P k (.agg #[.int .i64 a, .int .i64 b]) = some (.string (keyBytes [.int .i64 a, .int .i64 b])) := by
 obtain ⟨m, hm⟩ := hsz
 subst hfs
 unfold keyOf
 simp only [hu]
 rw [if_pos (by simp [hk, Value.formed, hu, hc]), hm]
 unfold Program.keyLits
 simp only [hu, Value.cells]
 rw [if_pos ⟨by rw [hc]; rfl, by simp [o1.2.2, o2.2.2]⟩]
 simp [o1.1, o1.2.1, o2.1, o2.2.1, hce, Program.keyLits, he, h1, h2]
theorem key_slot {s : Int × Int} (h1 : i64B s.1) (h2 : i64B s.2) : keyOf Try.prog 76 (slV s) = some (klS s) :=
 key_two Try.underlying76 Try.underlying3 ktype cellsS cellsI ⟨_, tsize⟩ _ _ rfl ⟨rfl, rfl, by decide⟩ ⟨rfl, rfl, by decide⟩ (wf64 h1) (wf64 h2)
theorem klS_inj {s t : Int × Int} (hs : i64B s.1 ∧ i64B s.2) (ht : i64B t.1 ∧ i64B t.2) (h : klS s = klS t) : s = t := by
 have h2 := key_slot ht.1 ht.2
 rw [← h] at h2
 have := lawS.inj (key_slot hs.1 hs.2) h2
 simp [slV] at this
 exact Prod.ext this.1 this.2
theorem key_int {x : Int} (h : i64B x) : keyOf Try.prog 3 (.int .i64 x) = some (.int .i64 x) := keyOf_int_mk Try.underlying3 (wf64 h)
def dS (s : Int × Int) : DataW Unit := .agg [.lit (.int .i64 s.1), .lit (.int .i64 s.2)]
theorem dS_inj {s t : Int × Int} (h : dS s = dS t) : s = t := by
 simp [dS] at h
 exact Prod.ext h.1 h.2
def slotElem (v : Value) : Option (DataW Unit × List MemPlace) :=
 match v with
 | .agg a =>
  match a.toList with
  | [.int .i64 x, .int .i64 y] => some (dS (x, y), [])
  | _ => none
 | _ => none
theorem slotElem_mk (s : Int × Int) : slotElem (slV s) = some (dS s, []) := rfl
theorem slotElem_inv {v : Value} {z : DataW Unit × List MemPlace} (h : slotElem v = some z) : ∃ s : Int × Int, v = slV s ∧ z = (dS s, []) := by
 unfold slotElem at h
 split at h
 ·rename_i a
  split at h
  ·rename_i x y hl
   cases h
   refine ⟨(x, y), ?_, rfl⟩
   have : a = #[.int .i64 x, .int .i64 y] := Array.ext' hl
   rw [this]
   rfl
  ·cases h
 ·cases h
def MpS (w : World) (b m : Nat) (f : Int × Int → Option Int) : Prop :=
 ∃ D : DataW Unit, w.ownsMap Try.prog 76 (plainElem Try.prog 3) b m D ∧ ∀ s : Int × Int, i64B s.1 → i64B s.2 → Maps.has D (klS s) = (f s).isSome ∧ ∀ x, f s = some x → D.atKey (klS s) (.lit (.int .i64 0)) = .lit (.int .i64 x)
def MpI (w : World) (b m : Nat) (f : Int → Option (Int × Int)) : Prop :=
 ∃ D : DataW Unit, w.ownsMap Try.prog 3 slotElem b m D ∧ ∀ x : Int, i64B x → Maps.has D (.int .i64 x) = (f x).isSome ∧ ∀ s, f x = some s → D.atKey (.int .i64 x) (dS z2) = dS s
def updO {α β : Type} [DecidableEq α] (f : α → Option β) (a : α) (b : β) : α → Option β := fun x => if x = a then some b else f x
theorem MpS.made (w : World) : MpS (w.alloc (.map #[] 0)) w.heap.size 0 (fun _ => none) :=
 ⟨.map [], World.ownsMap_made w _ _ _, fun s _ _ => ⟨rfl, fun x h => by cases h⟩⟩
theorem MpI.made (w : World) : MpI (w.alloc (.map #[] 0)) w.heap.size 0 (fun _ => none) :=
 ⟨.map [], World.ownsMap_made w _ _ _, fun s _ => ⟨rfl, fun x h => by cases h⟩⟩
theorem Kept.mp {a b : World} {P : Nat → Prop} {H : Type} {Pr : Program} {k : TypeId} {R : Value → Option (DataW H × List MemPlace)} {m n : Nat} {D : DataW H} (h : Kept a b P) (ho : a.ownsMap Pr k R m n D) (hp : ¬ P m) : b.ownsMap Pr k R m n D := by
 obtain ⟨es, cl, hb, r⟩ := ho
 exact ⟨es, cl, h.obj hb hp, r⟩
theorem MpS.keep {b m : Nat} {f : Int × Int → Option Int} {P : Nat → Prop} (h : MpS w b m f) (k : Kept w w' P) (hp : ¬ P b) : MpS w' b m f := by
 obtain ⟨D, h1, h2⟩ := h
 exact ⟨D, Kept.mp k h1 hp, h2⟩
theorem MpI.keep {b m : Nat} {f : Int → Option (Int × Int)} {P : Nat → Prop} (h : MpI w b m f) (k : Kept w w' P) (hp : ¬ P b) : MpI w' b m f := by
 obtain ⟨D, h1, h2⟩ := h
 exact ⟨D, Kept.mp k h1 hp, h2⟩
theorem MpS.still {b m : Nat} {f : Int × Int → Option Int} (h : MpS w b m f) (hb : Below w.heap.size w w') : MpS w' b m f := h.keep (Kept.ofBelow hb (fun _ => False)) id
theorem MpI.still {b m : Nat} {f : Int → Option (Int × Int)} (h : MpI w b m f) (hb : Below w.heap.size w w') : MpI w' b m f := h.keep (Kept.ofBelow hb (fun _ => False)) id
theorem MpS.lt {b m : Nat} {f : Int × Int → Option Int} (h : MpS w b m f) : b < w.heap.size := by obtain ⟨D, h1, _⟩ := h; exact h1.lt
theorem MpI.lt {b m : Nat} {f : Int → Option (Int × Int)} (h : MpI w b m f) : b < w.heap.size := by obtain ⟨D, h1, _⟩ := h; exact h1.lt
theorem zeroI (w : World) : (zeroValue 3).run Try.prog w = .ok (.int .i64 0) w := by kernel_rfl
theorem zeroS (w : World) : (zeroValue 76).run Try.prog w = .ok (slV z2) w := by kernel_rfl
theorem MpS.look {b m : Nat} {f : Int × Int → Option Int} (h : MpS w b m f) {s : Int × Int} (h1 : i64B s.1) (h2 : i64B s.2) : (Instr.lookup 89 (.map (some b)) (slV s) true).run Try.prog w = .ok (.tuple #[.int .i64 ((f s).getD 0), .bool (f s).isSome]) w := by
 obtain ⟨D, hD, hf⟩ := h
 obtain ⟨hf1, hf2⟩ := hf s h1 h2
 obtain ⟨v, ps, hrun, hv⟩ := hD.look_ok lawS Try.underlying89 (zeroI w) (zd := .lit (.int .i64 0)) (zp := []) (plainElem_int Try.underlying3 (by decide)) (key_slot h1 h2)
 obtain ⟨c, rfl, hc, _⟩ := plainElem_int_inv Try.underlying3 hv
 rw [hrun, hf1]
 simp only [Prod.mk.injEq] at hc
 cases e : f s with
 | none =>
  rw [e] at hf1
  rw [atKey_of_not_has hf1] at hc
  simp at hc
  rw [hc.1]
  rfl
 | some x =>
  have := hf2 x e
  rw [this] at hc
  simp at hc
  rw [hc.1]
  rfl
theorem MpI.look {b m : Nat} {f : Int → Option (Int × Int)} (h : MpI w b m f) {x : Int} (h1 : i64B x) : (Instr.lookup 113 (.map (some b)) (.int .i64 x) true).run Try.prog w = .ok (.tuple #[slV ((f x).getD z2), .bool (f x).isSome]) w := by
 obtain ⟨D, hD, hf⟩ := h
 obtain ⟨hf1, hf2⟩ := hf x h1
 obtain ⟨v, ps, hrun, hv⟩ := hD.look_ok lawI Try.underlying113 (zeroS w) (zd := dS z2) (zp := []) (slotElem_mk z2) (key_int h1)
 obtain ⟨c, rfl, hc⟩ := slotElem_inv hv
 rw [hrun, hf1]
 simp only [Prod.mk.injEq] at hc
 cases e : f x with
 | none =>
  rw [e] at hf1
  rw [atKey_of_not_has hf1] at hc
  have := dS_inj hc.1
  rw [this]
  rfl
 | some s =>
  have := hf2 s e
  rw [this] at hc
  have := dS_inj hc.1
  rw [this]
  rfl
theorem MpS.put {b m : Nat} {f : Int × Int → Option Int} (h : MpS w b m f) (hm : m < 1000000) {s : Int × Int} (h1 : i64B s.1) (h2 : i64B s.2) {x : Int} (hx : i64B x) : ∃ w', (Instr.mapUpdate 89 (.map (some b)) (slV s) (.int .i64 x)).run Try.prog w = .ok () w' ∧ MpS w' b (m + 1) (updO f s x) ∧ Kept w w' (fun k => k = b) := by
 obtain ⟨D, hD, hf⟩ := h
 obtain ⟨w', hrun, hD', hg⟩ := hD.update lawS Try.underlying89 (by unfold maxLen; omega) (key_slot h1 h2) (plainElem_int Try.underlying3 (wf64 hx))
 refine ⟨w', hrun, ⟨_, hD', fun t t1 t2 => ?_⟩, (Kept.ofGrown hg).mono fun k _ hk => by cases hk; rfl⟩
 by_cases e : t = s
 ·subst e
  rw [has_put_same hD.isMap (lawS.key (key_slot t1 t2)), atKey_put_same hD.isMap (lawS.key (key_slot t1 t2))]
  refine ⟨by simp [updO], fun y hy => ?_⟩
  simp [updO] at hy
  rw [hy]
 ·have ne : klS t ≠ klS s := fun e2 => e (klS_inj ⟨t1, t2⟩ ⟨h1, h2⟩ e2)
  rw [has_put_other ne, atKey_put_other ne]
  simp only [updO, if_neg e]
  exact hf t t1 t2
theorem MpI.put {b m : Nat} {f : Int → Option (Int × Int)} (h : MpI w b m f) (hm : m < 1000000) {x : Int} (h1 : i64B x) (s : Int × Int) : ∃ w', (Instr.mapUpdate 113 (.map (some b)) (.int .i64 x) (slV s)).run Try.prog w = .ok () w' ∧ MpI w' b (m + 1) (updO f x s) ∧ Kept w w' (fun k => k = b) := by
 obtain ⟨D, hD, hf⟩ := h
 obtain ⟨w', hrun, hD', hg⟩ := hD.update lawI Try.underlying113 (by unfold maxLen; omega) (key_int h1) (slotElem_mk s)
 refine ⟨w', hrun, ⟨_, hD', fun t t1 => ?_⟩, (Kept.ofGrown hg).mono fun k _ hk => by cases hk; rfl⟩
 by_cases e : t = x
 ·subst e
  rw [has_put_same hD.isMap (lawI.key (key_int t1)), atKey_put_same hD.isMap (lawI.key (key_int t1))]
  refine ⟨by simp [updO], fun y hy => ?_⟩
  simp [updO] at hy
  rw [hy]
 ·have ne : (Lit.int .i64 t) ≠ Lit.int .i64 x := fun e2 => e (by cases e2; rfl)
  rw [has_put_other ne, atKey_put_other ne]
  simp only [updO, if_neg e]
  exact hf t t1
end
end Go.Proofs.Ytobaooebjgoaiaa.Fm
