import Derived.Test.YtnhhjelplmdloaaWc
import Derived.Laws.Tables
import Derived.Great.Ranges
import Derived.Laws.BytesArg
namespace Go.Proofs.Ytnhhjelplmdloaa.Et
open Go.RowKit Go.Maps
set_option linter.unusedVariables false
set_option linter.unusedSimpArgs false
set_option maxRecDepth 100000
structure Px where
  f : Fx
  gone : Bool
def p0 : Px := ⟨f0, false⟩
def Px.cs (p : Px) : List Value := p.f.cs.toList ++ [.bool p.gone]
def pkCells (ps : List Px) : List Value := ps.flatMap Px.cs
theorem pk_len (ps : List Px) : (pkCells ps).length = ps.length * 6 := by
  induction ps with
  | nil => rfl
  | cons p ps ih => simp only [pkCells, List.flatMap_cons, List.length_append] at ih ⊢; rw [ih]; simp [Px.cs, Fx.cs]; omega
theorem pk_app (a b : List Px) : pkCells (a ++ b) = pkCells a ++ pkCells b := by simp [pkCells]
theorem pk_one (ps : List Px) : ∀ u ∈ pkCells ps, u.oneCell' = true := by
  intro u hu
  simp only [pkCells, List.mem_flatMap] at hu
  obtain ⟨p, _, hp⟩ := hu
  simp [Px.cs, Fx.cs] at hp
  rcases hp with rfl | rfl | rfl | rfl | rfl | rfl <;> rfl
theorem pk_get (ps : List Px) (i : Nat) (hi : i < ps.length) (j : Nat) (hj : j < 6) : (pkCells ps)[i * 6 + j]? = (ps.getD i p0).cs[j]? := by
  induction ps generalizing i with
  | nil => simp at hi
  | cons p ps ih =>
    have hl : p.cs.length = 6 := rfl
    cases i with
    | zero =>
      simp only [pkCells, List.flatMap_cons, Nat.zero_mul, Nat.zero_add]
      rw [List.getElem?_append_left (by rw [hl]; exact hj)]
      simp
    | succ i =>
      have := ih i (by simpa using hi)
      simp only [pkCells, List.flatMap_cons] at this ⊢
      rw [List.getElem?_append_right (by rw [hl]; omega), hl, show (i + 1) * 6 + j - 6 = i * 6 + j by omega, this]
      simp
structure Rn where
  b : Nat
  nn : Nat
  room : Int
  now : Int
  up : Nat → Bool
  inc : Nat → Int
  tick : Nat → Int
  shut : Nat → Nat → Bool
  slow : Nat → Nat → Int
  va : Option Addr
  vc : Nat
  all : List Px
def Rn.own (R : Rn) (j : Nat) : Prop := j = R.b ∨ (Value.slice R.va R.all.length R.vc).ownBlock = some j ∨ ∃ p ∈ R.all, p.f.v.ownBlock = some j
section
variable {R R' : Rn} {w w' : World} {B : Nat} {cs : Array Value}
theorem getSet {cs : Array Value} {i : Nat} {v : Value} (hi : i < cs.size) (j : Nat) : (cs.setIfInBounds i v)[j]? = if i = j then some v else cs[j]? := by
  rw [Array.getElem?_setIfInBounds]
  by_cases e : i = j
  · subst e; simp [hi]
  · simp [e]
end
end Go.Proofs.Ytnhhjelplmdloaa.Et
namespace Go.Proofs.Ytnhhjelplmdloaa.Et
open Go.RowKit Go.Maps
set_option linter.unusedVariables false
set_option linter.unusedSimpArgs false
set_option maxRecDepth 100000
section
variable {R R' : Rn} {w w' : World} {B : Nat}
theorem wrap_eq (x : Int) : wrap64 x = IntKind.i64.wrap x := by rw [IntKind.wrap_i64, wrap64]
def rN (R : Rn) (p : Int) : Bool := decide (0 ≤ p ∧ p < R.nn)
theorem rN_true {p : Int} (h : rN R p = true) : 0 ≤ p ∧ p < R.nn := of_decide_eq_true h
theorem rN_nat {p : Nat} (h : p < R.nn) : rN R p = true := decide_eq_true (by omega)
def rP (R : Rn) (p q : Int) : Bool := rN R p && rN R q && decide (p ≠ q)
theorem rP_true {p q : Int} (h : rP R p q = true) : ∃ a b : Nat, p = a ∧ q = b ∧ a < R.nn ∧ b < R.nn ∧ a ≠ b := by
  unfold rP at h
  simp only [Bool.and_eq_true, decide_eq_true_eq] at h
  obtain ⟨a0, a1⟩ := rN_true h.1.1
  obtain ⟨b0, b1⟩ := rN_true h.1.2
  exact ⟨p.toNat, q.toNat, by omega, by omega, by omega, by omega, by omega⟩
theorem rP_nat {a b : Nat} (ha : a < R.nn) (hb : b < R.nn) (h : a ≠ b) : rP R a b = true := by
  simp only [rP, rN_nat ha, rN_nat hb, Bool.and_self, Bool.true_and, decide_eq_true_eq]
  omega
def rCk (R : Rn) (p : Int) : Int := if rN R p then (if R.up p.toNat then 0 else 32) else 1
def rRst (R : Rn) (p : Int) : Int := if rN R p then (if R.up p.toNat then 33 else 0) else 1
end
end Go.Proofs.Ytnhhjelplmdloaa.Et
namespace Go.Proofs.Ytnhhjelplmdloaa.Et
open Go.RowKit Go.Maps
set_option linter.unusedVariables false
set_option linter.unusedSimpArgs false
set_option maxRecDepth 100000
section
variable {R R' : Rn} {w w' : World} {B : Nat}
theorem own_shape {w2 : World} {B' n : Nat} {v : Value} {l : List Value} {t s : Nat} (h : w2.ownsRow B t s v n l) : ∃ a c, v = .slice a n c := by
  rcases h.2 with ⟨h1, h2⟩ | ⟨g, cap, cur, hv, _⟩
  · exact ⟨none, 0, by rw [h2]; exact h1⟩
  · exact ⟨_, _, hv⟩
end
end Go.Proofs.Ytnhhjelplmdloaa.Et
namespace Go.Proofs.Ytnhhjelplmdloaa.Et
open Go.RowKit Go.Maps
set_option linter.unusedVariables false
set_option linter.unusedSimpArgs false
set_option maxRecDepth 100000
section
variable {R R' : Rn} {w w' : World} {B : Nat}
theorem info_i : (Try.prog.info? 3).map (fun i => (i.zero, i.size, i.bytes)) = some (some (.int .i64 0), 1, 8) := by kernel_rfl
def liveN (R : Rn) (k : Nat) : List Nat := (List.range k).filter fun i => !(R.all.getD i p0).gone
theorem liveN_next (R : Rn) (k : Nat) : liveN R (k + 1) = liveN R k ++ (if (R.all.getD k p0).gone then [] else [k]) := by
  unfold liveN
  rw [List.range_succ, List.filter_append]
  congr 1
  cases h : (R.all.getD k p0).gone <;> (simp only [List.filter_cons, List.filter_nil, h]; rfl)
theorem liveN_le (R : Rn) (k : Nat) : (liveN R k).length ≤ k := by
  unfold liveN
  exact Nat.le_trans (List.length_filter_le _ _) (by simp)
def intsOf (l : List Nat) : List Value := l.map fun (i : Nat) => Value.int .i64 (i : Int)
end
end Go.Proofs.Ytnhhjelplmdloaa.Et
namespace Go.Proofs.Ytnhhjelplmdloaa.Et
open Go.RowKit Go.Maps
set_option linter.unusedVariables false
set_option linter.unusedSimpArgs false
set_option maxRecDepth 100000
section
variable {R R' : Rn} {w w' : World} {B : Nat}
def live (R : Rn) : List Nat := liveN R R.all.length
def atN (R : Rn) (k : Int) : Int := if 0 ≤ k ∧ k < (live R).length then ((live R).getD k.toNat 0 : Nat) else -1
theorem ints_at {a : Option Addr} {n c : Nat} {LN : List Nat} {w1 : World} {B1 : Nat} (h : w1.ownsRow B1 3 1 (.slice a n c) n (intsOf LN)) {j : Nat} (hj : j < LN.length) : ∃ g, a = some ⟨g, 0, none⟩ ∧ w1.cell? ⟨g, j, none⟩ = some (.int .i64 (LN.getD j 0 : Nat)) := by
  have hl : LN.length = n := by have := h.1; simp [intsOf] at this; exact this
  rcases h.2 with ⟨h1, h2⟩ | ⟨g, cap, cur, hv, hB, hg, hnc, hcm, hcs, htk⟩
  · omega
  · simp at hv
    refine ⟨g, hv.1, ?_⟩
    rw [blk_cell hg j]
    have e1 : (cur.toList.take (n * 1))[j]? = (intsOf LN)[j]? := by rw [htk]
    rw [List.getElem?_take_of_lt (by omega)] at e1
    rw [← Array.getElem?_toList, e1]
    simp [intsOf, List.getD, List.getElem?_eq_getElem hj]
end
end Go.Proofs.Ytnhhjelplmdloaa.Et
namespace Go.Proofs.Ytnhhjelplmdloaa.Et
open Go.RowKit Go.Maps
set_option linter.unusedVariables false
set_option linter.unusedSimpArgs false
set_option maxRecDepth 100000
section
variable {R R' : Rn} {w w' : World} {B : Nat}
def rspl (f : Nat → Nat → Bool) (xs : List Int) (nn i j : Nat) : Nat → Nat → Bool := fun a b => if (a < i ∨ (a = i ∧ b < j)) ∧ b < nn then decide (xs.getD a 0 ≠ xs.getD b 0) else f a b
theorem rspl_start (f : Nat → Nat → Bool) (xs : List Int) (nn : Nat) : rspl f xs nn 0 0 = f := by
  funext a b
  simp [rspl]
theorem rspl_row (f : Nat → Nat → Bool) (xs : List Int) (nn i : Nat) : rspl f xs nn i nn = rspl f xs nn (i + 1) 0 := by
  funext a b
  unfold rspl
  by_cases e : (a < i ∨ (a = i ∧ b < nn)) ∧ b < nn
  · rw [if_pos e, if_pos (by omega)]
  · rw [if_neg e, if_neg (by omega)]
theorem rspl_next (f : Nat → Nat → Bool) (xs : List Int) (nn i j : Nat) (hj : j < nn) : upd2 (rspl f xs nn i j) i j (decide (xs.getD i 0 ≠ xs.getD j 0)) = rspl f xs nn i (j + 1) := by
  funext a b
  unfold upd2
  by_cases e : a = i ∧ b = j
  · obtain ⟨rfl, rfl⟩ := e
    rw [if_pos ⟨rfl, rfl⟩]
    unfold rspl
    rw [if_pos (by omega)]
  · rw [if_neg e]
    unfold rspl
    by_cases e2 : (a < i ∨ (a = i ∧ b < j)) ∧ b < nn
    · rw [if_pos e2, if_pos (by omega)]
    · rw [if_neg e2, if_neg (by omega)]
end
end Go.Proofs.Ytnhhjelplmdloaa.Et
namespace Go.Proofs.Ytnhhjelplmdloaa.Et
open Go.RowKit Go.Maps
set_option linter.unusedVariables false
set_option linter.unusedSimpArgs false
set_option maxRecDepth 100000
section
variable {R R' : Rn} {w w' : World} {B : Nat}
def newR (b n : Nat) (r : Int) (u s t : Nat) : Rn := ⟨b, n, r, 0, fun i => decide (i < u), fun i => if i < u then 1 else 0, fun _ => 0, fun _ _ => false, fun a c => if a < s ∨ (a = s ∧ c < t) then 1 else 0, none, 0, []⟩
theorem rep_at (A C : List Value) (m : Nat) (v : Value) (i : Nat) (h1 : A.length ≤ i) (h2 : i < A.length + m) : (A ++ (List.replicate m v ++ C))[i]? = some v := by
  rw [List.getElem?_append_right h1, List.getElem?_append_left (by rw [List.length_replicate]; omega), List.getElem?_replicate, if_pos (by omega)]
end
end Go.Proofs.Ytnhhjelplmdloaa.Et
namespace Go.Proofs.Ytnhhjelplmdloaa.Et
open Go.RowKit Go.Maps
set_option linter.unusedVariables false
set_option linter.unusedSimpArgs false
set_option maxRecDepth 100000
section
variable {R R' : Rn} {w w' : World} {B : Nat}
theorem far5 {W : World} {k i : Nat} {v0 v1 v2 v3 v4 u : Value} (h : W.cell? ⟨k, i, none⟩ = some u) : (((((W.setCell ⟨k + 1, 0, none⟩ v0).setCell ⟨k + 1, 1, none⟩ v1).setCell ⟨k + 1, 2, none⟩ v2).setCell ⟨k + 1, 3, none⟩ v3).setCell ⟨k + 1, 4, none⟩ v4).cell? ⟨k, i, none⟩ = some u := by
  rw [put5_eq]
  have kp : Kept W (put5 W (k + 1) v0 v1 v2 v3 v4) (fun j => j = k + 1) := put5_kept _ _ _ _ _ _
  generalize put5 W (k + 1) v0 v1 v2 v3 v4 = X at kp
  have hb := kp.block k (World.block_lt_of_cell? W _ h) (show ¬ k = k + 1 by omega)
  exact (World.cell?_of_block (w := W) (w' := X) hb).trans h
end
end Go.Proofs.Ytnhhjelplmdloaa.Et
namespace Go.Proofs.Ytnhhjelplmdloaa.Et
open Go.RowKit Go.Maps
set_option linter.unusedVariables false
set_option linter.unusedSimpArgs false
set_option maxRecDepth 100000
section
variable {R R' : Rn} {w w' W : World} {B : Nat} {cs : Array Value}
end
end Go.Proofs.Ytnhhjelplmdloaa.Et
namespace Go.Proofs.Ytnhhjelplmdloaa.Et
open Go.RowKit Go.Maps
set_option linter.unusedVariables false
set_option linter.unusedSimpArgs false
set_option maxRecDepth 100000
section
variable {R R' : Rn} {w w' W : World} {B : Nat}
theorem put5_new (X : World) (z0 z1 z2 z3 z4 v0 v1 v2 v3 v4 : Value) (t : TypeId) : (put5 (X.alloc (.cells #[z0, z1, z2, z3, z4] t)) X.heap.size v0 v1 v2 v3 v4).heap[X.heap.size]? = some (.cells #[v0, v1, v2, v3, v4] t (0, 0)) := put5_blk v0 v1 v2 v3 v4 (heap_alloc_new X _)
end
end Go.Proofs.Ytnhhjelplmdloaa.Et
namespace Go.Proofs.Ytnhhjelplmdloaa.Et
open Go.RowKit Go.Maps
set_option linter.unusedVariables false
set_option linter.unusedSimpArgs false
set_option maxRecDepth 100000
section
variable {R R' : Rn} {w w' W : World} {B : Nat}
end
end Go.Proofs.Ytnhhjelplmdloaa.Et
namespace Go.Proofs.Ytnhhjelplmdloaa.Et
open Go.RowKit Go.Maps
set_option linter.unusedVariables false
set_option linter.unusedSimpArgs false
set_option maxRecDepth 100000
section
variable {R R' : Rn} {w w' W : World} {B : Nat}
theorem pkCells_set (fs : List Px) (k : Nat) (hk : k < fs.length) (f' : Px) (j : Nat) (hj : j < 6) (v : Value) (h : f'.cs = (fs.getD k p0).cs.set j v) : pkCells (fs.set k f') = (pkCells fs).set (k * 6 + j) v := by
  induction fs generalizing k with
  | nil => simp at hk
  | cons f fs ih =>
    have hl : f.cs.length = 6 := rfl
    cases k with
    | zero =>
      simp only [List.set_cons_zero, pkCells, List.flatMap_cons, Nat.zero_mul, Nat.zero_add]
      rw [List.set_append_left _ _ (by rw [hl]; exact hj)]
      simp at h
      simp [h]
    | succ k =>
      have := ih k (by simpa using hk) (by simpa using h)
      simp only [pkCells, List.set_cons_succ, List.flatMap_cons] at this ⊢
      rw [this, List.set_append_right _ _ (by rw [hl]; omega), hl, show (k + 1) * 6 + j - 6 = k * 6 + j by omega]
theorem pmem_set {fs : List Px} {k : Nat} {f' f : Px} (h : f ∈ fs.set k f') : f = f' ∨ f ∈ fs := by
  rcases List.mem_or_eq_of_mem_set h with h | h
  · exact .inr h
  · exact .inl h
theorem pmem_getD {fs : List Px} {k : Nat} (hk : k < fs.length) : fs.getD k p0 ∈ fs := by
  simp [List.getD, hk]
theorem pgetD_f {fs : List Px} {k : Nat} (hk : k < fs.length) : (fs.map Px.f).getD k f0 = (fs.getD k p0).f := by
  simp [List.getD, hk]
theorem turned_tbl : ((List.range 256).all fun c => (List.range 8).all fun k => decide (flipB (c : Int) k = if ((c : Int) / 2 ^ k) % 2 = 1 then (c : Int) - 2 ^ k else (c : Int) + 2 ^ k)) = true := by kernel_rfl
theorem turned_is (c : Int) (k : Nat) (h0 : 0 ≤ c) (h1 : c ≤ 255) (hk : k < 8) : flipB c k = if (c / 2 ^ k) % 2 = 1 then c - 2 ^ k else c + 2 ^ k := by
  obtain ⟨n, rfl⟩ : ∃ n : Nat, c = n := ⟨c.toNat, by omega⟩
  have h2 := List.all_eq_true.1 turned_tbl n (List.mem_range.2 (by omega))
  exact of_decide_eq_true (List.all_eq_true.1 h2 k (List.mem_range.2 hk))
end
end Go.Proofs.Ytnhhjelplmdloaa.Et
namespace Go.Proofs.Ytnhhjelplmdloaa.Et
open Go.RowKit Go.Maps
set_option linter.unusedVariables false
set_option linter.unusedSimpArgs false
set_option maxRecDepth 100000
section
variable {R R' : Rn} {w w' W : World} {B : Nat}
theorem wrap_u8 {x : Int} (h0 : 0 ≤ x) (h1 : x ≤ 255) : IntKind.u8.wrap x = x := by
  simp only [IntKind.wrap, IntKind.bits, IntKind.signed]
  simp
  omega
end
end Go.Proofs.Ytnhhjelplmdloaa.Et
namespace Go.Proofs.Ytnhhjelplmdloaa.Et
open Go.RowKit Go.Maps
set_option linter.unusedVariables false
set_option linter.unusedSimpArgs false
set_option maxRecDepth 100000
section
variable {R R' : Rn} {w w' W : World} {B : Nat}
def rbar (R : Rn) (p q : Nat) : Int := if R.shut p q then 30 else if R.up q then 0 else 32
end
end Go.Proofs.Ytnhhjelplmdloaa.Et
namespace Go.Proofs.Ytnhhjelplmdloaa.Et
open Go.RowKit Go.Maps
set_option linter.unusedVariables false
set_option linter.unusedSimpArgs false
set_option maxRecDepth 100000
section
variable {R R' : Rn} {w w' W : World} {B : Nat}
end
end Go.Proofs.Ytnhhjelplmdloaa.Et
namespace Go.Proofs.Ytnhhjelplmdloaa.Et
open Go.RowKit Go.Maps
set_option linter.unusedVariables false
set_option linter.unusedSimpArgs false
set_option maxRecDepth 100000
section
variable {R R' : Rn} {w w' W : World} {B : Nat}
end
end Go.Proofs.Ytnhhjelplmdloaa.Et
namespace Go.Proofs.Ytnhhjelplmdloaa.Et
open Go.RowKit Go.Maps
set_option linter.unusedVariables false
set_option linter.unusedSimpArgs false
set_option maxRecDepth 100000
section
variable {R R' : Rn} {w w' W : World} {B : Nat}
end
end Go.Proofs.Ytnhhjelplmdloaa.Et
namespace Go.Proofs.Ytnhhjelplmdloaa.Et
open Go.RowKit Go.Maps
set_option linter.unusedVariables false
set_option linter.unusedSimpArgs false
set_option maxRecDepth 100000
section
variable {R R' : Rn} {w w' W : World} {B : Nat}
theorem pkCells_same (fs : List Px) (k : Nat) (hk : k < fs.length) (p' : Px) (h : p'.cs = (fs.getD k p0).cs) : pkCells (fs.set k p') = pkCells fs := by
  induction fs generalizing k with
  | nil => simp at hk
  | cons f fs ih =>
    cases k with
    | zero =>
      simp at h
      simp [pkCells, h]
    | succ k =>
      have := ih k (by simpa using hk) (by simpa using h)
      simp only [pkCells, List.set_cons_succ, List.flatMap_cons] at this ⊢
      rw [this]
end
end Go.Proofs.Ytnhhjelplmdloaa.Et
namespace Go.Proofs.Ytnhhjelplmdloaa.Et
open Go.RowKit Go.Maps
set_option linter.unusedVariables false
set_option linter.unusedSimpArgs false
set_option maxRecDepth 100000
section
variable {R R' : Rn} {w w' W : World} {B : Nat}
end
end Go.Proofs.Ytnhhjelplmdloaa.Et
namespace Go.Proofs.Ytnhhjelplmdloaa.Et
open Go.RowKit Go.Maps
set_option linter.unusedVariables false
set_option linter.unusedSimpArgs false
set_option maxRecDepth 100000
def ng (p : Px) : Bool := !p.gone
def pd (p : Px) : Fd := p.f.d
theorem liveN_at (R : Rn) : ∀ n k, k < (liveN R n).length → liveN R ((liveN R n).getD k 0) = (liveN R n).take k ∧ (liveN R n).getD k 0 < n ∧ (R.all.getD ((liveN R n).getD k 0) p0).gone = false
  | 0, k, h => by simp [liveN] at h
  | n + 1, k, h => by
    rw [liveN_next] at h ⊢
    cases hg : (R.all.getD n p0).gone with
    | true =>
      rw [hg] at h
      simp only [if_true, List.append_nil] at h ⊢
      obtain ⟨a, b, c⟩ := liveN_at R n k h
      exact ⟨a, by omega, c⟩
    | false =>
      rw [hg] at h
      simp only [Bool.false_eq_true, if_false, List.length_append, List.length_cons, List.length_nil] at h ⊢
      by_cases hk : k < (liveN R n).length
      · obtain ⟨a, b, c⟩ := liveN_at R n k hk
        have e : (liveN R n ++ [n]).getD k 0 = (liveN R n).getD k 0 := by simp [List.getD, List.getElem?_append_left hk]
        rw [e, List.take_append_of_le_length (by omega)]
        exact ⟨a, by omega, c⟩
      · obtain rfl : k = (liveN R n).length := by omega
        have e : (liveN R n ++ [n]).getD (liveN R n).length 0 = n := by simp [List.getD]
        rw [e]
        exact ⟨by simp, by omega, hg⟩
theorem ptake_next {ps : List Px} {k : Nat} (hk : k < ps.length) : ps.take (k + 1) = ps.take k ++ [ps.getD k p0] := by
  rw [List.take_succ_eq_append_getElem hk]
  simp [List.getD, List.getElem?_eq_getElem hk]
theorem liveN_map (R : Rn) : ∀ k, k ≤ R.all.length → (liveN R k).map (fun i => R.all.getD i p0) = (R.all.take k).filter ng
  | 0, _ => by simp [liveN]
  | k + 1, h => by
    rw [liveN_next, List.map_append, liveN_map R k (by omega), ptake_next (by omega), List.filter_append]
    cases hg : (R.all.getD k p0).gone with
    | true => simp only [if_true, List.map_nil, List.filter_cons, List.filter_nil, ng, hg, Bool.not_true, Bool.false_eq_true, if_false]
    | false => simp only [Bool.false_eq_true, if_false, List.map_cons, List.map_nil, List.filter_cons, List.filter_nil, ng, hg, Bool.not_false, if_true]
theorem live_map (R : Rn) : (live R).map (fun i => R.all.getD i p0) = R.all.filter ng := by
  have := liveN_map R R.all.length (Nat.le_refl _)
  rw [List.take_length] at this
  exact this
theorem live_len (R : Rn) : (live R).length = (R.all.filter ng).length := by rw [← live_map, List.length_map]
theorem live_split (R : Rn) (k : Nat) (hk : k < (live R).length) : ∃ A p C, R.all = A ++ p :: C ∧ A.length = (live R).getD k 0 ∧ p.gone = false ∧ (A.filter ng).length = k ∧ R.all.getD ((live R).getD k 0) p0 = p := by
  obtain ⟨h1, h2, h3⟩ := liveN_at R R.all.length k hk
  change liveN R ((live R).getD k 0) = (live R).take k at h1
  change (live R).getD k 0 < R.all.length at h2
  change (R.all.getD ((live R).getD k 0) p0).gone = false at h3
  generalize (live R).getD k 0 = i at h1 h2 h3
  refine ⟨R.all.take i, R.all.getD i p0, R.all.drop (i + 1), ?_, by simp; omega, h3, ?_, rfl⟩
  · have e : R.all.getD i p0 = R.all[i] := by simp [List.getD, List.getElem?_eq_getElem h2]
    rw [e, List.getElem_cons_drop]
    exact (List.take_append_drop i R.all).symm
  · have := liveN_map R i (by omega)
    rw [← this, List.length_map, h1, List.length_take]
    omega
structure Sim (E : En) (R : Rn) (K : Nat) : Prop where
  nn : R.nn = E.nn
  room : R.room = E.room
  r1 : 1 ≤ E.room ∧ E.room ≤ 20000
  now : R.now = E.clock
  last : E.last = R.all.length
  len : R.all.length ≤ K
  nod : ∀ p, p < E.nn → R.up p = E.up p ∧ R.inc p = E.inc p ∧ R.tick p = E.tick p
  pat : ∀ p q, p < E.nn → q < E.nn → p ≠ q → R.shut p q = E.cut p q ∧ R.slow p q = E.dl p q
  fs : E.fs.map Fx.d = (R.all.filter ng).map pd
  szE : ∀ f ∈ E.fs, f.n ≤ 40000
  szR : ∀ p ∈ R.all, p.f.n ≤ 40000
  few : (E.fs.length : Int) ≤ E.room
section
variable {E E' : En} {R R' : Rn} {w w' w1 w2 w3 : World} {B K m : Nat}
theorem Sim.lvl (s : Sim E R K) : (live R).length = E.fs.length := by
  rw [live_len, ← List.length_map (f := pd), ← s.fs, List.length_map]
theorem Sim.mono {K' : Nat} (s : Sim E R K) (h : K ≤ K') : Sim E R K' := ⟨s.nn, s.room, s.r1, s.now, s.last, Nat.le_trans s.len h, s.nod, s.pat, s.fs, s.szE, s.szR, s.few⟩
end
end Go.Proofs.Ytnhhjelplmdloaa.Et
namespace Go.Proofs.Ytnhhjelplmdloaa.Et
open Go.RowKit Go.Maps
set_option linter.unusedVariables false
set_option linter.unusedSimpArgs false
set_option maxRecDepth 100000
section
variable {E E' : En} {R R' : Rn} {w w' w1 w2 w3 : World} {B K m : Nat}
theorem Sim.nodes (s : Sim E R K) (up up' : Nat → Bool) (inc inc' tick tick' : Nat → Int) (h : ∀ p, p < E.nn → up' p = up p ∧ inc' p = inc p ∧ tick' p = tick p) : Sim { E with up := up, inc := inc, tick := tick } { R with up := up', inc := inc', tick := tick' } (K + 1) :=
  ⟨s.nn, s.room, s.r1, s.now, s.last, Nat.le_succ_of_le s.len, h, s.pat, s.fs, s.szE, s.szR, s.few⟩
theorem Sim.paths (s : Sim E R K) (cut shut : Nat → Nat → Bool) (dl slow : Nat → Nat → Int) (h : ∀ p q, p < E.nn → q < E.nn → p ≠ q → shut p q = cut p q ∧ slow p q = dl p q) : Sim { E with cut := cut, dl := dl } { R with shut := shut, slow := slow } (K + 1) :=
  ⟨s.nn, s.room, s.r1, s.now, s.last, Nat.le_succ_of_le s.len, s.nod, h, s.fs, s.szE, s.szR, s.few⟩
theorem upd1_eq {α : Type} {f g : Nat → α} {k p : Nat} {x : α} (h : f p = g p) : upd1 f k x p = upd1 g k x p := by simp only [upd1]; rw [h]
theorem upd2_eq {α : Type} {f g : Nat → Nat → α} {a b p q : Nat} {x : α} (h : f p q = g p q) : upd2 f a b x p q = upd2 g a b x p q := by simp only [upd2]; rw [h]
theorem Sim.tick (s : Sim E R K) (k : Nat) (hk : k < E.nn) : Sim { E with tick := upd1 E.tick k (wrap64 (E.tick k + 1)) } { R with tick := upd1 R.tick k (wrap64 (R.tick k + 1)) } (K + 1) := by
  rw [(s.nod k hk).2.2]
  exact s.nodes E.up R.up E.inc R.inc _ _ (fun p hp => ⟨(s.nod p hp).1, (s.nod p hp).2.1, upd1_eq (s.nod p hp).2.2⟩)
theorem Sim.crash (s : Sim E R K) (k : Nat) : Sim { E with up := upd1 E.up k false } { R with up := upd1 R.up k false } (K + 1) :=
  s.nodes _ _ E.inc R.inc E.tick R.tick (fun p hp => ⟨upd1_eq (s.nod p hp).1, (s.nod p hp).2.1, (s.nod p hp).2.2⟩)
theorem Sim.restart (s : Sim E R K) (k : Nat) (hk : k < E.nn) : Sim { E with up := upd1 E.up k true, inc := upd1 E.inc k (wrap64 (E.inc k + 1)), tick := upd1 E.tick k 0 } { R with up := upd1 R.up k true, inc := upd1 R.inc k (wrap64 (R.inc k + 1)), tick := upd1 R.tick k 0 } (K + 1) := by
  rw [(s.nod k hk).2.1]
  exact s.nodes _ _ _ _ _ _ (fun p hp => ⟨upd1_eq (s.nod p hp).1, upd1_eq (s.nod p hp).2.1, upd1_eq (s.nod p hp).2.2⟩)
theorem Sim.cutting (s : Sim E R K) (a b : Nat) (x : Bool) : Sim { E with cut := upd2 E.cut a b x } { R with shut := upd2 R.shut a b x } (K + 1) :=
  s.paths _ _ E.dl R.slow (fun p q hp hq hpq => ⟨upd2_eq (s.pat p q hp hq hpq).1, (s.pat p q hp hq hpq).2⟩)
theorem Sim.slowing (s : Sim E R K) (a b : Nat) (x : Int) : Sim { E with dl := upd2 E.dl a b x } { R with slow := upd2 R.slow a b x } (K + 1) :=
  s.paths E.cut R.shut _ _ (fun p q hp hq hpq => ⟨(s.pat p q hp hq hpq).1, upd2_eq (s.pat p q hp hq hpq).2⟩)
theorem Sim.splits (s : Sim E R K) (xs : List Int) : Sim { E with cut := spl E.cut xs E.nn E.nn 0 } { R with shut := rspl R.shut xs R.nn R.nn 0 } (K + 1) :=
  s.paths _ _ E.dl R.slow (fun p q hp hq hpq => ⟨by
    simp only [spl, rspl, s.nn]
    rw [if_pos ⟨.inl hp, hq⟩, if_pos ⟨.inl hp, hq, hpq⟩], (s.pat p q hp hq hpq).2⟩)
theorem Sim.same (s : Sim E R K) : Sim E R (K + 1) := s.mono (Nat.le_succ _)
theorem Sim.nxt (s : Sim E R K) (hK : K ≤ 2199023255551) : wN E = (R.all.length : Int) + 1 := by
  have := s.len
  unfold wN
  rw [s.last, wrap_eq]
  exact wrap_id (by omega) (by omega)
theorem Sim.add (s : Sim E R K) (hK : K ≤ 2199023255551) (f : Fx) (p : Px) (hg : p.gone = false) (hd : f.d = p.f.d) (h1 : f.n ≤ 40000) (h2 : p.f.n ≤ 40000) (hl : (E.fs.length : Int) < E.room) (a a' : Option Addr) (c c' : Nat) : Sim (added E f a c) { R with va := a', vc := c', all := R.all ++ [p] } (K + 1) := by
  refine ⟨s.nn, s.room, s.r1, s.now, ?_, ?_, s.nod, s.pat, ?_, ?_, ?_, ?_⟩
  · show wN E = _
    rw [s.nxt hK]; simp
  · have := s.len; simp; omega
  · show (E.fs ++ [f]).map Fx.d = _
    rw [List.map_append, List.filter_append, List.map_append, s.fs]
    simp [List.filter_cons, ng, hg, pd, hd]
  · intro x hx
    rcases List.mem_append.1 hx with hx | hx
    · exact s.szE x hx
    · obtain rfl := List.mem_singleton.1 hx; exact h1
  · intro x hx
    rcases List.mem_append.1 hx with hx | hx
    · exact s.szR x hx
    · obtain rfl := List.mem_singleton.1 hx; exact h2
  · show ((E.fs ++ [f]).length : Int) ≤ E.room
    simp; omega
theorem set_mid {α : Type} (A : List α) (p q : α) (C : List α) : (A ++ p :: C).set A.length q = A ++ q :: C := by
  rw [List.set_append_right _ _ (Nat.le_refl _)]; simp
theorem Sim.split (s : Sim E R K) (k : Nat) (hk : k < E.fs.length) : ∃ A p C FA f FC, R.all = A ++ p :: C ∧ A.length = (live R).getD k 0 ∧ p.gone = false ∧ R.all.getD ((live R).getD k 0) p0 = p ∧ E.fs = FA ++ f :: FC ∧ FA.length = k ∧ E.fs.getD k f0 = f ∧ f.d = p.f.d ∧ FA.map Fx.d = (A.filter ng).map pd ∧ FC.map Fx.d = (C.filter ng).map pd := by
  obtain ⟨A, p, C, h1, h2, h3, h4, h5⟩ := live_split R k (by rw [s.lvl]; exact hk)
  have hf := s.fs
  rw [h1, List.filter_append, List.filter_cons, if_pos (by simp [ng, h3]), List.map_append, List.map_cons] at hf
  obtain ⟨FA, F2, e1, e2, e3⟩ := List.map_eq_append_iff.1 hf
  obtain ⟨f, FC, e4, e5, e6⟩ := List.map_eq_cons_iff.1 e3
  subst e4
  have hl : FA.length = k := by rw [← List.length_map (f := Fx.d), e2, List.length_map, h4]
  refine ⟨A, p, C, FA, f, FC, h1, h2, h3, h5, e1, hl, ?_, e5, e2, e6⟩
  rw [e1, ← hl]
  simp [List.getD]
theorem Sim.at (s : Sim E R K) (k : Nat) (hk : k < E.fs.length) : (E.fs.getD k f0).d = (R.all.getD ((live R).getD k 0) p0).f.d ∧ (live R).getD k 0 < R.all.length := by
  obtain ⟨A, p, C, FA, f, FC, h1, h2, h3, h4, h5, h6, h7, h8, h9, h10⟩ := s.split k hk
  rw [h7, h4]
  refine ⟨h8, ?_⟩
  rw [← h2, h1]
  simp
theorem mem_eraseIdx {l : List Fx} {k : Nat} {x : Fx} (h : x ∈ l.eraseIdx k) : x ∈ l := List.mem_of_mem_eraseIdx h
theorem Sim.erase (s : Sim E R K) (k : Nat) (hk : k < E.fs.length) (a : Option Addr) (c : Nat) : Sim { E with va := a, vc := c, fs := E.fs.eraseIdx k } { R with all := R.all.set ((live R).getD k 0) { (R.all.getD ((live R).getD k 0) p0) with gone := true } } (K + 1) := by
  obtain ⟨A, p, C, FA, f, FC, h1, h2, h3, h4, h5, h6, h7, h8, h9, h10⟩ := s.split k hk
  refine ⟨s.nn, s.room, s.r1, s.now, ?_, ?_, s.nod, s.pat, ?_, ?_, ?_, ?_⟩
  · show E.last = _
    rw [s.last]; simp
  · have := s.len; simp; omega
  · show (E.fs.eraseIdx k).map Fx.d = _
    rw [h4, ← h2, h1, set_mid, h5, ← h6, List.eraseIdx_append_of_length_le (Nat.le_refl _)]
    simp [List.filter_append, List.filter_cons, ng, h9, h10]
  · exact fun x hx => s.szE x (mem_eraseIdx hx)
  · intro x hx
    rcases pmem_set hx with rfl | hx
    · exact (s.szR (R.all.getD ((live R).getD k 0) p0) (pmem_getD (s.at k hk).2) :)
    · exact s.szR x hx
  · have := s.few
    show ((E.fs.eraseIdx k).length : Int) ≤ E.room
    rw [List.length_eraseIdx]; split <;> omega
theorem Sim.put (s : Sim E R K) (k : Nat) (hk : k < E.fs.length) (f' : Fx) (p' : Px) (hg : p'.gone = false) (hd : f'.d = p'.f.d) (h1' : f'.n ≤ 40000) (h2' : p'.f.n ≤ 40000) : Sim { E with fs := E.fs.set k f' } { R with all := R.all.set ((live R).getD k 0) p' } (K + 1) := by
  obtain ⟨A, p, C, FA, f, FC, h1, h2, h3, h4, h5, h6, h7, h8, h9, h10⟩ := s.split k hk
  refine ⟨s.nn, s.room, s.r1, s.now, ?_, ?_, s.nod, s.pat, ?_, ?_, ?_, ?_⟩
  · show E.last = _
    rw [s.last]; simp
  · have := s.len; simp; omega
  · show (E.fs.set k f').map Fx.d = _
    rw [← h2, h1, set_mid, h5, ← h6, set_mid]
    simp only [List.filter_append, List.filter_cons, List.map_append, List.map_cons, h9]
    rw [if_pos (by simp [ng, hg])]
    simp only [List.map_cons, h10, hd, pd]
  · intro x hx
    rcases mem_set hx with rfl | hx
    · exact h1'
    · exact s.szE x hx
  · intro x hx
    rcases pmem_set hx with rfl | hx
    · exact h2'
    · exact s.szR x hx
  · have := s.few
    show ((E.fs.set k f').length : Int) ≤ E.room
    simpa using this
theorem Sim.gone (s : Sim E R K) (k : Nat) (hk : k < E.fs.length) : (R.all.getD ((live R).getD k 0) p0).gone = false := by
  obtain ⟨A, p, C, FA, f, FC, h1, h2, h3, h4, h5, h6, h7, h8, h9, h10⟩ := s.split k hk
  rw [h4]; exact h3
theorem Sim.place (s : Sim E R K) (k : Nat) (hk : k < E.fs.length) : atN R k = ((live R).getD k 0 : Nat) := by
  have := s.lvl
  unfold atN
  rw [if_pos (by omega)]
  simp
theorem Sim.noPlace (s : Sim E R K) (k : Int) (hk : ¬ (0 ≤ k ∧ k < E.fs.length)) : atN R k = -1 := by
  have := s.lvl
  unfold atN
  rw [if_neg (by omega)]
def gnd (c : Int) (p : Px) : Px := if p.gone then p else if p.f.due = c then { p with gone := true } else p
def rcomes (R : Rn) (c : Int) (p : Px) : Bool := !p.gone && (decide (p.f.due = c) && decide (rbar R p.f.src.toNat p.f.dst.toNat = 0))
def dcomes (E : En) (c : Int) (d : Fd) : Bool := decide (d.due = c) && decide (barE E d.src.toNat d.dst.toNat = 0)
theorem gnd_filter (c : Int) : ∀ ps : List Px, ((ps.map (gnd c)).filter ng).map pd = ((ps.filter ng).map pd).filter (fun d => decide (d.due ≠ c))
  | [] => rfl
  | p :: ps => by
    have ih := gnd_filter c ps
    simp only [List.map_cons, List.filter_cons]
    cases hg : p.gone with
    | true => simp [gnd, ng, hg, ih]
    | false =>
      by_cases hd : p.f.due = c
      · simp [gnd, ng, hg, hd, ih, pd, Fx.d]
      · simp [gnd, ng, hg, hd, ih, pd, Fx.d]
theorem rcomes_filter (R : Rn) (c : Int) (q : Fd → Bool) : ∀ ps : List Px, (∀ p ∈ ps, p.gone = false → q (pd p) = (decide (p.f.due = c) && decide (rbar R p.f.src.toNat p.f.dst.toNat = 0))) → (ps.filter (rcomes R c)).map pd = ((ps.filter ng).map pd).filter q
  | [], _ => rfl
  | p :: ps, h => by
    have ih := rcomes_filter R c q ps (fun x hx => h x (List.mem_cons_of_mem _ hx))
    have h0 := h p (List.mem_cons_self ..)
    simp only [List.filter_cons]
    cases hg : p.gone with
    | true => simp [rcomes, ng, hg, ih]
    | false =>
      have h1 := h0 hg
      cases hq : q (pd p) with
      | true => rw [hq] at h1; simp [rcomes, ng, hg, ih, ← h1, hq]
      | false => rw [hq] at h1; simp [rcomes, ng, hg, ih, ← h1, hq]
theorem Sim.bar (s : Sim E R K) {p q : Nat} (hp : p < E.nn) (hq : q < E.nn) (hpq : p ≠ q) : rbar R p q = barE E p q := by
  unfold rbar barE
  rw [(s.pat p q hp hq hpq).1, (s.nod q hq).1]
theorem Sim.clock (s : Sim E R K) : wrap64 (R.now + 1) = ckN E := by rw [s.now]; rfl
theorem gnd_f (c : Int) (p : Px) : (gnd c p).f = p.f := by unfold gnd; split; rfl; split <;> rfl
theorem Sim.round (s : Sim E R K) : Sim { E with clock := ckN E, fs := E.fs.filter (stays E) } { R with now := ckN E, all := R.all.map (gnd (ckN E)) } (K + 1) := by
  refine ⟨s.nn, s.room, s.r1, rfl, ?_, ?_, s.nod, s.pat, ?_, ?_, ?_, ?_⟩
  · show E.last = _
    rw [s.last]; simp
  · have := s.len; simp; omega
  · show (E.fs.filter (stays E)).map Fx.d = _
    have h1 : (E.fs.filter (stays E)).map Fx.d = (E.fs.map Fx.d).filter (fun d => decide (d.due ≠ ckN E)) := by
      rw [List.filter_map]; rfl
    rw [h1, s.fs, gnd_filter]
  · exact fun x hx => s.szE x (List.mem_filter.1 hx).1
  · intro x hx
    obtain ⟨p, hp, rfl⟩ := List.mem_map.1 hx
    rw [gnd_f]; exact s.szR p hp
  · have := s.few
    have h2 := List.length_filter_le (stays E) E.fs
    show ((E.fs.filter (stays E)).length : Int) ≤ E.room
    omega
end
end Go.Proofs.Ytnhhjelplmdloaa.Et
namespace Go.Proofs.Ytnhhjelplmdloaa.Et
open Go.RowKit Go.Maps
set_option linter.unusedVariables false
set_option linter.unusedSimpArgs false
set_option maxRecDepth 100000
section
variable {R R' : Rn} {w w' wr : World} {B B0 : Nat}
def OutL (B0 : Nat) (wr : World) (v : Value) (ds : List Fd) : Prop := ∃ L : List Fx, L.map Fx.d = ds ∧ wr.ownsRow B0 43 5 v L.length (flCells L) ∧ ∀ f ∈ L, f.byt wr B0
theorem OutL.nil (B0 : Nat) (wr : World) : OutL B0 wr (.slice none 0 0) [] := ⟨[], rfl, ⟨rfl, .inl ⟨rfl, rfl⟩⟩, fun f hf => by cases hf⟩
theorem OutL.keep {P : Nat → Prop} {v : Value} {ds : List Fd} (h : OutL B0 w v ds) (k : Kept w w' P) (hp : ∀ j, B0 ≤ j → ¬ P j) : OutL B0 w' v ds := by
  obtain ⟨L, h1, h2, h3⟩ := h
  exact ⟨L, h1, k.owns h2 (fun j hj => hp j (World.ownsRow.lt h2 j hj).1), fun f hf => (h3 f hf).keep k (fun j hj => hp j (World.ownsRow.lt (h3 f hf).1 j hj).1)⟩
theorem OutL.still {v : Value} {ds : List Fd} (h : OutL B0 w v ds) (hb : Below w.heap.size w w') : OutL B0 w' v ds := h.keep (Kept.ofBelow hb (fun _ => False)) (fun _ _ => id)
theorem OutL.push {X X' : World} {v v' : Value} {L : List Fx} {f : Fx} {n : Nat} (h2 : X.ownsRow B0 43 5 v L.length (flCells L)) (h3 : ∀ f ∈ L, f.byt X B0) (hf : f.byt X B0) (hn : n = L.length + 1) (ho : X'.ownsRow B0 43 5 v' n (flCells L ++ f.cs.toList)) (hg : X.grownBy X' v.ownBlock) : OutL B0 X' v' ((L ++ [f]).map Fx.d) := by
  have kp := Kept.ofGrown hg
  refine ⟨L ++ [f], rfl, ?_, ?_⟩
  · rw [flCells_app]
    subst hn
    simpa [flCells] using ho
  · intro x hx
    have hx2 : x.byt X B0 := by
      rcases List.mem_append.1 hx with hx | hx
      · exact h3 x hx
      · obtain rfl := List.mem_singleton.1 hx; exact hf
    exact hx2.keep kp (fun j hj e => own_ty hx2.1 h2 (by decide) hj e.symm)
theorem OutL.rdf {v : Value} {ds : List Fd} (h : OutL B0 w v ds) : ∃ a n c, v = .slice a n c ∧ RdF w a n ds := by
  obtain ⟨L, h1, h2, h3⟩ := h
  obtain ⟨a, c, rfl⟩ := own_shape (B' := 0) h2
  exact ⟨a, L.length, c, rfl, L, h1, rfl, fun f hf => (h3 f hf).rd, row_cells h2 rfl⟩
end
end Go.Proofs.Ytnhhjelplmdloaa.Et
namespace Go.Proofs.Ytnhhjelplmdloaa.Et
open Go.RowKit Go.Maps
set_option linter.unusedVariables false
set_option linter.unusedSimpArgs false
set_option maxRecDepth 100000
section
variable {R R' : Rn} {w w' wr : World} {B B0 : Nat}
def allk (c : Int) (ps : List Px) (k : Nat) : List Px := (ps.take k).map (gnd c) ++ ps.drop k
theorem allk_len (c : Int) (ps : List Px) (k : Nat) : (allk c ps k).length = ps.length := by
  simp [allk]; omega
theorem pdrop {ps : List Px} {k : Nat} (hk : k < ps.length) : ps.drop k = ps.getD k p0 :: ps.drop (k + 1) := by
  rw [List.drop_eq_getElem_cons hk]
  simp [List.getD, List.getElem?_eq_getElem hk]
theorem allk_at (c : Int) {ps : List Px} {k : Nat} (hk : k < ps.length) : (allk c ps k).getD k p0 = ps.getD k p0 := by
  have hl : ((ps.take k).map (gnd c)).length = k := by simp; omega
  unfold allk
  rw [pdrop hk]
  generalize ps.getD k p0 = x
  simp only [List.getD]
  rw [List.getElem?_append_right (by omega), hl]
  simp
theorem allk_next (c : Int) {ps : List Px} {k : Nat} (hk : k < ps.length) : allk c ps (k + 1) = (allk c ps k).set k (gnd c (ps.getD k p0)) := by
  have hl : ((ps.take k).map (gnd c)).length = k := by simp; omega
  unfold allk
  rw [pdrop hk, ptake_next hk, List.map_append]
  have := set_mid ((ps.take k).map (gnd c)) (ps.getD k p0) (gnd c (ps.getD k p0)) (ps.drop (k + 1))
  rw [hl] at this
  rw [this]
  simp
theorem allk_stay (c : Int) {ps : List Px} {k : Nat} (hk : k < ps.length) (hg : gnd c (ps.getD k p0) = ps.getD k p0) : allk c ps (k + 1) = allk c ps k := by
  rw [allk_next c hk, hg]
  apply List.ext_getElem?
  intro i
  rw [List.getElem?_set]
  split
  · next e =>
    subst e
    have h1 := allk_at c hk
    have h2 : k < (allk c ps k).length := by rw [allk_len]; exact hk
    rw [if_pos h2, ← h1]
    simp [List.getD, List.getElem?_eq_getElem h2]
  · rfl
theorem allk_zero (c : Int) (ps : List Px) : allk c ps 0 = ps := by simp [allk]
theorem allk_all (c : Int) (ps : List Px) : allk c ps ps.length = ps.map (gnd c) := by simp [allk]
theorem come_next (q : Px → Bool) {ps : List Px} {k : Nat} (hk : k < ps.length) : ((ps.take (k + 1)).filter q).map pd = ((ps.take k).filter q).map pd ++ (if q (ps.getD k p0) then [pd (ps.getD k p0)] else []) := by
  rw [ptake_next hk, List.filter_append, List.map_append]
  generalize ps.getD k p0 = x
  cases h : q x <;> simp [List.filter_cons, h]
def rk (R : Rn) (c : Int) (k : Nat) : Rn := { R with now := c, all := allk c R.all k }
theorem rk_own {R : Rn} {c : Int} {k j : Nat} (h : (rk R c k).own j) : R.own j := by
  rcases h with h | h | ⟨p, hp, h⟩
  · exact .inl h
  · refine .inr (.inl ?_)
    have e : (rk R c k).all.length = R.all.length := allk_len _ _ _
    rw [e] at h
    exact h
  · refine .inr (.inr ?_)
    rcases List.mem_append.1 hp with hp | hp
    · obtain ⟨p', hp', rfl⟩ := List.mem_map.1 hp
      rw [gnd_f] at h
      exact ⟨p', List.mem_of_mem_take hp', h⟩
    · exact ⟨p, List.mem_of_mem_drop hp, h⟩
end
end Go.Proofs.Ytnhhjelplmdloaa.Et
namespace Go.Proofs.Ytnhhjelplmdloaa.Et
open Go.RowKit Go.Maps
set_option linter.unusedVariables false
set_option linter.unusedSimpArgs false
set_option maxRecDepth 100000
section
variable {R R' : Rn} {w w' W : World} {B : Nat}
theorem set_far {W : World} {k i g j : Nat} {u v : Value} (h : W.cell? ⟨k, i, none⟩ = some u) (hne : k ≠ g) : (W.setCell ⟨g, j, none⟩ v).cell? ⟨k, i, none⟩ = some u := by
  have kp := kset (P := fun q => q = g) W g j v rfl
  have hb := kp.block k (World.block_lt_of_cell? W _ h) hne
  exact (World.cell?_of_block (w := W) hb).trans h
end
end Go.Proofs.Ytnhhjelplmdloaa.Et
namespace Go.Proofs.Ytnhhjelplmdloaa.Et
open Go.RowKit Go.Maps
set_option linter.unusedVariables false
set_option linter.unusedSimpArgs false
set_option maxRecDepth 100000
section
variable {R R' : Rn} {w w' W w1 : World} {B m : Nat}
end
end Go.Proofs.Ytnhhjelplmdloaa.Et
namespace Go.Proofs.Ytnhhjelplmdloaa.Et
open Go.RowKit Go.Maps
set_option linter.unusedVariables false
set_option linter.unusedSimpArgs false
set_option maxRecDepth 100000
section
variable {w w' W w1 : World} {B m : Nat}
theorem conv_rd {ao : Option Addr} {n c : Nat} {bs : List Int} (h : Rd w ao n c bs) : (convert 35 9 (.slice ao n c)).run Try.prog w = .ok (.string (strOfNums bs)) w := by
  obtain ⟨h1, h2, h3, h4⟩ := h
  cases ao with
  | none =>
    obtain ⟨rfl, rfl⟩ := h2 rfl
    obtain rfl : bs = [] := List.eq_nil_of_length_eq_zero h1
    exact run_convert_bytes_nil w 35 5 Try.underlying35 Try.underlying5 0 0 9 Try.underlying9
  | some a =>
    rcases h3 with h3 | ⟨b, off, hab, hc⟩
    · subst h3
      obtain rfl : bs = [] := List.eq_nil_of_length_eq_zero h1
      rw [run_convert_bytes_string w 35 9 5 _ 0 c Try.underlying35 Try.underlying5 Try.underlying9, run_bytesToString w a 0 c [] (by simpa using run_loadCells_list (P := Try.prog) w a [] (fun j v hj => by simp at hj))]
      rfl
    · obtain rfl : a = ⟨b, off, none⟩ := by simpa using hab
      exact run_convert_bytes_arg w 35 5 Try.underlying35 Try.underlying5 b off n c bs h1 hc 9 Try.underlying9
set_option maxHeartbeats 400000 in
theorem same_any {a1 a2 : Option Addr} {n c1 c2 : Nat} {bs : List Int} (h1 : Rd w a1 n c1 bs) (h2 : Rd w a2 n c2 bs) : Calls Try.prog 28 #[.slice a1 n c1, .slice a2 n c2] w fun e w' => e = .returned (.bool true) ∧ w = w' := by
  have k1 := conv_rd h1
  have k2 := conv_rd h2
  generalize strOfNums bs = S at k1 k2
  clear h1 h2
  go_enter Try.func28, Try.ntmps28
  go_wp2
  go_ret
  exact ⟨by simp, rfl⟩
set_option maxHeartbeats 400000 in
theorem alike_any (fi fs fd fu : Int) {a1 a2 : Option Addr} {n c1 c2 : Nat} {bs : List Int} (h1 : Rd w a1 n c1 bs) (h2 : Rd w a2 n c2 bs) : Calls Try.prog 39 #[.agg #[.int .i64 fi, .int .i64 fs, .int .i64 fd, .int .i64 fu, .slice a1 n c1], .agg #[.int .i64 fi, .int .i64 fs, .int .i64 fd, .int .i64 fu, .slice a2 n c2]] w fun e w' => e = .returned (.bool true) ∧ Below w.heap.size w w' := by
  generalize hW : (w.alloc (.cells #[.int .i64 fi, .int .i64 fs, .int .i64 fd, .int .i64 fu, .slice a1 n c1] 43)).alloc (.cells #[.int .i64 fi, .int .i64 fs, .int .i64 fd, .int .i64 fu, .slice a2 n c2] 43) = W
  have hbW : Below w.heap.size w W := by rw [← hW]; exact balloc (balloc (Below.refl _ w))
  obtain ⟨d0, d1, d2, d3, d4⟩ := fl_cells (show W.heap[w.heap.size]? = some (.cells #[.int .i64 fi, .int .i64 fs, .int .i64 fd, .int .i64 fu, .slice a1 n c1] 43 (0, 0)) by rw [← hW]; exact blk_alloc (heap_alloc_new w _))
  obtain ⟨e0, e1, e2, e3, e4⟩ := fl_cells (show W.heap[w.heap.size + 1]? = some (.cells #[.int .i64 fi, .int .i64 fs, .int .i64 fd, .int .i64 fu, .slice a2 n c2] 43 (0, 0)) by
    rw [← hW]
    have := heap_alloc_new (w.alloc (.cells #[.int .i64 fi, .int .i64 fs, .int .i64 fd, .int .i64 fu, .slice a1 n c1] 43)) (.cells #[.int .i64 fi, .int .i64 fs, .int .i64 fd, .int .i64 fu, .slice a2 n c2] 43)
    simpa using this)
  have HS := same_any (h1.still hbW) (h2.still hbW)
  clear h1 h2
  go_enter Try.func39, Try.ntmps39
  go_wp2_with (first | (go_at_call 28; refine HS.mono ?_; rintro e w1 ⟨rfl, rfl⟩) | fail)
  all_goals (go_ret; exact ⟨by simp, hbW⟩)
theorem RdF.still {ao : Option Addr} {n : Nat} {ds : List Fd} (h : RdF w ao n ds) (hb : Below w.heap.size w w') : RdF w' ao n ds := by
  obtain ⟨fs, h1, h2, h3, h4⟩ := h
  refine ⟨fs, h1, h2, fun f hf => (h3 f hf).still hb, h4.elim (fun hh => Or.inl hh) (fun hh => Or.inr ?_)⟩
  obtain ⟨g, hg, hc⟩ := hh
  refine ⟨g, hg, fun i hi j hj => ?_⟩
  have h5 := hc i hi j hj
  have : ∃ u, (fs.getD i f0).cs[j]? = some u := ⟨_, Array.getElem?_eq_getElem (by show j < (fs.getD i f0).cs.size; exact hj)⟩
  obtain ⟨u, hu⟩ := this
  rw [hu] at h5 ⊢
  exact below_at hb h5
theorem RdF.at {ao : Option Addr} {n k : Nat} {ds : List Fd} (h : RdF w ao n ds) (hk : k < n) : ∃ (g : Nat) (f : Fx), ao = some ⟨g, 0, none⟩ ∧ ds[k]? = some f.d ∧ Rd w f.a f.n f.c f.bs ∧ w.cell? ⟨g, k * 5, none⟩ = some (.int .i64 f.id) ∧ w.cell? ⟨g, k * 5 + 1, none⟩ = some (.int .i64 f.src) ∧ w.cell? ⟨g, k * 5 + 2, none⟩ = some (.int .i64 f.dst) ∧ w.cell? ⟨g, k * 5 + 3, none⟩ = some (.int .i64 f.due) ∧ w.cell? ⟨g, k * 5 + 4, none⟩ = some (.slice f.a f.n f.c) := by
  obtain ⟨fs, h1, h2, h3, h4⟩ := h
  rcases h4 with h4 | ⟨g, hg, hc⟩
  · omega
  · refine ⟨g, fs.getD k f0, hg, ?_, h3 _ (mem_getD (by omega)), hc k hk 0 (by omega), hc k hk 1 (by omega), hc k hk 2 (by omega), hc k hk 3 (by omega), hc k hk 4 (by omega)⟩
    rw [← h1]
    simp [List.getD, List.getElem?_eq_getElem (show k < fs.length by omega)]
theorem RdF.len {ao : Option Addr} {n : Nat} {ds : List Fd} (h : RdF w ao n ds) : n = ds.length := by
  obtain ⟨fs, h1, h2, h3, h4⟩ := h
  rw [← h1, List.length_map, h2]
set_option maxHeartbeats 400000 in
theorem lists_any {a1 a2 : Option Addr} {n1 n2 c1 c2 : Nat} {ds : List Fd} (h1 : RdF w a1 n1 ds) (h2 : RdF w a2 n2 ds) (hn : n1 ≤ 2199023255552) : Calls Try.prog 22 #[.slice a1 n1 c1, .slice a2 n2 c2] w fun e w' => e = .returned (.bool true) ∧ Below w.heap.size w w' := by
  obtain rfl : n1 = n2 := by rw [h1.len, h2.len]
  have H1 : Hid (RdF w a1 n1 ds) := h1
  have H2 : Hid (RdF w a2 n1 ds) := h2
  clear h1 h2
  go_enter Try.func22, Try.ntmps22
  go_wp2
  go_loopw [5] (fun i wr => ∃ k : Nat, k ≤ n1 ∧ i = .int .i64 k ∧ Below w.heap.size w wr) (fun i _ => n1 - (intOf i).toNat)
  case atStart => exact ⟨0, Nat.zero_le _, rfl, Below.refl _ _⟩
  case round =>
    obtain ⟨k, hk, rfl, hb⟩ := hrel
    by_cases hlt : k < n1
    · obtain ⟨g, f, hg, hd, hr, x0, x1, x2, x3, x4⟩ := (H1.out.still hb).at hlt
      obtain ⟨g', f', hg', hd', hr', y0, y1, y2, y3, y4⟩ := (H2.out.still hb).at hlt
      have he : f.d = f'.d := by rw [hd] at hd'; simpa using hd'
      have e1 : f'.id = f.id := (congrArg Fd.id he).symm
      have e2 : f'.src = f.src := (congrArg Fd.src he).symm
      have e3 : f'.dst = f.dst := (congrArg Fd.dst he).symm
      have e4 : f'.due = f.due := (congrArg Fd.due he).symm
      have e5 : f'.bs = f.bs := (congrArg Fd.bs he).symm
      have e6 : f'.n = f.n := by rw [← hr.1, ← hr'.1, e5]
      rw [e1] at y0
      rw [e2] at y1
      rw [e3] at y2
      rw [e4] at y3
      rw [e6] at y4 hr'
      rw [e5] at hr'
      have HL : Hid (∀ w', Below wr.heap.size wr w' → Calls Try.prog 39 #[.agg #[.int .i64 f.id, .int .i64 f.src, .int .i64 f.dst, .int .i64 f.due, .slice f.a f.n f.c], .agg #[.int .i64 f.id, .int .i64 f.src, .int .i64 f.dst, .int .i64 f.due, .slice f'.a f.n f'.c]] w' fun e w2 => e = .returned (.bool true) ∧ Below w'.heap.size w' w2) := fun w' hb' => alike_any _ _ _ _ (hr.still hb') (hr'.still hb')
      have HB : Hid (Below w.heap.size w wr) := hb
      have i1 : (0 : Int) ≤ (k : Int) := Int.natCast_nonneg _
      have i2 : (k : Int) < (n1 : Int) := by omega
      rw [hg, hg']
      clear e1 e2 e3 e4 e5 e6 he hd hd' hr hr' hb hg hg'
      go_wp2
      refine wp_region_held_drew (S := (fun w' => w'.cell? ⟨g, k * 5, none⟩ = some (.int .i64 f.id) ∧ w'.cell? ⟨g, k * 5 + 1, none⟩ = some (.int .i64 f.src) ∧ w'.cell? ⟨g, k * 5 + 2, none⟩ = some (.int .i64 f.dst) ∧ w'.cell? ⟨g, k * 5 + 3, none⟩ = some (.int .i64 f.due) ∧ w'.cell? ⟨g, k * 5 + 4, none⟩ = some (.slice f.a f.n f.c) ∧ w'.cell? ⟨g', k * 5, none⟩ = some (.int .i64 f.id) ∧ w'.cell? ⟨g', k * 5 + 1, none⟩ = some (.int .i64 f.src) ∧ w'.cell? ⟨g', k * 5 + 2, none⟩ = some (.int .i64 f.dst) ∧ w'.cell? ⟨g', k * 5 + 3, none⟩ = some (.int .i64 f.due) ∧ w'.cell? ⟨g', k * 5 + 4, none⟩ = some (.slice f'.a f.n f'.c))) (by kernel_rfl) ⟨x0, x1, x2, x3, x4, y0, y1, y2, y3, y4⟩ (fun hHeld => ?_)
      simp only [Act.put, List.size_toArray, List.length_cons, List.length_nil, Nat.zero_add]
      refine wpAnyH_take (i := 0) (v := .slice (some ⟨g, 0, none⟩) n1 c1) rfl (by kernel_rfl) (by kernel_rfl) (by kernel_rfl) (fun _ _ _ h => h) (Or.inl ⟨by rfl, fun w' hS => by go_simp⟩) hHeld ?_
      simp only [Act.put, List.getElem_toArray, List.getElem_cons_zero, List.getElem_cons_succ, List.setIfInBounds_toArray, List.set_cons_zero, List.set_cons_succ]
      refine wpAnyH_take (i := 1) (v := .int .i64 (k : Int)) rfl (by kernel_rfl) (by kernel_rfl) (by kernel_rfl) (fun _ _ _ h => h) (Or.inl ⟨by rfl, fun w' hS => by go_simp⟩) hHeld ?_
      simp only [Act.put, List.getElem_toArray, List.getElem_cons_zero, List.getElem_cons_succ, List.setIfInBounds_toArray, List.set_cons_zero, List.set_cons_succ]
      refine wpAnyH_take (i := 2) (v := .pointer (some ⟨g, k * 5, none⟩)) rfl (by kernel_rfl) (by kernel_rfl) (by kernel_rfl) (fun _ _ _ h => h) (Or.inl ⟨by rfl, fun w' hS => by go_simp⟩) hHeld ?_
      simp only [Act.put, List.getElem_toArray, List.getElem_cons_zero, List.getElem_cons_succ, List.setIfInBounds_toArray, List.set_cons_zero, List.set_cons_succ]
      refine wpAnyH_take (i := 3) (v := .agg #[.int .i64 f.id, .int .i64 f.src, .int .i64 f.dst, .int .i64 f.due, .slice f.a f.n f.c]) rfl (by kernel_rfl) (by kernel_rfl) (by kernel_rfl) (fun _ _ _ h => h) (Or.inl ⟨by rfl, fun w' hS => by (obtain ⟨s0, s1, s2, s3, s4, t0, t1, t2, t3, t4⟩ := hS; go_simp)⟩) hHeld ?_
      simp only [Act.put, List.getElem_toArray, List.getElem_cons_zero, List.getElem_cons_succ, List.setIfInBounds_toArray, List.set_cons_zero, List.set_cons_succ]
      refine wpAnyH_take (i := 4) (v := .slice (some ⟨g', 0, none⟩) n1 c2) rfl (by kernel_rfl) (by kernel_rfl) (by kernel_rfl) (fun _ _ _ h => h) (Or.inl ⟨by rfl, fun w' hS => by go_simp⟩) hHeld ?_
      simp only [Act.put, List.getElem_toArray, List.getElem_cons_zero, List.getElem_cons_succ, List.setIfInBounds_toArray, List.set_cons_zero, List.set_cons_succ]
      refine wpAnyH_take (i := 5) (v := .int .i64 (k : Int)) rfl (by kernel_rfl) (by kernel_rfl) (by kernel_rfl) (fun _ _ _ h => h) (Or.inl ⟨by rfl, fun w' hS => by go_simp⟩) hHeld ?_
      simp only [Act.put, List.getElem_toArray, List.getElem_cons_zero, List.getElem_cons_succ, List.setIfInBounds_toArray, List.set_cons_zero, List.set_cons_succ]
      refine wpAnyH_take (i := 6) (v := .pointer (some ⟨g', k * 5, none⟩)) rfl (by kernel_rfl) (by kernel_rfl) (by kernel_rfl) (fun _ _ _ h => h) (Or.inl ⟨by rfl, fun w' hS => by go_simp⟩) hHeld ?_
      simp only [Act.put, List.getElem_toArray, List.getElem_cons_zero, List.getElem_cons_succ, List.setIfInBounds_toArray, List.set_cons_zero, List.set_cons_succ]
      refine wpAnyH_take (i := 7) (v := .agg #[.int .i64 f.id, .int .i64 f.src, .int .i64 f.dst, .int .i64 f.due, .slice f'.a f.n f'.c]) rfl (by kernel_rfl) (by kernel_rfl) (by kernel_rfl) (fun _ _ _ h => h) (Or.inl ⟨by rfl, fun w' hS => by (obtain ⟨s0, s1, s2, s3, s4, t0, t1, t2, t3, t4⟩ := hS; go_simp)⟩) hHeld ?_
      simp only [Act.put, List.getElem_toArray, List.getElem_cons_zero, List.getElem_cons_succ, List.setIfInBounds_toArray, List.set_cons_zero, List.set_cons_succ]
      refine wpAnyH_ready (rs := [8]) (by kernel_rfl) (by simp) ?_
      refine AllReadyH.cons rfl (fun K hK => ?_) AllReadyH.nil
      go_simp
      refine (HL.out _ (by repeat (first | exact Below.refl _ _ | apply Below.drew))).mono ?_
      rintro e w2 ⟨rfl, hb2⟩
      have B2 : Below wr.heap.size wr w2 := bstep (by repeat (first | exact Below.refl _ _ | apply Below.drew)) hb2
      refine hK.out _ _ ⟨below_at B2 x0, below_at B2 x1, below_at B2 x2, below_at B2 x3, below_at B2 x4, below_at B2 y0, below_at B2 y1, below_at B2 y2, below_at B2 y3, below_at B2 y4⟩ (fun hHeld => ?_)
      clear hK K
      refine wpAnyH_take (i := 9) (v := .bool false) rfl (by kernel_rfl) (by kernel_rfl) (by kernel_rfl) (fun _ _ _ h => h) (Or.inl ⟨by rfl, fun w' hS => by go_simp⟩) hHeld ?_
      simp only [Act.put, List.getElem_toArray, List.getElem_cons_zero, List.getElem_cons_succ, List.setIfInBounds_toArray, List.set_cons_zero, List.set_cons_succ]
      refine wpAnyH_done (by kernel_rfl) ?_ _
      clear hHeld
      go_wp2
      exact ⟨⟨k + 1, by omega, by go_num, bstep HB.out B2⟩, by simp [intOf]; omega⟩
    · obtain rfl : k = n1 := by omega
      go_wp2
      go_ret
      exact ⟨rfl, hb⟩
end
end Go.Proofs.Ytnhhjelplmdloaa.Et
namespace Go.Proofs.Ytnhhjelplmdloaa.Et
open Go.RowKit Go.Maps
set_option linter.unusedVariables false
set_option linter.unusedSimpArgs false
set_option maxRecDepth 100000
section
variable {w w' W w1 : World} {B m : Nat}
theorem wpList_append_rd {P : Program} (w : World) {ops : Array Oper} {rest : List Oper} {o : Oper} {a : Act} {Q : Exit → Act → World → Prop} (hgd : o.guard = none) (s x : Operand) (t : TypeId)
    (ho : o.op = .call { callee := .builtin .append, args := #[s, x], argTypes := #[t, t] })
    (base : Nat) (e : TypeId) (i : TypeInfo) (z : Value) (bytes : Nat) (ht : P.underlying t = some (.slice e)) (hi : P.info? e = some i) (hz : i.zero = some z)
    (hsize : i.size = 1) (hby : i.bytes = bytes) (hzs : z.cells.size = 1)
    (v : Value) (n : Nat) (xs : List Value) (hs : a.eval s = v) (hown : w.ownsRow base e 1 v n xs)
    (ao : Option Addr) (m c : Nat) (news : List Value) (hx : a.eval x = .slice ao m c) (hnone : ao = none → m = 0 ∧ c = 0) (hl : news.length = m) (hnews : ∀ ad, ao = some ad → ∀ j u, news[j]? = some u → w.cell? (ad.add j) = some u) (h1 : ∀ u ∈ news, u.oneCell' = true)
    (h63 : n + m ≤ maxLen) (hbytes : (n + m) * bytes ≤ 140737488355328) (hbase : base ≤ w.heap.size)
    (h : ∀ v' w', w'.ownsRow base e 1 v' (n + m) (xs ++ news) → w.grownBy w' v.ownBlock → wpList P ops Q rest (a.put o.dst v') w') : wpList P ops Q (o :: rest) a w := by
  cases ao with
  | some ad => exact wpList_append_own w hgd s x t ho base e i z 1 bytes ht hi hz hsize hby hzs (by decide) v n xs hs hown ad m c news hx (by omega) (hnews ad rfl) h1 h63 hbytes hbase fun v' w' h2 h3 _ => h v' w' h2 h3
  | none =>
    obtain ⟨rfl, rfl⟩ := hnone rfl
    obtain rfl : news = [] := List.eq_nil_of_length_eq_zero hl
    exact wpList_append_own_none hgd s x t ho base e i 1 ht hi v n xs hs hown hx (h v w (by simpa using hown) (World.grownBy.refl _ _))
theorem rd_cells {ao : Option Addr} {n c : Nat} {bs : List Int} (h : Rd w ao n c bs) : ∀ ad, ao = some ad → ∀ j u, (bs.map (Value.int .u8))[j]? = some u → w.cell? (ad.add j) = some u := fun ad ha => h.cells ad ha
theorem row_nil (w : World) (B t s : Nat) : w.ownsRow B t s (.slice none 0 0) 0 [] := ⟨by simp, .inl ⟨rfl, rfl⟩⟩
def mk (k : Nat) : List Int := (List.range k).map fun (i : Nat) => (90 : Int) + (i : Int)
theorem mk_succ (k : Nat) : mk (k + 1) = mk k ++ [(90 : Int) + (k : Int)] := by simp [mk, List.range_succ]
theorem mk_len (k : Nat) : (mk k).length = k := by simp [mk]
theorem mk_at (k i : Nat) (hi : i < k) : (mk k).getD i 0 = 90 + (i : Int) := by simp [mk, List.getD, hi]
def Marked (w : World) (B g n c : Nat) (bs : List Int) : Prop := w.ownsRow B 5 1 (.slice (some ⟨g, 0, none⟩) (n + 64) c) (n + 64) ((bs ++ mk 64).map (Value.int .u8))
set_option maxHeartbeats 400000 in
theorem spare_any {ao : Option Addr} {n c : Nat} {bs : List Int} (hr : Rd w ao n c bs) (hlen : n ≤ 140737488351232) : Calls Try.prog 54 #[.slice ao n c] w fun e w' => ∃ g cap, e = .returned (.slice (some ⟨g, 0, none⟩) n cap) ∧ Marked w' w.heap.size g n cap bs ∧ Below w.heap.size w w' := by
  obtain ⟨i0, hi, hz0, hz1, hz2⟩ := info_parts info_u8
  have hlb := hr.1
  have Hr : Hid (Rd w ao n c bs) := hr
  clear hr
  go_enter Try.func54, Try.ntmps54
  go_wp2_with (first
    | (at_builtin; refine wpList_append_rd _ rfl _ _ 35 rfl w.heap.size 5 i0 (.int .u8 0) 1 Try.underlying35 hi hz0 hz1 hz2 rfl (.slice none 0 0) 0 [] rfl (row_nil _ _ _ _) _ _ _ (bs.map (Value.int .u8)) rfl Hr.out.2.1 (by simpa using hlb) (rd_cells Hr.out) (bytes_one bs) ?c1 ?c2 (Nat.le_refl _) ?_)
    | fail)
  case c1 => unfold maxLen; omega
  case c2 => omega
  intro v' w2 hown' hgrow
  have HO : Hid (w2.ownsRow w.heap.size 5 1 v' n (bs.map (Value.int .u8))) := by
    show World.ownsRow _ _ _ _ _ _ _
    simpa using hown'
  have HB : Hid (Below w.heap.size w w2) := (Below.refl _ w).grown hgrow (Nat.le_refl _) (fun k hk => by simp [Value.ownBlock] at hk)
  clear hown' hgrow
  go_wp2
  go_loopw [3, 4] (fun v i wr => ∃ k : Nat, k ≤ 64 ∧ i = .int .i64 k ∧ wr.ownsRow w.heap.size 5 1 v (n + k) ((bs ++ mk k).map (Value.int .u8)) ∧ Below w.heap.size w wr) (fun _ i _ => 64 - (intOf i).toNat)
  case atStart => exact ⟨0, Nat.zero_le _, rfl, by simpa [mk] using HO.out, HB.out⟩
  case round =>
    obtain ⟨k, hk, rfl, ho, hb⟩ := hrel
    by_cases hlt : k < 64
    · have HO : Hid (wr.ownsRow w.heap.size 5 1 u3 (n + k) ((bs ++ mk k).map (Value.int .u8))) := ho
      have HB : Hid (Below w.heap.size w wr) := hb
      have hws := hb.size
      have i1 : (0 : Int) ≤ (k : Int) := Int.natCast_nonneg _
      have i2 : (k : Int) < 64 := by omega
      have hw8 : IntKind.u8.wrap (90 + (k : Int)) = 90 + (k : Int) := wrap_u8 (by omega) (by omega)
      have Hmk : Hid ((bs ++ mk (k + 1)).map (Value.int .u8) = (bs ++ mk k).map (Value.int .u8) ++ [.int .u8 (90 + (k : Int))]) := by
        show _ = _
        rw [mk_succ]; simp
      generalize (bs ++ mk k).map (Value.int .u8) = T at HO Hmk
      clear ho hb
      go_wp2_with (first
        | (at_builtin; refine wpList_append_lies _ rfl _ _ 35 rfl w.heap.size 5 i0 (.int .u8 0) 1 1 Try.underlying35 hi hz0 hz1 hz2 rfl (by omega) u3 (n + k) T rfl (World.ownsRow.alloc HO.out _) _ 1 1 _ rfl rfl (World.news_of_block (heap_alloc_new _ _)) (by simp [Value.oneCell']) (by omega) (by unfold maxLen; omega) (by omega) (by simp; omega) _ rfl ?_; intro g3 cap3 w3 hown3 hgrow3 hat3 hlt3)
        | fail)
      have hb3 : Below w.heap.size w w3 := (balloc HB.out).grown hgrow3 (by simp; omega) (fun q hq => (World.ownsRow.lt HO.out q hq).1)
      clear hgrow3 hat3
      first
        | exact ⟨⟨k + 1, by omega, by go_num, by rw [Hmk.out, ← Nat.add_assoc]; simpa using hown3, hb3⟩, by simp [intOf]; omega⟩
        | (go_roundw
           case rel => exact ⟨k + 1, by omega, by go_num, by rw [Hmk.out, ← Nat.add_assoc]; simpa using hown3, hb3⟩
           case measure => simp [intOf]; omega)
    · obtain rfl : k = 64 := by omega
      rcases ho.2 with ⟨h1, h2⟩ | ⟨g, cap, cur, hv, hg1, hg2, hnc, _⟩
      · omega
      · subst hv
        have i1 : (0 : Int) ≤ (n : Int) := Int.natCast_nonneg _
        have i2 : (n : Int) ≤ (cap : Int) := by omega
        have HO : Hid (wr.ownsRow w.heap.size 5 1 (.slice (some ⟨g, 0, none⟩) (n + 64) cap) (n + 64) ((bs ++ mk 64).map (Value.int .u8))) := ho
        clear ho hg2
        go_wp2
        go_ret
        exact ⟨g, cap, by simp, HO.out, hb⟩
theorem Marked.rd {g n c : Nat} {bs : List Int} (h : Marked w B g n c bs) (hn : bs.length = n) (hr : ∀ i, 0 ≤ bs.getD i 0 ∧ bs.getD i 0 ≤ 255) : Rd w (some ⟨g, 0, none⟩) n c bs := by
  refine ⟨hn, (fun e => by cases e), Or.inr ⟨g, 0, rfl, fun i hi => ?_⟩, hr⟩
  obtain ⟨g', hg', hc, _⟩ := own_at h (i := i) (by omega)
  obtain rfl : g = g' := by simpa using hg'
  rw [Nat.zero_add, hc]
  simp [List.getD, List.getElem?_append_left (show i < bs.length by omega)]
theorem Marked.at {g n c : Nat} {bs : List Int} (h : Marked w B g n c bs) (hn : bs.length = n) {k : Nat} (hk : k < 64) : w.cell? ⟨g, n + k, none⟩ = some (.int .u8 (90 + (k : Int))) := by
  obtain ⟨g', hg', hc, _⟩ := own_at h (i := n + k) (by omega)
  obtain rfl : g = g' := by simpa using hg'
  rw [hc]
  have := mk_at 64 k hk
  simp only [List.getD] at this ⊢
  rw [List.getElem?_append_right (by omega), show n + k - bs.length = k by omega, this]
theorem Marked.cap {g n c : Nat} {bs : List Int} (h : Marked w B g n c bs) : n + 64 ≤ c := by
  rcases h.2 with ⟨h1, h2⟩ | ⟨g, cap, cur, hv, hg1, hg2, hnc, _⟩
  · omega
  · simp at hv; omega
end
end Go.Proofs.Ytnhhjelplmdloaa.Et
