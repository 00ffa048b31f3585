import Derived.Test.YtobaooebjgoaiaaV09
import Derived.Test.YtobaooebjgoaiaaV10
import Derived.Sort.Grow
namespace Go.Proofs.Ytobaooebjgoaiaa.Fm
set_option linter.unusedVariables false
set_option linter.unusedSimpArgs false
def ltS (a b : Int × Int) : Bool := decide (a.1 < b.1) || (decide (a.1 = b.1) && decide (a.2 < b.2))
theorem ltS_iff {a b : Int × Int} : ltS a b = true ↔ a.1 < b.1 ∨ (a.1 = b.1 ∧ a.2 < b.2) := by simp [ltS]
theorem ltS_not {a b : Int × Int} : ltS a b = false ↔ ¬ (a.1 < b.1 ∨ (a.1 = b.1 ∧ a.2 < b.2)) := by
 rw [← Bool.not_eq_true, ltS_iff]
theorem ltS_total {a b : Int × Int} (h : ltS a b = false) (k : ltS b a = false) : a = b := by
 rw [ltS_not] at h k
 exact Prod.ext (by omega) (by omega)
def srt (l : List (Int × Int)) : List (Int × Int) := l.mergeSort (fun x y => !ltS y x)
theorem srt_perm (l : List (Int × Int)) : (srt l).Perm l := List.mergeSort_perm l _
theorem srt_len (l : List (Int × Int)) : (srt l).length = l.length := (srt_perm l).length_eq
theorem srt_sorted (l : List (Int × Int)) : (srt l).Pairwise (fun a b => ltS b a = false) := by
 have h := List.pairwise_mergeSort (le := fun x y => !ltS y x) (fun a b c h1 h2 => by
  simp only [Bool.not_eq_true', ltS_not] at *
  omega) (fun a b => by
  cases h1 : ltS b a with
  | false => simp
  | true =>
   cases h2 : ltS a b with
   | false => simp
   | true =>
    rw [ltS_iff] at h1 h2
    omega) l
 exact h.imp fun hab => by simpa using hab
def insS : List (Int × Int) → (Int × Int) → List (Int × Int)
 | [], s => [s]
 | x :: l, s => if ltS s x then s :: x :: l else x :: insS l s
theorem insS_perm (s : Int × Int) : ∀ l, (insS l s).Perm (l ++ [s])
 | [] => List.Perm.refl _
 | x :: l => by
   unfold insS
   split
   ·exact (List.perm_append_comm (l₁ := [s]) (l₂ := x :: l))
   ·exact (insS_perm s l).cons x
theorem insS_sorted (s : Int × Int) : ∀ l, l.Pairwise (fun a b => ltS b a = false) → (insS l s).Pairwise (fun a b => ltS b a = false)
 | [], _ => by simp [insS]
 | x :: l, h => by
   have h' := List.pairwise_cons.1 h
   unfold insS
   split
   ·rename_i hs
    refine List.pairwise_cons.2 ⟨fun y hy => ?_, h⟩
    rcases List.mem_cons.1 hy with rfl | hy
    ·rw [ltS_iff] at hs; rw [ltS_not]; omega
    ·have := h'.1 y hy
     rw [ltS_not] at this ⊢
     rw [ltS_iff] at hs
     omega
   ·rename_i hs
    refine List.pairwise_cons.2 ⟨fun y hy => ?_, insS_sorted s l h'.2⟩
    have hy2 := (insS_perm s l).mem_iff.1 hy
    rcases List.mem_append.1 hy2 with hy2 | hy2
    ·exact h'.1 y hy2
    ·rw [List.mem_singleton.1 hy2]
     simpa using hs
theorem srt_app (l : List (Int × Int)) (s : Int × Int) : srt (l ++ [s]) = insS (srt l) s :=
 List.Perm.eq_of_pairwise (fun a b _ _ h1 h2 => ltS_total h2 h1) (srt_sorted _) (insS_sorted s _ (srt_sorted l))
  ((srt_perm _).trans ((insS_perm s _).trans ((srt_perm l).append_right [s])).symm)
theorem srt_nil : srt [] = [] := by simp [srt]
def pick (p : Int × Int → Bool) (l : List (Int × Int)) : List (Int × Int) := srt (l.filter p)
theorem pick_nil (p : Int × Int → Bool) : pick p [] = [] := by simp [pick, srt_nil]
theorem pick_yes {p : Int × Int → Bool} {l : List (Int × Int)} {s : Int × Int} (h : p s = true) : pick p (l ++ [s]) = insS (pick p l) s := by
 unfold pick
 rw [List.filter_append, List.filter_cons_of_pos h, List.filter_nil, srt_app]
theorem pick_no {p : Int × Int → Bool} {l : List (Int × Int)} {s : Int × Int} (h : p s = false) : pick p (l ++ [s]) = pick p l := by
 unfold pick
 rw [List.filter_append, List.filter_cons_of_neg (by simp [h]), List.filter_nil, List.append_nil]
theorem pick_len (p : Int × Int → Bool) (l : List (Int × Int)) : (pick p l).length ≤ l.length := by
 unfold pick
 rw [srt_len]
 exact List.length_filter_le _ _
def insO (l : List (Int × Int)) (s : Int × Int) : Nat → List (Int × Int) × Bool
 | 0 => ([], false)
 | i + 1 =>
  let r := insO l s i
  if !r.2 && ltS s (l.getD i z2) then (r.1 ++ [s, l.getD i z2], true) else (r.1 ++ [l.getD i z2], r.2)
theorem insO_true (l : List (Int × Int)) (s : Int × Int) (i : Nat) (h : (insO l s i).2 = true) : ∀ d, (insO l s (i + d)).2 = true
 | 0 => h
 | d + 1 => by
   have := insO_true l s i h d
   rw [← Nat.add_assoc]
   simp only [insO, this]
   simp
theorem insO_cons (x : Int × Int) (l : List (Int × Int)) (s : Int × Int) (h : ltS s x = false) : ∀ i, insO (x :: l) s (i + 1) = (x :: (insO l s i).1, (insO l s i).2)
 | 0 => by simp [insO, h]
 | i + 1 => by
   have ih := insO_cons x l s h i
   rw [insO, ih]
   simp only [insO, List.getD_cons_succ]
   split <;> simp
theorem insO_here (x : Int × Int) (l : List (Int × Int)) (s : Int × Int) (h : ltS s x = true) : ∀ i, i ≤ l.length → insO (x :: l) s (i + 1) = (s :: x :: l.take i, true)
 | 0, _ => by simp [insO, h]
 | i + 1, hi => by
   have ih := insO_here x l s h i (by omega)
   rw [insO, ih]
   simp only [List.getD_cons_succ, Bool.not_true, Bool.false_and, if_neg (show ¬ (false = true) by simp)]
   have e : l.getD i z2 = l[i]'(by omega) := by simp [List.getD, show i < l.length by omega]
   rw [e, List.cons_append, List.cons_append, List.take_append_getElem]
theorem insO_len (l : List (Int × Int)) (s : Int × Int) : ∀ i, (insO l s i).1.length ≤ i + 1 ∧ ((insO l s i).2 = false → (insO l s i).1.length ≤ i)
 | 0 => by simp [insO]
 | i + 1 => by
   have ih := insO_len l s i
   simp only [insO]
   split
   ·rename_i h
    simp at h
    have := ih.2 h.1
    simp; omega
   ·simp
    exact ⟨by omega, fun h => by have := ih.2 h; omega⟩
theorem insO_all (s : Int × Int) : ∀ l, (if (insO l s l.length).2 then (insO l s l.length).1 else (insO l s l.length).1 ++ [s]) = insS l s
 | [] => by simp [insO, insS]
 | x :: l => by
   have ih := insO_all s l
   rw [List.length_cons]
   cases h : ltS s x with
   | true => rw [insO_here x l s h _ (Nat.le_refl _)]; simp [insS, h]
   | false =>
    rw [insO_cons x l s h]
    simp only [insS, h]
    simp only [if_neg (show ¬ (false = true) by simp)]
    rw [← ih]
    split <;> simp
end Go.Proofs.Ytobaooebjgoaiaa.Fm
namespace Go.Proofs.Ytobaooebjgoaiaa.Fm
open Go.RowKit Go.Maps Mb
set_option linter.unusedVariables false
set_option maxRecDepth 100000
set_option linter.unusedSimpArgs false
section
variable {w w' W : World} {B : Nat}
theorem isNaN_any (x : Int) : Calls Try.prog 93 #[.int .i64 x] w fun e w' => e = .returned (.bool false) ∧ w' = w := by
 go_enter Try.func93, Try.ntmps93
 go_wp2
 go_ret
 exact ⟨by simp, rfl⟩
def cmpI (a b : Int) : Int := if a < b then -1 else if b < a then 1 else 0
theorem cmpI_any (a b : Int) : Calls Try.prog 79 #[.int .i64 a, .int .i64 b] w fun e w' => e = .returned (.int .i64 (cmpI a b)) ∧ w' = w := by
 have h1 : ∀ x w, Calls Try.prog 93 #[.int .i64 x] w fun e w' => e = .returned (.bool false) ∧ w' = w := fun x w => isNaN_any x
 unfold cmpI
 by_cases hab : a < b
 ·go_enter Try.func79, Try.ntmps79
  go_wp2_with (first | (go_at_call 93; refine (h1 _ _).mono ?_; rintro e w' ⟨rfl, rfl⟩) | fail)
  go_ret
  exact ⟨by simp [hab], rfl⟩
 ·by_cases hba : b < a
  ·go_enter Try.func79, Try.ntmps79
   go_wp2_with (first | (go_at_call 93; refine (h1 _ _).mono ?_; rintro e w' ⟨rfl, rfl⟩) | fail)
   go_ret
   exact ⟨by simp [hab, hba], rfl⟩
  ·go_enter Try.func79, Try.ntmps79
   go_wp2_with (first | (go_at_call 93; refine (h1 _ _).mono ?_; rintro e w' ⟨rfl, rfl⟩) | fail)
   go_ret
   exact ⟨by simp [hab, hba], rfl⟩
theorem or_any {g : Nat} {a b : Int} (h0 : w.cell? ⟨g, 0, none⟩ = some (.int .i64 a)) (h1 : w.cell? ⟨g, 1, none⟩ = some (.int .i64 b)) : Calls Try.prog 78 #[.slice (some ⟨g, 0, none⟩) 2 2] w fun e w' => e = .returned (.int .i64 (if a = 0 then b else a)) ∧ w' = w := by
 by_cases ha : a = 0
 ·subst ha
  have hz : ((0 : Int) == 0) = true := rfl
  by_cases hb : b = 0
  ·subst hb
   go_enter Try.func78, Try.ntmps78
   go_wp2
   refine wp_loop_rounds 3 ?_
   rw [rounds_succ]
   go_wp2
   rw [rounds_succ]
   go_wp2
   rw [rounds_succ]
   go_wp2
   go_ret
   exact ⟨rfl, rfl⟩
  ·have hb' : (b == 0) = false := by simpa using hb
   go_enter Try.func78, Try.ntmps78
   go_wp2
   refine wp_loop_rounds 3 ?_
   rw [rounds_succ]
   go_wp2
   rw [rounds_succ]
   go_wp2
   go_ret
   exact ⟨by simp, rfl⟩
 ·have ha' : (a == 0) = false := by simpa using ha
  go_enter Try.func78, Try.ntmps78
  go_wp2
  refine wp_loop_rounds 3 ?_
  rw [rounds_succ]
  go_wp2
  go_ret
  exact ⟨by simp [ha], rfl⟩
def cmpS (x y : Int × Int) : Int := if cmpI x.1 y.1 = 0 then cmpI x.2 y.2 else cmpI x.1 y.1
theorem cmpS_lt (x y : Int × Int) : decide (cmpS x y < 0) = ltS x y := by
 unfold cmpS cmpI ltS
 by_cases h1 : x.1 < y.1
 ·simp [h1]
 ·by_cases h2 : y.1 < x.1
  ·simp [h1, h2]; omega
  ·have h3 : x.1 = y.1 := by omega
   by_cases h4 : x.2 < y.2
   ·simp [h3, h4]
   ·by_cases h5 : y.2 < x.2
    ·simp [h3, h4, h5]
    ·simp [h3, h4, h5]
set_option maxHeartbeats 2000000 in
theorem compare_any (x y : Int × Int) (W : World) : Calls Try.prog 65 #[.agg (slotV x).toArray, .agg (slotV y).toArray] W fun e w' => e = .returned (.int .i64 (cmpS x y)) ∧ ∃ q os', w' = Sort.grow (W.drewN q) os' := by
 generalize hW2 : (W.alloc (.cells (slotV x).toArray 76)).alloc (.cells (slotV y).toArray 76) = W2
 have k1 : (W.alloc (.cells (slotV x).toArray 76)).heap[W.heap.size]? = some (.cells (slotV x).toArray 76 (0, 0)) := heap_alloc_new W _
 have e1 : (W.alloc (.cells (slotV x).toArray 76)).heap.size = W.heap.size + 1 := World.size_alloc _ _
 have k2 : W2.heap[W.heap.size]? = some (.cells (slotV x).toArray 76 (0, 0)) := by rw [← hW2]; exact blk_alloc k1
 have k3 : W2.heap[W.heap.size + 1]? = some (.cells (slotV y).toArray 76 (0, 0)) := by rw [← hW2, ← e1]; exact heap_alloc_new _ _
 have q0 : W2.cell? ⟨W.heap.size, 0, none⟩ = some (.int .i64 x.1) := blk_cell k2 0
 have q1 : W2.cell? ⟨W.heap.size, 1, none⟩ = some (.int .i64 x.2) := blk_cell k2 1
 have q2 : W2.cell? ⟨W.heap.size + 1, 0, none⟩ = some (.int .i64 y.1) := blk_cell k3 0
 have q3 : W2.cell? ⟨W.heap.size + 1, 1, none⟩ = some (.int .i64 y.2) := blk_cell k3 1
 have HW : Hid (∃ os', ∀ q, W2.drewN q = Sort.grow (W.drewN q) os') := by
  rw [← hW2]
  exact ⟨_, fun q => by rw [Sort.alloc_eq_grow, Sort.alloc_eq_grow, Sort.grow_grow]; rfl⟩
 have HC1 : Hid (∀ w', Calls Try.prog 79 #[.int .i64 x.1, .int .i64 y.1] w' fun e w2 => e = .returned (.int .i64 (cmpI x.1 y.1)) ∧ w2 = w') := fun w' => cmpI_any _ _
 have HC2 : Hid (∀ w', Calls Try.prog 79 #[.int .i64 x.2, .int .i64 y.2] w' fun e w2 => e = .returned (.int .i64 (cmpI x.2 y.2)) ∧ w2 = w') := fun w' => cmpI_any _ _
 have HS : Hid (cmpS x y = if cmpI x.1 y.1 = 0 then cmpI x.2 y.2 else cmpI x.1 y.1) := rfl
 have Hsz : Hid ((W.alloc (.cells (slotV x).toArray 76)).heap.size = W.heap.size + 1) := e1
 clear k1 k2 k3 e1
 generalize cmpS x y = cs at *
 generalize cmpI x.1 y.1 = c1 at *
 generalize cmpI x.2 y.2 = c2 at *
 have HO : Hid (∀ (w' : World) (g : Nat), w'.cell? ⟨g, 0, none⟩ = some (.int .i64 c1) → w'.cell? ⟨g, 1, none⟩ = some (.int .i64 c2) → Calls Try.prog 78 #[.slice (some ⟨g, 0, none⟩) 2 2] w' fun e w2 => e = .returned (.int .i64 cs) ∧ w2 = w') := fun w' g h0 h1 => by rw [HS.out]; exact or_any h0 h1
 generalize (slotV x).toArray = px at *
 generalize (slotV y).toArray = py at *
 go_enter Try.func65, Try.ntmps65
 go_wp2
 refine wp_region_held_drew (S := (fun w' => w'.cell? ⟨W.heap.size, 0, none⟩ = some (.int .i64 x.1) ∧ w'.cell? ⟨W.heap.size, 1, none⟩ = some (.int .i64 x.2) ∧ w'.cell? ⟨W.heap.size + 1, 0, none⟩ = some (.int .i64 y.1) ∧ w'.cell? ⟨W.heap.size + 1, 1, none⟩ = some (.int .i64 y.2))) (by kernel_rfl) ⟨q0, q1, q2, q3⟩ (fun hHeld => ?_)
 simp only [Act.put, List.size_toArray, List.length_cons, List.length_nil, Nat.zero_add]
 refine wG9 0 (.pointer (some ⟨W.heap.size, 0, none⟩)) rfl hHeld ?_
 simp only [Act.put,gA9,gZ9,gC9,sA9,sZ9,sC9]
 refine wX9 1 (.int .i64 x.1) rfl (Or.inl ⟨by rfl, fun w' hS => by (obtain ⟨s0, s1, s2, s3⟩ := hS; go_simp)⟩) hHeld ?_
 simp only [Act.put,gA9,gZ9,gC9,sA9,sZ9,sC9]
 refine wG9 2 (.pointer (some ⟨W.heap.size + 1, 0, none⟩)) rfl hHeld ?_
 simp only [Act.put,gA9,gZ9,gC9,sA9,sZ9,sC9]
 refine wX9 3 (.int .i64 y.1) rfl (Or.inl ⟨by rfl, fun w' hS => by (obtain ⟨s0, s1, s2, s3⟩ := hS; go_simp)⟩) hHeld ?_
 simp only [Act.put,gA9,gZ9,gC9,sA9,sZ9,sC9]
 refine wG9 5 (.pointer (some ⟨W.heap.size, 1, none⟩)) rfl hHeld ?_
 simp only [Act.put,gA9,gZ9,gC9,sA9,sZ9,sC9]
 refine wX9 6 (.int .i64 x.2) rfl (Or.inl ⟨by rfl, fun w' hS => by (obtain ⟨s0, s1, s2, s3⟩ := hS; go_simp)⟩) hHeld ?_
 simp only [Act.put,gA9,gZ9,gC9,sA9,sZ9,sC9]
 refine wG9 7 (.pointer (some ⟨W.heap.size + 1, 1, none⟩)) rfl hHeld ?_
 simp only [Act.put,gA9,gZ9,gC9,sA9,sZ9,sC9]
 refine wX9 8 (.int .i64 y.2) rfl (Or.inl ⟨by rfl, fun w' hS => by (obtain ⟨s0, s1, s2, s3⟩ := hS; go_simp)⟩) hHeld ?_
 simp only [Act.put,gA9,gZ9,gC9,sA9,sZ9,sC9]
 refine wpAnyH_ready (rs := [4]) (by kernel_rfl) (by simp) ?_
 refine AllReadyH.cons rfl (fun K hK => ?_) AllReadyH.nil
 go_simp
 refine (HC1.out _).mono ?_
 rintro e w2 ⟨rfl, rfl⟩
 refine hK.out _ _ ⟨q0, q1, q2, q3⟩ (fun hHeld => ?_)
 clear hK K
 refine wpAnyH_ready (rs := [9]) (by kernel_rfl) (by simp) ?_
 refine AllReadyH.cons rfl (fun K hK => ?_) AllReadyH.nil
 go_simp
 refine (HC2.out _).mono ?_
 rintro e w2 ⟨rfl, rfl⟩
 refine hK.out _ _ ⟨q0, q1, q2, q3⟩ (fun hHeld => ?_)
 clear hK K
 refine wpAnyH_ready (rs := [10]) (by kernel_rfl) (by simp) ?_
 refine AllReadyH.cons rfl (fun K hK => ?_) AllReadyH.nil
 go_simp
 refine hK.out _ _ ⟨below_at (w := W2.drew) (balloc (Below.refl _ _)) q0, below_at (w := W2.drew) (balloc (Below.refl _ _)) q1, below_at (w := W2.drew) (balloc (Below.refl _ _)) q2, below_at (w := W2.drew) (balloc (Below.refl _ _)) q3⟩ (fun hHeld => ?_)
 clear hK K
 refine wpAnyH_ready (rs := [11]) (by kernel_rfl) (by simp) ?_
 refine AllReadyH.cons rfl (fun K hK => ?_) AllReadyH.nil
 go_simp
 refine (HO.out _ W2.drew.heap.size (blk_cell (heap_alloc_new _ _) 0) (blk_cell (heap_alloc_new _ _) 1)).mono ?_
 rintro e w2 ⟨rfl, rfl⟩
 refine hK.out _ _ ⟨below_at (w := W2.drew) (balloc (Below.refl _ _)) q0, below_at (w := W2.drew) (balloc (Below.refl _ _)) q1, below_at (w := W2.drew) (balloc (Below.refl _ _)) q2, below_at (w := W2.drew) (balloc (Below.refl _ _)) q3⟩ (fun hHeld => ?_)
 clear hK K
 refine wG9 12 (.int .i64 cs) rfl hHeld ?_
 simp only [Act.put,gA9,gZ9,gC9,sA9,sZ9,sC9]
 refine wpAnyH_done (by kernel_rfl) ?_ _
 clear hHeld
 go_wp2
 go_ret
 refine ⟨rfl, ?_⟩
 obtain ⟨os', ho⟩ := HW.out
 exact ⟨1, os' ++ #[.cells #[.int .i64 c1, .int .i64 c2] 3], by rw [← Sort.grow_grow, ← ho 1, ← Sort.alloc_eq_grow]; rfl⟩
end
end Go.Proofs.Ytobaooebjgoaiaa.Fm
