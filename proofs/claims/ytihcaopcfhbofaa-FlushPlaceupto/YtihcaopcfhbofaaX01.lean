import Derived.Test.YtihcaopcfhbofaaX00
namespace Go.Proofs.Ytihcaopcfhbofaa.Fm
set_option linter.unusedVariables false
set_option linter.unusedSimpArgs false
def ltS (a b : Int × Int) : Bool := decide (a.1 < b.1) || (decide (a.1 = b.1) && decide (a.2 < b.2))
theorem ltS_iff {a b : Int × Int} : ltS a b = true ↔ a.1 < b.1 ∨ (a.1 = b.1 ∧ a.2 < b.2) := by simp [ltS]
theorem ltS_not {a b : Int × Int} : ltS a b = false ↔ ¬ (a.1 < b.1 ∨ (a.1 = b.1 ∧ a.2 < b.2)) := by
  rw [← Bool.not_eq_true, ltS_iff]
theorem ltS_total {a b : Int × Int} (h : ltS a b = false) (k : ltS b a = false) : a = b := by
  rw [ltS_not] at h k
  exact Prod.ext (by omega) (by omega)
def srt (l : List (Int × Int)) : List (Int × Int) := l.mergeSort (fun x y => !ltS y x)
theorem srt_perm (l : List (Int × Int)) : (srt l).Perm l := List.mergeSort_perm l _
theorem srt_len (l : List (Int × Int)) : (srt l).length = l.length := (srt_perm l).length_eq
theorem srt_sorted (l : List (Int × Int)) : (srt l).Pairwise (fun a b => ltS b a = false) := by
  have h := List.pairwise_mergeSort (le := fun x y => !ltS y x) (fun a b c h1 h2 => by
    simp only [Bool.not_eq_true', ltS_not] at *
    omega) (fun a b => by
    cases h1 : ltS b a with
    | false => simp
    | true =>
      cases h2 : ltS a b with
      | false => simp
      | true =>
        rw [ltS_iff] at h1 h2
        omega) l
  exact h.imp fun hab => by simpa using hab
def insS : List (Int × Int) → (Int × Int) → List (Int × Int)
  | [], s => [s]
  | x :: l, s => if ltS s x then s :: x :: l else x :: insS l s
theorem insS_perm (s : Int × Int) : ∀ l, (insS l s).Perm (l ++ [s])
  | [] => List.Perm.refl _
  | x :: l => by
      unfold insS
      split
      · exact (List.perm_append_comm (l₁ := [s]) (l₂ := x :: l))
      · exact (insS_perm s l).cons x
theorem insS_sorted (s : Int × Int) : ∀ l, l.Pairwise (fun a b => ltS b a = false) → (insS l s).Pairwise (fun a b => ltS b a = false)
  | [], _ => by simp [insS]
  | x :: l, h => by
      have h' := List.pairwise_cons.1 h
      unfold insS
      split
      · rename_i hs
        refine List.pairwise_cons.2 ⟨fun y hy => ?_, h⟩
        rcases List.mem_cons.1 hy with rfl | hy
        · rw [ltS_iff] at hs; rw [ltS_not]; omega
        · have := h'.1 y hy
          rw [ltS_not] at this ⊢
          rw [ltS_iff] at hs
          omega
      · rename_i hs
        refine List.pairwise_cons.2 ⟨fun y hy => ?_, insS_sorted s l h'.2⟩
        have hy2 := (insS_perm s l).mem_iff.1 hy
        rcases List.mem_append.1 hy2 with hy2 | hy2
        · exact h'.1 y hy2
        · rw [List.mem_singleton.1 hy2]
          simpa using hs
theorem srt_app (l : List (Int × Int)) (s : Int × Int) : srt (l ++ [s]) = insS (srt l) s :=
  List.Perm.eq_of_pairwise (fun a b _ _ h1 h2 => ltS_total h2 h1) (srt_sorted _) (insS_sorted s _ (srt_sorted l))
    ((srt_perm _).trans ((insS_perm s _).trans ((srt_perm l).append_right [s])).symm)
theorem srt_nil : srt [] = [] := by simp [srt]
def pick (p : Int × Int → Bool) (l : List (Int × Int)) : List (Int × Int) := srt (l.filter p)
theorem pick_nil (p : Int × Int → Bool) : pick p [] = [] := by simp [pick, srt_nil]
theorem pick_yes {p : Int × Int → Bool} {l : List (Int × Int)} {s : Int × Int} (h : p s = true) : pick p (l ++ [s]) = insS (pick p l) s := by
  unfold pick
  rw [List.filter_append, List.filter_cons_of_pos h, List.filter_nil, srt_app]
theorem pick_no {p : Int × Int → Bool} {l : List (Int × Int)} {s : Int × Int} (h : p s = false) : pick p (l ++ [s]) = pick p l := by
  unfold pick
  rw [List.filter_append, List.filter_cons_of_neg (by simp [h]), List.filter_nil, List.append_nil]
theorem pick_len (p : Int × Int → Bool) (l : List (Int × Int)) : (pick p l).length ≤ l.length := by
  unfold pick
  rw [srt_len]
  exact List.length_filter_le _ _
def insO (l : List (Int × Int)) (s : Int × Int) : Nat → List (Int × Int) × Bool
  | 0 => ([], false)
  | i + 1 =>
    let r := insO l s i
    if !r.2 && ltS s (l.getD i z2) then (r.1 ++ [s, l.getD i z2], true) else (r.1 ++ [l.getD i z2], r.2)
theorem insO_true (l : List (Int × Int)) (s : Int × Int) (i : Nat) (h : (insO l s i).2 = true) : ∀ d, (insO l s (i + d)).2 = true
  | 0 => h
  | d + 1 => by
      have := insO_true l s i h d
      rw [← Nat.add_assoc]
      simp only [insO, this]
      simp
theorem insO_cons (x : Int × Int) (l : List (Int × Int)) (s : Int × Int) (h : ltS s x = false) : ∀ i, insO (x :: l) s (i + 1) = (x :: (insO l s i).1, (insO l s i).2)
  | 0 => by simp [insO, h]
  | i + 1 => by
      have ih := insO_cons x l s h i
      rw [insO, ih]
      simp only [insO, List.getD_cons_succ]
      split <;> simp
theorem insO_here (x : Int × Int) (l : List (Int × Int)) (s : Int × Int) (h : ltS s x = true) : ∀ i, i ≤ l.length → insO (x :: l) s (i + 1) = (s :: x :: l.take i, true)
  | 0, _ => by simp [insO, h]
  | i + 1, hi => by
      have ih := insO_here x l s h i (by omega)
      rw [insO, ih]
      simp only [List.getD_cons_succ, Bool.not_true, Bool.false_and, if_neg (show ¬ (false = true) by simp)]
      have e : l.getD i z2 = l[i]'(by omega) := by simp [List.getD, show i < l.length by omega]
      rw [e, List.cons_append, List.cons_append, List.take_append_getElem]
theorem insO_len (l : List (Int × Int)) (s : Int × Int) : ∀ i, (insO l s i).1.length ≤ i + 1 ∧ ((insO l s i).2 = false → (insO l s i).1.length ≤ i)
  | 0 => by simp [insO]
  | i + 1 => by
      have ih := insO_len l s i
      simp only [insO]
      split
      · rename_i h
        simp at h
        have := ih.2 h.1
        simp; omega
      · simp
        exact ⟨by omega, fun h => by have := ih.2 h; omega⟩
theorem insO_all (s : Int × Int) : ∀ l, (if (insO l s l.length).2 then (insO l s l.length).1 else (insO l s l.length).1 ++ [s]) = insS l s
  | [] => by simp [insO, insS]
  | x :: l => by
      have ih := insO_all s l
      rw [List.length_cons]
      cases h : ltS s x with
      | true => rw [insO_here x l s h _ (Nat.le_refl _)]; simp [insS, h]
      | false =>
        rw [insO_cons x l s h]
        simp only [insS, h]
        simp only [if_neg (show ¬ (false = true) by simp)]
        rw [← ih]
        split <;> simp
end Go.Proofs.Ytihcaopcfhbofaa.Fm
