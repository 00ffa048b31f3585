import Derived.Test.YtapenemfnngniaaRows
namespace Go.Proofs.Ytapenemfnngniaa.Qm
set_option linter.unusedVariables false
set_option linter.unusedSimpArgs false

def wt (v : List Nat) (s : Nat) : Nat → Nat
  | 0 => 0
  | k + 1 => wt v s k + if s.testBit k then v.getD k 0 else 0
def sm (v : List Nat) : Nat → Nat
  | 0 => 0
  | k + 1 => sm v k + v.getD k 0
def fs (v : List Nat) : Nat → Nat
  | 0 => 0
  | k + 1 => if sm v k = 0 then k else fs v k
def W (v : List Nat) (s : Nat) : Nat := wt v s v.length
def T (v : List Nat) : Nat := sm v v.length
def F (v : List Nat) : Nat := fs v v.length
def wins (v : List Nat) (s : Nat) : Bool := decide (T v < 2 * W v s) || (decide (2 * W v s = T v) && s.testBit (F v))

def Ok (v : List Nat) : Prop := v.length ≤ 16 ∧ (∀ i, v.getD i 0 ≤ 9) ∧ 0 < T v

theorem sm_le_nine {v : List Nat} (h : ∀ i, v.getD i 0 ≤ 9) : ∀ k, sm v k ≤ 9 * k
  | 0 => by simp [sm]
  | k + 1 => by
      have := sm_le_nine h k
      have := h k
      simp only [sm]
      omega
theorem wt_le_sm (v : List Nat) (s : Nat) : ∀ k, wt v s k ≤ sm v k
  | 0 => by simp [sm, wt]
  | k + 1 => by
      have := wt_le_sm v s k
      simp only [sm, wt]
      split <;> omega
theorem sm_mono (v : List Nat) (j : Nat) : ∀ k, sm v j ≤ sm v (j + k)
  | 0 => Nat.le_refl _
  | k + 1 => by
      have := sm_mono v j k
      rw [← Nat.add_assoc]
      simp only [sm]
      omega
theorem fs_spec (v : List Nat) : ∀ k, 0 < sm v k → fs v k < k ∧ 0 < v.getD (fs v k) 0 ∧ sm v (fs v k) = 0
  | 0, h => by simp [sm] at h
  | k + 1, h => by
      simp only [sm] at h
      by_cases h0 : sm v k = 0
      · have e : fs v (k + 1) = k := by simp [fs, h0]
        rw [e]
        exact ⟨by omega, by omega, h0⟩
      · have e : fs v (k + 1) = fs v k := by simp [fs, h0]
        rw [e]
        obtain ⟨a, b, c⟩ := fs_spec v k (by omega)
        exact ⟨by omega, b, c⟩
theorem sm_zero (v : List Nat) (j : Nat) : ∀ k, sm v k = 0 → j < k → v.getD j 0 = 0
  | 0, _, h => by omega
  | k + 1, h, hj => by
      simp only [sm] at h
      by_cases e : j = k
      · subst e; omega
      · exact sm_zero v j k (by omega) (by omega)
theorem wt_compl (v : List Nat) (s n : Nat) (hs : s < 2 ^ n) : ∀ k, k ≤ n → wt v (2 ^ n - 1 - s) k + wt v s k = sm v k
  | 0, _ => by simp [sm, wt]
  | k + 1, hk => by
      have ih := wt_compl v s n hs k (by omega)
      have e : 2 ^ n - 1 - s = 2 ^ n - (s + 1) := by omega
      have hb := Nat.testBit_two_pow_sub_succ hs k
      rw [← e] at hb
      simp only [sm, wt, hb]
      have hk' : k < n := by omega
      simp only [hk', decide_true, Bool.true_and]
      cases s.testBit k <;> simp <;> omega
theorem wt_or (v : List Nat) (a b : Nat) : ∀ k, wt v a k ≤ wt v (a ||| b) k
  | 0 => by simp [wt]
  | k + 1 => by
      have := wt_or v a b k
      simp only [wt, Nat.testBit_or]
      cases a.testBit k <;> cases b.testBit k <;> simp <;> omega
theorem wt_disj (v : List Nat) (a b : Nat) (h : a &&& b = 0) : ∀ k, wt v a k + wt v b k ≤ sm v k
  | 0 => by simp [wt]
  | k + 1 => by
      have ih := wt_disj v a b h k
      have hb : (a &&& b).testBit k = false := by rw [h]; simp
      rw [Nat.testBit_and] at hb
      simp only [wt, sm]
      cases ha : a.testBit k <;> cases hc : b.testBit k <;> simp [ha, hc] at hb ⊢ <;> omega
theorem wt_zero (v : List Nat) : ∀ k, wt v 0 k = 0
  | 0 => rfl
  | k + 1 => by simp [wt, wt_zero v k]
theorem wt_full (v : List Nat) (n : Nat) : ∀ k, k ≤ n → wt v (2 ^ n - 1) k = sm v k := by
  intro k hk
  have := wt_compl v 0 n (Nat.two_pow_pos n) k hk
  rw [wt_zero] at this
  simpa using this

theorem wins_compl {v : List Nat} (h : 0 < T v) {s : Nat} (hs : s < 2 ^ v.length) : wins v (2 ^ v.length - 1 - s) = !wins v s := by
  have hw := wt_compl v s v.length hs v.length (Nat.le_refl _)
  have hf := (fs_spec v v.length h).1
  have e : 2 ^ v.length - 1 - s = 2 ^ v.length - (s + 1) := by omega
  have hb := Nat.testBit_two_pow_sub_succ hs (F v)
  rw [← e] at hb
  have hf' : F v < v.length := hf
  simp only [hf', decide_true, Bool.true_and] at hb
  unfold wins
  rw [hb]
  unfold W
  unfold T at *
  rw [Bool.eq_iff_iff]
  cases s.testBit (F v) <;> simp <;> omega
theorem wins_zero {v : List Nat} (h : 0 < T v) : wins v 0 = false := by
  unfold wins W
  rw [wt_zero]
  simp
  try omega
theorem wins_full {v : List Nat} (h : 0 < T v) : wins v (2 ^ v.length - 1) = true := by
  have := wins_compl h (Nat.two_pow_pos v.length)
  rw [wins_zero h] at this
  simpa using this
theorem wins_or {v : List Nat} {a : Nat} (b : Nat) (h : wins v a = true) : wins v (a ||| b) = true := by
  have := wt_or v a b v.length
  unfold wins at *
  unfold W at *
  rw [Nat.testBit_or]
  simp only [Bool.or_eq_true, Bool.and_eq_true, decide_eq_true_eq] at *
  rcases h with h | ⟨h1, h2⟩
  · left; omega
  · by_cases hx : T v < 2 * wt v (a ||| b) v.length
    · exact .inl hx
    · exact .inr ⟨by omega, .inl h2⟩
theorem wins_meet {v : List Nat} {a b : Nat} (ha : wins v a = true) (hb : wins v b = true) : a &&& b ≠ 0 := by
  intro h
  have hw := wt_disj v a b h v.length
  have hd : (a &&& b).testBit (F v) = false := by rw [h]; simp
  rw [Nat.testBit_and] at hd
  unfold wins at *
  unfold W T at *
  simp only [Bool.or_eq_true, Bool.and_eq_true, decide_eq_true_eq] at *
  rcases ha with ha | ⟨ha, ha2⟩ <;> rcases hb with hb | ⟨hb, hb2⟩
  · omega
  · omega
  · omega
  · rw [ha2, hb2] at hd; cases hd

def cnt (P : Nat → Bool) : Nat → Nat
  | 0 => 0
  | k + 1 => cnt P k + if P k then 1 else 0
theorem cnt_le (P : Nat → Bool) : ∀ k, cnt P k ≤ k
  | 0 => Nat.le_refl _
  | k + 1 => by
      have := cnt_le P k
      simp only [cnt]
      split <;> omega
theorem cnt_front (P : Nat → Bool) : ∀ k, cnt P (k + 1) = (if P 0 then 1 else 0) + cnt (fun i => P (i + 1)) k
  | 0 => by simp [cnt]
  | k + 1 => by
      rw [cnt, cnt_front P k]
      simp only [cnt]
      omega
theorem cnt_congr {P Q : Nat → Bool} : ∀ k, (∀ i, i < k → P i = Q i) → cnt P k = cnt Q k
  | 0, _ => rfl
  | k + 1, h => by
      simp only [cnt]
      rw [cnt_congr k fun i hi => h i (by omega), h k (by omega)]
theorem cnt_turn (P : Nat → Bool) : ∀ k, cnt (fun i => P (k - 1 - i)) k = cnt P k
  | 0 => rfl
  | k + 1 => by
      rw [cnt_front]
      simp only [cnt]
      have h := cnt_turn P k
      have e : cnt (fun i => P (k + 1 - 1 - (i + 1))) k = cnt (fun i => P (k - 1 - i)) k := cnt_congr k fun i hi => by
        congr 1
        omega
      rw [e, h]
      simp
      omega
theorem cnt_not (P : Nat → Bool) : ∀ k, cnt (fun i => !P i) k + cnt P k = k
  | 0 => rfl
  | k + 1 => by
      have := cnt_not P k
      simp only [cnt]
      by_cases h : P k = true <;> simp [h] <;> omega
theorem half {v : List Nat} (h : 0 < T v) : 2 * cnt (wins v) (2 ^ v.length) = 2 ^ v.length := by
  have h1 := cnt_not (wins v) (2 ^ v.length)
  have h2 := cnt_turn (wins v) (2 ^ v.length)
  have h3 : cnt (fun i => wins v (2 ^ v.length - 1 - i)) (2 ^ v.length) = cnt (fun i => !wins v i) (2 ^ v.length) := cnt_congr _ fun i hi => wins_compl h hi
  omega

def size (s : Nat) : Nat → Nat
  | 0 => 0
  | k + 1 => size s k + if s.testBit k then 1 else 0
theorem size_compl (s n : Nat) (hs : s < 2 ^ n) : ∀ k, k ≤ n → size (2 ^ n - 1 - s) k + size s k = k
  | 0, _ => by simp [size]
  | k + 1, hk => by
      have ih := size_compl s n hs k (by omega)
      have e : 2 ^ n - 1 - s = 2 ^ n - (s + 1) := by omega
      have hb := Nat.testBit_two_pow_sub_succ hs k
      rw [← e] at hb
      have hk' : k < n := by omega
      simp only [hk', decide_true, Bool.true_and] at hb
      simp only [size, hb]
      cases s.testBit k <;> simp <;> omega
theorem size_le (s : Nat) : ∀ k, size s k ≤ k
  | 0 => Nat.le_refl _
  | k + 1 => by
      have := size_le s k
      simp only [size]
      split <;> omega
def least (v : List Nat) : Nat → Nat
  | 0 => v.length
  | k + 1 => if wins v k then least v k else min (least v k) (v.length - size k v.length)
theorem least_le (v : List Nat) (s : Nat) : ∀ k, s < k → wins v s = false → least v k ≤ v.length - size s v.length
  | 0, h, _ => by omega
  | k + 1, h, hw => by
      by_cases e : s = k
      · subst e
        simp only [least, hw]
        exact Nat.min_le_right _ _
      · have := least_le v s k (by omega) hw
        simp only [least]
        split
        · exact this
        · exact Nat.le_trans (Nat.min_le_left _ _) this
theorem least_at (v : List Nat) : ∀ k, least v k = v.length ∨ ∃ s, s < k ∧ wins v s = false ∧ least v k = v.length - size s v.length
  | 0 => .inl rfl
  | k + 1 => by
      simp only [least]
      by_cases hw : wins v k = true
      · simp only [hw, if_true]
        rcases least_at v k with h | ⟨s, a, b, c⟩
        · exact .inl h
        · exact .inr ⟨s, by omega, b, c⟩
      · simp only [hw]
        by_cases hm : least v k ≤ v.length - size k v.length
        · have e : min (least v k) (v.length - size k v.length) = least v k := Nat.min_eq_left hm
          simp only [Bool.false_eq_true, if_false]
          rw [e]
          rcases least_at v k with h | ⟨s, a, b, c⟩
          · exact .inl h
          · exact .inr ⟨s, by omega, b, c⟩
        · have e : min (least v k) (v.length - size k v.length) = v.length - size k v.length := Nat.min_eq_right (by omega)
          simp only [Bool.false_eq_true, if_false]
          rw [e]
          exact .inr ⟨k, by omega, by simpa using hw, rfl⟩
theorem size_full (n : Nat) : ∀ k, k ≤ n → size (2 ^ n - 1) k = k := by
  intro k hk
  have := size_compl 0 n (Nat.two_pow_pos n) k hk
  have h0 : ∀ k, size 0 k = 0 := by
    intro k
    induction k with
    | zero => rfl
    | succ k ih => simp [size, ih]
  rw [h0] at this
  simpa using this
theorem least_le_len (v : List Nat) : ∀ k, least v k ≤ v.length
  | 0 => Nat.le_refl _
  | k + 1 => by
      have := least_le_len v k
      simp only [least]
      split
      · exact this
      · exact Nat.le_trans (Nat.min_le_left _ _) this
end Go.Proofs.Ytapenemfnngniaa.Qm
