namespace Go.Proofs.YtjgjpepmfiklfaaGreatDoor.Wm

def put : Nat → Int → List Int
  | 0, v => [v]
  | f + 1, v => if v < 128 then [v] else (v % 128 + 128) :: put f (v / 128)

def maxCount : Int := 4611686018427387904

def tkGo (bs : List Int) (at' : Nat) : Nat → Nat → Int → Int × Int × Int
  | 0, _, _ => (0, 0, 14)
  | k + 1, i, v =>
    if at' + i < bs.length then
      if 128 ≤ bs.getD (at' + i) 0 then tkGo bs at' k (i + 1) (v + bs.getD (at' + i) 0 % 128 * 128 ^ i)
      else if (bs.getD (at' + i) 0 = 0 ∧ 0 < i) ∨ maxCount < v + bs.getD (at' + i) 0 % 128 * 128 ^ i then (0, 0, 14)
      else (v + bs.getD (at' + i) 0 % 128 * 128 ^ i, (at' + i + 1 : Nat), 0)
    else (0, 0, 10)

def tk (bs : List Int) (a : Int) : Int × Int × Int :=
  if a < 0 ∨ (bs.length : Int) < a then (0, 0, 1) else tkGo bs a.toNat 9 0 0

theorem put_ne (f : Nat) (v : Int) : 1 ≤ (put f v).length := by
  cases f with
  | zero => simp [put]
  | succ f => simp only [put]; split <;> simp

theorem put_le (f : Nat) (v : Int) : (put f v).length ≤ f + 1 := by
  induction f generalizing v with
  | zero => simp [put]
  | succ f ih =>
    simp only [put]; split
    · simp
    · have := ih (v / 128); simp; omega

theorem put_bytes (f : Nat) (v : Int) (h0 : 0 ≤ v) (h : v < 128 ^ (f + 1)) : ∀ c ∈ put f v, 0 ≤ c ∧ c ≤ 255 := by
  induction f generalizing v with
  | zero => intro c hc; simp [put] at hc; subst hc; simp at h; omega
  | succ f ih =>
    intro c hc
    simp only [put] at hc
    split at hc
    · simp at hc; omega
    · rcases List.mem_cons.1 hc with e | e
      · omega
      · exact ih (v / 128) (by omega) (by rw [Int.pow_succ] at h; omega) c e

theorem pow_pos (i : Nat) : (0 : Int) < 128 ^ i := Int.pow_pos (by decide)

theorem tkGo_put (post : List Int) (f : Nat) (i : Nat) (u v : Int) (L : Nat) (h0 : 0 ≤ v) (hv : v < 128 ^ (f + 1)) (hz : v = 0 → i = 0) (hm : u + v * 128 ^ i ≤ maxCount) (bs : List Int) (hbs : ∃ a : List Int, a.length = L + i ∧ bs = a ++ put f v ++ post) :
    tkGo bs L (f + 1) i u = (u + v * 128 ^ i, ((L + i + (put f v).length : Nat) : Int), 0) := by
  induction f generalizing i u v bs with
  | zero =>
    obtain ⟨a, ha, rfl⟩ := hbs
    simp at hv
    have e : (a ++ put 0 v ++ post).getD (L + i) 0 = v := by
      simp [put, ← ha]
    have hl : L + i < (a ++ put 0 v ++ post).length := by simp [put, ha]
    simp only [tkGo, e, if_pos hl]
    rw [if_neg (by omega)]
    have hmod : v % 128 = v := by omega
    rw [hmod, if_neg (by rintro (⟨h, h'⟩ | h) <;> omega)]
    simp [put]
  | succ f ih =>
    obtain ⟨a, ha, rfl⟩ := hbs
    by_cases h : v < 128
    · have ep : put (f + 1) v = [v] := by simp [put, h]
      rw [ep]
      have e : (a ++ [v] ++ post).getD (L + i) 0 = v := by
        simp [← ha]
      have hl : L + i < (a ++ [v] ++ post).length := by simp [ha]
      rw [tkGo]
      simp only [e, if_pos hl]
      rw [if_neg (by omega)]
      have hmod : v % 128 = v := by omega
      rw [hmod, if_neg (by rintro (⟨h, h'⟩ | h) <;> omega)]
      simp
    · have ep : put (f + 1) v = (v % 128 + 128) :: put f (v / 128) := by simp [put, h]
      rw [ep]
      have e : (a ++ ((v % 128 + 128) :: put f (v / 128)) ++ post).getD (L + i) 0 = v % 128 + 128 := by
        simp [← ha]
      have hl : L + i < (a ++ ((v % 128 + 128) :: put f (v / 128)) ++ post).length := by simp [ha]
      rw [tkGo]
      simp only [e, if_pos hl]
      rw [if_pos (by omega)]
      have hmod : (v % 128 + 128) % 128 = v % 128 := by omega
      rw [hmod]
      have hp : (128 : Int) ^ (i + 1) = 128 ^ i * 128 := Int.pow_succ ..
      have hsum : v % 128 * 128 ^ i + v / 128 * 128 ^ (i + 1) = v * 128 ^ i := by
        rw [hp, Int.mul_comm (128 ^ i) 128, ← Int.mul_assoc, ← Int.add_mul]
        congr 1; omega
      rw [ih (i + 1) (u + v % 128 * 128 ^ i) (v / 128) (by omega) (by rw [Int.pow_succ] at hv; omega) (by omega) (by rw [Int.add_assoc, hsum]; exact hm) _
        ⟨a ++ [v % 128 + 128], by simp [ha]; omega, by simp⟩]
      rw [Int.add_assoc, hsum]
      simp only [List.length_cons]
      congr 2
      omega

theorem tk_put (pre post : List Int) (v : Int) (h0 : 0 ≤ v) (hv : v ≤ maxCount) :
    tk (pre ++ put 8 v ++ post) (pre.length : Int) = (v, ((pre.length + (put 8 v).length : Nat) : Int), 0) := by
  unfold tk
  rw [if_neg (by simp; omega)]
  have h := tkGo_put post 8 0 0 v pre.length h0 (by simp [maxCount] at hv; simp; omega) (fun _ => rfl) (by simpa using hv) (pre ++ put 8 v ++ post) ⟨pre, by simp, rfl⟩
  simpa using h

theorem tk_end (bs : List Int) : tk bs (bs.length : Int) = (0, 0, 10) := by
  unfold tk
  rw [if_neg (by omega)]
  simp [tkGo]

theorem grow_lt (v c : Int) (i : Nat) (hv0 : 0 ≤ v) (hv : v < 128 ^ i) : 0 ≤ v + c % 128 * 128 ^ i ∧ v + c % 128 * 128 ^ i < 128 ^ (i + 1) := by
  have hp := pow_pos i
  have h1 : 0 ≤ c % 128 := by omega
  have h2 : c % 128 ≤ 127 := by omega
  have h3 : 0 ≤ c % 128 * 128 ^ i := Int.mul_nonneg h1 (Int.le_of_lt hp)
  have h4 : c % 128 * 128 ^ i ≤ 127 * 128 ^ i := Int.mul_le_mul_of_nonneg_right h2 (Int.le_of_lt hp)
  rw [Int.pow_succ]
  omega

theorem pow_le9 (i : Nat) (h : i ≤ 9) : (128 : Int) ^ i ≤ 9223372036854775808 := by
  have : (128 : Int) ^ i ≤ 128 ^ 9 := by
    have := Nat.pow_le_pow_right (n := 128) (by decide) h
    exact_mod_cast this
  simpa using this

end Go.Proofs.YtjgjpepmfiklfaaGreatDoor.Wm
