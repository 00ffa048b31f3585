namespace Go.Proofs.Ytmkopbbbonggdaa.Crc

def tab : List Nat := [0, 498536548, 997073096, 651767980, 1994146192, 1802195444, 1303535960, 1342533948, 3988292384, 4027552580, 3604390888, 3412177804, 2607071920, 2262029012, 2685067896, 3183342108]

def bit (w : Nat) : Nat := if w % 2 = 1 then w / 2 ^^^ 3988292384 else w / 2
def nib (w : Nat) : Nat := w / 16 ^^^ tab.getD (w % 16) 0
def byt (w : Nat) : Nat := nib (nib w)
def run (w : Nat) (bs : List Nat) : Nat := bs.foldl (fun w c => byt (w ^^^ c)) w
def crc (bs : List Nat) : Nat := run 4294967295 bs ^^^ 4294967295

theorem xor_half (a b : Nat) : (a ^^^ b) / 2 = a / 2 ^^^ b / 2 := by
  have := Nat.shiftRight_xor_distrib (a := a) (b := b) (i := 1)
  simpa [Nat.shiftRight_succ] using this

theorem xor_low (a b : Nat) : (a ^^^ b) % 2 = (a + b) % 2 := by
  have h : (a ^^^ b).testBit 0 = (a.testBit 0 ^^ b.testBit 0) := Nat.testBit_xor ..
  simp only [Nat.testBit_zero] at h
  rcases Nat.mod_two_eq_zero_or_one a with ha | ha <;> rcases Nat.mod_two_eq_zero_or_one b with hb | hb <;> rcases Nat.mod_two_eq_zero_or_one (a ^^^ b) with hc | hc <;> simp [ha, hb, hc] at h <;> omega

theorem bit_xor (a b : Nat) : bit (a ^^^ b) = bit a ^^^ bit b := by
  have h := xor_low a b
  have h2 := xor_half a b
  unfold bit
  rw [h2]
  rcases Nat.mod_two_eq_zero_or_one a with ha | ha <;> rcases Nat.mod_two_eq_zero_or_one b with hb | hb
  · rw [if_neg (by omega), if_neg (by omega), if_neg (by omega)]
  · rw [if_pos (by omega), if_neg (by omega), if_pos (by omega), Nat.xor_assoc]
  · rw [if_pos (by omega), if_pos (by omega), if_neg (by omega), Nat.xor_assoc, Nat.xor_assoc, Nat.xor_comm (b / 2)]
  · rw [if_neg (by omega), if_pos (by omega), if_pos (by omega)]
    have e : (a / 2 ^^^ 3988292384) ^^^ (b / 2 ^^^ 3988292384) = a / 2 ^^^ b / 2 ^^^ (3988292384 ^^^ 3988292384) := by
      simp only [Nat.xor_assoc]
      congr 1
      rw [Nat.xor_comm 3988292384 (b / 2 ^^^ 3988292384), Nat.xor_assoc]
    rw [e, Nat.xor_self, Nat.xor_zero]

def bits4 (w : Nat) : Nat := bit (bit (bit (bit w)))
theorem bits4_xor (a b : Nat) : bits4 (a ^^^ b) = bits4 a ^^^ bits4 b := by unfold bits4; simp only [bit_xor]

theorem bit_even (q : Nat) : bit (2 * q) = q := by unfold bit; rw [if_neg (by omega)]; omega
theorem bits4_sixteen (q : Nat) : bits4 (16 * q) = q := by
  unfold bits4
  rw [show 16 * q = 2 * (2 * (2 * (2 * q))) by omega, bit_even, bit_even, bit_even, bit_even]

theorem bits4_low (r : Nat) (h : r < 16) : bits4 r = tab.getD r 0 := by
  have : ∀ r : Fin 16, bits4 r.val = tab.getD r.val 0 := by decide
  exact this ⟨r, h⟩

theorem split16 (w : Nat) : w = 16 * (w / 16) ^^^ w % 16 := by
  have h := Nat.shiftLeft_add_eq_or_of_lt (i := 4) (b := w % 16) (by omega) (w / 16)
  have h2 : (w / 16) <<< 4 ^^^ w % 16 = (w / 16) <<< 4 ||| w % 16 := by
    apply Nat.eq_of_testBit_eq
    intro i
    simp only [Nat.testBit_xor, Nat.testBit_or, Nat.testBit_shiftLeft]
    by_cases hi : 4 ≤ i
    · have : (w % 16).testBit i = false := Nat.testBit_lt_two_pow (Nat.lt_of_lt_of_le (show w % 16 < 2 ^ 4 by omega) (Nat.pow_le_pow_right (by decide) hi))
      simp [this]
    · simp [hi]
  rw [← h2] at h
  rw [Nat.shiftLeft_eq, Nat.mul_comm] at h
  have e : 2 ^ 4 * (w / 16) = 16 * (w / 16) := rfl
  rw [e] at h
  omega

theorem nib_bits (w : Nat) : nib w = bits4 w := by
  have h := split16 w
  have e : bits4 w = bits4 (16 * (w / 16)) ^^^ bits4 (w % 16) := by rw [← bits4_xor, ← h]
  rw [e, bits4_sixteen, bits4_low _ (by omega)]
  rfl

theorem byt_bits (w : Nat) : byt w = bits4 (bits4 w) := by unfold byt; rw [nib_bits, nib_bits]
theorem byt_xor (a b : Nat) : byt (a ^^^ b) = byt a ^^^ byt b := by simp only [byt_bits, bits4_xor]
theorem byt_high (q : Nat) : byt (256 * q) = q := by rw [byt_bits, show 256 * q = 16 * (16 * q) by omega, bits4_sixteen, bits4_sixteen]

theorem half_lt (a : Nat) (h : a < 4294967296) : a / 2 < 4294967296 := by omega
theorem bit_lt (w : Nat) (h : w < 4294967296) : bit w < 4294967296 := by
  unfold bit
  split
  · exact Nat.xor_lt_two_pow (n := 32) (by omega) (by decide)
  · omega
theorem nib_lt (w : Nat) (h : w < 4294967296) : nib w < 4294967296 := by
  rw [nib_bits]; unfold bits4; exact bit_lt _ (bit_lt _ (bit_lt _ (bit_lt _ h)))
theorem tab_lt (r : Nat) : tab.getD r 0 < 4294967296 := by
  by_cases h : r < 16
  · have : ∀ r : Fin 16, tab.getD r.val 0 < 4294967296 := by decide
    exact this ⟨r, h⟩
  · have : tab.getD r 0 = 0 := by simp [List.getD, List.getElem?_eq_none (show tab.length ≤ r by simp [tab]; omega)]
    omega
theorem byt_lt (w : Nat) (h : w < 4294967296) : byt w < 4294967296 := nib_lt _ (nib_lt _ h)
theorem step_lt (w c : Nat) (h : w < 4294967296) (hc : c < 256) : byt (w ^^^ c) < 4294967296 := byt_lt _ (Nat.xor_lt_two_pow (n := 32) (by omega) (by omega))
theorem run_lt (bs : List Nat) (w : Nat) (h : w < 4294967296) (hb : ∀ c ∈ bs, c < 256) : run w bs < 4294967296 := by
  induction bs generalizing w with
  | nil => exact h
  | cons c bs ih => exact ih _ (step_lt w c h (hb c (by simp))) (fun x hx => hb x (by simp [hx]))
theorem crc_lt (bs : List Nat) (hb : ∀ c ∈ bs, c < 256) : crc bs < 4294967296 :=
  Nat.xor_lt_two_pow (n := 32) (run_lt bs _ (by decide) hb) (by decide)
theorem run_snoc (w : Nat) (bs : List Nat) (c : Nat) : run w (bs ++ [c]) = byt (run w bs ^^^ c) := by simp [run]
theorem run_append (w : Nat) (a b : List Nat) : run w (a ++ b) = run (run w a) b := by simp [run]

def x3 (a b c : Nat) : Nat := a ^^^ b ^^^ c
theorem x3_mix (a b c d e f : Nat) : x3 a b c ^^^ x3 d e f = x3 (a ^^^ d) (b ^^^ e) (c ^^^ f) := by
  unfold x3
  apply Nat.eq_of_testBit_eq
  intro i
  simp only [Nat.testBit_xor]
  cases a.testBit i <;> cases b.testBit i <;> cases c.testBit i <;> cases d.testBit i <;> cases e.testBit i <;> cases f.testBit i <;> rfl
theorem byt_x3 (a b c : Nat) : byt (x3 a b c) = x3 (byt a) (byt b) (byt c) := by unfold x3; rw [byt_xor, byt_xor]

def zip3 : List Nat → List Nat → List Nat → List Nat
  | a :: as, b :: bs, c :: cs => x3 a b c :: zip3 as bs cs
  | _, _, _ => []
theorem run_x3 (a b c : List Nat) (h1 : a.length = b.length) (h2 : b.length = c.length) (u v w : Nat) : run (x3 u v w) (zip3 a b c) = x3 (run u a) (run v b) (run w c) := by
  induction a generalizing b c u v w with
  | nil =>
    obtain rfl : b = [] := List.eq_nil_of_length_eq_zero (by simpa using h1.symm)
    obtain rfl : c = [] := List.eq_nil_of_length_eq_zero (by simpa using h2.symm)
    rfl
  | cons x a ih =>
    match b, c, h1, h2 with
    | y :: b, z :: c, h1, h2 =>
      simp only [zip3]
      have e : run (x3 u v w) (x3 x y z :: zip3 a b c) = run (byt (x3 u v w ^^^ x3 x y z)) (zip3 a b c) := rfl
      rw [e, x3_mix, byt_x3, ih b c (by simpa using h1) (by simpa using h2)]
      rfl
theorem crc_x3 (a b c : List Nat) (h1 : a.length = b.length) (h2 : b.length = c.length) : crc (zip3 a b c) = crc a ^^^ crc b ^^^ crc c := by
  have h := run_x3 a b c h1 h2 4294967295 4294967295 4294967295
  have e : x3 4294967295 4294967295 4294967295 = 4294967295 := by decide
  rw [e] at h
  show _ = x3 (crc a) (crc b) (crc c)
  unfold crc
  rw [h, ← x3_mix, e]
theorem crc_check : crc [49, 50, 51, 52, 53, 54, 55, 56, 57] = 3421780262 := by decide

theorem take_byte (A y : Nat) : byt (A ^^^ y ^^^ y % 256) = byt A ^^^ y / 256 := by
  have h1 := split16 y
  have hs : y ^^^ y % 256 = 256 * (y / 256) := by
    apply Nat.eq_of_testBit_eq
    intro i
    have e1 : y % 256 = y % 2 ^ 8 := rfl
    have e2 : 256 * (y / 256) = (y >>> 8) <<< 8 := by rw [Nat.shiftLeft_eq, Nat.shiftRight_eq_div_pow]; omega
    rw [e1, e2]
    simp only [Nat.testBit_xor, Nat.testBit_mod_two_pow, Nat.testBit_shiftLeft, Nat.testBit_shiftRight]
    by_cases hi : i < 8
    · simp [hi, show ¬ 8 ≤ i by omega]
    · simp [hi, show 8 ≤ i by omega, show 8 + (i - 8) = i by omega]
  rw [Nat.xor_assoc, hs, byt_xor, byt_high]

def le4 (x : Nat) : List Nat := [x % 256, x / 256 % 256, x / 65536 % 256, x / 16777216 % 256]
theorem residue (bs : List Nat) (hb : ∀ c ∈ bs, c < 256) : crc (bs ++ le4 (crc bs)) = 558161692 := by
  obtain ⟨s, hs⟩ : ∃ s, s = run 4294967295 bs := ⟨_, rfl⟩
  have hlt : s < 4294967296 := by rw [hs]; exact run_lt bs _ (by decide) hb
  have hx : crc bs = s ^^^ 4294967295 := by rw [hs]; rfl
  have hxl := crc_lt bs hb
  unfold crc at hx ⊢
  show run 4294967295 (bs ++ le4 (run 4294967295 bs ^^^ 4294967295)) ^^^ 4294967295 = _
  rw [run_append, ← hs]
  obtain ⟨x, hxx⟩ : ∃ x, x = s ^^^ 4294967295 := ⟨_, rfl⟩
  have hx32 : x < 4294967296 := by rw [hxx]; exact Nat.xor_lt_two_pow (n := 32) hlt (by decide)
  rw [← hxx]
  have hsx : s = 4294967295 ^^^ x := by rw [hxx, Nat.xor_comm s, ← Nat.xor_assoc, Nat.xor_self, Nat.zero_xor]
  have e1 : byt (s ^^^ x % 256) = byt 4294967295 ^^^ x / 256 := by rw [hsx]; exact take_byte _ _
  have e2 : byt (byt 4294967295 ^^^ x / 256 ^^^ x / 256 % 256) = byt (byt 4294967295) ^^^ x / 256 / 256 := take_byte _ _
  have e3 : byt (byt (byt 4294967295) ^^^ x / 256 / 256 ^^^ x / 256 / 256 % 256) = byt (byt (byt 4294967295)) ^^^ x / 256 / 256 / 256 := take_byte _ _
  have e4 : byt (byt (byt (byt 4294967295)) ^^^ x / 256 / 256 / 256 ^^^ x / 256 / 256 / 256 % 256) = byt (byt (byt (byt 4294967295))) ^^^ x / 256 / 256 / 256 / 256 := take_byte _ _
  have e : run s (le4 x) = byt (byt (byt (byt (s ^^^ x % 256) ^^^ x / 256 % 256) ^^^ x / 65536 % 256) ^^^ x / 16777216 % 256) := rfl
  rw [e, show x / 65536 = x / 256 / 256 by omega, show x / 16777216 = x / 256 / 256 / 256 by omega, e1, e2, e3, e4, show x / 256 / 256 / 256 / 256 = 0 by omega, Nat.xor_zero]
  decide

end Go.Proofs.Ytmkopbbbonggdaa.Crc
