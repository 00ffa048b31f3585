import Derived.Test.YtmkopbbbonggdaaCrc
namespace Go.Proofs.Ytmkopbbbonggdaa.Fg
set_option linter.unusedVariables false
set_option linter.unusedSimpArgs false

def nats (bs : List Int) : List Nat := bs.map Int.toNat
def By (bs : List Int) : Prop := ∀ i, 0 ≤ bs.getD i 0 ∧ bs.getD i 0 ≤ 255
theorem By.mem {bs : List Int} (h : By bs) : ∀ x ∈ bs, 0 ≤ x ∧ x ≤ 255 := by
  intro x hx
  obtain ⟨i, hi, rfl⟩ := List.mem_iff_getElem.1 hx
  have := h i
  simpa [List.getD, hi] using this
theorem By.of {bs : List Int} (h : ∀ x ∈ bs, 0 ≤ x ∧ x ≤ 255) : By bs := by
  intro i
  by_cases hi : i < bs.length
  · have := h bs[i] (List.getElem_mem hi)
    simpa [List.getD, hi] using this
  · simp [List.getD, List.getElem?_eq_none (by omega : bs.length ≤ i)]
theorem By.nil : By [] := By.of (by simp)
theorem By.append {a b : List Int} (h : By a) (k : By b) : By (a ++ b) := By.of fun x hx => (List.mem_append.1 hx).elim (h.mem x) (k.mem x)
theorem By.take {a : List Int} (h : By a) (n : Nat) : By (a.take n) := By.of fun x hx => h.mem x (List.mem_of_mem_take hx)
theorem By.drop {a : List Int} (h : By a) (n : Nat) : By (a.drop n) := By.of fun x hx => h.mem x (List.mem_of_mem_drop hx)

def crc (bs : List Int) : Nat := Crc.crc (nats bs)
theorem crc_lt {bs : List Int} (h : By bs) : crc bs < 4294967296 := Crc.crc_lt _ fun c hc => by
  obtain ⟨x, hx, rfl⟩ := List.mem_map.1 hc
  have := h.mem x hx
  omega

def val (bs : List Int) : Nat := bs.foldl (fun v x => v * 256 + x.toNat) 0
def sz (c : List Int) : Nat := val (c.take 2)
def pl (c : List Int) : Nat := val ((c.drop 2).take 2)
def sm (c : List Int) : Nat := val ((c.drop 4).take 4)
theorem val_snoc (bs : List Int) (x : Int) : val (bs ++ [x]) = val bs * 256 + x.toNat := by simp [val]
theorem val_lt : ∀ (n : Nat) (bs : List Int), By bs → bs.length = n → val bs < 256 ^ n
  | 0, bs, h, hl => by
      obtain rfl : bs = [] := List.eq_nil_of_length_eq_zero hl
      simp [val]
  | n + 1, bs, h, hl => by
      have hne : bs ≠ [] := by intro e; rw [e] at hl; simp at hl
      have e := List.dropLast_concat_getLast hne
      have h1 := val_lt n bs.dropLast (By.of fun x hx => h.mem x (List.dropLast_subset bs hx)) (by simp [hl])
      have h2 := h.mem _ (List.getLast_mem hne)
      rw [← e, val_snoc, Nat.pow_succ]
      omega
theorem sz_lt {c : List Int} (h : By c) : sz c < 65536 := by
  have := val_lt _ (c.take 2) (h.take 2) rfl
  have h2 : (c.take 2).length ≤ 2 := List.length_take_le _ _
  have h3 : 256 ^ (c.take 2).length ≤ 256 ^ 2 := Nat.pow_le_pow_right (by decide) h2
  unfold sz; omega
theorem pl_lt {c : List Int} (h : By c) : pl c < 65536 := by
  have := val_lt _ ((c.drop 2).take 2) ((h.drop 2).take 2) rfl
  have h2 : ((c.drop 2).take 2).length ≤ 2 := List.length_take_le _ _
  have h3 : 256 ^ ((c.drop 2).take 2).length ≤ 256 ^ 2 := Nat.pow_le_pow_right (by decide) h2
  unfold pl; omega
theorem sm_lt {c : List Int} (h : By c) : sm c < 4294967296 := by
  have := val_lt _ ((c.drop 4).take 4) ((h.drop 4).take 4) rfl
  have h2 : ((c.drop 4).take 4).length ≤ 4 := List.length_take_le _ _
  have h3 : 256 ^ ((c.drop 4).take 4).length ≤ 256 ^ 4 := Nat.pow_le_pow_right (by decide) h2
  unfold sm; omega

def placed (s p : Nat) : Bool := decide (s ≤ 4000) && decide (p % 248 = 0) && (decide (p < s) || decide (s = 0 ∧ p = 0))
def form (c : List Int) : Bool := decide (8 ≤ c.length) && placed (sz c) (pl c) && decide (c.length = 8 + min 248 (sz c - pl c))
structure Form (c : List Int) : Prop where
  len : 8 ≤ c.length
  big : sz c ≤ 4000
  mul : pl c % 248 = 0
  lt : pl c < sz c ∨ (sz c = 0 ∧ pl c = 0)
  pc : c.length = 8 + min 248 (sz c - pl c)
theorem form_iff (c : List Int) : form c = true ↔ Form c := by
  unfold form placed
  simp only [Bool.and_eq_true, Bool.or_eq_true, decide_eq_true_eq]
  exact ⟨fun ⟨⟨h1, ⟨h2, h3⟩, h4⟩, h5⟩ => ⟨h1, h2, h3, h4, h5⟩, fun h => ⟨⟨h.len, ⟨h.big, h.mul⟩, h.lt⟩, h.pc⟩⟩
theorem Form.dlen {c : List Int} (h : Form c) : (c.drop 8).length = min 248 (sz c - pl c) := by rw [List.length_drop, h.pc]; omega

structure Pt where
  sz : Nat
  sm : Nat
  bs : List Int
def p0 : Pt := ⟨0, 0, []⟩
structure Pt.Ok (p : Pt) : Prop where
  by_ : By p.bs
  sm_ : p.sm < 4294967296
  st : p = p0 ∨ (0 < p.bs.length ∧ p.bs.length < p.sz ∧ p.sz ≤ 4000 ∧ p.bs.length % 248 = 0)
theorem p0_ok : p0.Ok := ⟨By.nil, by decide, .inl rfl⟩
structure Out where
  p : Pt
  b : Option (List Int)
  e : Nat
def beg (p : Pt) (c : List Int) : Pt := if pl c = 0 then ⟨sz c, sm c, []⟩ else p
def fits (p : Pt) (c : List Int) : Bool := decide ((beg p c).sz = sz c ∧ (beg p c).bs.length = pl c ∧ (beg p c).sm = sm c)
def joined (p : Pt) (c : List Int) : List Int := (beg p c).bs ++ c.drop 8
def take (p : Pt) (c : List Int) : Out :=
  if form c && fits p c then
    if (joined p c).length < sz c then ⟨⟨sz c, sm c, joined p c⟩, none, 0⟩
    else if crc (joined p c) = sm c then ⟨p0, some (joined p c), 0⟩ else ⟨p0, none, 91⟩
  else ⟨p, none, 91⟩
theorem fits_zero {p : Pt} {c : List Int} (h : pl c = 0) : fits p c = true := by
  unfold fits beg
  rw [if_pos h]
  simp [h]
theorem joined_zero {p : Pt} {c : List Int} (h : pl c = 0) : joined p c = c.drop 8 := by
  unfold joined beg
  rw [if_pos h]
  rfl
theorem joined_more {p : Pt} {c : List Int} (h : pl c ≠ 0) : joined p c = p.bs ++ c.drop 8 := by
  unfold joined beg
  rw [if_neg h]
theorem joined_len {p : Pt} {c : List Int} (hf : Form c) (h : fits p c = true) : (joined p c).length = pl c + min 248 (sz c - pl c) := by
  unfold fits at h
  have h := (of_decide_eq_true h).2.1
  unfold joined
  rw [List.length_append, h, hf.dlen]
theorem joined_by {p : Pt} {c : List Int} (hp : p.Ok) (hc : By c) : By (joined p c) := by
  unfold joined beg
  split
  · simpa using hc.drop 8
  · exact hp.by_.append (hc.drop 8)
theorem take_ok {p : Pt} {c : List Int} (hp : p.Ok) (hc : By c) : (take p c).p.Ok := by
  unfold take
  by_cases h : (form c && fits p c) = true
  · rw [if_pos h]
    simp only [Bool.and_eq_true] at h
    have hf := (form_iff c).1 h.1
    have hl := joined_len hf h.2
    by_cases h2 : (joined p c).length < sz c
    · rw [if_pos h2]
      refine ⟨joined_by hp hc, sm_lt hc, .inr ⟨?_, h2, hf.big, ?_⟩⟩
      · show 0 < (joined p c).length
        have := hf.lt
        omega
      · show (joined p c).length % 248 = 0
        have := hf.mul
        omega
    · rw [if_neg h2]
      split <;> exact p0_ok
  · rw [if_neg h]
    exact hp
theorem take_some_by {p : Pt} {c b : List Int} (hp : p.Ok) (hc : By c) (h : (take p c).b = some b) : By b := by
  unfold take at h
  split at h
  · split at h
    · cases h
    · split at h
      · cases h; exact joined_by hp hc
      · cases h
  · cases h

structure Rel (p : Pt) (L : List (List Int)) : Prop where
  nil : L = [] → p = p0
  sz_ : L ≠ [] → sz (L.headD []) = p.sz
  sm_ : L ≠ [] → sm (L.headD []) = p.sm
  cat : (L.map (List.drop 8)).flatten = p.bs
  mul : 248 * L.length = p.bs.length
theorem rel0 : Rel p0 [] := ⟨fun _ => rfl, fun h => (h rfl).elim, fun h => (h rfl).elim, rfl, rfl⟩
def rfits (L : List (List Int)) (c : List Int) : Bool := decide (pl c = 0) || (decide (L ≠ []) && decide (sz (L.headD []) = sz c) && decide (sm (L.headD []) = sm c) && decide (L.length * 248 = pl c))
def rbeg (L : List (List Int)) (c : List Int) : List (List Int) := if pl c = 0 then [] else L
def cat (L : List (List Int)) : List Int := (L.map (List.drop 8)).flatten
theorem rfits_eq {p : Pt} {L : List (List Int)} (hp : p.Ok) (h : Rel p L) (c : List Int) : rfits L c = fits p c := by
  by_cases hz : pl c = 0
  · rw [fits_zero hz]
    simp [rfits, hz]
  · unfold rfits fits beg
    rw [if_neg hz]
    rw [Bool.eq_iff_iff]
    simp only [Bool.or_eq_true, Bool.and_eq_true, decide_eq_true_eq, hz, false_or]
    constructor
    · rintro ⟨⟨⟨h1, h2⟩, h3⟩, h4⟩
      rw [h.sz_ h1] at h2
      rw [h.sm_ h1] at h3
      have := h.mul
      exact ⟨h2, by omega, h3⟩
    · rintro ⟨h1, h2, h3⟩
      have hne : L ≠ [] := by
        intro e
        have := h.nil e
        rw [this] at h2
        simp [p0] at h2
        omega
      have := h.mul
      exact ⟨⟨⟨hne, by rw [h.sz_ hne, h1]⟩, by rw [h.sm_ hne, h3]⟩, by omega⟩
theorem rcat {p : Pt} {L : List (List Int)} (h : Rel p L) (c : List Int) : cat (rbeg L c ++ [c]) = joined p c := by
  unfold cat rbeg
  by_cases hz : pl c = 0
  · rw [if_pos hz, joined_zero hz]
    simp
  · rw [if_neg hz, joined_more hz, ← h.cat]
    simp
theorem rel_next {p : Pt} {L : List (List Int)} (hp : p.Ok) (h : Rel p L) {c : List Int} (hf : Form c) (ht : fits p c = true) (hs : (joined p c).length < sz c) : Rel ⟨sz c, sm c, joined p c⟩ (rbeg L c ++ [c]) := by
  have hl := joined_len hf ht
  have hm := h.mul
  refine ⟨fun e => by simp at e, fun _ => ?_, fun _ => ?_, rcat h c, ?_⟩
  · unfold rbeg
    by_cases hz : pl c = 0
    · rw [if_pos hz]; rfl
    · rw [if_neg hz]
      have hr := rfits_eq hp h c
      rw [ht] at hr
      simp only [rfits, hz, Bool.or_eq_true, Bool.and_eq_true, decide_eq_true_eq, false_or] at hr
      cases L with
      | nil => exact (hr.1.1.1 rfl).elim
      | cons x L => exact hr.1.1.2
  · unfold rbeg
    by_cases hz : pl c = 0
    · rw [if_pos hz]; rfl
    · rw [if_neg hz]
      have hr := rfits_eq hp h c
      rw [ht] at hr
      simp only [rfits, hz, Bool.or_eq_true, Bool.and_eq_true, decide_eq_true_eq, false_or] at hr
      cases L with
      | nil => exact (hr.1.1.1 rfl).elim
      | cons x L => exact hr.1.2
  · show 248 * (rbeg L c ++ [c]).length = (joined p c).length
    have hb : 248 * (rbeg L c).length = pl c := by
      unfold rbeg
      by_cases hz : pl c = 0
      · rw [if_pos hz]; simp [hz]
      · rw [if_neg hz]
        have := (of_decide_eq_true ht).2.1
        unfold beg at this
        rw [if_neg hz] at this
        omega
    simp only [List.length_append, List.length_cons, List.length_nil]
    omega

def be (n k : Nat) : List Int := (List.range k).map fun i => ((n / 256 ^ (k - 1 - i) % 256 : Nat) : Int)
theorem be_len (n k : Nat) : (be n k).length = k := by simp [be]
theorem be_by (n k : Nat) : By (be n k) := By.of fun x hx => by
  obtain ⟨i, _, rfl⟩ := List.mem_map.1 hx
  omega
theorem val_be2 (n : Nat) (h : n < 65536) : val (be n 2) = n := by
  simp [val, be, List.range_succ]
  omega
theorem val_be4 (n : Nat) (h : n < 4294967296) : val (be n 4) = n := by
  simp [val, be, List.range_succ]
  omega
def cnt (n : Nat) : Nat := if n ≤ 4000 then max 1 ((n + 247) / 248) else 0
def chunk (b : List Int) (k : Nat) : List Int := be b.length 2 ++ (be (k * 248) 2 ++ (be (crc b) 4 ++ (b.drop (k * 248)).take 248))
def split (b : List Int) : List (List Int) := (List.range (cnt b.length)).map (chunk b)
theorem split_len (b : List Int) : (split b).length = cnt b.length := by simp [split]
theorem chunk_by {b : List Int} (h : By b) (k : Nat) : By (chunk b k) := (be_by _ _).append ((be_by _ _).append ((be_by _ _).append ((h.drop _).take _)))
theorem chunk_len (b : List Int) (k : Nat) : (chunk b k).length = 8 + min 248 (b.length - k * 248) := by
  simp [chunk, be_len]; omega
theorem cnt_le (n : Nat) : cnt n ≤ 17 := by unfold cnt; split <;> omega
theorem chunk_sz {b : List Int} (h : b.length ≤ 4000) (k : Nat) : sz (chunk b k) = b.length := by
  unfold sz chunk
  rw [List.take_append_of_le_length (by simp [be_len]), List.take_of_length_le (by simp [be_len]), val_be2 _ (by omega)]
theorem chunk_pl {b : List Int} {k : Nat} (h : k < 17) : pl (chunk b k) = k * 248 := by
  unfold pl chunk
  rw [List.drop_append_of_le_length (by simp [be_len]), List.drop_of_length_le (by simp [be_len]), List.nil_append, List.take_append_of_le_length (by simp [be_len]), List.take_of_length_le (by simp [be_len]), val_be2 _ (by omega)]
theorem chunk_sm {b : List Int} (h : By b) (k : Nat) : sm (chunk b k) = crc b := by
  unfold sm chunk
  rw [← List.append_assoc, List.drop_append_of_le_length (by simp [be_len]), List.drop_of_length_le (by simp [be_len]), List.nil_append, List.take_append_of_le_length (by simp [be_len]), List.take_of_length_le (by simp [be_len]), val_be4 _ (crc_lt h)]
theorem chunk_drop (b : List Int) (k : Nat) : (chunk b k).drop 8 = (b.drop (k * 248)).take 248 := by
  unfold chunk
  rw [← List.append_assoc, ← List.append_assoc, List.drop_append_of_le_length (by simp [be_len]), List.drop_of_length_le (by simp [be_len]), List.nil_append]
theorem chunk_form {b : List Int} (h : b.length ≤ 4000) {k : Nat} (hk : k < cnt b.length) : Form (chunk b k) := by
  have hc := cnt_le b.length
  have e1 := chunk_sz h k
  have e2 := chunk_pl (b := b) (k := k) (by omega)
  have e3 := chunk_len b k
  have hk' : k = 0 ∨ k * 248 < b.length := by
    unfold cnt at hk
    rw [if_pos h] at hk
    omega
  refine ⟨by omega, by omega, by rw [e2]; omega, ?_, by rw [e1, e2, e3]⟩
  rw [e1, e2]
  omega
end Go.Proofs.Ytmkopbbbonggdaa.Fg
