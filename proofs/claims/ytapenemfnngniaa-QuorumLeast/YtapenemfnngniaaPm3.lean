import Derived.Test.YtapenemfnngniaaPl3
namespace Go.Proofs.Ytapenemfnngniaa.Qm
open Go.RowKit Mb
set_option linter.unusedVariables false
set_option maxRecDepth 100000
set_option linter.unusedSimpArgs false
def lst (n s : Nat) : List Int := zi (listN s n)
theorem cmpL_zero : ∀ x y : List Int, ¬ cmpL x y < 0 → ¬ cmpL y x < 0 → x = y
  | [], [], _, _ => rfl
  | [], _ :: _, h, _ => by simp [cmpL] at h
  | _ :: _, [], _, h => by simp [cmpL] at h
  | a :: r, b :: s, h1, h2 => by
      simp only [cmpL] at h1 h2
      have k1 : ¬ a < b := fun h => h1 (by have := cmpI_lt.2 h; rw [if_neg (by omega)]; exact this)
      have k2 : ¬ b < a := fun h => h2 (by have := cmpI_lt.2 h; rw [if_neg (by omega)]; exact this)
      obtain rfl : a = b := by omega
      rw [if_pos (cmpI_eq.2 rfl)] at h1 h2
      rw [cmpL_zero r s h1 h2]
theorem lst_inj {n s t : Nat} (hn : n ≤ 16) (hs : s < 2 ^ n) (ht : t < 2 ^ n) (h : lst n s = lst n t) : s = t := by
  have h1 := setP_of hn hs
  have h2 := setP_of hn ht
  unfold lst at h
  rw [h, h2] at h1
  exact (Option.some.inj h1).symm
def Rl (n s t : Nat) : Prop := ¬ cmpL (lst n t) (lst n s) < 0
theorem perm_uniq {n : Nat} (hn : n ≤ 16) : ∀ X Y : List Nat, X.Perm Y → (∀ s ∈ X, s < 2 ^ n) → X.Pairwise (Rl n) → Y.Pairwise (Rl n) → X = Y
  | [], Y, hp, _, _, _ => (List.Perm.nil_eq hp)
  | x :: r, [], hp, _, _, _ => by have := hp.length_eq; simp at this
  | x :: r, y :: s, hp, hb, hX, hY => by
      have hxy : x = y := by
        apply Classical.byContradiction
        intro hne
        have hx : x ∈ s := by
          have := hp.mem_iff.1 (List.mem_cons_self (a := x) (l := r))
          rcases List.mem_cons.1 this with h | h
          · exact absurd h hne
          · exact h
        have hy : y ∈ r := by
          have := hp.mem_iff.2 (List.mem_cons_self (a := y) (l := s))
          rcases List.mem_cons.1 this with h | h
          · exact absurd h.symm hne
          · exact h
        have h1 := (List.pairwise_cons.1 hX).1 y hy
        have h2 := (List.pairwise_cons.1 hY).1 x hx
        exact hne (lst_inj hn (hb x (by simp)) (hb y (by simp [hy])) (cmpL_zero _ _ h2 h1))
      subst hxy
      rw [perm_uniq hn r s (hp.cons_inv) (fun t ht => hb t (by simp [ht])) (List.pairwise_cons.1 hX).2 (List.pairwise_cons.1 hY).2]
def frm (v : List Nat) : Nat → Nat → Nat → List Nat
  | 0, s, i => []
  | f + 1, s, i => if mn v s then [s] else if wins v s then [] else ((List.range (v.length - i)).map (fun j => frm v f (s + 2 ^ (i + j)) (i + j + 1))).flatten
theorem mod_sub {t i s : Nat} (h : t % 2 ^ i = s) : s ||| t = t := by
  subst h
  refine bit_sub fun j hj => ?_
  rw [Nat.testBit_mod_two_pow] at hj
  exact (Bool.and_eq_true_iff.1 hj).2
theorem mod_step {t i : Nat} : t % 2 ^ (i + 1) = t % 2 ^ i + 2 ^ i * (t.testBit i).toNat := by
  rw [Nat.pow_succ, Nat.mod_mul, Nat.testBit_eq_decide_div_mod_eq]
  have := Nat.mod_two_eq_zero_or_one (t / 2 ^ i)
  rcases this with h | h <;> simp [h]
theorem next_bit {t i s n : Nat} (ht : t < 2 ^ n) (h : t % 2 ^ i = s) (hn : t ≠ s) : ∀ f, n ≤ i + f → ∃ k, i ≤ k ∧ k < n ∧ t % 2 ^ (k + 1) = s + 2 ^ k
  | 0, hf => by
      exfalso
      have : t < 2 ^ i := Nat.lt_of_lt_of_le ht (Nat.pow_le_pow_right (by decide) (by omega))
      rw [Nat.mod_eq_of_lt this] at h
      exact hn h
  | f + 1, hf => by
      cases hb : t.testBit i with
      | true => exact ⟨i, Nat.le_refl _, bit_lt ht hb, by rw [mod_step, h, hb]; simp⟩
      | false =>
        obtain ⟨k, h1, h2, h3⟩ := next_bit (i := i + 1) (s := s) ht (by rw [mod_step, h, hb]; simp) hn f (by omega)
        exact ⟨k, by omega, h2, h3⟩
theorem mn_over {v : List Nat} {s t : Nat} (h16 : v.length ≤ 16) (hw : wins v s = true) (ht : t < 2 ^ v.length) (hm : mn v t = true) (hs : s ||| t = t) : s = t := by
  apply Classical.byContradiction
  intro hn
  obtain ⟨p, hp, hsp⟩ := ne_bit hs hn
  have hpn := bit_lt ht hp
  have hw2 := mn_no hm hpn hp
  have : wins v (wo t p) = true := wins_sub hw (bit_sub fun i hi => by
    rw [wo_bit t p i (by omega), sub_bit hs hi]
    have h64 : i < 64 := by have := bit_lt ht (sub_bit hs hi); omega
    have hne : p ≠ i := by intro e; subst e; rw [hi] at hsp; cases hsp
    simp [h64, hne])
  rw [hw2] at this
  cases this
theorem frm_mem {v : List Nat} (h16 : v.length ≤ 16) : ∀ (f s i t : Nat), s < 2 ^ i → i ≤ v.length → v.length < i + f → (t ∈ frm v f s i ↔ t < 2 ^ v.length ∧ mn v t = true ∧ t % 2 ^ i = s)
  | 0, s, i, t, hs, hi, hf => by omega
  | f + 1, s, i, t, hs, hi, hf => by
      have hsn : s < 2 ^ v.length := Nat.lt_of_lt_of_le hs (Nat.pow_le_pow_right (by decide) hi)
      simp only [frm]
      cases hm : mn v s with
      | true =>
        simp only [if_true, List.mem_singleton]
        constructor
        · rintro rfl
          exact ⟨hsn, hm, Nat.mod_eq_of_lt hs⟩
        · rintro ⟨h1, h2, h3⟩
          exact (mn_over h16 (mn_wins hm) h1 h2 (mod_sub h3)).symm
      | false =>
        simp only [Bool.false_eq_true, if_false]
        cases hw : wins v s with
        | true =>
          simp only [if_true, List.not_mem_nil, false_iff]
          rintro ⟨h1, h2, h3⟩
          have := mn_over h16 hw h1 h2 (mod_sub h3)
          rw [this, h2] at hm
          cases hm
        | false =>
          simp only [Bool.false_eq_true, if_false, List.mem_flatten, List.mem_map, List.mem_range]
          constructor
          · rintro ⟨L, ⟨j, hj, rfl⟩, ht⟩
            have h2 : s + 2 ^ (i + j) < 2 ^ (i + j + 1) := by
              have : 2 ^ i ≤ 2 ^ (i + j) := Nat.pow_le_pow_right (by decide) (by omega)
              rw [Nat.pow_succ]
              omega
            obtain ⟨h3, h4, h5⟩ := (frm_mem h16 f _ _ t h2 (by omega) (by omega)).1 ht
            refine ⟨h3, h4, ?_⟩
            have h6 : t % 2 ^ (i + j + 1) % 2 ^ i = t % 2 ^ i := Nat.mod_mod_of_dvd _ (Nat.pow_dvd_pow 2 (by omega))
            rw [← h6, h5, Nat.add_mod, Nat.mod_eq_of_lt hs]
            have h7 : 2 ^ (i + j) % 2 ^ i = 0 := Nat.mod_eq_zero_of_dvd (Nat.pow_dvd_pow 2 (by omega))
            rw [h7, Nat.add_zero, Nat.mod_eq_of_lt hs]
          · rintro ⟨h1, h2, h3⟩
            have hn : t ≠ s := by intro e; rw [e] at h2; rw [h2] at hm; cases hm
            obtain ⟨k, h4, h5, h6⟩ := next_bit h1 h3 hn v.length (by omega)
            refine ⟨_, ⟨k - i, by omega, rfl⟩, ?_⟩
            have e : i + (k - i) = k := by omega
            rw [e]
            have h7 : s + 2 ^ k < 2 ^ (k + 1) := by
              have : 2 ^ i ≤ 2 ^ k := Nat.pow_le_pow_right (by decide) h4
              rw [Nat.pow_succ]
              omega
            exact (frm_mem h16 f _ _ t h7 (by omega) (by omega)).2 ⟨h1, h2, h6⟩
theorem listN_mod (t : Nat) : ∀ k, listN (t % 2 ^ k) k = listN t k := by
  have key : ∀ k m, k ≤ m → listN (t % 2 ^ m) k = listN t k := by
    intro k
    induction k with
    | zero => intro m _; rfl
    | succ k ih =>
      intro m hm
      simp only [listN]
      rw [ih m (by omega), Nat.testBit_mod_two_pow]
      simp [show k < m by omega]
  exact fun k => key k k (Nat.le_refl _)
theorem listN_pre (t k : Nat) : ∀ j, ∃ r, listN t (k + j) = listN t k ++ r
  | 0 => ⟨[], by simp⟩
  | j + 1 => by
      obtain ⟨r, hr⟩ := listN_pre t k j
      rw [← Nat.add_assoc]
      simp only [listN, hr]
      split
      · exact ⟨r ++ [k + j], by simp⟩
      · exact ⟨r, rfl⟩
theorem listN_split {t s k n : Nat} (hk : k < n) (hs : s < 2 ^ k) (h : t % 2 ^ (k + 1) = s + 2 ^ k) : ∃ r, listN t n = listN s k ++ k :: r := by
  have h1 := mod_step (t := t) (i := k)
  have hb : t.testBit k = true := by
    cases hb : t.testBit k with
    | true => rfl
    | false =>
      rw [hb, h] at h1
      have := Nat.mod_lt t (Nat.two_pow_pos k)
      simp at h1
      omega
  have h2 : t % 2 ^ k = s := by rw [hb, h] at h1; simp at h1; omega
  obtain ⟨r, hr⟩ := listN_pre t (k + 1) (n - (k + 1))
  rw [show k + 1 + (n - (k + 1)) = n by omega] at hr
  refine ⟨r, ?_⟩
  rw [hr]
  simp only [listN, hb, if_true]
  rw [← listN_mod t k, h2]
  simp
theorem cmpL_pre : ∀ (P : List Int) (x y : List Int), cmpL (P ++ x) (P ++ y) = cmpL x y
  | [], x, y => rfl
  | a :: r, x, y => by
      simp only [List.cons_append, cmpL]
      rw [if_pos (cmpI_eq.2 rfl)]
      exact cmpL_pre r x y
theorem listN_s {s i k : Nat} (hs : s < 2 ^ i) (h : i ≤ k) : listN s k = listN s i := listN_of hs h
theorem frm_sorted {v : List Nat} (h16 : v.length ≤ 16) : ∀ (f s i : Nat), s < 2 ^ i → i ≤ v.length → v.length < i + f → (frm v f s i).Pairwise (Rl v.length)
  | 0, s, i, hs, hi, hf => by omega
  | f + 1, s, i, hs, hi, hf => by
      simp only [frm]
      cases hm : mn v s with
      | true => simp
      | false =>
        simp only [Bool.false_eq_true, if_false]
        cases hw : wins v s with
        | true => simp
        | false =>
          simp only [Bool.false_eq_true, if_false]
          have hlt : ∀ j, s + 2 ^ (i + j) < 2 ^ (i + j + 1) := fun j => by
            have : 2 ^ i ≤ 2 ^ (i + j) := Nat.pow_le_pow_right (by decide) (by omega)
            rw [Nat.pow_succ]
            omega
          rw [List.pairwise_flatten]
          constructor
          · intro L hL
            obtain ⟨j, hj, rfl⟩ := List.mem_map.1 hL
            exact frm_sorted h16 f _ _ (hlt j) (by have := List.mem_range.1 hj; omega) (by omega)
          · rw [List.pairwise_map]
            refine List.Pairwise.imp_of_mem ?_ (List.pairwise_lt_range (n := v.length - i))
            intro j1 j2 hj1 hj2 hlt12 t1 ht1 t2 ht2
            have b1 := List.mem_range.1 hj1
            have b2 := List.mem_range.1 hj2
            have m1 := (frm_mem h16 f _ _ t1 (hlt j1) (by omega) (by omega)).1 ht1
            have m2 := (frm_mem h16 f _ _ t2 (hlt j2) (by omega) (by omega)).1 ht2
            have hs1 : s < 2 ^ (i + j1) := Nat.lt_of_lt_of_le hs (Nat.pow_le_pow_right (by decide) (by omega))
            have hs2 : s < 2 ^ (i + j2) := Nat.lt_of_lt_of_le hs (Nat.pow_le_pow_right (by decide) (by omega))
            obtain ⟨r1, e1⟩ := listN_split (n := v.length) (by omega) hs1 m1.2.2
            obtain ⟨r2, e2⟩ := listN_split (n := v.length) (by omega) hs2 m2.2.2
            unfold Rl lst
            rw [e1, e2, listN_s hs (by omega : i ≤ i + j1), listN_s hs (by omega : i ≤ i + j2)]
            have e3 : ∀ (P : List Nat) (k : Nat) (r : List Nat), zi (P ++ k :: r) = zi P ++ ((k : Int) :: zi r) := fun P k r => by simp [zi]
            rw [e3, e3, cmpL_pre]
            simp only [cmpL]
            have : cmpI ((i + j2 : Nat) : Int) ((i + j1 : Nat) : Int) = 1 := by unfold cmpI; rw [if_neg (by omega), if_pos (by omega)]
            rw [this]
            simp
theorem frm_nodup {v : List Nat} (h16 : v.length ≤ 16) : ∀ (f s i : Nat), s < 2 ^ i → i ≤ v.length → v.length < i + f → (frm v f s i).Nodup
  | 0, s, i, hs, hi, hf => by omega
  | f + 1, s, i, hs, hi, hf => by
      simp only [frm]
      cases hm : mn v s with
      | true => simp
      | false =>
        simp only [Bool.false_eq_true, if_false]
        cases hw : wins v s with
        | true => simp
        | false =>
          simp only [Bool.false_eq_true, if_false]
          have hlt : ∀ j, s + 2 ^ (i + j) < 2 ^ (i + j + 1) := fun j => by
            have : 2 ^ i ≤ 2 ^ (i + j) := Nat.pow_le_pow_right (by decide) (by omega)
            rw [Nat.pow_succ]
            omega
          unfold List.Nodup
          rw [List.pairwise_flatten]
          constructor
          · intro L hL
            obtain ⟨j, hj, rfl⟩ := List.mem_map.1 hL
            exact frm_nodup h16 f _ _ (hlt j) (by have := List.mem_range.1 hj; omega) (by omega)
          · rw [List.pairwise_map]
            refine List.Pairwise.imp_of_mem ?_ (List.pairwise_lt_range (n := v.length - i))
            intro j1 j2 hj1 hj2 hlt12 t1 ht1 t2 ht2 he
            have b1 := List.mem_range.1 hj1
            have b2 := List.mem_range.1 hj2
            have m1 := (frm_mem h16 f _ _ t1 (hlt j1) (by omega) (by omega)).1 ht1
            have m2 := (frm_mem h16 f _ _ t2 (hlt j2) (by omega) (by omega)).1 ht2
            have hs1 : s < 2 ^ (i + j1) := Nat.lt_of_lt_of_le hs (Nat.pow_le_pow_right (by decide) (by omega))
            have hs2 : s < 2 ^ (i + j2) := Nat.lt_of_lt_of_le hs (Nat.pow_le_pow_right (by decide) (by omega))
            obtain ⟨r1, e1⟩ := listN_split (n := v.length) (by omega) hs1 m1.2.2
            obtain ⟨r2, e2⟩ := listN_split (n := v.length) (by omega) hs2 m2.2.2
            rw [he, e2, listN_s hs (by omega : i ≤ i + j1), listN_s hs (by omega : i ≤ i + j2)] at e1
            have := List.append_cancel_left e1
            simp only [List.cons.injEq] at this
            omega
theorem frm_all {v : List Nat} (h : Ok v) : (frm v (v.length + 1) 0 0).Perm (ML v (2 ^ v.length)) :=
  (List.perm_ext_iff_of_nodup (frm_nodup h.1 _ 0 0 (by simp) (Nat.zero_le _) (by omega)) (ML_nodup v _)).2 fun t => by
    rw [frm_mem h.1 _ 0 0 t (by simp) (Nat.zero_le _) (by omega), ML_mem]
    simp [Nat.mod_one]
end Go.Proofs.Ytapenemfnngniaa.Qm
