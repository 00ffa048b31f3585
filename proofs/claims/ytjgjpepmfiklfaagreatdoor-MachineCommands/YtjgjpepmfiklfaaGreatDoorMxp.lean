import Derived.Test.YtjgjpepmfiklfaaGreatDoorMxo
namespace Go.Proofs.YtjgjpepmfiklfaaGreatDoor.Mx
open Go.RowKit Mb Mh Lo
set_option linter.unusedVariables false
set_option maxRecDepth 100000
set_option linter.unusedSimpArgs false
def seg (bs : List Int) (a m : Nat) : List Int := (bs.drop a).take (m - a)

theorem seg_app (bs : List Int) (a m n : Nat) (h1 : a ≤ m) (h2 : m ≤ n) : seg bs a m ++ seg bs m n = seg bs a n := by
  unfold seg
  have e : bs.drop m = (bs.drop a).drop (m - a) := by rw [List.drop_drop]; congr 1; omega
  rw [e, ← List.take_add]
  congr 1
  omega

theorem seg_one (bs : List Int) (a : Nat) (h : a < bs.length) : seg bs a (a + 1) = [bs.getD a 0] := by
  unfold seg
  have e : a + 1 - a = 1 := by omega
  have e2 : bs.getD a 0 = bs[a] := by simp [List.getD, h]
  rw [e, e2, List.drop_eq_getElem_cons h]
  rfl

theorem seg_all (bs : List Int) : seg bs 0 bs.length = bs := by unfold seg; simp

theorem tkGo_inv (bs : List Int) (hb : ∀ i, 0 ≤ bs.getD i 0 ∧ bs.getD i 0 ≤ 255) (a : Nat) : ∀ (k i : Nat) (u v' nx : Int), Wm.tkGo bs a (k + 1) i u = (v', nx, 0) →
    ∃ (v : Int) (m : Nat), 0 ≤ v ∧ (0 < i → v ≠ 0) ∧ v' = u + v * 128 ^ i ∧ nx = m ∧ a + i < m ∧ m ≤ bs.length ∧ seg bs (a + i) m = Wm.put k v := by
  intro k
  induction k with
  | zero =>
    intro i u v' nx h
    rw [Wm.tkGo] at h
    split at h
    · rename_i hl
      have hr := hb (a + i)
      split at h
      · simp [Wm.tkGo] at h
      · split at h
        · simp at h
        · rename_i hc hn
          simp only [Prod.mk.injEq, and_true] at h
          obtain ⟨rfl, rfl⟩ := h
          have hm : bs.getD (a + i) 0 % 128 = bs.getD (a + i) 0 := by omega
          refine ⟨bs.getD (a + i) 0, a + i + 1, hr.1, fun hi e => hn (.inl ⟨e, hi⟩), by rw [hm], rfl, by omega, by omega, ?_⟩
          rw [seg_one bs (a + i) hl, Wm.put]
    · simp at h
  | succ k ih =>
    intro i u v' nx h
    rw [Wm.tkGo] at h
    split at h
    · rename_i hl
      have hr := hb (a + i)
      split at h
      · rename_i hc
        obtain ⟨v, m, h0, hz, hv, hnx, hlt, hle, hs⟩ := ih (i + 1) _ v' nx h
        have hz' := hz (by omega)
        have hd : (bs.getD (a + i) 0 % 128 + v * 128) / 128 = v := by omega
        have hq : (bs.getD (a + i) 0 % 128 + v * 128) % 128 + 128 = bs.getD (a + i) 0 := by omega
        refine ⟨bs.getD (a + i) 0 % 128 + v * 128, m, by omega, fun _ => by omega, ?_, hnx, by omega, hle, ?_⟩
        · rw [hv, Int.pow_succ, Int.add_mul]
          have e : v * (128 ^ i * 128) = v * 128 * 128 ^ i := by rw [Int.mul_comm (128 ^ i) 128, Int.mul_assoc]
          rw [e]; omega
        · rw [Wm.put, if_neg (by omega), hd, hq, ← hs]
          rw [← seg_app bs (a + i) (a + i + 1) m (by omega) (by omega), seg_one bs (a + i) hl]
          rfl
      · rename_i hc
        split at h
        · simp at h
        · rename_i hn
          simp only [Prod.mk.injEq, and_true] at h
          obtain ⟨rfl, rfl⟩ := h
          have hm : bs.getD (a + i) 0 % 128 = bs.getD (a + i) 0 := by omega
          refine ⟨bs.getD (a + i) 0, a + i + 1, hr.1, fun hi e => hn (.inl ⟨e, hi⟩), by rw [hm], rfl, by omega, by omega, ?_⟩
          rw [seg_one bs (a + i) hl, Wm.put, if_pos (by omega)]
    · simp at h


theorem cnt_seg {bs : List Int} (hb : ∀ i, 0 ≤ bs.getD i 0 ∧ bs.getD i 0 ≤ 255) {a m : Nat} {lo hi v : Int} (h : cntO bs a lo hi = some (v, m)) : seg bs a m = Wm.put 8 v ∧ a < m ∧ m ≤ bs.length ∧ lo ≤ v ∧ v ≤ hi := by
  obtain ⟨h1, h2, h3, h4, h5⟩ := cnt_some h
  unfold Wm.tk at h1
  split at h1
  · simp at h1
  · simp only [Int.toNat_natCast] at h1
    obtain ⟨v', m', g1, g2, g3, g4, g5, g6, g7⟩ := tkGo_inv bs hb a 8 0 0 v m h1
    have e : v = v' := by rw [g3]; simp
    have e2 : m = m' := by omega
    subst e e2
    exact ⟨by simpa using g7, h5, h4, h2, h3⟩
theorem cntO_put (pre post X : List Int) (v lo hi : Int) (a : Nat) (hX : X = pre ++ Wm.put 8 v ++ post) (ha : pre.length = a) (h0 : 0 ≤ v) (hv : v ≤ 4611686018427387904) (h1 : lo ≤ v) (h2 : v ≤ hi) : cntO X a lo hi = some (v, a + (Wm.put 8 v).length) := by
  subst ha hX
  have h := Wm.tk_put pre post v h0 hv
  unfold cntO
  rw [h]
  simp only [Int.toNat_natCast]
  rw [if_pos ⟨trivial, h1, h2⟩]
theorem txtO_put (pre post X s : List Int) (n lo hi : Int) (a : Nat) (hX : X = pre ++ (Wm.put 8 n ++ s) ++ post) (hs : (s.length : Int) = n) (ha : pre.length = a) (hv : n ≤ 4611686018427387904) (h1 : lo ≤ n) (h2 : n ≤ hi) : txtO X a lo hi = some (s, a + (Wm.put 8 n ++ s).length) := by
  have hc := cntO_put pre (s ++ post) X n lo hi a (by rw [hX]; simp) ha (by omega) hv h1 h2
  have hn : n.toNat = s.length := by omega
  unfold txtO
  rw [hc]
  simp only [hn]
  have e : X.drop (a + (Wm.put 8 n).length) = s ++ post := by
    have e2 : X = (pre ++ Wm.put 8 n) ++ (s ++ post) := by rw [hX]; simp
    rw [e2, List.drop_left' (by simp [ha])]
  rw [if_pos (by rw [hX]; simp; omega), e]
  simp [Nat.add_assoc]
theorem txt_seg {bs s : List Int} (hb : ∀ i, 0 ≤ bs.getD i 0 ∧ bs.getD i 0 ≤ 255) {a m : Nat} {lo hi : Int} (hlo : 0 ≤ lo) (h : txtO bs a lo hi = some (s, m)) : seg bs a m = Wm.put 8 (s.length : Int) ++ s ∧ a ≤ m ∧ m ≤ bs.length ∧ ∀ x ∈ s, 0 ≤ x ∧ x ≤ 255 := by
  obtain ⟨v, a', hc, hl, hs, hm⟩ := txt_some h
  obtain ⟨g1, g2, g3, g4, g5⟩ := cnt_seg hb hc
  have e1 : s = seg bs a' m := by rw [hs, hm]; unfold seg; congr 1; omega
  have e2 : s.length = v.toNat := by rw [hs, List.length_take, List.length_drop]; omega
  have e3 : ((s.length : Nat) : Int) = v := by omega
  refine ⟨?_, by omega, by omega, ?_⟩
  · rw [e3, ← g1, ← seg_app bs a a' m (by omega) (by omega), ← e1]
  · intro x hx
    rw [hs] at hx
    have hx2 : x ∈ bs := List.mem_of_mem_drop (List.mem_of_mem_take hx)
    obtain ⟨i, hi, hxi⟩ := List.getElem_of_mem hx2
    have := hb i
    rw [List.getD_eq_getElem?_getD, List.getElem?_eq_getElem hi, Option.getD_some, hxi] at this
    exact this
theorem bt_str {s : List Int} (h : ∀ x ∈ s, 0 ≤ x ∧ x ≤ 255) : bt (strOfNums s) = s := by
  unfold bt
  rw [strOfNums_data, List.map_map]
  conv => rhs; rw [← List.map_id s]
  refine List.map_congr_left fun x hx => ?_
  have := h x hx
  simp only [Function.comp, id]
  rw [UInt8.toNat_ofNat']
  omega
theorem str_bt (s : ByteArray) : strOfNums (bt s) = s := by
  apply ByteArray.ext
  apply Array.ext'
  rw [strOfNums_data]
  unfold bt
  rw [List.map_map]
  conv => rhs; rw [← List.map_id s.data.toList]
  refine List.map_congr_left fun x hx => ?_
  simp
theorem dec_enc {cl inc req op : Int} {ky v old : ByteArray} (hok : okC cl inc req op ky v old = true) : decO (encC cl inc req op ky v old) = some (cl, inc, req, op, ky, v, old) := by
  have R := okC_rng hok
  obtain ⟨r1, r2, r3, r4, r5, r6, r7⟩ := R
  obtain ⟨X, hX⟩ : ∃ X, encC cl inc req op ky v old = X := ⟨_, rfl⟩
  have hX' : X = Wm.put 8 cl ++ (Wm.put 8 inc ++ (Wm.put 8 req ++ (Wm.put 8 op ++ (txt ky ++ (txt v ++ txt old))))) := by rw [← hX]; simp [encC, puts, txts]
  rw [hX]
  have c0 := cntO_put [] (Wm.put 8 inc ++ (Wm.put 8 req ++ (Wm.put 8 op ++ (txt ky ++ (txt v ++ txt old))))) X cl 0 4611686018427387904 0 (by rw [hX']; simp) rfl (by omega) (by omega) (by omega) (by omega)
  have c1 := cntO_put (Wm.put 8 cl) (Wm.put 8 req ++ (Wm.put 8 op ++ (txt ky ++ (txt v ++ txt old)))) X inc 0 4611686018427387904 (0 + (Wm.put 8 cl).length) (by rw [hX']; simp) (by simp) (by omega) (by omega) (by omega) (by omega)
  have c2 := cntO_put (Wm.put 8 cl ++ Wm.put 8 inc) (Wm.put 8 op ++ (txt ky ++ (txt v ++ txt old))) X req 0 4611686018427387904 (0 + (Wm.put 8 cl).length + (Wm.put 8 inc).length) (by rw [hX']; simp) (by simp) (by omega) (by omega) (by omega) (by omega)
  have c3 := cntO_put (Wm.put 8 cl ++ Wm.put 8 inc ++ Wm.put 8 req) (txt ky ++ (txt v ++ txt old)) X op 0 4611686018427387904 (0 + (Wm.put 8 cl).length + (Wm.put 8 inc).length + (Wm.put 8 req).length) (by rw [hX']; simp) (by simp [Nat.add_assoc]) (by omega) (by omega) (by omega) (by omega)
  obtain ⟨pre, hpre⟩ : ∃ p, Wm.put 8 cl ++ Wm.put 8 inc ++ Wm.put 8 req ++ Wm.put 8 op = p := ⟨_, rfl⟩
  obtain ⟨L, hL⟩ : ∃ x, 0 + (Wm.put 8 cl).length + (Wm.put 8 inc).length + (Wm.put 8 req).length + (Wm.put 8 op).length = x := ⟨_, rfl⟩
  have hpl : pre.length = L := by rw [← hpre, ← hL]; simp [Nat.add_assoc]
  have hXp : X = pre ++ (txt ky ++ (txt v ++ txt old)) := by rw [hX', ← hpre]; simp
  have t0 : txtO X L 0 8 = some (bt ky, L + (txt ky).length) := txtO_put pre (txt v ++ txt old) X (bt ky) (ky.size : Int) 0 8 L (by rw [hXp]; simp [txt]) (by rw [bt_len]) hpl (by omega) (by omega) (by omega)
  have t1 : txtO X (L + (txt ky).length) 0 8 = some (bt v, L + (txt ky).length + (txt v).length) := txtO_put (pre ++ txt ky) (txt old) X (bt v) (v.size : Int) 0 8 _ (by rw [hXp]; simp [txt]) (by rw [bt_len]) (by simp [hpl]) (by omega) (by omega) (by omega)
  have t2 : txtO X (L + (txt ky).length + (txt v).length) 0 8 = some (bt old, L + (txt ky).length + (txt v).length + (txt old).length) := txtO_put (pre ++ txt ky ++ txt v) [] X (bt old) (old.size : Int) 0 8 _ (by rw [hXp]; simp [txt]) (by rw [bt_len]) (by simp [hpl, Nat.add_assoc]) (by omega) (by omega) (by omega)
  unfold decO
  rw [c0, Option.bind_some, c1, Option.bind_some, c2, Option.bind_some, c3, Option.bind_some, hL]
  unfold txtsO
  rw [t0, Option.bind_some, t1, Option.bind_some, t2, Option.bind_some]
  unfold endO
  simp only [str_bt]
  rw [if_pos ⟨by rw [hXp]; simp [hpl, Nat.add_assoc], hok⟩]
theorem enc_dec {bs : List Int} (hb : ∀ i, 0 ≤ bs.getD i 0 ∧ bs.getD i 0 ≤ 255) {cl inc req op : Int} {ky v old : ByteArray} (h : decO bs = some (cl, inc, req, op, ky, v, old)) : okC cl inc req op ky v old = true ∧ encC cl inc req op ky v old = bs := by
  unfold decO txtsO at h
  simp only [Option.bind_eq_some_iff] at h
  obtain ⟨⟨v0, a0⟩, h0, ⟨v1, a1⟩, h1, ⟨v2, a2⟩, h2, ⟨v3, a3⟩, h3, ⟨s0, b0⟩, h4, ⟨s1, b1⟩, h5, ⟨s2, b2⟩, h6, h7⟩ := h
  simp only at h0 h1 h2 h3 h4 h5 h6 h7
  unfold endO at h7
  split at h7
  · rename_i hok
    simp only [Option.some.injEq, Prod.mk.injEq] at h7
    obtain ⟨rfl, rfl, rfl, rfl, rfl, rfl, rfl⟩ := h7
    refine ⟨hok.2, ?_⟩
    obtain ⟨p0, q0, q0', _⟩ := cnt_seg hb h0
    obtain ⟨p1, q1, q1', _⟩ := cnt_seg hb h1
    obtain ⟨p2, q2, q2', _⟩ := cnt_seg hb h2
    obtain ⟨p3, q3, q3', _⟩ := cnt_seg hb h3
    obtain ⟨p4, q4, q4', i4⟩ := txt_seg hb (by omega) h4
    obtain ⟨p5, q5, q5', i5⟩ := txt_seg hb (by omega) h5
    obtain ⟨p6, q6, q6', i6⟩ := txt_seg hb (by omega) h6
    have e : encC v0 v1 v2 v3 (strOfNums s0) (strOfNums s1) (strOfNums s2) = Wm.put 8 v0 ++ (Wm.put 8 v1 ++ (Wm.put 8 v2 ++ (Wm.put 8 v3 ++ ((Wm.put 8 (s0.length : Int) ++ s0) ++ ((Wm.put 8 (s1.length : Int) ++ s1) ++ (Wm.put 8 (s2.length : Int) ++ s2)))))) := by
      simp [encC, puts, txts, txt, bt_str i4, bt_str i5, bt_str i6, strOfNums_size]
    rw [e, ← p0, ← p1, ← p2, ← p3, ← p4, ← p5, ← p6, seg_app bs b0 b1 b2 q5 q6, seg_app bs a3 b0 b2 q4 (by omega), seg_app bs a2 a3 b2 (by omega) (by omega), seg_app bs a1 a2 b2 (by omega) (by omega), seg_app bs a0 a1 b2 (by omega) (by omega), seg_app bs 0 a0 b2 (by omega) (by omega), hok.1, seg_all]
  · cases h7
theorem put_one {v : Int} (h : v < 128) : (Wm.put 8 v).length = 1 := by
  rw [Wm.put, if_pos h]; rfl
theorem fit_some {op : Int} {ky v old : ByteArray} (h : fitB op ky v old = true) : 1 ≤ ky.size + v.size := by
  have hk : ∀ {s : ByteArray}, keyB s = true → 1 ≤ s.size := fun h => by
    unfold keyB at h
    have := of_decide_eq_true h
    omega
  unfold fitB at h
  split at h
  · simp only [Bool.and_eq_true] at h; have := hk h.1.1; omega
  split at h
  · simp only [Bool.and_eq_true] at h; have := hk h.1.1; omega
  split at h
  · simp only [Bool.and_eq_true] at h; have := hk h.1.1; omega
  split at h
  · simp only [Bool.and_eq_true] at h; have := hk h.1.1; omega
  split at h
  · simp only [Bool.and_eq_true] at h; have := hk h.1.1; omega
  split at h
  · simp only [Bool.and_eq_true] at h; have := hk h.1.1; omega
  split at h
  · simp only [Bool.and_eq_true] at h; have := hk h.1.1; omega
  split at h
  · simp only [Bool.and_eq_true] at h; have := hk h.1.1; omega
  split at h
  · simp only [Bool.and_eq_true] at h
    have h1 := h.1.2
    unfold ctB at h1
    simp only [Bool.and_eq_true] at h1
    have h2 := h1.1
    unfold numF at h2
    rcases Nat.eq_zero_or_pos v.size with h0 | h0
    · exfalso
      have e : v.data.toList = [] := by
        have : v.data.toList.length = 0 := h0
        exact List.length_eq_zero_iff.1 this
      rw [e] at h2
      have ea : Lib.atoi [] = none := by rfl
      rw [ea] at h2
      simp at h2
    · omega
  · cases h
theorem enc_len {cl inc req op : Int} {ky v old : ByteArray} (hok : okC cl inc req op ky v old = true) : 8 ≤ (encC cl inc req op ky v old).length ∧ (encC cl inc req op ky v old).length ≤ 47 := by
  obtain ⟨r1, r2, r3, r4, r5, r6, r7⟩ := okC_rng hok
  have hf : 1 ≤ ky.size + v.size := by
    unfold okC at hok
    simp only [Bool.and_eq_true] at hok
    exact fit_some hok.2
  have e : (encC cl inc req op ky v old).length = (Wm.put 8 cl).length + (Wm.put 8 inc).length + (Wm.put 8 req).length + (Wm.put 8 op).length + ((Wm.put 8 (ky.size : Int)).length + ky.size) + ((Wm.put 8 (v.size : Int)).length + v.size) + ((Wm.put 8 (old.size : Int)).length + old.size) := by
    simp [encC, puts, txts, txt, bt_len]; omega
  have p1 := put_one (v := cl) (by omega)
  have p2 := put_one (v := op) (by omega)
  have p3 := put_one (v := (ky.size : Int)) (by omega)
  have p4 := put_one (v := (v.size : Int)) (by omega)
  have p5 := put_one (v := (old.size : Int)) (by omega)
  have l1 := Wm.put_le 8 inc
  have l2 := Wm.put_le 8 req
  have m1 := Wm.put_ne 8 inc
  have m2 := Wm.put_ne 8 req
  omega
def sK : ByteArray := ⟨#[49, 50, 51, 52, 53, 54, 55, 56]⟩
def sV : ByteArray := ⟨#[97, 98, 99, 100, 101, 102, 103, 104]⟩
def sO : ByteArray := ⟨#[65, 66, 67, 68, 69, 70, 71, 72]⟩
theorem sure_ok : okC 15 4611686018427387904 4611686018427387904 3 sK sV sO = true := by decide
theorem sure_len : (encC 15 4611686018427387904 4611686018427387904 3 sK sV sO).length = 47 := by
  have e : (encC 15 4611686018427387904 4611686018427387904 3 sK sV sO).length = 47 := by rfl
  exact e
end Go.Proofs.YtjgjpepmfiklfaaGreatDoor.Mx
