import Derived.Test.YtbjpbcanmpimnabRdr8
import Derived.Test.YtbjpbcanmpimnabRr1
namespace Go.Proofs.Ytbjpbcanmpimnab.Lo
open Go.RowKit
set_option linter.unusedVariables false

def seg (bs : List Int) (a m : Nat) : List Int := (bs.drop a).take (m - a)

theorem seg_app (bs : List Int) (a m n : Nat) (h1 : a ≤ m) (h2 : m ≤ n) : seg bs a m ++ seg bs m n = seg bs a n := by
  unfold seg
  have e : bs.drop m = (bs.drop a).drop (m - a) := by rw [List.drop_drop]; congr 1; omega
  rw [e, ← List.take_add]
  congr 1
  omega

theorem seg_one (bs : List Int) (a : Nat) (h : a < bs.length) : seg bs a (a + 1) = [bs.getD a 0] := by
  unfold seg
  have e : a + 1 - a = 1 := by omega
  have e2 : bs.getD a 0 = bs[a] := by simp [List.getD, h]
  rw [e, e2, List.drop_eq_getElem_cons h]
  rfl

theorem seg_all (bs : List Int) : seg bs 0 bs.length = bs := by unfold seg; simp

theorem tkGo_inv (bs : List Int) (hb : ∀ i, 0 ≤ bs.getD i 0 ∧ bs.getD i 0 ≤ 255) (a : Nat) : ∀ (k i : Nat) (u v' nx : Int), Wm.tkGo bs a (k + 1) i u = (v', nx, 0) →
    ∃ (v : Int) (m : Nat), 0 ≤ v ∧ (0 < i → v ≠ 0) ∧ v' = u + v * 128 ^ i ∧ nx = m ∧ a + i < m ∧ m ≤ bs.length ∧ seg bs (a + i) m = Wm.put k v := by
  intro k
  induction k with
  | zero =>
    intro i u v' nx h
    rw [Wm.tkGo] at h
    split at h
    · rename_i hl
      have hr := hb (a + i)
      split at h
      · simp [Wm.tkGo] at h
      · split at h
        · simp at h
        · rename_i hc hn
          simp only [Prod.mk.injEq, and_true] at h
          obtain ⟨rfl, rfl⟩ := h
          have hm : bs.getD (a + i) 0 % 128 = bs.getD (a + i) 0 := by omega
          refine ⟨bs.getD (a + i) 0, a + i + 1, hr.1, fun hi e => hn (.inl ⟨e, hi⟩), by rw [hm], rfl, by omega, by omega, ?_⟩
          rw [seg_one bs (a + i) hl, Wm.put]
    · simp at h
  | succ k ih =>
    intro i u v' nx h
    rw [Wm.tkGo] at h
    split at h
    · rename_i hl
      have hr := hb (a + i)
      split at h
      · rename_i hc
        obtain ⟨v, m, h0, hz, hv, hnx, hlt, hle, hs⟩ := ih (i + 1) _ v' nx h
        have hz' := hz (by omega)
        have hd : (bs.getD (a + i) 0 % 128 + v * 128) / 128 = v := by omega
        have hq : (bs.getD (a + i) 0 % 128 + v * 128) % 128 + 128 = bs.getD (a + i) 0 := by omega
        refine ⟨bs.getD (a + i) 0 % 128 + v * 128, m, by omega, fun _ => by omega, ?_, hnx, by omega, hle, ?_⟩
        · rw [hv, Int.pow_succ, Int.add_mul]
          have e : v * (128 ^ i * 128) = v * 128 * 128 ^ i := by rw [Int.mul_comm (128 ^ i) 128, Int.mul_assoc]
          rw [e]; omega
        · rw [Wm.put, if_neg (by omega), hd, hq, ← hs]
          rw [← seg_app bs (a + i) (a + i + 1) m (by omega) (by omega), seg_one bs (a + i) hl]
          rfl
      · rename_i hc
        split at h
        · simp at h
        · rename_i hn
          simp only [Prod.mk.injEq, and_true] at h
          obtain ⟨rfl, rfl⟩ := h
          have hm : bs.getD (a + i) 0 % 128 = bs.getD (a + i) 0 := by omega
          refine ⟨bs.getD (a + i) 0, a + i + 1, hr.1, fun hi e => hn (.inl ⟨e, hi⟩), by rw [hm], rfl, by omega, by omega, ?_⟩
          rw [seg_one bs (a + i) hl, Wm.put, if_pos (by omega)]
    · simp at h

theorem cnt_inv {bs : List Int} (hb : ∀ i, 0 ≤ bs.getD i 0 ∧ bs.getD i 0 ≤ 255) {a m : Nat} {lo hi v : Int} (h : cnt bs a lo hi = .ok (v, m)) : seg bs a m = Wm.put 8 v ∧ a < m ∧ m ≤ bs.length ∧ inR v lo hi = true := by
  obtain ⟨h1, h2, h3, h4, h5, h6⟩ := cnt_ok h
  unfold Wm.tk at h1
  split at h1
  · simp at h1
  · simp only [Int.toNat_natCast] at h1
    obtain ⟨v', m', g1, g2, g3, g4, g5, g6, g7⟩ := tkGo_inv bs hb a 8 0 0 v m h1
    have e : v = v' := by rw [g3]; simp
    have e2 : m = m' := by omega
    subst e e2
    exact ⟨by simpa using g7, h4, h3, h2⟩

theorem cnt_put (pre post : List Int) (v lo hi : Int) (a : Nat) (ha : pre.length = a) (h0 : 0 ≤ v) (hv : v ≤ 4611686018427387904) (hr : inR v lo hi = true) : cnt (pre ++ Wm.put 8 v ++ post) a lo hi = .ok (v, a + (Wm.put 8 v).length) := by
  subst ha
  have h := Wm.tk_put pre post v h0 hv
  unfold cnt
  rw [h]
  simp only [ne_eq, not_true_eq_false, if_false, if_pos hr, Int.toNat_natCast]

theorem put_pos1 (v : Int) : 1 ≤ (Wm.put 8 v).length := Wm.put_ne 8 v

theorem decI_data (s q st : Int) (body : List Int) (hs : inR s 0 15 = true) (hq : inR q 1 4611686018427387904 = true) (hst : inR st 0 4611686018427387904 = true) (hn : body.length ≤ 256) (X : List Int) (hX : X = [1] ++ (puts [s, q, st] ++ (Wm.put 8 body.length ++ body))) (hl : X.length ≤ 300) :
    decI X = .ok ⟨1, s, q, st, body, 0, 0, 0, 0⟩ ∧ 5 ≤ X.length := by
  have e1 : X = [1] ++ Wm.put 8 s ++ (Wm.put 8 q ++ Wm.put 8 st ++ Wm.put 8 body.length ++ body) := by rw [hX]; simp [puts]
  have e2 : X = ([1] ++ Wm.put 8 s) ++ Wm.put 8 q ++ (Wm.put 8 st ++ Wm.put 8 body.length ++ body) := by rw [hX]; simp [puts]
  have e3 : X = ([1] ++ Wm.put 8 s ++ Wm.put 8 q) ++ Wm.put 8 st ++ (Wm.put 8 body.length ++ body) := by rw [hX]; simp [puts]
  have e4 : X = ([1] ++ Wm.put 8 s ++ Wm.put 8 q ++ Wm.put 8 st) ++ Wm.put 8 body.length ++ body := by rw [hX]; simp [puts]
  have l1 := put_pos1 s
  have l2 := put_pos1 q
  have l3 := put_pos1 st
  have l4 := put_pos1 (body.length : Int)
  have hlen : X.length = 1 + (Wm.put 8 s).length + (Wm.put 8 q).length + (Wm.put 8 st).length + (Wm.put 8 (body.length : Int)).length + body.length := by rw [e4]; simp; omega
  have r1 := inR_ge hs
  have r2 := inR_ge hq
  have r3 := inR_ge hst
  have c1 : cnt X 1 0 15 = .ok (s, 1 + (Wm.put 8 s).length) := by rw [e1]; exact cnt_put [1] _ s 0 15 1 rfl (by omega) (by omega) hs
  have c2 : cnt X (1 + (Wm.put 8 s).length) 1 4611686018427387904 = .ok (q, 1 + (Wm.put 8 s).length + (Wm.put 8 q).length) := by rw [e2]; exact cnt_put _ _ q _ _ _ (by simp; omega) (by omega) (by omega) hq
  have c3 : cnt X (1 + (Wm.put 8 s).length + (Wm.put 8 q).length) 0 4611686018427387904 = .ok (st, 1 + (Wm.put 8 s).length + (Wm.put 8 q).length + (Wm.put 8 st).length) := by rw [e3]; exact cnt_put _ _ st _ _ _ (by simp; omega) (by omega) (by omega) hst
  have c4 : cnt X (1 + (Wm.put 8 s).length + (Wm.put 8 q).length + (Wm.put 8 st).length) 0 256 = .ok ((body.length : Int), 1 + (Wm.put 8 s).length + (Wm.put 8 q).length + (Wm.put 8 st).length + (Wm.put 8 (body.length : Int)).length) := by rw [e4]; exact cnt_put _ _ _ _ _ _ (by simp; omega) (by omega) (by omega) (by unfold inR; simp; omega)
  have hd : X.drop (1 + (Wm.put 8 s).length + (Wm.put 8 q).length + (Wm.put 8 st).length + (Wm.put 8 (body.length : Int)).length) = body := by
    rw [e4]
    exact List.drop_left' (by simp; omega)
  have h0 : X.getD 0 0 = 1 := by rw [hX]; rfl
  have hD : decD X 1 = .ok ((s, q, st, body), X.length) := by
    unfold decD
    rw [c1]
    simp only
    rw [c2]
    simp only
    rw [c3]
    simp only
    rw [c4]
    simp only [Int.toNat_natCast]
    rw [if_pos (by omega), hd, List.take_length, hlen]
  refine ⟨?_, by omega⟩
  unfold decI
  rw [if_neg (by omega), if_neg (by omega), if_pos h0, hD]
  simp only
  rw [if_neg (by omega)]

theorem decI_slot (p st2 ss sq : Int) (hp : inR p 1 4611686018427387904 = true) (hst : inR st2 0 (p - 1) = true) (hs : inR ss 0 15 = true) (hq : inR sq 1 4611686018427387904 = true) (X : List Int) (hX : X = [2] ++ puts [p, st2, ss, sq]) (hl : X.length ≤ 300) :
    decI X = .ok ⟨2, 0, 0, 0, [], p, st2, ss, sq⟩ ∧ 5 ≤ X.length := by
  have e1 : X = [2] ++ Wm.put 8 p ++ (Wm.put 8 st2 ++ Wm.put 8 ss ++ Wm.put 8 sq) := by rw [hX]; simp [puts]
  have e2 : X = ([2] ++ Wm.put 8 p) ++ Wm.put 8 st2 ++ (Wm.put 8 ss ++ Wm.put 8 sq) := by rw [hX]; simp [puts]
  have e3 : X = ([2] ++ Wm.put 8 p ++ Wm.put 8 st2) ++ Wm.put 8 ss ++ (Wm.put 8 sq) := by rw [hX]; simp [puts]
  have e4 : X = ([2] ++ Wm.put 8 p ++ Wm.put 8 st2 ++ Wm.put 8 ss) ++ Wm.put 8 sq ++ [] := by rw [hX]; simp [puts]
  have l1 := put_pos1 p
  have l2 := put_pos1 st2
  have l3 := put_pos1 ss
  have l4 := put_pos1 sq
  have hlen : X.length = 1 + (Wm.put 8 p).length + (Wm.put 8 st2).length + (Wm.put 8 ss).length + (Wm.put 8 sq).length := by rw [e4]; simp; omega
  have r1 := inR_ge hp
  have r2 := inR_ge hst
  have r3 := inR_ge hs
  have r4 := inR_ge hq
  have c1 : cnt X 1 1 4611686018427387904 = .ok (p, 1 + (Wm.put 8 p).length) := by rw [e1]; exact cnt_put [2] _ p _ _ 1 rfl (by omega) (by omega) hp
  have c2 : cnt X (1 + (Wm.put 8 p).length) 0 (p - 1) = .ok (st2, 1 + (Wm.put 8 p).length + (Wm.put 8 st2).length) := by rw [e2]; exact cnt_put _ _ st2 _ _ _ (by simp; omega) (by omega) (by omega) hst
  have c3 : cnt X (1 + (Wm.put 8 p).length + (Wm.put 8 st2).length) 0 15 = .ok (ss, 1 + (Wm.put 8 p).length + (Wm.put 8 st2).length + (Wm.put 8 ss).length) := by rw [e3]; exact cnt_put _ _ ss _ _ _ (by simp; omega) (by omega) (by omega) hs
  have c4 : cnt X (1 + (Wm.put 8 p).length + (Wm.put 8 st2).length + (Wm.put 8 ss).length) 1 4611686018427387904 = .ok (sq, 1 + (Wm.put 8 p).length + (Wm.put 8 st2).length + (Wm.put 8 ss).length + (Wm.put 8 sq).length) := by rw [e4]; exact cnt_put _ _ sq _ _ _ (by simp; omega) (by omega) (by omega) hq
  have h0 : X.getD 0 0 = 2 := by rw [hX]; rfl
  refine ⟨?_, by omega⟩
  unfold decI
  rw [if_neg (by omega), if_neg (by omega), if_neg (by rw [h0]; decide), if_pos h0, c1]
  simp only
  rw [c2]
  simp only
  rw [c3]
  simp only
  rw [c4]
  simp only
  rw [if_neg (by omega)]

theorem itemOK_full {k s q st : Int} {body : List Int} {p st2 ss sq : Int} (h : itemOK k s q st body.length p st2 ss sq = true) :
    (k = 1 ∧ inR s 0 15 = true ∧ inR q 1 4611686018427387904 = true ∧ inR st 0 4611686018427387904 = true ∧ body.length ≤ 256 ∧ p = 0 ∧ st2 = 0 ∧ ss = 0 ∧ sq = 0) ∨
    (k = 2 ∧ inR p 1 4611686018427387904 = true ∧ inR st2 0 (p - 1) = true ∧ inR ss 0 15 = true ∧ inR sq 1 4611686018427387904 = true ∧ s = 0 ∧ q = 0 ∧ st = 0 ∧ body = []) := by
  unfold itemOK at h
  split at h
  · rename_i hk
    simp only [dataOK, Bool.and_eq_true, beq_iff_eq, decide_eq_true_eq] at h
    obtain ⟨⟨⟨⟨⟨⟨h1, h2⟩, h3⟩, h4⟩, h5⟩, h6⟩, h7, h8⟩ := h
    exact .inl ⟨hk, h1, h2, h3, h4, h5, h6, h7, h8⟩
  · split at h
    · rename_i hk
      simp only [slotOK, dataZ, Bool.and_eq_true, beq_iff_eq] at h
      obtain ⟨⟨⟨h1, h2⟩, h3, h4⟩, ⟨⟨h5, h6⟩, h7⟩, h8⟩ := h
      exact .inr ⟨hk, h1, h2, h3, h4, h5, h6, h7, List.length_eq_zero_iff.1 h8⟩
    · simp at h

theorem dec_of_enc (k s q st : Int) (body : List Int) (p st2 ss sq : Int) (h : itemOK k s q st body.length p st2 ss sq = true) : decI (itemX k s q st body p st2 ss sq) = .ok ⟨k, s, q, st, body, p, st2, ss, sq⟩ ∧ 5 ≤ (itemX k s q st body p st2 ss sq).length := by
  have hl := itemX_len k s q st body p st2 ss sq
  rcases itemOK_full h with ⟨rfl, h1, h2, h3, h4, rfl, rfl, rfl, rfl⟩ | ⟨rfl, h1, h2, h3, h4, rfl, rfl, rfl, rfl⟩
  · exact decI_data s q st body h1 h2 h3 h4 _ (by unfold itemX; rw [if_pos h, if_pos rfl]) hl
  · exact decI_slot p st2 ss sq h1 h2 h3 h4 _ (by unfold itemX; rw [if_pos h, if_neg (by decide)]) hl

theorem enc_of_dec (bs : List Int) (hb : ∀ i, 0 ≤ bs.getD i 0 ∧ bs.getD i 0 ≤ 255) (it : It) (h : decI bs = .ok it) : itemOK it.k it.s it.q it.st it.body.length it.p it.st2 it.ss it.sq = true ∧ itemX it.k it.s it.q it.st it.body it.p it.st2 it.ss it.sq = bs := by
  have hd := decI_DI bs
  rw [h] at hd
  cases hd with
  | data s q st body a h0 h1 hk hd ht =>
    obtain ⟨a1, a2, a3, a4, n, g1, g2, g3, g4, hf, hbody, ha'⟩ := decD_ok hd
    obtain ⟨s1, t1, u1, r1⟩ := cnt_inv hb g1
    obtain ⟨s2, t2, u2, r2⟩ := cnt_inv hb g2
    obtain ⟨s3, t3, u3, r3⟩ := cnt_inv hb g3
    obtain ⟨s4, t4, u4, r4⟩ := cnt_inv hb g4
    have rn := inR_ge r4
    have hnn : (n.toNat : Int) = n := by omega
    have hbl : body.length = n.toNat := by rw [hbody, List.length_take, List.length_drop]; omega
    have hbs : body = seg bs a4 bs.length := by rw [hbody]; unfold seg; congr 1; omega
    have hok : itemOK 1 s q st body.length 0 0 0 0 = true := by
      unfold itemOK dataOK
      rw [if_pos rfl, r1, r2, r3]
      simp
      omega
    refine ⟨hok, ?_⟩
    show itemX 1 s q st body 0 0 0 0 = bs
    unfold itemX
    rw [if_pos hok, if_pos rfl, hbl, hnn]
    have hp : puts [s, q, st] = Wm.put 8 s ++ (Wm.put 8 q ++ Wm.put 8 st) := by simp [puts]
    rw [hp, ← s1, ← s2, ← s3, ← s4, hbs]
    have e0 : [1] = seg bs 0 1 := by rw [seg_one bs 0 (by omega), hk]
    rw [e0, seg_app bs a1 a2 a3 (by omega) (by omega), seg_app bs 1 a1 a3 (by omega) (by omega), seg_app bs a3 a4 _ (by omega) (by omega), seg_app bs 1 a3 _ (by omega) (by omega), seg_app bs 0 1 _ (by omega) (by omega)]
    exact seg_all bs
  | slot p st2 ss sq a1 a2 a3 a4 h0 h1 hk g1 g2 g3 g4 ht =>
    obtain ⟨s1, t1, u1, r1⟩ := cnt_inv hb g1
    obtain ⟨s2, t2, u2, r2⟩ := cnt_inv hb g2
    obtain ⟨s3, t3, u3, r3⟩ := cnt_inv hb g3
    obtain ⟨s4, t4, u4, r4⟩ := cnt_inv hb g4
    have hok : itemOK 2 0 0 0 ([] : List Int).length p st2 ss sq = true := by
      unfold itemOK slotOK dataZ
      rw [if_neg (by decide), if_pos rfl, r1, r2, r3, r4]
      rfl
    refine ⟨hok, ?_⟩
    show itemX 2 0 0 0 [] p st2 ss sq = bs
    unfold itemX
    rw [if_pos hok, if_neg (by decide)]
    have hp : puts [p, st2, ss, sq] = Wm.put 8 p ++ (Wm.put 8 st2 ++ (Wm.put 8 ss ++ Wm.put 8 sq)) := by simp [puts]
    have ea : a4 = bs.length := by omega
    rw [hp, ← s1, ← s2, ← s3, ← s4]
    have e0 : [2] = seg bs 0 1 := by rw [seg_one bs 0 (by omega), hk]
    rw [e0, seg_app bs a2 a3 a4 (by omega) (by omega), seg_app bs a1 a2 a4 (by omega) (by omega), seg_app bs 1 a1 a4 (by omega) (by omega), seg_app bs 0 1 a4 (by omega) (by omega), ea]
    exact seg_all bs

end Go.Proofs.Ytbjpbcanmpimnab.Lo
