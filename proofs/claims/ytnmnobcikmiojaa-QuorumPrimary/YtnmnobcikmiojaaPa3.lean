import Derived.Test.YtnmnobcikmiojaaPc1
import Derived.Test.YtnmnobcikmiojaaPd1
import Derived.Test.YtnmnobcikmiojaaPi
namespace Go.Proofs.Ytnmnobcikmiojaa.Qm
open Go.RowKit Mb
set_option linter.unusedVariables false
set_option maxRecDepth 100000
set_option linter.unusedSimpArgs false
def mbr (i : Nat) (p : Nat) : St := ⟨(p : Int), ((1 + i : Nat) : Int), ((2 + i : Nat) : Int)⟩
theorem cntB_nat {x : Nat} (h1 : 1 ≤ x) (h2 : x ≤ 4611686018427387904) : cntB (x : Int) = true := by
  unfold cntB
  rw [decide_eq_true_eq]
  omega
theorem memP_map (n i : Nat) (hi : i ≤ 1000) : ∀ (l : List Nat) (s : Nat), memP n s (l.map (mbr i)) = setP n s (zi l)
  | [], s => rfl
  | p :: r, s => by
      have h1 : cntB (mbr i p).e = true := cntB_nat (by omega) (by omega)
      have h2 : cntB (mbr i p).l = true := cntB_nat (by omega) (by omega)
      simp only [List.map_cons, memP, zi, setP, h1, h2, Bool.and_true]
      rw [show (mbr i p).p = Int.ofNat p from rfl]
      split
      · exact memP_map n i hi r _
      · rfl
theorem listN_ne {s n : Nat} (hn : n ≤ 16) (hs : s < 2 ^ n) (h0 : s ≠ 0) : (listN s n).length ≠ 0 := fun h => by
  have e := setP_of hn hs
  rw [List.eq_nil_of_length_eq_zero h] at e
  simp [zi, setP] at e
  omega
theorem viewP_set {s n i ep : Nat} (hn : n ≤ 16) (hs : s < 2 ^ n) (h0 : s ≠ 0) (hi : i ≤ 1000) (h1 : 1 ≤ ep) (h2 : ep ≤ 4611686018427387904) :
    viewP n ⟨(ep : Int), (((listN s n).getD 0 0 : Nat) : Int), ((1 + i : Nat) : Int), ((2 + i : Nat) : Int), (listN s n).map (mbr i)⟩ = some s := by
  have hl := listN_ne hn hs h0
  unfold viewP
  simp only [memP_map n i hi, setP_of hn hs, List.length_map, if_neg hl, cntB_nat h1 h2, if_true]
  rw [if_pos]
  have hl' : 0 < (listN s n).length := by omega
  have e : ((listN s n).map (mbr i)).getD 0 z3 = mbr i ((listN s n).getD 0 0) := by
    cases hq : listN s n with
    | nil => rw [hq] at hl'; simp at hl'
    | cons a r => simp
  rw [e]
  rfl
def sN (m : Nat) (x : Int) : Nat := if (BitVec.ofInt 64 x).toNat &&& (2 ^ m - 1) = 0 then 1 else (BitVec.ofInt 64 x).toNat &&& (2 ^ m - 1)
theorem sN_ne (m : Nat) (x : Int) : sN m x ≠ 0 := by
  unfold sN
  split <;> omega
theorem sN_lt {m : Nat} (x : Int) (hm : 0 < m) : sN m x < 2 ^ m := by
  unfold sN
  have h1 : (BitVec.ofInt 64 x).toNat &&& (2 ^ m - 1) ≤ 2 ^ m - 1 := Nat.and_le_right
  have h2 : 2 ^ 1 ≤ 2 ^ m := Nat.pow_le_pow_right (by decide) hm
  split <;> omega
theorem sN_all {m : Nat} (hm : 0 < m) (h16 : m ≤ 16) : sN m ((2 ^ m - 1 : Nat) : Int) = 2 ^ m - 1 := by
  unfold sN
  have h2 : 2 ^ 1 ≤ 2 ^ m := Nat.pow_le_pow_right (by decide) hm
  have h3 := two_pow_le m h16
  have e : (BitVec.ofInt 64 ((2 ^ m - 1 : Nat) : Int)).toNat = 2 ^ m - 1 := by
    rw [BitVec.ofInt_natCast, BitVec.toNat_ofNat]
    exact Nat.mod_eq_of_lt (by omega)
  rw [e, Nat.and_self, if_neg (by omega)]
def sel (v : List Nat) (xs : List Int) : List Nat := (xs.map (sN v.length)).filter (wins v)
theorem sel_mem {v : List Nat} {xs : List Int} {s : Nat} (h : s ∈ sel v xs) : wins v s = true := (List.mem_filter.1 h).2
theorem sel_lt {v : List Nat} {xs : List Int} {s : Nat} (hv : 0 < v.length) (h : s ∈ sel v xs) : s < 2 ^ v.length := by
  obtain ⟨x, _, rfl⟩ := List.mem_map.1 (List.mem_filter.1 h).1
  exact sN_lt x hv
theorem sel_len (v : List Nat) (xs : List Int) : (sel v xs).length ≤ xs.length := by
  unfold sel
  exact Nat.le_trans (List.length_filter_le _ _) (by simp)
theorem sel_snoc (v : List Nat) (xs : List Int) (x : Int) : sel v (xs ++ [x]) = if wins v (sN v.length x) then sel v xs ++ [sN v.length x] else sel v xs := by
  unfold sel
  rw [List.map_append, List.filter_append]
  simp only [List.map_cons, List.map_nil, List.filter_cons, List.filter_nil]
  split <;> simp
theorem take_snoc {xs : List Int} {k : Nat} (h : k < xs.length) : xs.take (k + 1) = xs.take k ++ [xs.getD k 0] := by
  rw [List.take_add_one]
  simp [List.getD, h]
theorem Ok.pos {v : List Nat} (h : Ok v) : 0 < v.length := by
  rcases Nat.eq_zero_or_pos v.length with e | e
  · have := h.2.2
    unfold T at this
    rw [e] at this
    simp [sm] at this
  · exact e
theorem win_all {v : List Nat} (h : Ok v) : wins v (sN v.length ((2 ^ v.length - 1 : Nat) : Int)) = true := by
  rw [sN_all h.pos h.1]
  exact wins_full h.2.2
theorem sel_first {v : List Nat} (h : Ok v) (ys : List Int) : ∃ r, sel v ((((2 ^ v.length - 1 : Nat) : Int) :: ys).take 40) = (2 ^ v.length - 1) :: r := by
  refine ⟨sel v (ys.take 39), ?_⟩
  rw [List.take_succ_cons]
  unfold sel
  rw [List.map_cons, List.filter_cons, if_pos (win_all h), sN_all h.pos h.1]
theorem sel_last {v : List Nat} (h : Ok v) (xs : List Int) (hx : xs.length < 40) : ∃ r, sel v ((xs ++ [((2 ^ v.length - 1 : Nat) : Int)]).take 40) = r ++ [2 ^ v.length - 1] := by
  refine ⟨sel v xs, ?_⟩
  rw [List.take_of_length_le (by simp; omega), sel_snoc, if_pos (win_all h), sN_all h.pos h.1]
theorem sel_meet {v : List Nat} {xs ys : List Int} {a b : Nat} (ha : a ∈ sel v xs) (hb : b ∈ sel v ys) : a &&& b ≠ 0 := wins_meet (sel_mem ha) (sel_mem hb)
end Go.Proofs.Ytnmnobcikmiojaa.Qm
