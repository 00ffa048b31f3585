import Derived.Test.YtapenemfnngniaaPf3
import Derived.Test.YtapenemfnngniaaPv
namespace Go.Proofs.Ytapenemfnngniaa.Qm
open Go.RowKit Mb
set_option linter.unusedVariables false
set_option maxRecDepth 100000
set_option linter.unusedSimpArgs false
def cmpL : List Int → List Int → Int
  | [], [] => 0
  | [], _ :: _ => -1
  | _ :: _, [] => 1
  | x :: r, y :: s => if cmpI x y = 0 then cmpL r s else cmpI x y
theorem cmpI_eq {x y : Int} : cmpI x y = 0 ↔ x = y := by
  unfold cmpI
  split
  · constructor <;> intro h <;> omega
  · split <;> constructor <;> intro h <;> omega
theorem cmpL_self : ∀ x : List Int, cmpL x x = 0
  | [] => rfl
  | x :: r => by
      unfold cmpL
      rw [if_pos (cmpI_eq.2 rfl)]
      exact cmpL_self r
theorem cmpI_lt {x y : Int} : cmpI x y < 0 ↔ x < y := by
  unfold cmpI
  split
  · constructor <;> intro h <;> omega
  · split <;> constructor <;> intro h <;> omega
theorem cmpL_trans : ∀ x y z : List Int, cmpL x y < 0 → cmpL y z < 0 → cmpL x z < 0
  | [], [], z, h, _ => by simp [cmpL] at h
  | [], _ :: _, [], _, h => by simp [cmpL] at h
  | [], _ :: _, _ :: _, _, _ => by simp [cmpL]
  | _ :: _, [], _, h, _ => by simp [cmpL] at h
  | _ :: _, _ :: _, [], _, h => by simp [cmpL] at h
  | a :: r, b :: s, c :: t, h1, h2 => by
      simp only [cmpL] at h1 h2 ⊢
      have ih := cmpL_trans r s t
      by_cases e1 : cmpI a b = 0
      · rw [if_pos e1] at h1
        have := cmpI_eq.1 e1
        subst this
        by_cases e2 : cmpI a c = 0
        · rw [if_pos e2] at h2 ⊢
          exact ih h1 h2
        · rw [if_neg e2] at h2 ⊢
          exact h2
      · rw [if_neg e1] at h1
        have l1 := cmpI_lt.1 h1
        by_cases e2 : cmpI b c = 0
        · have := cmpI_eq.1 e2
          subst this
          rw [if_neg e1]
          exact h1
        · rw [if_neg e2] at h2
          have l2 := cmpI_lt.1 h2
          have l3 : cmpI a c < 0 := cmpI_lt.2 (by omega)
          rw [if_neg (by omega)]
          exact l3
theorem cmpL_ntrans : ∀ x y z : List Int, ¬ cmpL x y < 0 → ¬ cmpL y z < 0 → ¬ cmpL x z < 0
  | [], [], z, _, h => h
  | [], _ :: _, _, h, _ => by simp [cmpL] at h
  | _ :: _, _, [], _, _ => by simp [cmpL]
  | _ :: _, [], _ :: _, _, h => by simp [cmpL] at h
  | a :: r, b :: s, c :: t, h1, h2 => by
      simp only [cmpL] at h1 h2 ⊢
      have ih := cmpL_ntrans r s t
      have k1 : ¬ a < b := fun h => h1 (by have := cmpI_lt.2 h; rw [if_neg (by omega)]; exact this)
      have k2 : ¬ b < c := fun h => h2 (by have := cmpI_lt.2 h; rw [if_neg (by omega)]; exact this)
      by_cases e3 : cmpI a c = 0
      · rw [if_pos e3]
        have e3 := cmpI_eq.1 e3
        have e1 : cmpI a b = 0 := cmpI_eq.2 (by omega)
        have e2 : cmpI b c = 0 := cmpI_eq.2 (by omega)
        rw [if_pos e1] at h1
        rw [if_pos e2] at h2
        exact ih h1 h2
      · rw [if_neg e3]
        intro h
        have := cmpI_lt.1 h
        omega
theorem drop_at {xs : List Int} {k : Nat} (h : k < xs.length) : xs.drop k = xs.getD k 0 :: xs.drop (k + 1) := by
  rw [List.drop_eq_getElem_cons h]
  simp [List.getD, h]
section
variable {w w' W : World} {B : Nat}
set_option maxHeartbeats 4000000 in
theorem compare_any {a b : Option Addr} {n c m e : Nat} {xs ys : List Int} (h1 : RdI w a n c xs) (h2 : RdI w b m e ys) (hn : n ≤ 1000000) (hm : m ≤ 1000000) : Calls Try.prog 38 #[.slice a n c, .slice b m e] w fun e w' => e = .returned (.int .i64 (cmpL xs ys)) ∧ w = w' := by
  have H1 : Hid (RdI w a n c xs) := h1
  have H2 : Hid (RdI w b m e ys) := h2
  have L1 : Hid (xs.length = n) := h1.len
  have L2 : Hid (ys.length = m) := h2.len
  clear h1 h2
  go_enter Try.func38, Try.ntmps38
  go_wp2
  go_loopw [5, 6, 7, 8, 11] (fun x5 x6 x7 x8 i wr => ∃ k : Nat, k ≤ n ∧ k ≤ m ∧ i = .int .i64 (k : Int) ∧ Hid (cmpL (xs.drop k) (ys.drop k) = cmpL xs ys) ∧ w = wr) (fun _ _ _ _ i _ => n - (intOf i).toNat)
  case atStart => exact ⟨0, Nat.zero_le _, Nat.zero_le _, rfl, (show _ = _ from by simp), rfl⟩
  case round =>
    obtain ⟨k, hk, hkm, rfl, HI, rfl⟩ := hrel
    by_cases hlt : k < n
    · obtain ⟨g1, o1, ha, c1⟩ := H1.out.at hlt
      have i1 : (0 : Int) ≤ (k : Int) := Int.natCast_nonneg _
      have i2 : (k : Int) < (n : Int) := by omega
      have D1 := drop_at (xs := xs) (k := k) (by rw [L1.out]; exact hlt)
      by_cases hlt2 : k < m
      · obtain ⟨g2, o2, hb, c2⟩ := H2.out.at hlt2
        have i3 : (k : Int) < (m : Int) := by omega
        have D2 := drop_at (xs := ys) (k := k) (by rw [L2.out]; exact hlt2)
        have HI2 : Hid ((if cmpI (xs.getD k 0) (ys.getD k 0) = 0 then cmpL (xs.drop (k + 1)) (ys.drop (k + 1)) else cmpI (xs.getD k 0) (ys.getD k 0)) = cmpL xs ys) := by
          have := HI.out
          rw [D1, D2] at this
          simp only [cmpL] at this
          exact this
        have HC : Hid (∀ V : World, Calls Try.prog 54 #[.int .i64 (xs.getD k 0), .int .i64 (ys.getD k 0)] V fun e w' => e = .returned (.int .i64 (cmpI (xs.getD k 0) (ys.getD k 0))) ∧ V = w') := fun V => cmp_any _ _
        rw [ha, hb]
        generalize xs.getD k 0 = x at *
        generalize ys.getD k 0 = y at *
        clear D1 D2 ha hb
        by_cases hz : cmpI x y = 0
        · have HN : Hid (cmpL (xs.drop (k + 1)) (ys.drop (k + 1)) = cmpL xs ys) := by have := HI2.out; rw [if_pos hz] at this; exact this
          rw [hz] at HC
          clear hz
          go_wp2_with (fail)
          refine (HC.out _).mono ?_
          rintro e w2 ⟨rfl, rfl⟩
          go_wp2_with (fail)
          exact ⟨⟨k + 1, by omega, by omega, by go_num, HN.out, (by trivial)⟩, by simp [intOf]; omega⟩
        · have HN : Hid (cmpI x y = cmpL xs ys) := by have := HI2.out; rw [if_neg hz] at this; exact this
          have hzb : (cmpI x y == 0) = false := by rw [beq_eq_false_iff_ne]; exact hz
          generalize cmpI x y = r at *
          clear hz
          go_wp2_with (fail)
          refine (HC.out _).mono ?_
          rintro e w2 ⟨rfl, rfl⟩
          go_wp2
          go_ret
          exact ⟨(by first | (rw [HN.out]; rfl) | rw [HN.out]), (by trivial)⟩
      · have i3 : ¬ (k : Int) < (m : Int) := by omega
        have i4 : (m : Int) ≤ (k : Int) := by omega
        have HN : Hid (1 = cmpL xs ys) := by
          have := HI.out
          have e2 : ys.drop k = [] := List.drop_of_length_le (by rw [L2.out]; omega)
          rw [D1, e2] at this
          exact this
        rw [ha]
        clear D1 ha
        go_wp2
        go_ret
        exact ⟨(by first | (rw [← HN.out]; rfl) | rw [← HN.out]), (by trivial)⟩
    · have i2 : ¬ (k : Int) < (n : Int) := by omega
      obtain rfl : k = n := by omega
      have e1 : xs.drop k = [] := List.drop_of_length_le (by rw [L1.out]; exact Nat.le_refl _)
      by_cases hlt2 : k < m
      · have i3 : (k : Int) < (m : Int) := by omega
        have HN : Hid (-1 = cmpL xs ys) := by
          have := HI.out
          rw [e1, drop_at (xs := ys) (k := k) (by rw [L2.out]; exact hlt2)] at this
          exact this
        clear e1
        go_wp2
        go_ret
        exact ⟨(by first | (rw [← HN.out]; rfl) | rw [← HN.out]), (by trivial)⟩
      · have i3 : ¬ (k : Int) < (m : Int) := by omega
        have HN : Hid (0 = cmpL xs ys) := by
          have := HI.out
          have e2 : ys.drop k = [] := List.drop_of_length_le (by rw [L2.out]; omega)
          rw [e1, e2] at this
          exact this
        clear e1
        go_wp2
        go_ret
        exact ⟨(by first | (rw [← HN.out]; rfl) | rw [← HN.out]), (by trivial)⟩
end
end Go.Proofs.Ytapenemfnngniaa.Qm
