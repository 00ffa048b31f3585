import Derived.Test.YtjgjpepmfiklfaaGreatDoorRows
import Derived.Test.YtjgjpepmfiklfaaGreatDoorMath
import Derived.Test.YtjgjpepmfiklfaaGreatDoorBits
import Derived.WalkKit
import Derived.WalkLawsBesides
import Derived.WalkSpells
import Derived.Outline
import Derived.Below
namespace Go.Proofs.YtjgjpepmfiklfaaGreatDoor.Wk
open Go.RowKit
set_option linter.unusedVariables false

def Rd (w : World) (ao : Option Addr) (len : Nat) (bs : List Int) : Prop :=
  bs.length = len ∧ (len = 0 ∨ ∃ b off, ao = some ⟨b, off, none⟩ ∧ ∀ i, i < len → w.cell? ⟨b, off + i, none⟩ = some (.int .u8 (bs.getD i 0))) ∧ ∀ i, 0 ≤ bs.getD i 0 ∧ bs.getD i 0 ≤ 255

theorem ret3 {a b c a' b' c' : Int} (h : (a, b, c) = (a', b', c')) : Ending.returned (.tuple #[.int .i64 a, .int .i64 b, .int .i64 c]) = .returned (.tuple #[.int .i64 a', .int .i64 b', .int .i64 c']) := by
  simp only [Prod.mk.injEq] at h
  rw [h.1, h.2.1, h.2.2]

theorem go_out (bs : List Int) (a k : Nat) (u : Int) (hk : k < 9) (h : ¬ a + k < bs.length) : Wm.tkGo bs a (9 - k) k u = (0, 0, 10) := by
  rw [show 9 - k = (8 - k) + 1 by omega, Wm.tkGo, if_neg h]

theorem go_more (bs : List Int) (a k : Nat) (u c : Int) (hk : k < 9) (h : a + k < bs.length) (hc : bs.getD (a + k) 0 = c) (h8 : 128 ≤ c) :
    Wm.tkGo bs a (9 - k) k u = Wm.tkGo bs a (9 - (k + 1)) (k + 1) (u + c % 128 * 128 ^ k) := by
  rw [show 9 - k = (8 - k) + 1 by omega, Wm.tkGo, if_pos h, hc, if_pos h8, show 9 - (k + 1) = 8 - k by omega]

theorem go_bad (bs : List Int) (a k : Nat) (u c V : Int) (hk : k < 9) (h : a + k < bs.length) (hc : bs.getD (a + k) 0 = c) (h8 : ¬ 128 ≤ c) (hV : V = u + c % 128 * 128 ^ k) (hb : (c = 0 ∧ 0 < k) ∨ 4611686018427387904 < V) :
    Wm.tkGo bs a (9 - k) k u = (0, 0, 14) := by
  rw [show 9 - k = (8 - k) + 1 by omega, Wm.tkGo, if_pos h, hc, if_neg h8, ← hV, if_pos (by unfold Wm.maxCount; exact hb)]

theorem go_good (bs : List Int) (a k : Nat) (u c V : Int) (hk : k < 9) (h : a + k < bs.length) (hc : bs.getD (a + k) 0 = c) (h8 : ¬ 128 ≤ c) (hV : V = u + c % 128 * 128 ^ k) (hb : ¬ ((c = 0 ∧ 0 < k) ∨ 4611686018427387904 < V)) :
    Wm.tkGo bs a (9 - k) k u = (V, (a : Int) + k + 1, 0) := by
  rw [show 9 - k = (8 - k) + 1 by omega, Wm.tkGo, if_pos h, hc, if_neg h8, ← hV, if_neg (by unfold Wm.maxCount; exact hb)]
  push_cast; rfl

set_option maxRecDepth 100000 in
set_option maxHeartbeats 1000000 in
theorem take_in (ao : Option Addr) (len cap : Nat) (bs : List Int) (w : World) (hl : bs.length = len) (hlen : len ≤ 140737488355328) (hc : len = 0 ∨ ∃ b off, ao = some ⟨b, off, none⟩ ∧ ∀ i, i < len → w.cell? ⟨b, off + i, none⟩ = some (.int .u8 (bs.getD i 0)))
    (hb : ∀ i, 0 ≤ bs.getD i 0 ∧ bs.getD i 0 ≤ 255) (at' : Nat) (ha : at' ≤ len) :
    Calls Tryz.prog 68 #[.slice ao len cap, .int .i64 at'] w fun e w' => e = .returned (.tuple #[.int .i64 (Wm.tkGo bs at' 9 0 0).1, .int .i64 (Wm.tkGo bs at' 9 0 0).2.1, .int .i64 (Wm.tkGo bs at' 9 0 0).2.2]) ∧ w' = w := by
  rcases hc with h0 | ⟨b, off, rfl, hc⟩
  · subst h0
    obtain rfl : at' = 0 := by omega
    obtain rfl : bs = [] := List.eq_nil_of_length_eq_zero hl
    have e : Wm.tkGo [] 0 9 0 0 = (0, 0, 10) := by decide
    rw [e]
    clear hb
    go_enter Tryz.func68, Tryz.ntmps68
    go_wp2
    refine wp_loop_rounds 1 ?_
    rw [rounds_succ]
    go_wp2
    go_ret3
    exact ⟨rfl, rfl⟩
  go_enter Tryz.func68, Tryz.ntmps68
  go_wp2
  go_loop [7, 15] (fun v i => ∃ k : Nat, k ≤ 9 ∧ at' + k ≤ len ∧ i = .int .i64 k ∧ ∃ u : Int, v = .int .i64 u ∧ Hid (0 ≤ u ∧ u < 128 ^ k) ∧ Hid (Wm.tkGo bs at' 9 0 0 = Wm.tkGo bs at' (9 - k) k u)) (fun _ i => 9 - (intOf i).toNat)
  case atStart => exact ⟨0, Nat.zero_le _, ha, rfl, 0, rfl, ⟨by decide, by decide⟩, rfl⟩
  case round =>
    obtain ⟨k, hk, hak, rfl, u, rfl, hu, ht⟩ := hrel
    by_cases hlt : k < 9
    · by_cases hin : at' + k < len
      · have hcx := hc (at' + k) hin
        have hbk := hb (at' + k)
        have hne : ((at' : Int) + (k : Int) == (len : Int)) = false := by rw [beq_eq_false_iff_ne]; omega
        generalize hcv : bs.getD (at' + k) 0 = c at *
        have Hcv : Hid (bs.getD (at' + k) 0 = c) := hcv
        obtain ⟨V, hV⟩ : ∃ V, V = u + c % 128 * 128 ^ k := ⟨_, rfl⟩
        have hor : bits .or .i64 u (wrap64 (c % 128 * 2 ^ (7 * k))) = V := by rw [hV]; exact Wb.or_group u c k hlt hu hbk
        have HV : Hid (V = u + c % 128 * 128 ^ k) := hV
        have HG : Hid (0 ≤ V ∧ V < 128 ^ (k + 1)) := by rw [hV]; exact Wm.grow_lt u c k hu.1 hu.2
        clear hcv hc hb hV
        by_cases h128 : 128 ≤ c
        · go_wp2
          go_round
          case rel => exact ⟨k + 1, by omega, by omega, by go_num, V, rfl, HG, by have h := go_more bs at' k u c hlt (by omega) Hcv h128; rw [← HV.out] at h; exact ht.out.trans h⟩
          case measure => simp [intOf]; omega
        · by_cases hz : c = 0 ∧ 0 < k
          · obtain ⟨hz0, hz1⟩ := hz
            have hz0' : (c == 0) = true := by simp [hz0]
            have HZ : Hid (c = 0) := hz0
            clear hz0
            have hfin : Hid (Wm.tkGo bs at' 9 0 0 = (0, 0, 14)) := ht.out.trans (go_bad bs at' k u c V hlt (by omega) Hcv h128 HV (.inl ⟨HZ, hz1⟩))
            go_wp2
            go_ret3
            exact ⟨ret3 hfin.out.symm, rfl⟩
          · by_cases hm : 4611686018427387904 < V
            · have hfin : Hid (Wm.tkGo bs at' 9 0 0 = (0, 0, 14)) := ht.out.trans (go_bad bs at' k u c V hlt (by omega) Hcv h128 HV (.inr hm))
              by_cases hz0 : c = 0
              · have hz0' : (c == 0) = true := by simp [hz0]
                have hk0 : k ≤ 0 := by omega
                clear hz0 hz
                go_wp2
                go_ret3
                exact ⟨ret3 hfin.out.symm, rfl⟩
              · have hz0' : (c == 0) = false := by simp [hz0]
                clear hz
                go_wp2
                go_ret3
                exact ⟨ret3 hfin.out.symm, rfl⟩
            · have hfin : Hid (Wm.tkGo bs at' 9 0 0 = (V, (at' : Int) + k + 1, 0)) := ht.out.trans (go_good bs at' k u c V hlt (by omega) Hcv h128 HV (by omega))
              by_cases hz0 : c = 0
              · have hz0' : (c == 0) = true := by simp [hz0]
                have hk0 : k ≤ 0 := by omega
                clear hz0 hz
                go_wp2
                go_ret3
                exact ⟨ret3 hfin.out.symm, rfl⟩
              · have hz0' : (c == 0) = false := by simp [hz0]
                clear hz
                go_wp2
                go_ret3
                exact ⟨ret3 hfin.out.symm, rfl⟩
      · have hne : ((at' : Int) + (k : Int) == (len : Int)) = true := by rw [beq_iff_eq]; omega
        have hfin : Hid (Wm.tkGo bs at' 9 0 0 = (0, 0, 10)) := ht.out.trans (go_out bs at' k u hlt (by omega))
        clear hc hb
        go_wp2
        go_ret3
        exact ⟨ret3 hfin.out.symm, rfl⟩
    · obtain rfl : k = 9 := by omega
      have hfin : Hid (Wm.tkGo bs at' 9 0 0 = (0, 0, 14)) := ht.out
      clear hc hb
      go_wp2
      go_ret3
      exact ⟨ret3 hfin.out.symm, rfl⟩

theorem take_any (ao : Option Addr) (len cap : Nat) (bs : List Int) (w : World) (hr : Rd w ao len bs) (hlen : len ≤ 140737488355328) (a : Int) :
    Calls Tryz.prog 68 #[.slice ao len cap, .int .i64 a] w fun e w' => e = .returned (.tuple #[.int .i64 (Wm.tk bs a).1, .int .i64 (Wm.tk bs a).2.1, .int .i64 (Wm.tk bs a).2.2]) ∧ w = w' := by
  obtain ⟨hl, hc, hb⟩ := hr
  by_cases h0 : a < 0
  · have e : Wm.tk bs a = (0, 0, 1) := by unfold Wm.tk; rw [if_pos (.inl h0)]
    rw [e]
    clear hc hb e
    go_enter Tryz.func68, Tryz.ntmps68
    go_wp2
    go_ret3
    exact ⟨rfl, rfl⟩
  · by_cases h1 : (len : Int) < a
    · have e : Wm.tk bs a = (0, 0, 1) := by unfold Wm.tk; rw [if_pos (.inr (by rw [hl]; exact h1))]
      rw [e]
      have hd : decide (a ≤ (len : Int)) = false := by simp; omega
      clear hc hb e
      go_enter Tryz.func68, Tryz.ntmps68
      go_wp2
      go_ret3
      exact ⟨rfl, rfl⟩
    · obtain ⟨n, rfl⟩ := Int.eq_ofNat_of_zero_le (show 0 ≤ a by omega)
      have e : Wm.tk bs (n : Int) = Wm.tkGo bs n 9 0 0 := by unfold Wm.tk; rw [if_neg (by rw [hl]; omega)]; rfl
      rw [e]
      exact (take_in ao len cap bs w hl hlen hc hb n (by omega)).mono fun e w' h => ⟨h.1, h.2.symm⟩
end Go.Proofs.YtjgjpepmfiklfaaGreatDoor.Wk
