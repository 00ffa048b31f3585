import Derived.Test.YtjgjpepmfiklfaaGreatDoorTake
namespace Go.Proofs.YtjgjpepmfiklfaaGreatDoor.Wk
open Go.RowKit
set_option linter.unusedVariables false

theorem add_group (u c W : Int) (k : Nat) (hk : k < 9) (hW : W = 128 ^ k) (hu : 0 ≤ u ∧ u < 128 ^ k) (hc : 0 ≤ c ∧ c ≤ 255) :
    wrap64 (u + wrap64 (c % 128 * W)) = u + c % 128 * 128 ^ k := by
  have hg := Wm.grow_lt u c k hu.1 hu.2
  have h9 := Wm.pow_le9 (k + 1) (by omega)
  have hp := Wm.pow_pos k
  have h3 : 0 ≤ c % 128 * 128 ^ k := Int.mul_nonneg (by omega) (Int.le_of_lt hp)
  rw [hW, Wb.w64 (c % 128 * 128 ^ k) (by omega), Wb.w64 _ (by omega)]

theorem grow_worth (W : Int) (k : Nat) (hk : k < 8) (hW : W = 128 ^ k) : wrap64 (W * 128) = 128 ^ (k + 1) := by
  have h9 := Wm.pow_le9 (k + 1 + 1) (by omega)
  have hp := Wm.pow_pos (k + 1)
  rw [Int.pow_succ] at h9
  rw [hW, ← Int.pow_succ, Wb.w64 _ (by omega)]

set_option maxRecDepth 100000 in
set_option maxHeartbeats 1000000 in
theorem rtake_in (ao : Option Addr) (len cap : Nat) (bs : List Int) (w : World) (hl : bs.length = len) (hlen : len ≤ 140737488355328) (hc : len = 0 ∨ ∃ b off, ao = some ⟨b, off, none⟩ ∧ ∀ i, i < len → w.cell? ⟨b, off + i, none⟩ = some (.int .u8 (bs.getD i 0)))
    (hb : ∀ i, 0 ≤ bs.getD i 0 ∧ bs.getD i 0 ≤ 255) (at' : Nat) (ha : at' ≤ len) :
    Calls Tryz.prog 63 #[.slice ao len cap, .int .i64 at'] w fun e w' => e = .returned (.tuple #[.int .i64 (Wm.tkGo bs at' 9 0 0).1, .int .i64 (Wm.tkGo bs at' 9 0 0).2.1, .int .i64 (Wm.tkGo bs at' 9 0 0).2.2]) ∧ w' = w := by
  rcases hc with h0 | ⟨b, off, rfl, hc⟩
  · subst h0
    obtain rfl : at' = 0 := by omega
    obtain rfl : bs = [] := List.eq_nil_of_length_eq_zero hl
    have e : Wm.tkGo [] 0 9 0 0 = (0, 0, 10) := by decide
    rw [e]
    clear hb
    go_enter Tryz.func63, Tryz.ntmps63
    go_wp2
    refine wp_loop_rounds 1 ?_
    rw [rounds_succ]
    go_wp2
    go_ret3
    exact ⟨rfl, rfl⟩
  have hg0 : decide ((len : Int) < (at' : Int)) = false := by simp; omega
  go_enter Tryz.func63, Tryz.ntmps63
  go_wp2
  go_loop [7, 8, 9] (fun v x i => ∃ k : Nat, k ≤ 9 ∧ at' + k ≤ len ∧ i = .int .i64 k ∧ ∃ u W : Int, v = .int .i64 u ∧ x = .int .i64 W ∧ Hid (k ≤ 8 → W = 128 ^ k) ∧ Hid (0 ≤ u ∧ u < 128 ^ k) ∧ Hid (Wm.tkGo bs at' 9 0 0 = Wm.tkGo bs at' (9 - k) k u)) (fun _ _ i => 9 - (intOf i).toNat)
  case atStart => exact ⟨0, Nat.zero_le _, ha, rfl, 0, 1, rfl, rfl, fun _ => rfl, ⟨by decide, by decide⟩, rfl⟩
  case round =>
    obtain ⟨k, hk, hak, rfl, u, W, rfl, rfl, hW, hu, ht⟩ := hrel
    by_cases hlt : k < 9
    · by_cases hin : at' + k < len
      · have hcx := hc (at' + k) hin
        have hbk := hb (at' + k)
        generalize hcv : bs.getD (at' + k) 0 = c at *
        have Hcv : Hid (bs.getD (at' + k) 0 = c) := hcv
        obtain ⟨V, hV⟩ : ∃ V, V = u + c % 128 * 128 ^ k := ⟨_, rfl⟩
        have hor : wrap64 (u + wrap64 (c % 128 * W)) = V := by rw [hV]; exact add_group u c W k hlt (hW.out (by omega)) hu hbk
        have HV : Hid (V = u + c % 128 * 128 ^ k) := hV
        have HG : Hid (0 ≤ V ∧ V < 128 ^ (k + 1)) := by rw [hV]; exact Wm.grow_lt u c k hu.1 hu.2
        clear hcv hc hb hV
        by_cases h128 : 128 ≤ c
        · have HT : Hid (Wm.tkGo bs at' 9 0 0 = Wm.tkGo bs at' (9 - (k + 1)) (k + 1) V) := by have h := go_more bs at' k u c hlt (by omega) Hcv h128; rw [← HV.out] at h; exact ht.out.trans h
          by_cases hk8 : k < 8
          · obtain ⟨W', hW'⟩ : ∃ W' : Int, W' = 128 ^ (k + 1) := ⟨_, rfl⟩
            have hwt : wrap64 (W * 128) = W' := by rw [hW']; exact grow_worth W k hk8 (hW.out (by omega))
            have HW' : Hid (k + 1 ≤ 8 → W' = 128 ^ (k + 1)) := fun _ => hW'
            clear hW'
            go_wp2
            go_round
            case rel => exact ⟨k + 1, by omega, by omega, by go_num, V, W', (by first | rfl | rw [hor]), (by first | rfl | rw [hwt]), HW', HG, HT⟩
            case measure => simp [intOf]; omega
          · have HW' : Hid (k + 1 ≤ 8 → W = 128 ^ (k + 1)) := fun h => absurd h (by omega)
            go_wp2
            go_round
            case rel => exact ⟨k + 1, by omega, by omega, by go_num, V, W, (by first | rfl | rw [hor]), rfl, HW', HG, HT⟩
            case measure => simp [intOf]; omega
        · by_cases hz : c = 0 ∧ 0 < k
          · obtain ⟨hz0, hz1⟩ := hz
            have hz0' : (c == 0) = true := by simp [hz0]
            have HZ : Hid (c = 0) := hz0
            clear hz0
            have hfin : Hid (Wm.tkGo bs at' 9 0 0 = (0, 0, 14)) := ht.out.trans (go_bad bs at' k u c V hlt (by omega) Hcv h128 HV (.inl ⟨HZ, hz1⟩))
            go_wp2
            go_ret3
            exact ⟨ret3 hfin.out.symm, rfl⟩
          · by_cases hm : 4611686018427387904 < V
            · have hfin : Hid (Wm.tkGo bs at' 9 0 0 = (0, 0, 14)) := ht.out.trans (go_bad bs at' k u c V hlt (by omega) Hcv h128 HV (.inr hm))
              by_cases hz0 : c = 0
              · have hz0' : (c == 0) = true := by simp [hz0]
                have hk0 : k ≤ 0 := by omega
                clear hz0 hz
                go_wp2
                go_ret3
                exact ⟨ret3 hfin.out.symm, rfl⟩
              · have hz0' : (c == 0) = false := by simp [hz0]
                clear hz
                go_wp2
                go_ret3
                exact ⟨ret3 hfin.out.symm, rfl⟩
            · have hfin : Hid (Wm.tkGo bs at' 9 0 0 = (V, (at' : Int) + k + 1, 0)) := ht.out.trans (go_good bs at' k u c V hlt (by omega) Hcv h128 HV (by omega))
              by_cases hz0 : c = 0
              · have hz0' : (c == 0) = true := by simp [hz0]
                have hk0 : k ≤ 0 := by omega
                clear hz0 hz
                go_wp2
                go_ret3
                exact ⟨ret3 hfin.out.symm, rfl⟩
              · have hz0' : (c == 0) = false := by simp [hz0]
                clear hz
                go_wp2
                go_ret3
                exact ⟨ret3 hfin.out.symm, rfl⟩
      · have hfin : Hid (Wm.tkGo bs at' 9 0 0 = (0, 0, 10)) := ht.out.trans (go_out bs at' k u hlt (by omega))
        clear hc hb
        go_wp2
        go_ret3
        exact ⟨ret3 hfin.out.symm, rfl⟩
    · obtain rfl : k = 9 := by omega
      have hfin : Hid (Wm.tkGo bs at' 9 0 0 = (0, 0, 14)) := ht.out
      clear hc hb
      go_wp2
      go_ret3
      exact ⟨ret3 hfin.out.symm, rfl⟩

theorem rtake_any (ao : Option Addr) (len cap : Nat) (bs : List Int) (w : World) (hr : Rd w ao len bs) (hlen : len ≤ 140737488355328) (a : Int) :
    Calls Tryz.prog 63 #[.slice ao len cap, .int .i64 a] w fun e w' => e = .returned (.tuple #[.int .i64 (Wm.tk bs a).1, .int .i64 (Wm.tk bs a).2.1, .int .i64 (Wm.tk bs a).2.2]) ∧ w = w' := by
  obtain ⟨hl, hc, hb⟩ := hr
  by_cases h0 : a < 0
  · have e : Wm.tk bs a = (0, 0, 1) := by unfold Wm.tk; rw [if_pos (.inl h0)]
    rw [e]
    clear hc hb e
    go_enter Tryz.func63, Tryz.ntmps63
    go_wp2
    go_ret3
    exact ⟨rfl, rfl⟩
  · have hd0 : decide (a < 0) = false := by simp; omega
    by_cases h1 : (len : Int) < a
    · have e : Wm.tk bs a = (0, 0, 1) := by unfold Wm.tk; rw [if_pos (.inr (by rw [hl]; exact h1))]
      rw [e]
      clear hc hb e
      go_enter Tryz.func63, Tryz.ntmps63
      go_wp2
      go_ret3
      exact ⟨rfl, rfl⟩
    · obtain ⟨n, rfl⟩ := Int.eq_ofNat_of_zero_le (show 0 ≤ a by omega)
      have e : Wm.tk bs (n : Int) = Wm.tkGo bs n 9 0 0 := by unfold Wm.tk; rw [if_neg (by rw [hl]; omega)]; rfl
      rw [e]
      exact (rtake_in ao len cap bs w hl hlen hc hb n (by omega)).mono fun e w' h => ⟨h.1, h.2.symm⟩
end Go.Proofs.YtjgjpepmfiklfaaGreatDoor.Wk
