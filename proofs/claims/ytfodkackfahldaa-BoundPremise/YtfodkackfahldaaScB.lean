import Derived.Test.YtfodkackfahldaaScA
namespace Go.Proofs.Ytfodkackfahldaa.Lo
open Go.RowKit
set_option linter.unusedVariables false
set_option linter.unusedSimpArgs false

set_option maxRecDepth 100000 in
set_option maxHeartbeats 1000000 in
theorem votes_any (ao : Option Addr) (n c : Nat) (xs : List Int) (r : Bool) (w : World) (hr : Ri w ao n c xs) (hn : n ≤ 140737488355328) (hB : votesB xs = r) :
    Calls Try.prog 50 #[.slice ao n c] w fun e w' => e = .returned (.bool r) ∧ w = w' := by
  have HC : Hid (n = 0 ∨ ∃ b off, ao = some ⟨b, off, none⟩ ∧ ∀ i, i < n → w.cell? ⟨b, off + i, none⟩ = some (.int .i64 (xs.getD i 0))) := hr.2.2
  have HL : Hid (xs.length = n) := hr.1
  have HRR : Hid (votesB xs = r) := hB
  clear hr hB
  go_enter Try.func50, Try.ntmps50
  go_wp2_with fail
  go_loopw [3,8] (fun s x wr => ∃ (j : Nat) (t : Int), j ≤ n ∧ x = .int .i64 j ∧ s = .int .i64 t ∧ Hid ((xs.take j).all okV = true) ∧ Hid ((xs.take j).sum = t) ∧ w = wr) (fun _ x _ => n - (intOf x).toNat)
  case atStart => exact ⟨0, 0, Nat.zero_le _, rfl, rfl, (by simp : (xs.take 0).all okV = true), (by simp : (xs.take 0).sum = 0), rfl⟩
  case round =>
    obtain ⟨j, t, hj, rfl, rfl, hall, hsum, rfl⟩ := hrel
    have hrg : 0 ≤ t ∧ t ≤ 9 * 140737488355328 := by
      have h1 := sum_range hall.out
      rw [hsum.out, List.length_take] at h1
      have := HL.out
      omega
    by_cases hjn : j < n
    · obtain ⟨b, off, rfl, hcx⟩ : ∃ b off, ao = some ⟨b, off, none⟩ ∧ w.cell? ⟨b, off + j, none⟩ = some (.int .i64 (xs.getD j 0)) := by
        rcases HC.out with h | ⟨b, off, rfl, hc⟩
        · omega
        · exact ⟨b, off, rfl, hc j hjn⟩
      obtain ⟨x, hx⟩ : ∃ x, xs.getD j 0 = x := ⟨_, rfl⟩
      rw [hx] at hcx
      have HS : Hid ((xs.take (j + 1)).all okV = okV x) := by
        show _ = _
        rw [all_take_succ (by have := HL.out; omega), hall.out, hx, Bool.true_and]
      have HT : Hid ((xs.take (j + 1)).sum = t + x) := by
        show _ = _
        rw [sum_take_succ (by have := HL.out; omega), hsum.out, hx]
      clear hx HC
      by_cases hok : inR x 0 9 = true
      · have HS' : Hid ((xs.take (j + 1)).all okV = true) := HS.out.trans hok
        have hxr : 0 ≤ x ∧ x ≤ 9 := by simpa [inR] using hok
        go_wp2_with (first
          | (go_at_call 49; refine (within_any _ _ _ _).mono ?_; rintro e w' ⟨rfl, rfl⟩)
          | fail)
        go_roundw
        case rel => exact ⟨j + 1, t + x, by omega, by go_num, by go_num, HS', HT, (by first | exact rfl | exact True.intro)⟩
        case measure => simp [intOf]; omega
      · have hok' : inR x 0 9 = false := by simpa using hok
        have HF : Hid (r = false) := votes_stop (HS.out.trans hok') HRR.out
        clear hok
        go_wp2_with (first
          | (go_at_call 49; refine (within_any _ _ _ _).mono ?_; rintro e w' ⟨rfl, rfl⟩)
          | fail)
        go_ret
        exact ⟨by rw [HF.out]; rfl, rfl⟩
    · have HF : Hid (r = decide (0 < t)) := votes_end HL.out hjn hall.out hsum.out HRR.out
      go_wp2_with fail
      go_ret
      exact ⟨by rw [HF.out]; rfl, rfl⟩

end Go.Proofs.Ytfodkackfahldaa.Lo
