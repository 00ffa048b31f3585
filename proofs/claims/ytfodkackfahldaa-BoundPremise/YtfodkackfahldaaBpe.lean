import Derived.Test.YtfodkackfahldaaBpd
namespace Go.Proofs.Ytfodkackfahldaa.Lo
open Go.RowKit
set_option linter.unusedVariables false
set_option linter.unusedSimpArgs false

theorem max_if (u z : Int) : (if u < z then z else u) = max u z := by
  rw [Int.max_def]
  split <;> split <;> omega
def lgR (f : Nat → Int) (p : Nat) (a : Int) : Nat → Int
  | 0 => a
  | q + 1 => if p ≠ q ∧ f (273 + p) = 1 ∧ f (273 + q) = 1 then max (lgR f p a q) (f (17 + p * 16 + q)) else lgR f p a q
def lgA (f : Nat → Int) (N : Nat) : Nat → Int
  | 0 => 0
  | p + 1 => lgR f p (lgA f N p) N
set_option maxRecDepth 100000 in
set_option maxHeartbeats 1000000 in
theorem longest_any (b : Nat) (f : Nat → Int) (N : Nat) (w : World) (h : Nb w b f) (hN : f 0 = (N : Int)) (n1 : 1 ≤ N) (n2 : N ≤ 16) : Calls Try.prog 42 #[.pointer (some ⟨b, 0, none⟩)] w fun e w' => e = .returned (.int .i64 (lgA f N N)) ∧ w = w' := by
  have c0 := h.cell (i := 0) (by omega)
  rw [hN] at c0
  have HH : Hid (Nb w b f) := h
  clear h hN
  go_enter Try.func42, Try.ntmps42
  go_wp2_with fail
  go_loopw [3, 11] (fun s x wr => ∃ (j : Nat) (t : Int), j ≤ N ∧ x = .int .i64 j ∧ s = .int .i64 t ∧ Hid (t = lgA f N j) ∧ w = wr) (fun _ x _ => N - (intOf x).toNat)
  case atStart => exact ⟨0, 0, Nat.zero_le _, rfl, rfl, (show _ = _ from rfl), rfl⟩
  case round =>
    obtain ⟨j, t, hj, rfl, rfl, ht, rfl⟩ := hrel
    by_cases hjn : j < N
    · have cp := HH.out.cell (i := 273 + j) (by omega)
      have j1 : (0 : Int) ≤ (j : Int) := Int.natCast_nonneg _
      have j2 : (j : Int) < 16 := by omega
      have j3 : (j : Int) < (N : Int) := by omega
      obtain ⟨x, hx⟩ : ∃ x, f (273 + j) = x := ⟨_, rfl⟩
      rw [hx] at cp
      have HX : Hid (f (273 + j) = x) := hx
      clear hx
      go_wp2_with fail
      go_loopw [3, 19] (fun s x wi => ∃ (i : Nat) (u : Int), i ≤ N ∧ x = .int .i64 i ∧ s = .int .i64 u ∧ Hid (u = lgR f j t i) ∧ w = wi) (fun _ x _ => N - (intOf x).toNat)
      case atStart => exact ⟨0, t, Nat.zero_le _, rfl, rfl, (show _ = _ from rfl), rfl⟩
      case round =>
        obtain ⟨i, u, hi, rfl, rfl, hu, rfl⟩ := hrel
        by_cases hiN : i < N
        · have cq := HH.out.cell (i := 273 + i) (by omega)
          have cx := HH.out.cell (i := 17 + j * 16 + i) (by omega)
          have i1 : (0 : Int) ≤ (i : Int) := Int.natCast_nonneg _
          have i2 : (i : Int) < 16 := by omega
          have i3 : (i : Int) < (N : Int) := by omega
          obtain ⟨y, hy⟩ : ∃ x, f (273 + i) = x := ⟨_, rfl⟩
          obtain ⟨z, hz⟩ : ∃ x, f (17 + j * 16 + i) = x := ⟨_, rfl⟩
          rw [hy] at cq
          rw [hz] at cx
          have HY : Hid (f (273 + i) = y ∧ f (17 + j * 16 + i) = z) := (show _ ∧ _ from ⟨hy, hz⟩)
          clear hy hz
          by_cases hc : j ≠ i ∧ x = 1 ∧ y = 1
          · obtain ⟨e0, rfl, rfl⟩ := hc
            have e1 : ((j : Int) != (i : Int)) = true := by simp; omega
            have HU : Hid (max u z = lgR f j t (i + 1)) := (show _ = _ from by
              unfold lgR
              rw [if_pos ⟨e0, HX.out, HY.out.1⟩, HY.out.2, ← hu.out])
            clear e0 hu
            go_wp2_with fail
            go_roundw
            case rel => exact ⟨i + 1, max u z, by omega, by go_num, (by rw [max_if]), HU, (by first | exact rfl | exact True.intro)⟩
            case measure => simp [intOf]; omega
          · have HU : Hid (u = lgR f j t (i + 1)) := (show _ = _ from by
              unfold lgR
              rw [if_neg (by rw [HX.out, HY.out.1]; exact hc), ← hu.out])
            clear hu
            by_cases e0 : j = i
            · subst e0
              have e1 : ((j : Int) != (j : Int)) = false := by simp
              clear hc
              go_wp2_with fail
              go_roundw
              case rel => exact ⟨j + 1, u, by omega, by go_num, rfl, HU, (by first | exact rfl | exact True.intro)⟩
              case measure => simp [intOf]; omega
            · have e1 : ((j : Int) != (i : Int)) = true := by simp; omega
              by_cases x1 : x = 1
              · subst x1
                have y1 : (y == 1) = false := by
                  rw [beq_eq_false_iff_ne]
                  intro h; exact hc ⟨e0, rfl, h⟩
                clear hc e0
                go_wp2_with fail
                go_roundw
                case rel => exact ⟨i + 1, u, by omega, by go_num, rfl, HU, (by first | exact rfl | exact True.intro)⟩
                case measure => simp [intOf]; omega
              · have x1' : (x == 1) = false := by simpa using x1
                clear hc e0 x1
                go_wp2_with fail
                go_roundw
                case rel => exact ⟨i + 1, u, by omega, by go_num, rfl, HU, (by first | exact rfl | exact True.intro)⟩
                case measure => simp [intOf]; omega
        · have hiN' : i = N := by omega
          have HU : Hid (u = lgA f N (j + 1)) := (show _ = _ from by
            show u = lgR f j (lgA f N j) N
            rw [← ht.out, hu.out, hiN'])
          clear hu ht
          go_wp2_with fail
          go_roundw
          case rel => exact ⟨j + 1, u, by omega, by go_num, rfl, HU, (by first | exact rfl | exact True.intro)⟩
          case measure => simp [intOf]; omega
    · have hjN : j = N := by omega
      have HT : Hid (t = lgA f N N) := (show _ = _ from by rw [ht.out, hjN])
      go_wp2_with fail
      go_ret
      exact ⟨by rw [← HT.out]; rfl, rfl⟩
end Go.Proofs.Ytfodkackfahldaa.Lo
