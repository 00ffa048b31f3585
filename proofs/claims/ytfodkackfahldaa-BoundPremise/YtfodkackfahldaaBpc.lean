import Derived.Test.YtfodkackfahldaaBpb
namespace Go.Proofs.Ytfodkackfahldaa.Lo
open Go.RowKit
set_option linter.unusedVariables false
set_option linter.unusedSimpArgs false

def siB (m : Int) (xs : List Int) : Bool := decide ((xs.length : Int) = m) && xs.all (fun x => inR x 0 15)
def setB (m : Int) : Int → List Int → Bool
  | t, [] => decide (0 < t)
  | t, x :: l => inR x t (m - 1) && setB m (x + 1) l
theorem drop_at {α : Type} [Inhabited α] {d : α} {l : List α} {j : Nat} (h : j < l.length) : l.drop j = l.getD j d :: l.drop (j + 1) := by
  rw [List.drop_eq_getElem_cons h]
  simp [List.getD, h]
theorem all_take {l : List Int} {p : Int → Bool} {j : Nat} (h : j < l.length) (hp : (l.take j).all p = true) : (l.take (j + 1)).all p = p (l.getD j 0) := by
  rw [List.take_succ_eq_append_getElem h, List.all_append, hp]
  simp [List.getD, h]
theorem all_no {l : List Int} {p : Int → Bool} {j : Nat} (h : (l.take j).all p = false) : l.all p = false := by
  rw [← List.take_append_drop j l, List.all_append, h]
  rfl
set_option maxRecDepth 100000 in
set_option maxHeartbeats 1000000 in
theorem areSides_any (b : Nat) (f : Nat → Int) (ao : Option Addr) (n c : Nat) (xs : List Int) (w : World) (h : Nb w b f) (hn : 1 ≤ f 0 ∧ f 0 ≤ 16) (hr : Ri w ao n c xs) (hn2 : n ≤ 140737488355328) : Calls Try.prog 47 #[.pointer (some ⟨b, 0, none⟩), .slice ao n c] w fun e w' => e = .returned (.bool (siB (f 0) xs)) ∧ Below w.heap.size w w' := by
  have c0 := h.cell (i := 0) (by omega)
  obtain ⟨m, hf⟩ : ∃ m, f 0 = m := ⟨_, rfl⟩
  rw [hf] at c0 hn ⊢
  have HC : Hid (n = 0 ∨ ∃ b off, ao = some ⟨b, off, none⟩ ∧ ∀ i, i < n → w.cell? ⟨b, off + i, none⟩ = some (.int .i64 (xs.getD i 0))) := hr.2.2
  have hl : xs.length = n := hr.1
  have HL : Hid (xs.length = n) := hl
  clear h hf hr
  obtain ⟨n1, n2⟩ := hn
  by_cases e : (n : Int) = m
  · have hs : siB m xs = xs.all (fun x => inR x 0 15) := by unfold siB; rw [hl, e]; simp
    rw [hs]
    obtain ⟨r, hr⟩ : ∃ r, xs.all (fun x => inR x 0 15) = r := ⟨_, rfl⟩
    rw [hr]
    have HR : Hid (xs.all (fun x => inR x 0 15) = r) := hr
    subst e
    clear hs hl hr
    have e1 : ((n : Int) != (n : Int)) = false := by simp
    go_enter Try.func47, Try.ntmps47
    go_wp2_with fail
    go_loopw [17] (fun x wr => ∃ (j : Nat), j ≤ n ∧ x = .int .i64 j ∧ Hid ((xs.take j).all (fun x => inR x 0 15) = true) ∧ w = wr) (fun x _ => n - (intOf x).toNat)
    case atStart => exact ⟨0, Nat.zero_le _, rfl, (by simp : (xs.take 0).all (fun x => inR x 0 15) = true), rfl⟩
    case round =>
      obtain ⟨j, hj, rfl, hall, rfl⟩ := hrel
      by_cases hjn : j < n
      · obtain ⟨b, off, rfl, hcx⟩ : ∃ b off, ao = some ⟨b, off, none⟩ ∧ w.cell? ⟨b, off + j, none⟩ = some (.int .i64 (xs.getD j 0)) := by
          rcases HC.out with h | ⟨b, off, rfl, hc⟩
          · omega
          · exact ⟨b, off, rfl, hc j hjn⟩
        have HS : Hid ((xs.take (j + 1)).all (fun x => inR x 0 15) = inR (xs.getD j 0) 0 15) := (show _ = _ from all_take (by rw [HL.out]; exact hjn) hall.out)
        obtain ⟨x, hx⟩ : ∃ x, xs.getD j 0 = x := ⟨_, rfl⟩
        rw [hx] at hcx HS
        clear hx HC
        obtain ⟨bx, hb⟩ : ∃ bx, inR x 0 15 = bx := ⟨_, rfl⟩
        rw [hb] at HS
        have H1 : Hid (Calls Try.prog 33 #[.int .i64 x, .int .i64 0, .int .i64 15] w fun e w' => e = .returned (.bool bx) ∧ w = w') := (show Calls _ _ _ _ _ from bwithin_eq _ _ _ _ _ hb)
        clear hb
        cases bx
        · have HF : Hid (r = false) := (show _ = _ from HR.out.symm.trans (all_no HS.out))
          go_wp2_with (first
            | (go_at_call 33; refine H1.out.mono ?_; rintro e w' ⟨rfl, rfl⟩)
            | fail)
          go_ret
          exact ⟨by rw [HF.out]; rfl, Below.refl _ _⟩
        · go_wp2_with (first
            | (go_at_call 33; refine H1.out.mono ?_; rintro e w' ⟨rfl, rfl⟩)
            | fail)
          go_roundw
          case rel => exact ⟨j + 1, by omega, by go_num, HS, (by first | exact rfl | exact True.intro)⟩
          case measure => simp [intOf]; omega
      · have HF : Hid (r = true) := (show _ = _ from by
          have h1 := hall.out
          rw [List.take_of_length_le (by rw [HL.out]; omega)] at h1
          exact HR.out.symm.trans h1)
        go_wp2_with fail
        go_ret
        exact ⟨by rw [HF.out]; rfl, Below.refl _ _⟩
  · have hs : siB m xs = false := by unfold siB; rw [hl]; simp [e]
    rw [hs]
    have e1 : ((n : Int) != m) = true := by simpa using e
    clear e hs
    go_enter Try.func47, Try.ntmps47
    go_wp2_with fail
    go_ret
    exact ⟨rfl, Below.refl _ _⟩
set_option maxRecDepth 100000 in
set_option maxHeartbeats 1000000 in
theorem isSet_any (ao : Option Addr) (n c : Nat) (xs : List Int) (m : Int) (w : World) (hm : 1 ≤ m ∧ m ≤ 16) (hr : Ri w ao n c xs) (hn2 : n ≤ 140737488355328) : Calls Try.prog 39 #[.slice ao n c, .int .i64 m] w fun e w' => e = .returned (.bool (setB m 0 xs)) ∧ w = w' := by
  obtain ⟨r, hrr⟩ : ∃ r, setB m 0 xs = r := ⟨_, rfl⟩
  rw [hrr]
  have HR : Hid (setB m 0 xs = r) := hrr
  have HC : Hid (n = 0 ∨ ∃ b off, ao = some ⟨b, off, none⟩ ∧ ∀ i, i < n → w.cell? ⟨b, off + i, none⟩ = some (.int .i64 (xs.getD i 0))) := hr.2.2
  have HL : Hid (xs.length = n) := hr.1
  clear hrr hr
  obtain ⟨m1, m2⟩ := hm
  go_enter Try.func39, Try.ntmps39
  go_wp2_with fail
  go_loopw [5, 10] (fun s x wr => ∃ (j : Nat) (t : Int), j ≤ n ∧ x = .int .i64 j ∧ s = .int .i64 t ∧ 0 ≤ t ∧ t ≤ 16 ∧ Hid (setB m t (xs.drop j) = r) ∧ w = wr) (fun _ x _ => n - (intOf x).toNat)
  case atStart => exact ⟨0, 0, Nat.zero_le _, rfl, rfl, by omega, by omega, HR, rfl⟩
  case round =>
    obtain ⟨j, t, hj, rfl, rfl, t0, t16, hset, rfl⟩ := hrel
    by_cases hjn : j < n
    · obtain ⟨b, off, rfl, hcx⟩ : ∃ b off, ao = some ⟨b, off, none⟩ ∧ w.cell? ⟨b, off + j, none⟩ = some (.int .i64 (xs.getD j 0)) := by
        rcases HC.out with h | ⟨b, off, rfl, hc⟩
        · omega
        · exact ⟨b, off, rfl, hc j hjn⟩
      have HS : Hid ((inR (xs.getD j 0) t (m - 1) && setB m (xs.getD j 0 + 1) (xs.drop (j + 1))) = r) := (show _ = _ from by
        have h1 := hset.out
        rw [drop_at (d := (0 : Int)) (by rw [HL.out]; exact hjn)] at h1
        exact h1)
      obtain ⟨x, hx⟩ : ∃ x, xs.getD j 0 = x := ⟨_, rfl⟩
      rw [hx] at hcx HS
      clear hx HC hset
      obtain ⟨bx, hb⟩ : ∃ bx, inR x t (m - 1) = bx := ⟨_, rfl⟩
      rw [hb] at HS
      have H1 : Hid (Calls Try.prog 33 #[.int .i64 x, .int .i64 t, .int .i64 (m - 1)] w fun e w' => e = .returned (.bool bx) ∧ w = w') := (show Calls _ _ _ _ _ from bwithin_eq _ _ _ _ _ hb)
      cases bx
      · have HF : Hid (r = false) := (show _ = _ from HS.out.symm)
        clear hb
        go_wp2_with (first
          | (go_at_call 33; refine H1.out.mono ?_; rintro e w' ⟨rfl, rfl⟩)
          | fail)
        go_ret
        exact ⟨by rw [HF.out]; rfl, rfl⟩
      · have hxr : t ≤ x ∧ x ≤ m - 1 := by simpa [inR] using hb
        obtain ⟨x1, x2⟩ := hxr
        have HS' : Hid (setB m (x + 1) (xs.drop (j + 1)) = r) := (show _ = _ from by have := HS.out; simpa using this)
        clear hb HS
        go_wp2_with (first
          | (go_at_call 33; refine H1.out.mono ?_; rintro e w' ⟨rfl, rfl⟩)
          | fail)
        go_roundw
        case rel => exact ⟨j + 1, x + 1, by omega, by go_num, by go_num, by omega, by omega, HS', (by first | exact rfl | exact True.intro)⟩
        case measure => simp [intOf]; omega
    · have HF : Hid (r = decide (0 < t)) := (show _ = _ from by
        have h1 := hset.out
        rw [List.drop_eq_nil_of_le (by rw [HL.out]; omega)] at h1
        exact h1.symm)
      go_wp2_with fail
      go_ret
      exact ⟨by rw [HF.out]; rfl, rfl⟩
end Go.Proofs.Ytfodkackfahldaa.Lo
