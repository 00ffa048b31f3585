import Derived.Test.YtfodkackfahldaaBpc
namespace Go.Proofs.Ytfodkackfahldaa.Lo
open Go.RowKit
set_option linter.unusedVariables false
set_option linter.unusedSimpArgs false

def alQ (f : Nat → Int) (N q : Nat) : Prop := f (273 + q) = 0 ∨ (f (1 + q) = 1 ∧ ∀ p, p < N → p = q ∨ rtB f p q = true)
instance (f : Nat → Int) (N q : Nat) : Decidable (alQ f N q) := by unfold alQ; infer_instance
def alP (f : Nat → Int) (N : Nat) : Prop := ∀ q, q < N → alQ f N q
instance (f : Nat → Int) (N : Nat) : Decidable (alP f N) := by unfold alP; infer_instance
set_option maxRecDepth 100000 in
set_option maxHeartbeats 1000000 in
theorem isAlone_any (b : Nat) (f : Nat → Int) (N : Nat) (w : World) (h : Nb w b f) (hN : f 0 = (N : Int)) (n1 : 1 ≤ N) (n2 : N ≤ 16) : Calls Try.prog 41 #[.pointer (some ⟨b, 0, none⟩)] w fun e w' => e = .returned (.bool (decide (alP f N))) ∧ Below w.heap.size w w' := by
  have c0 := h.cell (i := 0) (by omega)
  rw [hN] at c0
  have HH : Hid (Nb w b f) := h
  have HF : Hid (f 0 = (N : Int)) := hN
  obtain ⟨r, hr⟩ : ∃ r, decide (alP f N) = r := ⟨_, rfl⟩
  rw [hr]
  have HR : Hid (decide (alP f N) = r) := hr
  clear h hN hr
  go_enter Try.func41, Try.ntmps41
  go_wp2_with fail
  go_loopw [10] (fun x wr => ∃ (j : Nat), j ≤ N ∧ x = .int .i64 j ∧ Hid (∀ q, q < j → alQ f N q) ∧ Hid (Below w.heap.size w wr)) (fun x _ => N - (intOf x).toNat)
  case atStart => exact ⟨0, Nat.zero_le _, rfl, (show ∀ q, _ from fun q hq => by omega), Below.refl _ _⟩
  case round =>
    obtain ⟨j, hj, rfl, hall, hbl⟩ := hrel
    by_cases hjn : j < N
    · have hnb : Nb wr b f := HH.out.on hbl.out
      have cin := hnb.cell (i := 273 + j) (by omega)
      have cst := hnb.cell (i := 1 + j) (by omega)
      have c00 := hnb.cell (i := 0) (by omega)
      rw [HF.out] at c00
      have HNB : Hid (Nb wr b f) := hnb
      have j1 : (0 : Int) ≤ (j : Int) := Int.natCast_nonneg _
      have j2 : (j : Int) < 16 := by omega
      have j3 : (j : Int) < (N : Int) := by omega
      obtain ⟨x, hx⟩ : ∃ x, f (273 + j) = x := ⟨_, rfl⟩
      obtain ⟨y, hy⟩ : ∃ x, f (1 + j) = x := ⟨_, rfl⟩
      rw [hx] at cin
      rw [hy] at cst
      have HX : Hid (f (273 + j) = x ∧ f (1 + j) = y) := (show _ ∧ _ from ⟨hx, hy⟩)
      clear hnb hx hy c0
      by_cases x0 : x = 0
      · subst x0
        have HA : Hid (∀ q, q < j + 1 → alQ f N q) := (show ∀ q, _ from fun q hq => by
          by_cases e : q = j
          · subst e; exact Or.inl HX.out.1
          · exact hall.out q (by omega))
        clear hall
        go_wp2_with fail
        go_roundw
        case rel => exact ⟨j + 1, by omega, by go_num, HA, hbl⟩
        case measure => simp [intOf]; omega
      · have x0' : (x == 0) = false := by simpa using x0
        by_cases y1 : y = 1
        · subst y1
          have y1' : ((1 : Int) != 1) = false := rfl
          have HX0 : Hid (¬ x = 0) := x0
          clear x0
          go_wp2_with fail
          go_loopw [33] (fun x wi => ∃ (i : Nat), i ≤ N ∧ x = .int .i64 i ∧ Hid (∀ p, p < i → p = j ∨ rtB f p j = true) ∧ Hid (Below w.heap.size w wi)) (fun x _ => N - (intOf x).toNat)
          case atStart => exact ⟨0, Nat.zero_le _, rfl, (show ∀ q, _ from fun q hq => by omega), hbl⟩
          case round =>
            obtain ⟨i, hi, rfl, hin, hbi⟩ := hrel
            by_cases hiN : i < N
            · have i1 : (0 : Int) ≤ (i : Int) := Int.natCast_nonneg _
              have i2 : (i : Int) < 16 := by omega
              have i3 : (i : Int) < (N : Int) := by omega
              by_cases eij : i = j
              · subst eij
                have e1 : ((i : Int) != (i : Int)) = false := by simp
                have HA : Hid (∀ q, q < i + 1 → q = i ∨ rtB f q i = true) := (show ∀ q, _ from fun q hq => by
                  by_cases e : q = i
                  · exact Or.inl e
                  · exact hin.out q (by omega))
                clear hin
                go_wp2_with fail
                go_roundw
                case rel => exact ⟨i + 1, by omega, by go_num, HA, hbi⟩
                case measure => simp [intOf]; omega
              · have e1 : ((i : Int) != (j : Int)) = true := by simp; omega
                obtain ⟨rt, hrt⟩ : ∃ r, rtB f i j = r := ⟨_, rfl⟩
                have HE : Hid (¬ i = j) := eij
                have HRT : Hid (rtB f i j = rt) := hrt
                have H1 : Hid (Calls Try.prog 56 #[.pointer (some ⟨b, 0, none⟩), .int .i64 i, .int .i64 j] wr fun e w' => e = .returned (.bool rt) ∧ Below wr.heap.size wr w') := (show Calls _ _ _ _ _ from by rw [← hrt]; exact isRight_any b f i j _ (HH.out.on hbi.out) (by omega) (by omega))
                clear eij hrt
                cases rt
                · have HZ : Hid (r = false) := (show _ = _ from by
                    rw [← HR.out, decide_eq_false_iff_not]
                    intro ha
                    rcases ha j hjn with h | ⟨_, h⟩
                    · exact HX0.out (HX.out.1.symm.trans h)
                    · rcases h i hiN with h | h
                      · exact HE.out h
                      · rw [HRT.out] at h; cases h)
                  go_wp2_with (first
                    | (go_at_call 56; refine H1.out.mono ?_; rintro e w' ⟨rfl, hb1⟩)
                    | fail)
                  go_ret
                  exact ⟨by rw [HZ.out]; rfl, bst hbi.out hb1⟩
                · have HA : Hid (∀ q, q < i + 1 → q = j ∨ rtB f q j = true) := (show ∀ q, _ from fun q hq => by
                    by_cases e : q = i
                    · subst e; exact Or.inr HRT.out
                    · exact hin.out q (by omega))
                  clear hin
                  go_wp2_with (first
                    | (go_at_call 56; refine H1.out.mono ?_; rintro e w' ⟨rfl, hb1⟩; have hb2 : Hid (Below w.heap.size w w') := bst hbi.out hb1; clear hb1)
                    | fail)
                  go_roundw
                  case rel => exact ⟨i + 1, by omega, by go_num, HA, hb2⟩
                  case measure => simp [intOf]; omega
            · have HA : Hid (∀ q, q < j + 1 → alQ f N q) := (show ∀ q, _ from fun q hq => by
                by_cases e : q = j
                · subst e; exact Or.inr ⟨HX.out.2, fun p hp => hin.out p (by omega)⟩
                · exact hall.out q (by omega))
              clear hall hin
              go_wp2_with fail
              go_roundw
              case rel => exact ⟨j + 1, by omega, by go_num, HA, hbi⟩
              case measure => simp [intOf]; omega
        · have y1' : (y != 1) = true := by simpa using y1
          have HZ : Hid (r = false) := (show _ = _ from by
            rw [← HR.out, decide_eq_false_iff_not]
            intro ha
            rcases ha j hjn with h | ⟨h, _⟩
            · exact x0 (HX.out.1.symm.trans h)
            · exact y1 (HX.out.2.symm.trans h))
          clear x0 y1
          go_wp2_with fail
          go_ret
          exact ⟨by rw [HZ.out]; rfl, hbl.out⟩
    · have HZ : Hid (r = true) := (show _ = _ from by
        rw [← HR.out, decide_eq_true_iff]
        exact fun q hq => hall.out q (by omega))
      go_wp2_with fail
      go_ret
      exact ⟨by rw [HZ.out]; rfl, hbl.out⟩
end Go.Proofs.Ytfodkackfahldaa.Lo
