import Derived.Test.YtmphabgpabbbjabDoorUr
import Derived.Test.YtmphabgpabbbjabDoorUn
namespace Go.Proofs.YtmphabgpabbbjabDoor.Fg
open Go.RowKit Mb
set_option linter.unusedVariables false
set_option maxRecDepth 100000
set_option linter.unusedSimpArgs false
section
variable {w w' W : World} {B : Nat}
theorem val_part_succ (bs : List Int) (f j : Nat) (h : f + j < bs.length) : val ((bs.drop f).take (j + 1)) = val ((bs.drop f).take j) * 256 + (bs.getD (f + j) 0).toNat := by
  have h2 := val_take_succ (bs.drop f) j (by rw [List.length_drop]; omega)
  rw [h2]
  congr 2
  simp [List.getD]
theorem val_part_lt {bs : List Int} (hb : By bs) (f j : Nat) (hj : j ≤ 4) : val ((bs.drop f).take j) < 4294967296 := by
  have := val_lt _ ((bs.drop f).take j) ((hb.drop f).take j) rfl
  have h2 : ((bs.drop f).take j).length ≤ 4 := by rw [List.length_take]; omega
  have h3 : 256 ^ ((bs.drop f).take j).length ≤ 256 ^ 4 := Nat.pow_le_pow_right (by decide) h2
  omega
set_option maxHeartbeats 1000000 in
theorem rvalue_any {ao : Option Addr} {n c : Nat} {bs : List Int} (hr : Rd w ao n c bs) (f t : Nat) (hf : f ≤ t) (ht : t ≤ n) (hm : t ≤ f + 4) (hn : n ≤ 140737488355328) : Calls Tryd.prog 24 #[.slice ao n c, .int .i64 (f : Int), .int .i64 (t : Int)] w fun e w' => e = .returned (.int .i64 ((val ((bs.drop f).take (t - f)) : Nat) : Int)) ∧ w = w' := by
  have hl := hr.len
  have HR : Hid (Rd w ao n c bs) := hr
  clear hr
  go_enter Tryd.func24, Tryd.ntmps24
  go_wp2
  go_loop [7, 8] (fun v i => ∃ (j s : Nat), f + j ≤ t ∧ i = .int .i64 ((f + j : Nat) : Int) ∧ v = .int .i64 (s : Int) ∧ s < 4294967296 ∧ Hid (s = val ((bs.drop f).take j))) (fun _ i => t - (intOf i).toNat)
  case atStart => exact ⟨0, 0, by omega, rfl, rfl, by decide, rfl⟩
  case round =>
    obtain ⟨j, s, hj, rfl, rfl, hs, hv⟩ := hrel
    by_cases hlt : f + j < t
    · have hnx := val_part_succ bs f j (by omega)
      have hlt2 := val_part_lt HR.out.by_ f (j + 1) (by omega)
      rw [← hv.out] at hnx
      have hbk := HR.out.by_ (f + j)
      rcases HR.out.at_ with h0 | ⟨b, off, hao, hc⟩
      · omega
      · have hcx := hc (f + j) (by omega)
        obtain ⟨x, hx⟩ := Int.eq_ofNat_of_zero_le hbk.1
        rw [hx] at hcx hbk hnx
        obtain ⟨s2, hs2⟩ : ∃ s2 : Nat, s2 = s * 256 + x := ⟨_, rfl⟩
        have hse : (s : Int) * 256 + (x : Int) = (s2 : Int) := by omega
        have HV : Hid (s2 = val ((bs.drop f).take (j + 1))) := (show _ = _ from by rw [hnx, hs2]; simp)
        have hlt3 : s2 < 4294967296 := by rw [HV.out]; exact hlt2
        have t1 : ((f + j : Nat) : Int) < (t : Int) := by omega
        have t2 : (0 : Int) ≤ ((f + j : Nat) : Int) := by omega
        have t3 : ((f + j : Nat) : Int) < (n : Int) := by omega
        subst hao
        generalize hfj : f + j = fj at *
        have HF : Hid (fj + 1 = f + (j + 1)) := (show _ = _ from by omega)
        clear hnx hlt2 hx hc hs2
        go_wp2
        go_round
        case rel => exact ⟨j + 1, s2, by omega, by rw [← HF.out]; go_num, rfl, hlt3, HV⟩
        case measure => simp [intOf]; omega
    · obtain rfl : t = f + j := by omega
      have HF : Hid (s = val ((bs.drop f).take (f + j - f))) := (show _ = _ from by rw [hv.out, show f + j - f = j by omega])
      go_wp2
      go_ret
      exact ⟨ret_int (by rw [hv.out]), rfl⟩
def formI (n s p : Int) : Bool := decide (s ≤ 4000 ∧ p % 248 = 0 ∧ (p < s ∨ p = 0) ∧ n = 8 + min 248 (s - p))
theorem form_val {bs : List Int} (h8 : 8 ≤ bs.length) : form bs = formI (bs.length : Int) (sz bs : Int) (pl bs : Int) := by
  unfold form formI placed
  rw [decide_eq_true h8, Bool.true_and]
  rw [Bool.eq_iff_iff]
  simp only [Bool.and_eq_true, Bool.or_eq_true, decide_eq_true_eq]
  constructor
  · rintro ⟨⟨⟨h1, h2⟩, h3⟩, h4⟩
    refine ⟨by omega, by omega, by omega, by omega⟩
  · rintro ⟨h1, h2, h3, h4⟩
    refine ⟨⟨⟨by omega, by omega⟩, by omega⟩, by omega⟩
set_option maxHeartbeats 4000000 in
theorem rform_any {ao : Option Addr} {n c : Nat} {bs : List Int} (hr : Rd w ao n c bs) (hn : n ≤ 140737488355328) : Calls Tryd.prog 23 #[.slice ao n c] w fun e w' => e = .returned (.bool (form bs)) ∧ w = w' := by
  have hl := hr.len
  by_cases h8 : n < 8
  · rw [form_short (by omega)]
    go_enter Tryd.func23, Tryd.ntmps23
    go_wp2
    go_ret
    exact ⟨rfl, rfl⟩
  · have V1 : Hid (Calls Tryd.prog 24 #[.slice ao n c, .int .i64 0, .int .i64 2] w fun e w' => e = .returned (.int .i64 (sz bs : Int)) ∧ w = w') := rvalue_any hr 0 2 (by omega) (by omega) (by omega) hn
    have V2 : Hid (Calls Tryd.prog 24 #[.slice ao n c, .int .i64 2, .int .i64 4] w fun e w' => e = .returned (.int .i64 (pl bs : Int)) ∧ w = w') := rvalue_any hr 2 4 (by omega) (by omega) (by omega) hn
    have hF := form_val (bs := bs) (by omega)
    rw [hl] at hF
    have s1 : (0 : Int) ≤ (sz bs : Int) ∧ (sz bs : Int) < 65536 := by have := sz_lt hr.by_; omega
    have s2 : (0 : Int) ≤ (pl bs : Int) ∧ (pl bs : Int) < 65536 := by have := pl_lt hr.by_; omega
    generalize (sz bs : Int) = s at *
    generalize (pl bs : Int) = p at *
    rw [hF]
    obtain ⟨s1a, s1b⟩ := s1
    obtain ⟨s2a, s2b⟩ := s2
    have HP : ∀ b : Bool, (b = true ↔ (s ≤ 4000 ∧ p % 248 = 0 ∧ (p < s ∨ p = 0) ∧ (n : Int) = 8 + min 248 (s - p))) → Hid (formI n s p = b) := fun b hb => (show formI n s p = b from by
      rw [Bool.eq_iff_iff, hb]
      unfold formI
      simp only [decide_eq_true_eq])
    clear hr hF
    by_cases t1 : s ≤ 4000
    · by_cases t2 : p % 248 = 0
      · have t2b : (p % 248 != 0) = false := by simpa using t2
        by_cases t3 : p < s
        · by_cases t5 : 248 < s - p
          · by_cases t6 : (n : Int) = 256
            · have H := HP true ⟨fun _ => ⟨t1, t2, .inl t3, by omega⟩, fun _ => rfl⟩
              have t6b : ((n : Int) == 256) = true := by simpa using t6
              clear HP t2 t6
              go_enter Tryd.func23, Tryd.ntmps23
              go_wp2_with fail
              refine V1.out.mono ?_
              rintro e w' ⟨rfl, rfl⟩
              go_wp2_with fail
              refine V2.out.mono ?_
              rintro e w' ⟨rfl, rfl⟩
              go_wp2
              go_ret
              exact ⟨(by rw [H.out]; rfl), rfl⟩
            · have H := HP false ⟨fun h => (by cases h), fun h => (by omega)⟩
              have t6b : ((n : Int) == 256) = false := by simpa using t6
              clear HP t2 t6
              go_enter Tryd.func23, Tryd.ntmps23
              go_wp2_with fail
              refine V1.out.mono ?_
              rintro e w' ⟨rfl, rfl⟩
              go_wp2_with fail
              refine V2.out.mono ?_
              rintro e w' ⟨rfl, rfl⟩
              go_wp2
              go_ret
              exact ⟨(by rw [H.out]; rfl), rfl⟩
          · by_cases t6 : (n : Int) = 8 + (s - p)
            · have H := HP true ⟨fun _ => ⟨t1, t2, .inl t3, by omega⟩, fun _ => rfl⟩
              have t6b : ((n : Int) == 8 + (s - p)) = true := by simpa using t6
              clear HP t2 t6
              go_enter Tryd.func23, Tryd.ntmps23
              go_wp2_with fail
              refine V1.out.mono ?_
              rintro e w' ⟨rfl, rfl⟩
              go_wp2_with fail
              refine V2.out.mono ?_
              rintro e w' ⟨rfl, rfl⟩
              go_wp2
              go_ret
              exact ⟨(by rw [H.out]; rfl), rfl⟩
            · have H := HP false ⟨fun h => (by cases h), fun h => (by omega)⟩
              have t6b : ((n : Int) == 8 + (s - p)) = false := by simpa using t6
              clear HP t2 t6
              go_enter Tryd.func23, Tryd.ntmps23
              go_wp2_with fail
              refine V1.out.mono ?_
              rintro e w' ⟨rfl, rfl⟩
              go_wp2_with fail
              refine V2.out.mono ?_
              rintro e w' ⟨rfl, rfl⟩
              go_wp2
              go_ret
              exact ⟨(by rw [H.out]; rfl), rfl⟩
        · by_cases t4 : p = 0
          · subst t4
            obtain rfl : s = 0 := by omega
            by_cases t6 : (n : Int) = 8
            · have H := HP true ⟨fun _ => ⟨t1, t2, .inr rfl, by omega⟩, fun _ => rfl⟩
              have t6b : ((n : Int) == 8) = true := by simpa using t6
              clear HP t2 t6 t2b
              go_enter Tryd.func23, Tryd.ntmps23
              go_wp2_with fail
              refine V1.out.mono ?_
              rintro e w' ⟨rfl, rfl⟩
              go_wp2_with fail
              refine V2.out.mono ?_
              rintro e w' ⟨rfl, rfl⟩
              go_wp2
              go_ret
              exact ⟨(by rw [H.out]; rfl), rfl⟩
            · have H := HP false ⟨fun h => (by cases h), fun h => (by omega)⟩
              have t6b : ((n : Int) == 8) = false := by simpa using t6
              clear HP t2 t6 t2b
              go_enter Tryd.func23, Tryd.ntmps23
              go_wp2_with fail
              refine V1.out.mono ?_
              rintro e w' ⟨rfl, rfl⟩
              go_wp2_with fail
              refine V2.out.mono ?_
              rintro e w' ⟨rfl, rfl⟩
              go_wp2
              go_ret
              exact ⟨(by rw [H.out]; rfl), rfl⟩
          · have t4b : (p != 0) = true := by simpa using t4
            have H := HP false ⟨fun h => (by cases h), fun h => (by omega)⟩
            clear HP t2 t4
            go_enter Tryd.func23, Tryd.ntmps23
            go_wp2_with fail
            refine V1.out.mono ?_
            rintro e w' ⟨rfl, rfl⟩
            go_wp2_with fail
            refine V2.out.mono ?_
            rintro e w' ⟨rfl, rfl⟩
            go_wp2
            go_ret
            exact ⟨(by rw [H.out]; rfl), rfl⟩
      · have t2b : (p % 248 != 0) = true := by simpa using t2
        have H := HP false ⟨fun h => (by cases h), fun h => (by omega)⟩
        clear HP t2
        go_enter Tryd.func23, Tryd.ntmps23
        go_wp2_with fail
        refine V1.out.mono ?_
        rintro e w' ⟨rfl, rfl⟩
        go_wp2_with fail
        refine V2.out.mono ?_
        rintro e w' ⟨rfl, rfl⟩
        go_wp2
        go_ret
        exact ⟨(by rw [H.out]; rfl), rfl⟩
    · have H := HP false ⟨fun h => (by cases h), fun h => (by omega)⟩
      clear HP
      go_enter Tryd.func23, Tryd.ntmps23
      go_wp2_with fail
      refine V1.out.mono ?_
      rintro e w' ⟨rfl, rfl⟩
      go_wp2_with fail
      refine V2.out.mono ?_
      rintro e w' ⟨rfl, rfl⟩
      go_wp2
      go_ret
      exact ⟨(by rw [H.out]; rfl), rfl⟩
end
end Go.Proofs.YtmphabgpabbbjabDoor.Fg
