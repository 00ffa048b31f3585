import Derived.Test.YtfbgoidhgkcgjaaAve
namespace Go.Proofs.Ytfbgoidhgkcgjaa.Lo
open Go.RowKit Go.Maps
set_option linter.unusedVariables false
set_option linter.unusedSimpArgs false
section
variable {w w' W : World} {B : Nat} {P : Nat → Prop}
theorem first_none {l : List Mk} {x : Int} : ∀ j, j ≤ l.length → (∀ i, i < j → ¬ ((l.getD i mk0).k = 12 ∧ (l.getD i mk0).n = x)) → fnd (l.take j) x = none := by
  intro j
  induction j with
  | zero => intro _ _; simp [fnd]
  | succ j ih =>
    intro hj h
    rw [fnd_take (by omega), ih (by omega) (fun i hi => h i (by omega)), if_neg (fun hh => h j (by omega) ⟨hh.1, hh.2.1⟩)]
theorem first_some {l : List Mk} {x : Int} {j : Nat} (hj : j < l.length) (h : ∀ i, i < j → ¬ ((l.getD i mk0).k = 12 ∧ (l.getD i mk0).n = x)) (h1 : (l.getD j mk0).k = 12 ∧ (l.getD j mk0).n = x) : fnd l x = some (l.getD j mk0) := by
  have h2 : fnd (l.take (j + 1)) x = some (l.getD j mk0) := by rw [fnd_take hj, if_pos ⟨h1.1, h1.2, first_none j (by omega) h⟩]
  have h3 : l = l.take (j + 1) ++ l.drop (j + 1) := (List.take_append_drop _ _).symm
  generalize l.getD j mk0 = e at *
  unfold fnd at *
  rw [h3, List.find?_append, h2]
  rfl
set_option maxRecDepth 100000 in
set_option maxHeartbeats 4000000 in
theorem rfirst_any (la : Option Addr) (n lc : Nat) (l : List Mk) (x : Int) (w : World) (hr : MkR w la n l) (hn : n * 288 ≤ 140737488351232) : Calls Try.prog 15 #[.slice la n lc, .int .i64 x] w fun r w' => w' = w ∧ ((r = .returned (.int .i64 (-1)) ∧ fnd l x = none) ∨ ∃ i : Nat, r = .returned (.int .i64 (i : Int)) ∧ i < n ∧ fnd l x = some (l.getD i mk0)) := by
  have hln : l.length = n := hr.len
  have HR : Hid (MkR w la n l) := hr
  clear hr
  go_enter Try.func15, Try.ntmps15
  go_wp2_with fail
  go_loopw [5] (fun v wr => ∃ j : Nat, j ≤ n ∧ v = .int .i64 j ∧ wr = w ∧ Hid (∀ i, i < j → ¬ ((l.getD i mk0).k = 12 ∧ (l.getD i mk0).n = x))) (fun v _ => n - (intOf v).toNat)
  case atStart => exact ⟨0, Nat.zero_le _, rfl, rfl, (show ∀ i, _ from fun i hi => by omega)⟩
  case round =>
    obtain ⟨j, hj, rfl, rfl, hF⟩ := hrel
    by_cases hjn : j < n
    · have j1 : (0 : Int) ≤ (j : Int) := Int.natCast_nonneg _
      have j3 : (j : Int) < (n : Int) := by omega
      rcases HR.out.row with h0 | ⟨eb, eo, hla, hrow⟩
      · omega
      subst hla
      have c1 : wr.cell? ⟨eb, eo + j * 26 + 1, none⟩ = some (.int .i64 (l.getD j mk0).k) := hrow j hjn 1 _ rfl
      have c13 : wr.cell? ⟨eb, eo + j * 26 + 13, none⟩ = some (.int .i64 (l.getD j mk0).n) := hrow j hjn 13 _ rfl
      by_cases hh : (l.getD j mk0).k = 12 ∧ (l.getD j mk0).n = x
      · have HFi : Hid (fnd l x = some (l.getD j mk0)) := first_some (by omega) hF.out hh
        obtain ⟨h1, h2⟩ := hh
        rw [h1] at c1
        rw [h2] at c13
        clear hrow hF h1 h2
        go_wp2_with fail
        go_ret
        exact ⟨rfl, .inr ⟨j, rfl, hjn, HFi.out⟩⟩
      · have HF2 : Hid (∀ i, i < j + 1 → ¬ ((l.getD i mk0).k = 12 ∧ (l.getD i mk0).n = x)) := (show ∀ i, _ from fun i hi => by
          by_cases e : i = j
          · subst e; exact hh
          · exact hF.out i (by omega))
        clear hrow hF
        by_cases h1 : (l.getD j mk0).k = 12
        · have h2 : ¬ (l.getD j mk0).n = x := fun e => hh ⟨h1, e⟩
          have h2' : ((l.getD j mk0).n == x) = false := by simpa using h2
          rw [h1] at c1
          generalize (l.getD j mk0).n = y at *
          clear hh h1
          go_wp2_with fail
          go_roundw
          case rel => exact ⟨j + 1, by omega, by go_num, by first | rfl | trivial, HF2⟩
          case measure => simp [intOf]; omega
        · have h1' : ((l.getD j mk0).k == 12) = false := by simpa using h1
          generalize (l.getD j mk0).k = z at *
          clear hh
          go_wp2_with fail
          go_roundw
          case rel => exact ⟨j + 1, by omega, by go_num, by first | rfl | trivial, HF2⟩
          case measure => simp [intOf]; omega
    · obtain rfl : n = j := by omega
      have HFi : Hid (fnd l x = none) := (show _ = _ from by
        have := first_none n (by omega) hF.out
        rwa [List.take_of_length_le (by omega)] at this)
      clear hF
      go_wp2_with fail
      go_ret
      exact ⟨rfl, .inl ⟨rfl, HFi.out⟩⟩
set_option maxRecDepth 100000 in
set_option maxHeartbeats 4000000 in
theorem rhist_any (la : Option Addr) (n lc : Nat) (l : List Mk) (w : World) (hr : MkR w la n l) (hn : n * 288 ≤ 140737488351232) : Calls Try.prog 7 #[.slice la n lc] w fun r w' => ∃ (k : Nat) (ca : Option Addr) (cc : Nat), r = .returned (.slice ca k cc) ∧ pres l k ∧ fnd l ((k : Int) + 1) = none ∧ OwC w' w.heap.size (.slice ca k cc) (hsl l k) ∧ Below w.heap.size w w' := by
  have hln : l.length = n := hr.len
  have HR : Hid (MkR w la n l) := hr
  clear hr
  go_enter Try.func7, Try.ntmps7
  go_wp2_with fail
  go_loopw [3, 4] (fun v3 v4 wr => ∃ (k : Nat) (ca : Option Addr) (cc : Nat), Hid (pres l k) ∧ v3 = .slice ca k cc ∧ v4 = .int .i64 ((k : Int) + 1) ∧ Hid (OwC wr w.heap.size (.slice ca k cc) (hsl l k) ∧ Below w.heap.size w wr)) (fun v3 _ _ => n + 1 - slN v3)
  case atStart => exact ⟨0, none, 0, (show pres l 0 from fun i hi => by omega), rfl, rfl, (show _ ∧ _ from ⟨ow_nil _ _ _ _, Below.refl _ _⟩)⟩
  case round =>
    obtain ⟨k, ca, cc, hpr, rfl, rfl, hO⟩ := hrel
    have hkn : k ≤ n := by have := pres_le hpr.out; omega
    have HF : Hid (Calls Try.prog 15 #[.slice la n lc, .int .i64 ((k : Int) + 1)] wr fun r w' => w' = wr ∧ ((r = .returned (.int .i64 (-1)) ∧ fnd l ((k : Int) + 1) = none) ∨ ∃ i : Nat, r = .returned (.int .i64 (i : Int)) ∧ i < n ∧ fnd l ((k : Int) + 1) = some (l.getD i mk0))) := rfirst_any la n lc l _ wr (HR.out.on hO.out.2) hn
    go_wp2_with fail
    refine HF.out.mono ?_
    rintro r5 w5 ⟨rfl, h5⟩
    clear HF
    rcases h5 with ⟨rfl, hg⟩ | ⟨i, rfl, hi, hg⟩
    · have HFi : Hid (pres l k ∧ fnd l ((k : Int) + 1) = none) := (show _ ∧ _ from ⟨hpr.out, hg⟩)
      clear hg hpr
      go_wp2_with fail
      go_ret
      exact ⟨k, ca, cc, rfl, HFi.out.1, HFi.out.2, hO.out.1, hO.out.2⟩
    · rcases HR.out.row with h0 | ⟨eb, eo, hla, hrow⟩
      · omega
      subst hla
      have hp1 : pres l (k + 1) := pres_succ hpr.out (by rw [hg]; rfl)
      have hk1 : k + 1 ≤ n := by have := pres_le hp1; omega
      have hcl : hsl l (k + 1) = hsl l k ++ [(l.getD i mk0).cm] := by rw [hsl_succ, hg]; rfl
      have i1 : (0 : Int) ≤ (i : Int) := Int.natCast_nonneg _
      have i2 : (i : Int) < (n : Int) := by omega
      have i3 : ¬ (i : Int) < 0 := by omega
      have HRc : Hid (w5.rangeAt eb (eo + i * 26 + 15) (l.getD i mk0).cm.cs) := (show World.rangeAt _ _ _ _ from range_on (fun q v hv => by
        have hq : q < 7 := by have := (List.getElem?_eq_some_iff.1 hv).1; rwa [Cm.len] at this
        have := hrow i hi (15 + q) v (by
          rw [← hv]
          match q, hq with
          | 0, _ | 1, _ | 2, _ | 3, _ | 4, _ | 5, _ | 6, _ => rfl)
        rw [show eo + i * 26 + 15 + q = eo + i * 26 + (15 + q) by omega]
        exact this) hO.out.2)
      have hlc : (hsl l k).length = k := hsl_len l k
      have hsz : w.heap.size ≤ w5.heap.size := hO.out.2.size
      have HPr : Hid (pres l (k + 1)) := hp1
      clear hrow hg hp1 hpr
      generalize l.getD i mk0 = e0 at *
      go_wp2_with (first
        | (refine Ln.at_load 38 (.tmp 18) rfl ?_; refine Ln.load_mid 38 (.tmp 18) HRc.out _ Try.underlying38 rfl (iCm e0.cm) rfl rfl rfl ?_)
        | (refine Go.Great.wpList_buildSliceTo rfl 28 38 1 _ rfl w5.heap.size rfl _ rfl Try.underlying28 e0.cm.cs.toArray (bsl_eq (by kernel_rfl) (builtCs _)) ?_)
        | (at_builtin; refine app_C rfl _ _ rfl rfl hO.out.1 e0.cm rfl rfl (by rw [hlc]; omega) hsz ?_)
        | fail)
      intro v6 X4 o4 kk4 _
      obtain ⟨ca4, cc4, hv6⟩ := ow_shape o4.out
      rw [List.length_append, hlc] at hv6
      have hv6' : v6 = .slice ca4 (k + 1) cc4 := hv6
      clear hv6
      subst hv6'
      have HO4 : Hid (OwC X4 w.heap.size (.slice ca4 (k + 1) cc4) (hsl l (k + 1)) ∧ Below w.heap.size w X4) := (show _ ∧ _ from ⟨by rw [hcl]; exact o4.out, hO.out.2.trans (kk4.out.below hsz (fun q hq e => by have := (World.ownsRow.lt hO.out.1 q e).1; omega))⟩)
      clear o4 kk4 hcl hlc HRc hO hsz
      go_wp2_with fail
      go_roundw
      case rel => exact ⟨k + 1, ca4, cc4, HPr, rfl, by go_num, HO4⟩
      case measure => simp [slN]; omega
set_option maxRecDepth 100000 in
set_option maxHeartbeats 4000000 in
theorem sameH_any (a1 a2 : Option Addr) (n c1 c2 : Nat) (cs : List Cm) (w : World) (h1 : CmR w a1 n cs) (h2 : CmR w a2 n cs) (hn : n ≤ 140737488355328) : Calls Try.prog 8 #[.slice a1 n c1, .slice a2 n c2] w fun r w' => r = .returned (.bool true) ∧ Below w.heap.size w w' := by
  have HR1 : Hid (CmR w a1 n cs) := h1
  have HR2 : Hid (CmR w a2 n cs) := h2
  clear h1 h2
  go_enter Try.func8, Try.ntmps8
  go_wp2_with fail
  go_loopw [5] (fun x wr => ∃ (j : Nat), j ≤ n ∧ x = .int .i64 j ∧ Hid (Below w.heap.size w wr)) (fun x _ => n - (intOf x).toNat)
  case atStart => exact ⟨0, Nat.zero_le _, rfl, Below.refl _ _⟩
  case round =>
    obtain ⟨j, hj, rfl, hb⟩ := hrel
    by_cases hjn : j < n
    · have j1 : (0 : Int) ≤ (j : Int) := Int.natCast_nonneg _
      have j3 : (j : Int) < (n : Int) := by omega
      rcases HR1.out.row with h0 | ⟨ab, ao, ha, hr1⟩
      · omega
      rcases HR2.out.row with h0 | ⟨bb, bo, hb', hr2⟩
      · omega
      subst ha hb'
      have HE1 : Hid (wr.rangeAt ab (ao + j * 7) (cs.getD j cm0).cs) := (show wr.rangeAt _ _ _ from range_on (hr1 j hjn) hb.out)
      have HE2 : Hid (wr.rangeAt bb (bo + j * 7) (cs.getD j cm0).cs) := (show wr.rangeAt _ _ _ from range_on (hr2 j hjn) hb.out)
      clear hr1 hr2
      generalize cs.getD j cm0 = c at *
      go_wp2_with fail
      refine wp_region_held_drew (S := (fun w' => w'.rangeAt ab (ao + j * 7) c.cs ∧ w'.rangeAt bb (bo + j * 7) c.cs)) (by kernel_rfl) ⟨(range_on HE1.out (drew_bel _)), (range_on HE2.out (drew_bel _))⟩ (fun hHeld => ?_)
      simp only [Act.put, List.size_toArray, List.length_cons, List.length_nil, Nat.zero_add]
      refine takeD (i := 0) (d := 17) (v := .slice (some ⟨ab, ao, none⟩) n c1) rfl (by kernel_rfl) (by kernel_rfl) (by kernel_rfl) (by kernel_rfl) (fun _ _ _ h => h) (Or.inl ⟨by rfl, fun w' hS => by go_simp⟩) hHeld ?_
      simp only [Act.put, List.setIfInBounds_toArray, List.set_cons_zero, List.set_cons_succ]
      refine takeD (i := 1) (d := 18) (v := .int .i64 (j : Int)) rfl (by kernel_rfl) (by kernel_rfl) (by kernel_rfl) (by kernel_rfl) (fun _ _ _ h => h) (Or.inl ⟨by rfl, fun w' hS => by go_simp⟩) hHeld ?_
      simp only [Act.put, List.setIfInBounds_toArray, List.set_cons_zero, List.set_cons_succ]
      refine takeD (i := 2) (d := 19) (v := .pointer (some ⟨ab, ao + j * 7, none⟩)) rfl (by kernel_rfl) (by kernel_rfl) (by kernel_rfl) (by kernel_rfl) (fun _ _ _ h => h) (Or.inl ⟨by rfl, fun w' hS => by go_simp⟩) hHeld ?_
      simp only [Act.put, List.setIfInBounds_toArray, List.set_cons_zero, List.set_cons_succ]
      refine takeD (i := 3) (d := 20) (v := .agg c.cs.toArray) rfl (by kernel_rfl) (by kernel_rfl) (by kernel_rfl) (by kernel_rfl) (fun _ _ _ h => h) (Or.inl ⟨by rfl, fun w' hS => by (obtain ⟨s0, s1⟩ := hS; exact run_loadop 38 _ rfl rfl s0 Try.underlying38 rfl (iCm c))⟩) hHeld ?_
      simp only [Act.put, List.setIfInBounds_toArray, List.set_cons_zero, List.set_cons_succ]
      refine takeD (i := 4) (d := 21) (v := .slice (some ⟨bb, bo, none⟩) n c2) rfl (by kernel_rfl) (by kernel_rfl) (by kernel_rfl) (by kernel_rfl) (fun _ _ _ h => h) (Or.inl ⟨by rfl, fun w' hS => by go_simp⟩) hHeld ?_
      simp only [Act.put, List.setIfInBounds_toArray, List.set_cons_zero, List.set_cons_succ]
      refine takeD (i := 5) (d := 22) (v := .int .i64 (j : Int)) rfl (by kernel_rfl) (by kernel_rfl) (by kernel_rfl) (by kernel_rfl) (fun _ _ _ h => h) (Or.inl ⟨by rfl, fun w' hS => by go_simp⟩) hHeld ?_
      simp only [Act.put, List.setIfInBounds_toArray, List.set_cons_zero, List.set_cons_succ]
      refine takeD (i := 6) (d := 23) (v := .pointer (some ⟨bb, bo + j * 7, none⟩)) rfl (by kernel_rfl) (by kernel_rfl) (by kernel_rfl) (by kernel_rfl) (fun _ _ _ h => h) (Or.inl ⟨by rfl, fun w' hS => by go_simp⟩) hHeld ?_
      simp only [Act.put, List.setIfInBounds_toArray, List.set_cons_zero, List.set_cons_succ]
      refine takeD (i := 7) (d := 24) (v := .agg c.cs.toArray) rfl (by kernel_rfl) (by kernel_rfl) (by kernel_rfl) (by kernel_rfl) (fun _ _ _ h => h) (Or.inl ⟨by rfl, fun w' hS => by (obtain ⟨s0, s1⟩ := hS; exact run_loadop 38 _ rfl rfl s1 Try.underlying38 rfl (iCm c))⟩) hHeld ?_
      simp only [Act.put, List.setIfInBounds_toArray, List.set_cons_zero, List.set_cons_succ]
      refine takeD (i := 8) (d := 25) (v := .bool false) rfl (by kernel_rfl) (by kernel_rfl) (by kernel_rfl) (by kernel_rfl) (fun _ _ _ h => h) (Or.inl ⟨by rfl, fun w' hS => by (simp only [Cm.cs]; go_simp)⟩) hHeld ?_
      simp only [Act.put, List.setIfInBounds_toArray, List.set_cons_zero, List.set_cons_succ]
      refine wpAnyH_done (by kernel_rfl) ?_ _
      clear hHeld
      have HB3 : Hid (Below w.heap.size w wr.drew) := (show Below _ _ _ from bst hb.out (drew_bel _))
      clear HE1 HE2
      go_wp2_with fail
      go_roundw
      case rel => exact ⟨j + 1, by omega, by go_num, HB3⟩
      case measure => simp [intOf]; omega
    · obtain rfl : n = j := by omega
      go_wp2_with fail
      go_ret
      exact ⟨rfl, hb.out⟩
end
end Go.Proofs.Ytfbgoidhgkcgjaa.Lo
