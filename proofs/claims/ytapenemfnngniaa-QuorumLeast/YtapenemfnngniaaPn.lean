import Derived.Test.YtapenemfnngniaaPm
namespace Go.Proofs.Ytapenemfnngniaa.Qm
open Go.RowKit Mb
set_option linter.unusedVariables false
set_option maxRecDepth 100000
set_option linter.unusedSimpArgs false
section
variable {w w' W : World} {B : Nat}
theorem min_l {a b : Int} (h : a ≤ b) : min a b = a := by omega
theorem min_r {a b : Int} (h : b ≤ a) : min a b = b := by omega
set_option maxHeartbeats 2000000 in
theorem tol_any {ao : Option Addr} {n c : Nat} {xs : List Int} (hr : RdI w ao n c xs) (hok : okI xs = true) : Calls Try.prog 21 #[.slice ao n c] w fun e w' => e = .returned (.tuple #[.int .i64 ((least (nv xs) (2 ^ n) : Int) - 1), .int .i64 0]) ∧ Below w.heap.size w w' := by
  have ho := okI_ok hok
  have hl : (nv xs).length = n := by rw [nv_len, hr.len]
  have HC := counted_any hr
  rw [hok] at HC
  have HC2 : Hid (Calls Try.prog 33 #[.slice ao n c] w fun e w' => e = .returned (.tuple #[.agg (ints (bl (nv xs))).toArray, .bool true]) ∧ Below w.heap.size w w') := HC.mono fun e w' ⟨r, e1, e2, e3, e4⟩ => ⟨by rw [← e3 rfl]; exact e1, e4⟩
  have HOk : Hid (Ok (nv xs)) := ho
  have h16 : n ≤ 16 := by rw [← hl]; exact ho.1
  have h2n := two_pow_le n h16
  generalize nv xs = v at *
  clear HC hr hok ho
  have HS : Hid (∀ W b, Bal W b v → Calls Try.prog 34 #[.pointer (some ⟨b, 0, none⟩)] W fun e w' => e = .returned (.int .u64 ((2 ^ n : Nat) : Int)) ∧ W = w') := fun W b hB => by rw [← hl]; exact sets_any hB (by omega)
  have HQ : Hid (∀ W b, Bal W b v → ∀ s : Nat, s < 65536 → Calls Try.prog 41 #[.pointer (some ⟨b, 0, none⟩), .int .u64 (s : Int)] W fun e w' => e = .returned (.bool (wins v s)) ∧ W = w') := fun W b hB s hs => quo_any hB HOk.out s hs
  have HZA : Hid (∀ s : Nat, s < 2 ^ n → ∀ W, Calls Try.prog 43 #[.int .u64 (s : Int)] W fun e w' => e = .returned (.int .i64 ((size s n : Nat) : Int)) ∧ W = w') := fun s hs W => by
    rw [← size_16 h16 hs]
    exact size_any s (by omega)
  obtain ⟨m, hm⟩ : ∃ m, m = 2 ^ n := ⟨_, rfl⟩
  rw [← hm] at h2n HS HZA ⊢
  clear hm
  go_enter Try.func21, Try.ntmps21
  go_wp2_with (first
    | (go_at_call 33; refine HC2.out.mono ?_; rintro e w1 ⟨rfl, hb1⟩; obtain ⟨A1, V, hA1, HA1, hV, HV, HBV⟩ := newbal w1 (bl v) (bl_len v))
    | (refine store_mid 72 (.tmp 4) (.tmp 11) (xs := bl v) HA1.out (info_bl (bl_len v)) rfl rfl rfl rfl ?_; rw [hV]; have HB : Hid (Bal V w1.heap.size v) := Rw.bal HV.out (by omega); have c0 := HB.out.c0; rw [hl] at c0; have HBW : Hid (Below w.heap.size w V) := bstep hb1 HBV.out; generalize w1.heap.size = gb at *; clear hV HA1 hA1 hb1 HV HBV)
    | (go_at_call 34; refine (HS.out _ _ HB.out).mono ?_; rintro e w2 ⟨rfl, rfl⟩)
    | fail)
  go_loopw [6, 18] (fun x i wr => ∃ (k t : Nat), k ≤ m ∧ i = .int .u64 (k : Int) ∧ x = .int .i64 (t : Int) ∧ t ≤ n ∧ Hid (t = least v k) ∧ Hid (Below V.heap.size V wr)) (fun _ i _ => m - (intOf i).toNat)
  case atStart => exact ⟨0, n, Nat.zero_le _, rfl, rfl, Nat.le_refl _, hl.symm, Below.refl _ _⟩
  case round =>
    obtain ⟨k, t, hk, rfl, rfl, ht, HT, HBr⟩ := hrel
    replace c0 := below_at HBr.out c0
    have HB' : Hid (Bal wr gb v) := HB.out.still HBr.out
    have HBf : Hid (Below w.heap.size w wr) := bstep HBW.out HBr.out
    by_cases hlt : k < m
    · have HQ1 := HQ.out _ _ HB'.out k (by omega)
      have HZ1 := HZA.out k hlt
      have hzl := size_le k n
      have hleast : least v (k + 1) = if wins v k then least v k else min (least v k) (n - size k n) := by rw [← hl]; rfl
      cases hw : wins v k with
      | true =>
        rw [hw] at HQ1 hleast
        have HQ2 : Hid (Calls Try.prog 41 #[.pointer (some ⟨gb, 0, none⟩), .int .u64 (k : Int)] wr fun e w' => e = .returned (.bool true) ∧ wr = w') := HQ1
        have HS2 : Hid (t = least v (k + 1)) := (show _ = _ from by rw [HT.out, hleast]; simp)
        clear HQ1 hw hleast HZ1
        go_wp2_with (first
          | (go_at_call 41; refine HQ2.out.mono ?_; rintro e w2 ⟨rfl, rfl⟩)
          | fail)
        exact ⟨⟨k + 1, t, by omega, by go_num, rfl, ht, HS2, HBr⟩, by simp [intOf]; omega⟩
      | false =>
        rw [hw] at HQ1 hleast
        have HQ2 : Hid (Calls Try.prog 41 #[.pointer (some ⟨gb, 0, none⟩), .int .u64 (k : Int)] wr fun e w' => e = .returned (.bool false) ∧ wr = w') := HQ1
        simp only [Bool.false_eq_true, if_false] at hleast
        rw [← HT.out] at hleast
        generalize size k n = z at *
        have HZ : Hid (∀ W, Calls Try.prog 43 #[.int .u64 (k : Int)] W fun e w' => e = .returned (.int .i64 ((z : Nat) : Int)) ∧ W = w') := HZ1
        clear HQ1 hw HZ1
        by_cases hle : t ≤ n - z
        · have HS2 : Hid (t = least v (k + 1)) := (show _ = _ from by rw [hleast]; omega)
          have hmin : min (t : Int) ((n : Int) - (z : Int)) = (t : Int) := min_l (by omega)
          clear hleast
          go_wp2_with (first
            | (go_at_call 41; refine HQ2.out.mono ?_; rintro e w2 ⟨rfl, rfl⟩)
            | fail)
          refine wp_region_held_drew (S := (fun w' => w'.cell? ⟨gb, 0, none⟩ = some (.int .i64 (n : Int)))) (by kernel_rfl) (below_at (Below.refl _ _).drew c0) (fun hHeld => ?_)
          simp only [Act.put, List.size_toArray, List.length_cons, List.length_nil, Nat.zero_add]
          refine wpAnyH_take (i := 0) (v := .int .i64 (t : Int)) rfl (by kernel_rfl) (by kernel_rfl) (by kernel_rfl) (fun _ _ _ h => h) (Or.inl ⟨by rfl, fun w' hS => by go_simp⟩) hHeld ?_
          simp only [Act.put, List.getElem_toArray, List.getElem_cons_zero, List.getElem_cons_succ, List.setIfInBounds_toArray, List.set_cons_zero, List.set_cons_succ]
          refine wpAnyH_take (i := 1) (v := .pointer (some ⟨gb, 0, none⟩)) rfl (by kernel_rfl) (by kernel_rfl) (by kernel_rfl) (fun _ _ _ h => h) (Or.inl ⟨by rfl, fun w' hS => by go_simp⟩) hHeld ?_
          simp only [Act.put, List.getElem_toArray, List.getElem_cons_zero, List.getElem_cons_succ, List.setIfInBounds_toArray, List.set_cons_zero, List.set_cons_succ]
          refine wpAnyH_take (i := 2) (v := .int .i64 (n : Int)) rfl (by kernel_rfl) (by kernel_rfl) (by kernel_rfl) (fun _ _ _ h => h) (Or.inl ⟨by rfl, fun w' hS => by (obtain s0 := hS; go_simp)⟩) hHeld ?_
          simp only [Act.put, List.getElem_toArray, List.getElem_cons_zero, List.getElem_cons_succ, List.setIfInBounds_toArray, List.set_cons_zero, List.set_cons_succ]
          refine wpAnyH_take (i := 3) (v := .int .u64 (k : Int)) rfl (by kernel_rfl) (by kernel_rfl) (by kernel_rfl) (fun _ _ _ h => h) (Or.inl ⟨by rfl, fun w' hS => by go_simp⟩) hHeld ?_
          simp only [Act.put, List.getElem_toArray, List.getElem_cons_zero, List.getElem_cons_succ, List.setIfInBounds_toArray, List.set_cons_zero, List.set_cons_succ]
          refine wpAnyH_ready (rs := [4]) (by kernel_rfl) (by simp) ?_
          refine AllReadyH.cons rfl (fun K hK => ?_) AllReadyH.nil
          go_simp
          refine (HZ.out _).mono ?_
          rintro e w2 ⟨rfl, rfl⟩
          refine hK.out _ _ (below_at (Below.refl _ _).drew c0) (fun hHeld => ?_)
          clear hK K
          refine wpAnyH_take (i := 5) (v := .int .i64 ((n : Int) - (z : Int))) rfl (by kernel_rfl) (by kernel_rfl) (by kernel_rfl) (fun _ _ _ h => h) (Or.inl ⟨by rfl, fun w' hS => by (go_simp; exact wrap_id (by omega) (by omega))⟩) hHeld ?_
          simp only [Act.put, List.getElem_toArray, List.getElem_cons_zero, List.getElem_cons_succ, List.setIfInBounds_toArray, List.set_cons_zero, List.set_cons_succ]
          refine wpAnyH_take (i := 6) (v := .int .i64 ((t : Int))) rfl (by kernel_rfl) (by kernel_rfl) (by kernel_rfl) (fun _ _ _ h => h) (Or.inl ⟨by rfl, fun w' hS => by (go_simp <;> omega)⟩) hHeld ?_
          simp only [Act.put, List.getElem_toArray, List.getElem_cons_zero, List.getElem_cons_succ, List.setIfInBounds_toArray, List.set_cons_zero, List.set_cons_succ]
          refine wpAnyH_take (i := 7) (v := .int .i64 ((t : Int))) rfl (by kernel_rfl) (by kernel_rfl) (by kernel_rfl) (fun _ _ _ h => h) (Or.inl ⟨by rfl, fun w' hS => by go_simp⟩) hHeld ?_
          simp only [Act.put, List.getElem_toArray, List.getElem_cons_zero, List.getElem_cons_succ, List.setIfInBounds_toArray, List.set_cons_zero, List.set_cons_succ]
          refine wpAnyH_done (by kernel_rfl) ?_ _
          clear hHeld
          go_wp2
          exact ⟨⟨k + 1, t, by omega, by go_num, rfl, ht, HS2, HBr.out.drew⟩, by simp [intOf]; omega⟩
        · have HS2 : Hid (n - z = least v (k + 1)) := (show _ = _ from by rw [hleast]; omega)
          have hmin : min (t : Int) ((n : Int) - (z : Int)) = (n : Int) - (z : Int) := min_r (by omega)
          clear hleast
          go_wp2_with (first
            | (go_at_call 41; refine HQ2.out.mono ?_; rintro e w2 ⟨rfl, rfl⟩)
            | fail)
          refine wp_region_held_drew (S := (fun w' => w'.cell? ⟨gb, 0, none⟩ = some (.int .i64 (n : Int)))) (by kernel_rfl) (below_at (Below.refl _ _).drew c0) (fun hHeld => ?_)
          simp only [Act.put, List.size_toArray, List.length_cons, List.length_nil, Nat.zero_add]
          refine wpAnyH_take (i := 0) (v := .int .i64 (t : Int)) rfl (by kernel_rfl) (by kernel_rfl) (by kernel_rfl) (fun _ _ _ h => h) (Or.inl ⟨by rfl, fun w' hS => by go_simp⟩) hHeld ?_
          simp only [Act.put, List.getElem_toArray, List.getElem_cons_zero, List.getElem_cons_succ, List.setIfInBounds_toArray, List.set_cons_zero, List.set_cons_succ]
          refine wpAnyH_take (i := 1) (v := .pointer (some ⟨gb, 0, none⟩)) rfl (by kernel_rfl) (by kernel_rfl) (by kernel_rfl) (fun _ _ _ h => h) (Or.inl ⟨by rfl, fun w' hS => by go_simp⟩) hHeld ?_
          simp only [Act.put, List.getElem_toArray, List.getElem_cons_zero, List.getElem_cons_succ, List.setIfInBounds_toArray, List.set_cons_zero, List.set_cons_succ]
          refine wpAnyH_take (i := 2) (v := .int .i64 (n : Int)) rfl (by kernel_rfl) (by kernel_rfl) (by kernel_rfl) (fun _ _ _ h => h) (Or.inl ⟨by rfl, fun w' hS => by (obtain s0 := hS; go_simp)⟩) hHeld ?_
          simp only [Act.put, List.getElem_toArray, List.getElem_cons_zero, List.getElem_cons_succ, List.setIfInBounds_toArray, List.set_cons_zero, List.set_cons_succ]
          refine wpAnyH_take (i := 3) (v := .int .u64 (k : Int)) rfl (by kernel_rfl) (by kernel_rfl) (by kernel_rfl) (fun _ _ _ h => h) (Or.inl ⟨by rfl, fun w' hS => by go_simp⟩) hHeld ?_
          simp only [Act.put, List.getElem_toArray, List.getElem_cons_zero, List.getElem_cons_succ, List.setIfInBounds_toArray, List.set_cons_zero, List.set_cons_succ]
          refine wpAnyH_ready (rs := [4]) (by kernel_rfl) (by simp) ?_
          refine AllReadyH.cons rfl (fun K hK => ?_) AllReadyH.nil
          go_simp
          refine (HZ.out _).mono ?_
          rintro e w2 ⟨rfl, rfl⟩
          refine hK.out _ _ (below_at (Below.refl _ _).drew c0) (fun hHeld => ?_)
          clear hK K
          refine wpAnyH_take (i := 5) (v := .int .i64 ((n : Int) - (z : Int))) rfl (by kernel_rfl) (by kernel_rfl) (by kernel_rfl) (fun _ _ _ h => h) (Or.inl ⟨by rfl, fun w' hS => by (go_simp; exact wrap_id (by omega) (by omega))⟩) hHeld ?_
          simp only [Act.put, List.getElem_toArray, List.getElem_cons_zero, List.getElem_cons_succ, List.setIfInBounds_toArray, List.set_cons_zero, List.set_cons_succ]
          refine wpAnyH_take (i := 6) (v := .int .i64 ((n : Int) - (z : Int))) rfl (by kernel_rfl) (by kernel_rfl) (by kernel_rfl) (fun _ _ _ h => h) (Or.inl ⟨by rfl, fun w' hS => by (go_simp <;> omega)⟩) hHeld ?_
          simp only [Act.put, List.getElem_toArray, List.getElem_cons_zero, List.getElem_cons_succ, List.setIfInBounds_toArray, List.set_cons_zero, List.set_cons_succ]
          refine wpAnyH_take (i := 7) (v := .int .i64 ((n : Int) - (z : Int))) rfl (by kernel_rfl) (by kernel_rfl) (by kernel_rfl) (fun _ _ _ h => h) (Or.inl ⟨by rfl, fun w' hS => by go_simp⟩) hHeld ?_
          simp only [Act.put, List.getElem_toArray, List.getElem_cons_zero, List.getElem_cons_succ, List.setIfInBounds_toArray, List.set_cons_zero, List.set_cons_succ]
          refine wpAnyH_done (by kernel_rfl) ?_ _
          clear hHeld
          go_wp2
          exact ⟨⟨k + 1, n - z, by omega, by go_num, by congr 1; omega, by omega, HS2, HBr.out.drew⟩, by simp [intOf]; omega⟩
    · obtain rfl : k = m := by omega
      have HF : Hid ((t : Int) - 1 = (least v k : Int) - 1) := (show _ = _ from by rw [HT.out])
      go_wp2
      (try simp only [Exit.inBlock, Exit.then])
      refine bodyPost_ret (results_tmp2 rfl _ _ _) rfl ?_
      refine ⟨?_, HBf.out⟩
      rw [← HF.out]
      rfl
end
end Go.Proofs.Ytapenemfnngniaa.Qm
