import Derived.Test.YtcieinejjkddfaaPy
namespace Go.Proofs.Ytcieinejjkddfaa.Qm
open Go.RowKit Mb
set_option linter.unusedVariables false
set_option maxRecDepth 100000
set_option linter.unusedSimpArgs false
section
variable {w w' : World} {B : Nat}
theorem fit_no {x : St} (h : ¬ (0 ≤ x.p ∧ x.p ≤ 15 ∧ 0 ≤ x.e ∧ x.e ≤ 4611686018427387904 ∧ 0 ≤ x.l ∧ x.l ≤ 4611686018427387904)) : fitS x = false := by
  cases hf : fitS x with
  | false => rfl
  | true =>
    exfalso
    unfold fitS inC at hf
    simp only [Bool.and_eq_true, decide_eq_true_eq] at hf
    omega
theorem fit_yes {x : St} (h : 0 ≤ x.p ∧ x.p ≤ 15 ∧ 0 ≤ x.e ∧ x.e ≤ 4611686018427387904 ∧ 0 ≤ x.l ∧ x.l ≤ 4611686018427387904) : fitS x = true := by
  unfold fitS inC
  simp only [Bool.and_eq_true, decide_eq_true_eq]
  omega
theorem gd_long {ts : List St} (h : 16 < ts.length) : ¬ Gd ts := fun hg => by
  have := arS_len ts 0 ((arS_gd ts).2 hg)
  omega
set_option maxHeartbeats 8000000 in
theorem rbest_any {ao : Option Addr} {n c : Nat} {ts : List St} (hr : Rd3 w ao n c ts) : Calls Try.prog 10 #[.slice ao n c] w fun e w' => e = .returned (.tuple #[.int .i64 (betN ts), .int .i64 (betE ts)]) ∧ Below w.heap.size w w' := by
  have HR : Hid (Rd3 w ao n c ts) := hr
  have Hl : Hid (ts.length = n) := hr.len
  clear hr
  by_cases h0 : n < 1
  · obtain rfl : n = 0 := by omega
    have HF : Hid (betN ts = 0 ∧ betE ts = 1) := by
      unfold betN betE
      rw [Hl.out]
      exact ⟨rfl, rfl⟩
    go_enter Try.func10, Try.ntmps10
    go_wp2
    (try simp only [Exit.inBlock, Exit.then])
    refine bodyPost_ret (results_tmp2 rfl _ _ _) rfl ?_
    exact ⟨by rw [HF.out.1, HF.out.2]; rfl, Below.refl _ _⟩
  · by_cases h16 : 16 < n
    · have HF : Hid (betN ts = 0 ∧ betE ts = 1) := bet_no (gd_long (by have := Hl.out; omega))
      go_enter Try.func10, Try.ntmps10
      go_wp2
      (try simp only [Exit.inBlock, Exit.then])
      refine bodyPost_ret (results_tmp2 rfl _ _ _) rfl ?_
      exact ⟨by rw [HF.out.1, HF.out.2]; rfl, Below.refl _ _⟩
    · go_enter Try.func10, Try.ntmps10
      go_wp2
      go_loopw [4] (fun i wr => ∃ k : Nat, k ≤ n ∧ i = .int .i64 (k : Int) ∧ Hid (Gd (ts.take k)) ∧ Hid (Below w.heap.size w wr)) (fun i _ => n - (intOf i).toNat)
      case atStart => exact ⟨0, Nat.zero_le _, rfl, ⟨by simp, by simp⟩, Below.refl _ _⟩
      case round =>
        obtain ⟨k, hk, rfl, HT, HB⟩ := hrel
        by_cases hlt : k < n
        · obtain ⟨g, o, hg, hc⟩ := (HR.out.still HB.out).at hlt
          have i1 : (0 : Int) ≤ (k : Int) := Int.natCast_nonneg _
          have i2 : (k : Int) < (n : Int) := by omega
          obtain ⟨x, hx⟩ : ∃ x, ts.getD k z3 = x := ⟨_, rfl⟩
          rw [hx] at hc
          have HX : Hid (ts.getD k z3 = x) := hx
          have HGA : Hid (∀ j, j < n → wr.rangeAt g (o + j * 3) (ints (ts.getD j z3).li)) := fun j hj => by
            obtain ⟨g', o', hg', hc'⟩ := (HR.out.still HB.out).at hj
            rw [hg] at hg'
            simp only [Option.some.injEq, Addr.mk.injEq, and_true] at hg'
            obtain ⟨rfl, rfl⟩ := hg'
            exact hc'
          rw [hg]
          have HG : Hid (wr.rangeAt g (o + k * 3) (ints x.li)) := hc
          obtain ⟨A1, V, hA1, HA1, hV, HV, HBV⟩ := new3 wr x
          have m0 : V.cell? ⟨wr.heap.size, 0, none⟩ = some (.int .i64 x.p) := HV.out.cell (i := 0) (by rw [St.li_len]; decide)
          have m1 : V.cell? ⟨wr.heap.size, 1, none⟩ = some (.int .i64 x.e) := HV.out.cell (i := 1) (by rw [St.li_len]; decide)
          have m2 : V.cell? ⟨wr.heap.size, 2, none⟩ = some (.int .i64 x.l) := HV.out.cell (i := 2) (by rw [St.li_len]; decide)
          clear hg hc hx
          by_cases p1 : x.p < 0
          · skip
            have HF : Hid (betN ts = 0 ∧ betE ts = 1) := bet_no (bad_fit (k := k) (by have := Hl.out; omega) (by rw [HX.out]; exact fit_no (by omega)))
            go_wp2_with (first
              | (refine load_mid 30 (.tmp 25) HG.out _ Try.underlying30 rfl (by rw [ints_len]; exact info_st) rfl rfl rfl ?_)
              | (refine store_mid 30 (.tmp 5) (.tmp 26) (xs := x.li) HA1.out info_st rfl rfl rfl rfl ?_; rw [hV])
              | fail)
            (try simp only [Exit.inBlock, Exit.then])
            refine bodyPost_ret (results_tmp2 rfl _ _ _) rfl ?_
            exact ⟨by rw [HF.out.1, HF.out.2]; rfl, bstep HB.out HBV.out⟩
          · by_cases p2 : 16 ≤ x.p
            · skip
              have HF : Hid (betN ts = 0 ∧ betE ts = 1) := bet_no (bad_fit (k := k) (by have := Hl.out; omega) (by rw [HX.out]; exact fit_no (by omega)))
              go_wp2_with (first
                | (refine load_mid 30 (.tmp 25) HG.out _ Try.underlying30 rfl (by rw [ints_len]; exact info_st) rfl rfl rfl ?_)
                | (refine store_mid 30 (.tmp 5) (.tmp 26) (xs := x.li) HA1.out info_st rfl rfl rfl rfl ?_; rw [hV])
                | fail)
              (try simp only [Exit.inBlock, Exit.then])
              refine bodyPost_ret (results_tmp2 rfl _ _ _) rfl ?_
              exact ⟨by rw [HF.out.1, HF.out.2]; rfl, bstep HB.out HBV.out⟩
            · by_cases e1 : x.e < 0
              · skip
                have HF : Hid (betN ts = 0 ∧ betE ts = 1) := bet_no (bad_fit (k := k) (by have := Hl.out; omega) (by rw [HX.out]; exact fit_no (by omega)))
                go_wp2_with (first
                  | (refine load_mid 30 (.tmp 25) HG.out _ Try.underlying30 rfl (by rw [ints_len]; exact info_st) rfl rfl rfl ?_)
                  | (refine store_mid 30 (.tmp 5) (.tmp 26) (xs := x.li) HA1.out info_st rfl rfl rfl rfl ?_; rw [hV])
                  | fail)
                (try simp only [Exit.inBlock, Exit.then])
                refine bodyPost_ret (results_tmp2 rfl _ _ _) rfl ?_
                exact ⟨by rw [HF.out.1, HF.out.2]; rfl, bstep HB.out HBV.out⟩
              · by_cases e2 : 4611686018427387904 < x.e
                · skip
                  have HF : Hid (betN ts = 0 ∧ betE ts = 1) := bet_no (bad_fit (k := k) (by have := Hl.out; omega) (by rw [HX.out]; exact fit_no (by omega)))
                  go_wp2_with (first
                    | (refine load_mid 30 (.tmp 25) HG.out _ Try.underlying30 rfl (by rw [ints_len]; exact info_st) rfl rfl rfl ?_)
                    | (refine store_mid 30 (.tmp 5) (.tmp 26) (xs := x.li) HA1.out info_st rfl rfl rfl rfl ?_; rw [hV])
                    | fail)
                  (try simp only [Exit.inBlock, Exit.then])
                  refine bodyPost_ret (results_tmp2 rfl _ _ _) rfl ?_
                  exact ⟨by rw [HF.out.1, HF.out.2]; rfl, bstep HB.out HBV.out⟩
                · by_cases l1 : x.l < 0
                  · skip
                    have HF : Hid (betN ts = 0 ∧ betE ts = 1) := bet_no (bad_fit (k := k) (by have := Hl.out; omega) (by rw [HX.out]; exact fit_no (by omega)))
                    go_wp2_with (first
                      | (refine load_mid 30 (.tmp 25) HG.out _ Try.underlying30 rfl (by rw [ints_len]; exact info_st) rfl rfl rfl ?_)
                      | (refine store_mid 30 (.tmp 5) (.tmp 26) (xs := x.li) HA1.out info_st rfl rfl rfl rfl ?_; rw [hV])
                      | fail)
                    (try simp only [Exit.inBlock, Exit.then])
                    refine bodyPost_ret (results_tmp2 rfl _ _ _) rfl ?_
                    exact ⟨by rw [HF.out.1, HF.out.2]; rfl, bstep HB.out HBV.out⟩
                  · by_cases l2 : 4611686018427387904 < x.l
                    · skip
                      have HF : Hid (betN ts = 0 ∧ betE ts = 1) := bet_no (bad_fit (k := k) (by have := Hl.out; omega) (by rw [HX.out]; exact fit_no (by omega)))
                      go_wp2_with (first
                        | (refine load_mid 30 (.tmp 25) HG.out _ Try.underlying30 rfl (by rw [ints_len]; exact info_st) rfl rfl rfl ?_)
                        | (refine store_mid 30 (.tmp 5) (.tmp 26) (xs := x.li) HA1.out info_st rfl rfl rfl rfl ?_; rw [hV])
                        | fail)
                      (try simp only [Exit.inBlock, Exit.then])
                      refine bodyPost_ret (results_tmp2 rfl _ _ _) rfl ?_
                      exact ⟨by rw [HF.out.1, HF.out.2]; rfl, bstep HB.out HBV.out⟩
                    · have hfit : Hid (fitS x = true) := fit_yes (by omega)
                      go_wp2_with (first
                        | (refine load_mid 30 (.tmp 25) HG.out _ Try.underlying30 rfl (by rw [ints_len]; exact info_st) rfl rfl rfl ?_)
                        | (refine store_mid 30 (.tmp 5) (.tmp 26) (xs := x.li) HA1.out info_st rfl rfl rfl rfl ?_; rw [hV])
                        | fail)
                      obtain ⟨px, hpx⟩ : ∃ px, x.p = px := ⟨_, rfl⟩
                      have HPX : Hid (x.p = px) := hpx
                      rw [hpx] at m0
                      have HGV : Hid (∀ j, j < n → V.rangeAt g (o + j * 3) (ints (ts.getD j z3).li)) := fun j hj => below_range HBV.out (HGA.out j hj)
                      have HBA : Hid (Below w.heap.size w V) := bstep HB.out HBV.out
                      clear HGA HG HB HBV HV hV HA1 hA1 m1 m2
                      generalize wr.heap.size = gm at *
                      go_loopw [6] (fun i wr => ∃ j : Nat, j ≤ k ∧ i = .int .i64 (j : Int) ∧ Hid (∀ m, m < j → (ts.getD m z3).p ≠ px) ∧ Hid (Below V.heap.size V wr)) (fun i _ => k - (intOf i).toNat)
                      case atStart => exact ⟨0, Nat.zero_le _, rfl, (by intro m hm; omega), Below.refl _ _⟩
                      case round =>
                        obtain ⟨j, hj, rfl, HD, HB2⟩ := hrel
                        by_cases hjk : j < k
                        · have cx := below_at HB2.out m0
                          have cy : wr.cell? ⟨g, o + j * 3, none⟩ = some (.int .i64 (ts.getD j z3).p) := below_at HB2.out (HGV.out j (by omega) 0 _ rfl)
                          have i3 : (0 : Int) ≤ (j : Int) := Int.natCast_nonneg _
                          have i4 : (j : Int) < (n : Int) := by omega
                          obtain ⟨y, hy⟩ : ∃ y, (ts.getD j z3).p = y := ⟨_, rfl⟩
                          rw [hy] at cy
                          have HYY : Hid ((ts.getD j z3).p = y) := hy
                          clear hy m0 hpx
                          by_cases he : y = px
                          · subst he
                            have HF : Hid (betN ts = 0 ∧ betE ts = 1) := bet_no (bad_two (j := j) (k := k) hjk (by have := Hl.out; omega) (by rw [HYY.out, HX.out, HPX.out]))
                            go_wp2
                            refine wp_region_held_drew (S := (fun w' => w'.cell? ⟨g, o + j * 3, none⟩ = some (.int .i64 y) ∧ w'.cell? ⟨gm, 0, none⟩ = some (.int .i64 y))) (by kernel_rfl) ⟨below_at (Below.refl _ _).drew cy, below_at (Below.refl _ _).drew cx⟩ (fun hHeld => ?_)
                            simp only [Act.put, List.size_toArray, List.length_cons, List.length_nil, Nat.zero_add]
                            refine wpAnyH_take (i := 0) (v := .slice (some ⟨g, o, none⟩) n c) rfl (by kernel_rfl) (by kernel_rfl) (by kernel_rfl) (fun _ _ _ h => h) (Or.inl ⟨by rfl, fun w' hS => by go_simp⟩) hHeld ?_
                            simp only [Act.put, List.getElem_toArray, List.getElem_cons_zero, List.getElem_cons_succ, List.setIfInBounds_toArray, List.set_cons_zero, List.set_cons_succ]
                            refine wpAnyH_take (i := 1) (v := .int .i64 (j : Int)) rfl (by kernel_rfl) (by kernel_rfl) (by kernel_rfl) (fun _ _ _ h => h) (Or.inl ⟨by rfl, fun w' hS => by go_simp⟩) hHeld ?_
                            simp only [Act.put, List.getElem_toArray, List.getElem_cons_zero, List.getElem_cons_succ, List.setIfInBounds_toArray, List.set_cons_zero, List.set_cons_succ]
                            refine wpAnyH_take (i := 2) (v := .pointer (some ⟨g, o + j * 3, none⟩)) rfl (by kernel_rfl) (by kernel_rfl) (by kernel_rfl) (fun _ _ _ h => h) (Or.inl ⟨by rfl, fun w' hS => by go_simp⟩) hHeld ?_
                            simp only [Act.put, List.getElem_toArray, List.getElem_cons_zero, List.getElem_cons_succ, List.setIfInBounds_toArray, List.set_cons_zero, List.set_cons_succ]
                            refine wpAnyH_take (i := 3) (v := .pointer (some ⟨g, o + j * 3, none⟩)) rfl (by kernel_rfl) (by kernel_rfl) (by kernel_rfl) (fun _ _ _ h => h) (Or.inl ⟨by rfl, fun w' hS => by go_simp⟩) hHeld ?_
                            simp only [Act.put, List.getElem_toArray, List.getElem_cons_zero, List.getElem_cons_succ, List.setIfInBounds_toArray, List.set_cons_zero, List.set_cons_succ]
                            refine wpAnyH_take (i := 4) (v := .int .i64 y) rfl (by kernel_rfl) (by kernel_rfl) (by kernel_rfl) (fun _ _ _ h => h) (Or.inl ⟨by rfl, fun w' hS => by (obtain ⟨s0, s1⟩ := hS; go_simp)⟩) hHeld ?_
                            simp only [Act.put, List.getElem_toArray, List.getElem_cons_zero, List.getElem_cons_succ, List.setIfInBounds_toArray, List.set_cons_zero, List.set_cons_succ]
                            refine wpAnyH_take (i := 5) (v := .pointer (some ⟨gm, 0, none⟩)) rfl (by kernel_rfl) (by kernel_rfl) (by kernel_rfl) (fun _ _ _ h => h) (Or.inl ⟨by rfl, fun w' hS => by go_simp⟩) hHeld ?_
                            simp only [Act.put, List.getElem_toArray, List.getElem_cons_zero, List.getElem_cons_succ, List.setIfInBounds_toArray, List.set_cons_zero, List.set_cons_succ]
                            refine wpAnyH_take (i := 6) (v := .int .i64 y) rfl (by kernel_rfl) (by kernel_rfl) (by kernel_rfl) (fun _ _ _ h => h) (Or.inl ⟨by rfl, fun w' hS => by (obtain ⟨s0, s1⟩ := hS; go_simp)⟩) hHeld ?_
                            simp only [Act.put, List.getElem_toArray, List.getElem_cons_zero, List.getElem_cons_succ, List.setIfInBounds_toArray, List.set_cons_zero, List.set_cons_succ]
                            refine wpAnyH_take (i := 7) (v := .bool true) rfl (by kernel_rfl) (by kernel_rfl) (by kernel_rfl) (fun _ _ _ h => h) (Or.inl ⟨by rfl, fun w' hS => by go_simp⟩) hHeld ?_
                            simp only [Act.put, List.getElem_toArray, List.getElem_cons_zero, List.getElem_cons_succ, List.setIfInBounds_toArray, List.set_cons_zero, List.set_cons_succ]
                            refine wpAnyH_done (by kernel_rfl) ?_ _
                            clear hHeld
                            go_wp2
                            (try simp only [Exit.inBlock, Exit.then])
                            refine bodyPost_ret (results_tmp2 rfl _ _ _) rfl ?_
                            exact ⟨by rw [HF.out.1, HF.out.2]; rfl, bstep HBA.out (bstep HB2.out (Below.refl _ _).drew)⟩
                          · have heb : (y == px) = false := by rw [beq_eq_false_iff_ne]; exact he
                            have HD2 : Hid (∀ m, m < j + 1 → (ts.getD m z3).p ≠ px) := fun m hm => by
                              by_cases e : m = j
                              · subst e; rw [HYY.out]; exact he
                              · exact HD.out m (by omega)
                            go_wp2
                            refine wp_region_held_drew (S := (fun w' => w'.cell? ⟨g, o + j * 3, none⟩ = some (.int .i64 y) ∧ w'.cell? ⟨gm, 0, none⟩ = some (.int .i64 px))) (by kernel_rfl) ⟨below_at (Below.refl _ _).drew cy, below_at (Below.refl _ _).drew cx⟩ (fun hHeld => ?_)
                            simp only [Act.put, List.size_toArray, List.length_cons, List.length_nil, Nat.zero_add]
                            refine wpAnyH_take (i := 0) (v := .slice (some ⟨g, o, none⟩) n c) rfl (by kernel_rfl) (by kernel_rfl) (by kernel_rfl) (fun _ _ _ h => h) (Or.inl ⟨by rfl, fun w' hS => by go_simp⟩) hHeld ?_
                            simp only [Act.put, List.getElem_toArray, List.getElem_cons_zero, List.getElem_cons_succ, List.setIfInBounds_toArray, List.set_cons_zero, List.set_cons_succ]
                            refine wpAnyH_take (i := 1) (v := .int .i64 (j : Int)) rfl (by kernel_rfl) (by kernel_rfl) (by kernel_rfl) (fun _ _ _ h => h) (Or.inl ⟨by rfl, fun w' hS => by go_simp⟩) hHeld ?_
                            simp only [Act.put, List.getElem_toArray, List.getElem_cons_zero, List.getElem_cons_succ, List.setIfInBounds_toArray, List.set_cons_zero, List.set_cons_succ]
                            refine wpAnyH_take (i := 2) (v := .pointer (some ⟨g, o + j * 3, none⟩)) rfl (by kernel_rfl) (by kernel_rfl) (by kernel_rfl) (fun _ _ _ h => h) (Or.inl ⟨by rfl, fun w' hS => by go_simp⟩) hHeld ?_
                            simp only [Act.put, List.getElem_toArray, List.getElem_cons_zero, List.getElem_cons_succ, List.setIfInBounds_toArray, List.set_cons_zero, List.set_cons_succ]
                            refine wpAnyH_take (i := 3) (v := .pointer (some ⟨g, o + j * 3, none⟩)) rfl (by kernel_rfl) (by kernel_rfl) (by kernel_rfl) (fun _ _ _ h => h) (Or.inl ⟨by rfl, fun w' hS => by go_simp⟩) hHeld ?_
                            simp only [Act.put, List.getElem_toArray, List.getElem_cons_zero, List.getElem_cons_succ, List.setIfInBounds_toArray, List.set_cons_zero, List.set_cons_succ]
                            refine wpAnyH_take (i := 4) (v := .int .i64 y) rfl (by kernel_rfl) (by kernel_rfl) (by kernel_rfl) (fun _ _ _ h => h) (Or.inl ⟨by rfl, fun w' hS => by (obtain ⟨s0, s1⟩ := hS; go_simp)⟩) hHeld ?_
                            simp only [Act.put, List.getElem_toArray, List.getElem_cons_zero, List.getElem_cons_succ, List.setIfInBounds_toArray, List.set_cons_zero, List.set_cons_succ]
                            refine wpAnyH_take (i := 5) (v := .pointer (some ⟨gm, 0, none⟩)) rfl (by kernel_rfl) (by kernel_rfl) (by kernel_rfl) (fun _ _ _ h => h) (Or.inl ⟨by rfl, fun w' hS => by go_simp⟩) hHeld ?_
                            simp only [Act.put, List.getElem_toArray, List.getElem_cons_zero, List.getElem_cons_succ, List.setIfInBounds_toArray, List.set_cons_zero, List.set_cons_succ]
                            refine wpAnyH_take (i := 6) (v := .int .i64 px) rfl (by kernel_rfl) (by kernel_rfl) (by kernel_rfl) (fun _ _ _ h => h) (Or.inl ⟨by rfl, fun w' hS => by (obtain ⟨s0, s1⟩ := hS; go_simp)⟩) hHeld ?_
                            simp only [Act.put, List.getElem_toArray, List.getElem_cons_zero, List.getElem_cons_succ, List.setIfInBounds_toArray, List.set_cons_zero, List.set_cons_succ]
                            refine wpAnyH_take (i := 7) (v := .bool false) rfl (by kernel_rfl) (by kernel_rfl) (by kernel_rfl) (fun _ _ _ h => h) (Or.inl ⟨by rfl, fun w' hS => by go_simp⟩) hHeld ?_
                            simp only [Act.put, List.getElem_toArray, List.getElem_cons_zero, List.getElem_cons_succ, List.setIfInBounds_toArray, List.set_cons_zero, List.set_cons_succ]
                            refine wpAnyH_done (by kernel_rfl) ?_ _
                            clear hHeld
                            go_wp2
                            exact ⟨⟨j + 1, by omega, by go_num, HD2, bstep HB2.out (Below.refl _ _).drew⟩, by simp [intOf]; omega⟩
                        · obtain rfl : j = k := by omega
                          have HT2 : Hid (Gd (ts.take (j + 1))) := by
                            have hkx : j < ts.length := by have := Hl.out; omega
                            have e : ts.take (j + 1) = ts.take j ++ [x] := by
                              rw [List.take_add_one, ← HX.out]
                              simp [List.getD, hkx]
                            show Gd (ts.take (j + 1))
                            rw [e]
                            refine HT.out.snoc hfit.out fun y hy => ?_
                            obtain ⟨m, hm, rfl⟩ := List.mem_take_iff_getElem.1 hy
                            have := HD.out m (by omega)
                            rw [← HPX.out] at this
                            simpa [List.getD, show m < ts.length by omega] using this
                          clear m0 hpx
                          go_wp2
                          exact ⟨⟨j + 1, by omega, by go_num, HT2, bstep HBA.out HB2.out⟩, by simp [intOf]; omega⟩
        · obtain rfl : k = n := by omega
          have hGd : Gd ts := by
            have := HT.out
            rw [List.take_of_length_le (by have := Hl.out; omega)] at this
            exact this
          have hfin := bet_yes hGd (by have := Hl.out; omega)
          rw [Hl.out] at hfin
          have HF : Hid (betN ts = (bst ts k : Int) ∧ betE ts = 0) := hfin
          clear hGd hfin
          go_wp2
          go_loopw [7, 8] (fun b i wr => ∃ (m q : Nat), 1 ≤ m ∧ m ≤ k ∧ i = .int .i64 (m : Int) ∧ b = .int .i64 (q : Int) ∧ q < k ∧ Hid (q = bst ts m) ∧ Hid (Below w.heap.size w wr)) (fun _ i _ => k - (intOf i).toNat)
          case atStart => exact ⟨1, 0, Nat.le_refl _, by omega, rfl, rfl, by omega, (show 0 = bst ts 1 from by simp [bst]), HB⟩
          case round =>
            obtain ⟨m, q, hm1, hm, rfl, rfl, hq, HS0, HB2⟩ := hrel
            by_cases hmk : m < k
            · obtain ⟨g, o, hg, hc⟩ := (HR.out.still HB2.out).at hmk
              obtain ⟨g', o', hg', hc'⟩ := (HR.out.still HB2.out).at hq
              rw [hg] at hg'
              simp only [Option.some.injEq, Addr.mk.injEq, and_true] at hg'
              obtain ⟨rfl, rfl⟩ := hg'
              have hst : bst ts (m + 1) = if furt (ts.getD m z3) (ts.getD q z3) then m else q := by rw [HS0.out]; rfl
              have i1 : (0 : Int) ≤ (m : Int) := Int.natCast_nonneg _
              have i2 : (m : Int) < (k : Int) := by omega
              have i3 : (0 : Int) ≤ (q : Int) := Int.natCast_nonneg _
              have i4 : (q : Int) < (k : Int) := by omega
              rw [hg]
              generalize ts.getD m z3 = x at *
              generalize ts.getD q z3 = y at *
              have HG : Hid (wr.rangeAt g (o + m * 3) (ints x.li)) := hc
              have HG2 : Hid (wr.rangeAt g (o + q * 3) (ints y.li)) := hc'
              clear hg hc hc'
              have HGo0 := fun w => further_any (w := w) x y
              cases hf : furt x y with
              | true =>
                rw [hf] at HGo0 hst
                have HGo : Hid (∀ w, Calls Try.prog 27 #[.agg (ints x.li).toArray, .agg (ints y.li).toArray] w fun e w' => e = .returned (.bool true) ∧ Below w.heap.size w w') := HGo0
                have HS : Hid (m = bst ts (m + 1)) := (show _ = _ from by rw [hst]; rfl)
                clear HGo0 hst
                go_wp2
                refine wp_region_held_drew (S := (fun w' => w'.rangeAt g (o + m * 3) (ints x.li) ∧ w'.rangeAt g (o + q * 3) (ints y.li))) (by kernel_rfl) ⟨below_range (Below.refl _ _).drew HG.out, below_range (Below.refl _ _).drew HG2.out⟩ (fun hHeld => ?_)
                simp only [Act.put, List.size_toArray, List.length_cons, List.length_nil, Nat.zero_add]
                refine wpAnyH_take (i := 0) (v := .slice (some ⟨g, o, none⟩) k c) rfl (by kernel_rfl) (by kernel_rfl) (by kernel_rfl) (fun _ _ _ h => h) (Or.inl ⟨by rfl, fun w' hS => by go_simp⟩) hHeld ?_
                simp only [Act.put, List.getElem_toArray, List.getElem_cons_zero, List.getElem_cons_succ, List.setIfInBounds_toArray, List.set_cons_zero, List.set_cons_succ]
                refine wpAnyH_take (i := 1) (v := .int .i64 (m : Int)) rfl (by kernel_rfl) (by kernel_rfl) (by kernel_rfl) (fun _ _ _ h => h) (Or.inl ⟨by rfl, fun w' hS => by go_simp⟩) hHeld ?_
                simp only [Act.put, List.getElem_toArray, List.getElem_cons_zero, List.getElem_cons_succ, List.setIfInBounds_toArray, List.set_cons_zero, List.set_cons_succ]
                refine wpAnyH_take (i := 2) (v := .pointer (some ⟨g, o + m * 3, none⟩)) rfl (by kernel_rfl) (by kernel_rfl) (by kernel_rfl) (fun _ _ _ h => h) (Or.inl ⟨by rfl, fun w' hS => by go_simp⟩) hHeld ?_
                simp only [Act.put, List.getElem_toArray, List.getElem_cons_zero, List.getElem_cons_succ, List.setIfInBounds_toArray, List.set_cons_zero, List.set_cons_succ]
                refine wpAnyH_take (i := 3) (v := .agg (ints x.li).toArray) rfl (by kernel_rfl) (by kernel_rfl) (by kernel_rfl) (fun _ _ _ h => h) (yieldsIf_load_mid (by rfl) 30 (.tmp 76) rfl g (o + m * 3) (by rfl) (ints x.li) _ (fun w' hS => hS.1) Try.underlying30 rfl (by rw [ints_len, St.li_len]; exact info_st)) hHeld ?_
                simp only [Act.put, List.getElem_toArray, List.getElem_cons_zero, List.getElem_cons_succ, List.setIfInBounds_toArray, List.set_cons_zero, List.set_cons_succ]
                refine wpAnyH_take (i := 4) (v := .slice (some ⟨g, o, none⟩) k c) rfl (by kernel_rfl) (by kernel_rfl) (by kernel_rfl) (fun _ _ _ h => h) (Or.inl ⟨by rfl, fun w' hS => by go_simp⟩) hHeld ?_
                simp only [Act.put, List.getElem_toArray, List.getElem_cons_zero, List.getElem_cons_succ, List.setIfInBounds_toArray, List.set_cons_zero, List.set_cons_succ]
                refine wpAnyH_take (i := 5) (v := .int .i64 (q : Int)) rfl (by kernel_rfl) (by kernel_rfl) (by kernel_rfl) (fun _ _ _ h => h) (Or.inl ⟨by rfl, fun w' hS => by go_simp⟩) hHeld ?_
                simp only [Act.put, List.getElem_toArray, List.getElem_cons_zero, List.getElem_cons_succ, List.setIfInBounds_toArray, List.set_cons_zero, List.set_cons_succ]
                refine wpAnyH_take (i := 6) (v := .pointer (some ⟨g, o + q * 3, none⟩)) rfl (by kernel_rfl) (by kernel_rfl) (by kernel_rfl) (fun _ _ _ h => h) (Or.inl ⟨by rfl, fun w' hS => by go_simp⟩) hHeld ?_
                simp only [Act.put, List.getElem_toArray, List.getElem_cons_zero, List.getElem_cons_succ, List.setIfInBounds_toArray, List.set_cons_zero, List.set_cons_succ]
                refine wpAnyH_take (i := 7) (v := .agg (ints y.li).toArray) rfl (by kernel_rfl) (by kernel_rfl) (by kernel_rfl) (fun _ _ _ h => h) (yieldsIf_load_mid (by rfl) 30 (.tmp 80) rfl g (o + q * 3) (by rfl) (ints y.li) _ (fun w' hS => hS.2) Try.underlying30 rfl (by rw [ints_len, St.li_len]; exact info_st)) hHeld ?_
                simp only [Act.put, List.getElem_toArray, List.getElem_cons_zero, List.getElem_cons_succ, List.setIfInBounds_toArray, List.set_cons_zero, List.set_cons_succ]
                refine wpAnyH_ready (rs := [8]) (by kernel_rfl) (by simp) ?_
                refine AllReadyH.cons rfl (fun K hK => ?_) AllReadyH.nil
                go_simp
                refine (HGo.out _).mono ?_
                rintro e w5 ⟨rfl, hb5⟩
                refine hK.out _ _ ⟨below_range hb5 (below_range (Below.refl _ _).drew HG.out), below_range hb5 (below_range (Below.refl _ _).drew HG2.out)⟩ (fun hHeld => ?_)
                clear hK K
                refine wpAnyH_done (by kernel_rfl) ?_ _
                clear hHeld
                go_wp2
                exact ⟨⟨m + 1, m, by omega, by omega, by go_num, rfl, hmk, HS, bstep HB2.out (bstep (Below.refl _ _).drew hb5)⟩, by simp [intOf]; omega⟩
              | false =>
                rw [hf] at HGo0 hst
                have HGo : Hid (∀ w, Calls Try.prog 27 #[.agg (ints x.li).toArray, .agg (ints y.li).toArray] w fun e w' => e = .returned (.bool false) ∧ Below w.heap.size w w') := HGo0
                have HS : Hid (q = bst ts (m + 1)) := (show _ = _ from by rw [hst]; rfl)
                clear HGo0 hst
                go_wp2
                refine wp_region_held_drew (S := (fun w' => w'.rangeAt g (o + m * 3) (ints x.li) ∧ w'.rangeAt g (o + q * 3) (ints y.li))) (by kernel_rfl) ⟨below_range (Below.refl _ _).drew HG.out, below_range (Below.refl _ _).drew HG2.out⟩ (fun hHeld => ?_)
                simp only [Act.put, List.size_toArray, List.length_cons, List.length_nil, Nat.zero_add]
                refine wpAnyH_take (i := 0) (v := .slice (some ⟨g, o, none⟩) k c) rfl (by kernel_rfl) (by kernel_rfl) (by kernel_rfl) (fun _ _ _ h => h) (Or.inl ⟨by rfl, fun w' hS => by go_simp⟩) hHeld ?_
                simp only [Act.put, List.getElem_toArray, List.getElem_cons_zero, List.getElem_cons_succ, List.setIfInBounds_toArray, List.set_cons_zero, List.set_cons_succ]
                refine wpAnyH_take (i := 1) (v := .int .i64 (m : Int)) rfl (by kernel_rfl) (by kernel_rfl) (by kernel_rfl) (fun _ _ _ h => h) (Or.inl ⟨by rfl, fun w' hS => by go_simp⟩) hHeld ?_
                simp only [Act.put, List.getElem_toArray, List.getElem_cons_zero, List.getElem_cons_succ, List.setIfInBounds_toArray, List.set_cons_zero, List.set_cons_succ]
                refine wpAnyH_take (i := 2) (v := .pointer (some ⟨g, o + m * 3, none⟩)) rfl (by kernel_rfl) (by kernel_rfl) (by kernel_rfl) (fun _ _ _ h => h) (Or.inl ⟨by rfl, fun w' hS => by go_simp⟩) hHeld ?_
                simp only [Act.put, List.getElem_toArray, List.getElem_cons_zero, List.getElem_cons_succ, List.setIfInBounds_toArray, List.set_cons_zero, List.set_cons_succ]
                refine wpAnyH_take (i := 3) (v := .agg (ints x.li).toArray) rfl (by kernel_rfl) (by kernel_rfl) (by kernel_rfl) (fun _ _ _ h => h) (yieldsIf_load_mid (by rfl) 30 (.tmp 76) rfl g (o + m * 3) (by rfl) (ints x.li) _ (fun w' hS => hS.1) Try.underlying30 rfl (by rw [ints_len, St.li_len]; exact info_st)) hHeld ?_
                simp only [Act.put, List.getElem_toArray, List.getElem_cons_zero, List.getElem_cons_succ, List.setIfInBounds_toArray, List.set_cons_zero, List.set_cons_succ]
                refine wpAnyH_take (i := 4) (v := .slice (some ⟨g, o, none⟩) k c) rfl (by kernel_rfl) (by kernel_rfl) (by kernel_rfl) (fun _ _ _ h => h) (Or.inl ⟨by rfl, fun w' hS => by go_simp⟩) hHeld ?_
                simp only [Act.put, List.getElem_toArray, List.getElem_cons_zero, List.getElem_cons_succ, List.setIfInBounds_toArray, List.set_cons_zero, List.set_cons_succ]
                refine wpAnyH_take (i := 5) (v := .int .i64 (q : Int)) rfl (by kernel_rfl) (by kernel_rfl) (by kernel_rfl) (fun _ _ _ h => h) (Or.inl ⟨by rfl, fun w' hS => by go_simp⟩) hHeld ?_
                simp only [Act.put, List.getElem_toArray, List.getElem_cons_zero, List.getElem_cons_succ, List.setIfInBounds_toArray, List.set_cons_zero, List.set_cons_succ]
                refine wpAnyH_take (i := 6) (v := .pointer (some ⟨g, o + q * 3, none⟩)) rfl (by kernel_rfl) (by kernel_rfl) (by kernel_rfl) (fun _ _ _ h => h) (Or.inl ⟨by rfl, fun w' hS => by go_simp⟩) hHeld ?_
                simp only [Act.put, List.getElem_toArray, List.getElem_cons_zero, List.getElem_cons_succ, List.setIfInBounds_toArray, List.set_cons_zero, List.set_cons_succ]
                refine wpAnyH_take (i := 7) (v := .agg (ints y.li).toArray) rfl (by kernel_rfl) (by kernel_rfl) (by kernel_rfl) (fun _ _ _ h => h) (yieldsIf_load_mid (by rfl) 30 (.tmp 80) rfl g (o + q * 3) (by rfl) (ints y.li) _ (fun w' hS => hS.2) Try.underlying30 rfl (by rw [ints_len, St.li_len]; exact info_st)) hHeld ?_
                simp only [Act.put, List.getElem_toArray, List.getElem_cons_zero, List.getElem_cons_succ, List.setIfInBounds_toArray, List.set_cons_zero, List.set_cons_succ]
                refine wpAnyH_ready (rs := [8]) (by kernel_rfl) (by simp) ?_
                refine AllReadyH.cons rfl (fun K hK => ?_) AllReadyH.nil
                go_simp
                refine (HGo.out _).mono ?_
                rintro e w5 ⟨rfl, hb5⟩
                refine hK.out _ _ ⟨below_range hb5 (below_range (Below.refl _ _).drew HG.out), below_range hb5 (below_range (Below.refl _ _).drew HG2.out)⟩ (fun hHeld => ?_)
                clear hK K
                refine wpAnyH_done (by kernel_rfl) ?_ _
                clear hHeld
                go_wp2
                exact ⟨⟨m + 1, q, by omega, by omega, by go_num, rfl, hq, HS, bstep HB2.out (bstep (Below.refl _ _).drew hb5)⟩, by simp [intOf]; omega⟩
            · obtain rfl : m = k := by omega
              go_wp2
              (try simp only [Exit.inBlock, Exit.then])
              refine bodyPost_ret (results_tmp2 rfl _ _ _) rfl ?_
              exact ⟨by rw [HF.out.1, HF.out.2, ← HS0.out]; rfl, HB2.out⟩
end
end Go.Proofs.Ytcieinejjkddfaa.Qm
