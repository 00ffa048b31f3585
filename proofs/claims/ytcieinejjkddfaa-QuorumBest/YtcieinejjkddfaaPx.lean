import Derived.Test.YtcieinejjkddfaaPv
namespace Go.Proofs.Ytcieinejjkddfaa.Qm
open Go.RowKit Mb
set_option linter.unusedVariables false
set_option maxRecDepth 100000
set_option linter.unusedSimpArgs false
section
variable {w w' : World} {B : Nat}
theorem info_st : (Try.prog.info? 30).map (·.size) = some 3 := by kernel_rfl
theorem new3 (w1 : World) (x : St) : ∃ A1 V, w1.alloc (.cells #[.int .i64 0, .int .i64 0, .int .i64 0] 30) = A1 ∧ Hid (A1.there w1.heap.size 0 x.li.length) ∧ A1.setCells w1.heap.size 0 (ints x.li) = V ∧ Hid (Rw V w1.heap.size 30 x.li) ∧ Hid (Below w1.heap.size w1 V) := by
  obtain ⟨A1, hA⟩ : ∃ A1, w1.alloc (.cells #[.int .i64 0, .int .i64 0, .int .i64 0] 30) = A1 := ⟨_, rfl⟩
  have k1 : Rw A1 w1.heap.size 30 [0, 0, 0] := by unfold Rw; rw [← hA]; exact heap_alloc_new w1 _
  refine ⟨A1, _, hA, k1.there 0 _ (by show 0 + 3 ≤ 3; omega), rfl, Rw.whole k1 rfl, bsets (Nat.le_refl _) _ _ ?_⟩
  rw [← hA]
  exact balloc (Below.refl _ _)
def inC (x : Int) : Bool := decide (0 ≤ x ∧ x ≤ 4611686018427387904)
def fitS (x : St) : Bool := decide (0 ≤ x.p ∧ x.p ≤ 15) && (inC x.e && inC x.l)
def arS : Nat → List St → Bool
  | _, [] => true
  | s, x :: r => fitS x && (!s.testBit x.p.toNat && arS (s ||| 2 ^ x.p.toNat) r)
set_option maxHeartbeats 4000000 in
theorem are_any {ao : Option Addr} {n c : Nat} {ts : List St} (hr : Rd3 w ao n c ts) (hn : n ≤ 17592186044416) : Calls Try.prog 25 #[.slice ao n c] w fun e w' => e = .returned (.bool (arS 0 ts)) ∧ Below w.heap.size w w' := by
  have HR : Hid (Rd3 w ao n c ts) := hr
  have Hl : Hid (ts.length = n) := hr.len
  clear hr
  obtain ⟨wf, hwf⟩ : ∃ wf : Int → Int → Int → Bool, ∀ v lo hi, wf v lo hi = decide (lo ≤ v ∧ v ≤ hi) := ⟨fun v lo hi => decide (lo ≤ v ∧ v ≤ hi), fun _ _ _ => rfl⟩
  have HW : Hid (∀ w v lo hi, Calls Try.prog 42 #[.int .i64 v, .int .i64 lo, .int .i64 hi] w fun e w' => e = .returned (.bool (wf v lo hi)) ∧ w = w') := fun w v lo hi => by rw [hwf]; exact within_any v lo hi
  have HWF : Hid (∀ v lo hi, wf v lo hi = decide (lo ≤ v ∧ v ≤ hi)) := hwf
  clear hwf
  go_enter Try.func25, Try.ntmps25
  go_wp2
  go_loopw [3, 9] (fun y i wr => ∃ (k s : Nat), k ≤ n ∧ i = .int .i64 (k : Int) ∧ y = .int .u64 (s : Int) ∧ s < 65536 ∧ Hid (arS s (ts.drop k) = arS 0 ts) ∧ Hid (Below w.heap.size w wr)) (fun _ i _ => n - (intOf i).toNat)
  case atStart => exact ⟨0, 0, Nat.zero_le _, rfl, rfl, by decide, rfl, Below.refl _ _⟩
  case round =>
    obtain ⟨k, s, hk, rfl, rfl, hs, HT, HB⟩ := hrel
    by_cases hlt : k < n
    · obtain ⟨g, o, hg, hc⟩ := (HR.out.still HB.out).at hlt
      have hd : ts.drop k = ts.getD k z3 :: ts.drop (k + 1) := by
        have hkx : k < ts.length := by have := Hl.out; omega
        rw [List.drop_eq_getElem_cons hkx]
        simp [List.getD, hkx]
      have HT2 : arS s (ts.getD k z3 :: ts.drop (k + 1)) = arS 0 ts := by rw [← hd]; exact HT.out
      simp only [arS] at HT2
      have i1 : (0 : Int) ≤ (k : Int) := Int.natCast_nonneg _
      have i2 : (k : Int) < (n : Int) := by omega
      rw [hg]
      generalize ts.getD k z3 = x at *
      have HG : Hid (wr.rangeAt g (o + k * 3) (ints x.li)) := hc
      obtain ⟨A1, V, hA1, HA1, hV, HV, HBV⟩ := new3 wr x
      have m0 : V.cell? ⟨wr.heap.size, 0, none⟩ = some (.int .i64 x.p) := HV.out.cell (i := 0) (by rw [St.li_len]; decide)
      have m1 : V.cell? ⟨wr.heap.size, 1, none⟩ = some (.int .i64 x.e) := HV.out.cell (i := 1) (by rw [St.li_len]; decide)
      have m2 : V.cell? ⟨wr.heap.size, 2, none⟩ = some (.int .i64 x.l) := HV.out.cell (i := 2) (by rw [St.li_len]; decide)
      have t1 := HWF.out x.p 0 15
      have t2 := HWF.out x.e 0 4611686018427387904
      have t3 := HWF.out x.l 0 4611686018427387904
      have ef : fitS x = (wf x.p 0 15 && (wf x.e 0 4611686018427387904 && wf x.l 0 4611686018427387904)) := by rw [t1, t2, t3]; rfl
      rw [ef] at HT2
      clear hg hd hc t2 t3 ef HT
      cases h1 : wf x.p 0 15 with
      | false =>
        have HF : Hid (arS 0 ts = false) := (show _ = _ from by rw [← HT2, h1]; simp)
        clear HT2 t1
        go_wp2_with (first
          | (refine load_mid 30 (.tmp 11) HG.out _ Try.underlying30 rfl (by rw [ints_len]; exact info_st) rfl rfl rfl ?_)
          | (refine store_mid 30 (.tmp 5) (.tmp 12) (xs := x.li) HA1.out info_st rfl rfl rfl rfl ?_; rw [hV])
          | (go_at_call 42; refine (HW.out _ _ _ _).mono ?_; rintro e w2 ⟨rfl, rfl⟩)
          | (go_at_call 43; refine (HS.out _).mono ?_; rintro e w2 ⟨rfl, rfl⟩)
          | (go_at_call 44; refine (HWi.out _).mono ?_; rintro e w2 ⟨rfl, rfl⟩)
          | fail)
        go_ret
        exact ⟨by rw [HF.out]; rfl, bstep HB.out HBV.out⟩
      | true =>
        rw [h1] at t1
        have hp := of_decide_eq_true t1.symm
        clear t1
        cases h2 : wf x.e 0 4611686018427387904 with
        | false =>
          have HF : Hid (arS 0 ts = false) := (show _ = _ from by rw [← HT2, h1, h2]; simp)
          clear HT2
          go_wp2_with (first
            | (refine load_mid 30 (.tmp 11) HG.out _ Try.underlying30 rfl (by rw [ints_len]; exact info_st) rfl rfl rfl ?_)
            | (refine store_mid 30 (.tmp 5) (.tmp 12) (xs := x.li) HA1.out info_st rfl rfl rfl rfl ?_; rw [hV])
            | (go_at_call 42; refine (HW.out _ _ _ _).mono ?_; rintro e w2 ⟨rfl, rfl⟩)
            | (go_at_call 43; refine (HS.out _).mono ?_; rintro e w2 ⟨rfl, rfl⟩)
            | (go_at_call 44; refine (HWi.out _).mono ?_; rintro e w2 ⟨rfl, rfl⟩)
            | fail)
          go_ret
          exact ⟨by rw [HF.out]; rfl, bstep HB.out HBV.out⟩
        | true =>
          cases h3 : wf x.l 0 4611686018427387904 with
          | false =>
            have HF : Hid (arS 0 ts = false) := (show _ = _ from by rw [← HT2, h1, h2, h3]; simp)
            clear HT2
            go_wp2_with (first
              | (refine load_mid 30 (.tmp 11) HG.out _ Try.underlying30 rfl (by rw [ints_len]; exact info_st) rfl rfl rfl ?_)
              | (refine store_mid 30 (.tmp 5) (.tmp 12) (xs := x.li) HA1.out info_st rfl rfl rfl rfl ?_; rw [hV])
              | (go_at_call 42; refine (HW.out _ _ _ _).mono ?_; rintro e w2 ⟨rfl, rfl⟩)
              | (go_at_call 43; refine (HS.out _).mono ?_; rintro e w2 ⟨rfl, rfl⟩)
              | (go_at_call 44; refine (HWi.out _).mono ?_; rintro e w2 ⟨rfl, rfl⟩)
              | fail)
            go_ret
            exact ⟨by rw [HF.out]; rfl, bstep HB.out HBV.out⟩
          | true =>
            rw [h1, h2, h3] at HT2
            simp only [Bool.true_and] at HT2
            obtain ⟨p, hpp⟩ := Int.eq_ofNat_of_zero_le hp.1
            rw [hpp] at m0 h1 HT2 hp
            rw [Int.toNat_natCast] at HT2
            have hp16 : p < 16 := by omega
            have HS0 := fun w => has_any (w := w) s p hs hp16
            have HWi : Hid (∀ w, Calls Try.prog 44 #[.int .u64 (s : Int), .int .i64 (p : Int)] w fun e w' => e = .returned (.int .u64 ((s ||| 2 ^ p : Nat) : Int)) ∧ w = w') := fun w => with_any s p hs hp16
            have hs2 := with_lt hs hp16
            clear hpp
            cases hb : s.testBit p with
            | true =>
              rw [hb] at HS0 HT2
              have HS : Hid (∀ w, Calls Try.prog 43 #[.int .u64 (s : Int), .int .i64 (p : Int)] w fun e w' => e = .returned (.bool true) ∧ w = w') := HS0
              have HF : Hid (arS 0 ts = false) := (show _ = _ from by rw [← HT2]; simp)
              clear HT2 HS0
              go_wp2_with (first
                | (refine load_mid 30 (.tmp 11) HG.out _ Try.underlying30 rfl (by rw [ints_len]; exact info_st) rfl rfl rfl ?_)
                | (refine store_mid 30 (.tmp 5) (.tmp 12) (xs := x.li) HA1.out info_st rfl rfl rfl rfl ?_; rw [hV])
                | (go_at_call 42; refine (HW.out _ _ _ _).mono ?_; rintro e w2 ⟨rfl, rfl⟩)
                | (go_at_call 43; refine (HS.out _).mono ?_; rintro e w2 ⟨rfl, rfl⟩)
                | (go_at_call 44; refine (HWi.out _).mono ?_; rintro e w2 ⟨rfl, rfl⟩)
                | fail)
              go_ret
              exact ⟨by rw [HF.out]; rfl, bstep HB.out HBV.out⟩
            | false =>
              rw [hb] at HS0 HT2
              have HS : Hid (∀ w, Calls Try.prog 43 #[.int .u64 (s : Int), .int .i64 (p : Int)] w fun e w' => e = .returned (.bool false) ∧ w = w') := HS0
              simp only [Bool.not_false, Bool.true_and] at HT2
              have HT3 : Hid (arS (s ||| 2 ^ p) (ts.drop (k + 1)) = arS 0 ts) := HT2
              generalize s ||| 2 ^ p = s2 at *
              clear HT2 HS0
              go_wp2_with (first
                | (refine load_mid 30 (.tmp 11) HG.out _ Try.underlying30 rfl (by rw [ints_len]; exact info_st) rfl rfl rfl ?_)
                | (refine store_mid 30 (.tmp 5) (.tmp 12) (xs := x.li) HA1.out info_st rfl rfl rfl rfl ?_; rw [hV])
                | (go_at_call 42; refine (HW.out _ _ _ _).mono ?_; rintro e w2 ⟨rfl, rfl⟩)
                | (go_at_call 43; refine (HS.out _).mono ?_; rintro e w2 ⟨rfl, rfl⟩)
                | (go_at_call 44; refine (HWi.out _).mono ?_; rintro e w2 ⟨rfl, rfl⟩)
                | fail)
              exact ⟨⟨k + 1, s2, by omega, by go_num, rfl, hs2, HT3, bstep HB.out HBV.out⟩, by simp [intOf]; omega⟩
    · obtain rfl : k = n := by omega
      have HF : Hid (arS 0 ts = true) := (show _ = _ from by
        have := HT.out
        rw [List.drop_of_length_le (by have := Hl.out; omega)] at this
        rw [← this]
        rfl)
      go_wp2
      go_ret
      exact ⟨by rw [HF.out]; rfl, HB.out⟩
def bst (ts : List St) : Nat → Nat
  | 0 => 0
  | k + 1 => if furt (ts.getD k z3) (ts.getD (bst ts k) z3) then k else bst ts k
theorem bst_le (ts : List St) : ∀ k, bst ts k ≤ k - 1
  | 0 => Nat.le_refl _
  | k + 1 => by
      have := bst_le ts k
      simp only [bst]
      split <;> omega
def betE (ts : List St) : Int := if (decide (ts.length = 0) || !arS 0 ts) then 1 else 0
def betN (ts : List St) : Int := if (decide (ts.length = 0) || !arS 0 ts) then 0 else (bst ts ts.length : Int)
set_option maxHeartbeats 4000000 in
theorem best_any {ao : Option Addr} {n c : Nat} {ts : List St} (hr : Rd3 w ao n c ts) (hn : n ≤ 17592186044416) : Calls Try.prog 9 #[.slice ao n c] w fun e w' => e = .returned (.tuple #[.int .i64 (betN ts), .int .i64 (betE ts)]) ∧ Below w.heap.size w w' := by
  have HR : Hid (Rd3 w ao n c ts) := hr
  have Hl : Hid (ts.length = n) := hr.len
  have HA0 := are_any hr hn
  clear hr
  unfold betN betE
  rw [Hl.out]
  by_cases h0 : n = 0
  · subst h0
    go_enter Try.func9, Try.ntmps9
    go_wp2
    (try simp only [Exit.inBlock, Exit.then])
    refine bodyPost_ret (results_tmp2 rfl _ _ _) rfl ?_
    exact ⟨rfl, Below.refl _ _⟩
  · have h0b : ((n : Int) == 0) = false := by rw [beq_eq_false_iff_ne]; omega
    rw [decide_eq_false h0, Bool.false_or]
    cases har : arS 0 ts with
    | false =>
      rw [har] at HA0
      have HA : Hid (Calls Try.prog 25 #[.slice ao n c] w fun e w' => e = .returned (.bool false) ∧ Below w.heap.size w w') := HA0
      clear HA0
      go_enter Try.func9, Try.ntmps9
      go_wp2_with (first
        | (go_at_call 25; refine HA.out.mono ?_; rintro e w1 ⟨rfl, hb1⟩)
        | fail)
      (try simp only [Exit.inBlock, Exit.then])
      refine bodyPost_ret (results_tmp2 rfl _ _ _) rfl ?_
      exact ⟨rfl, hb1⟩
    | true =>
      rw [har] at HA0
      have HA : Hid (Calls Try.prog 25 #[.slice ao n c] w fun e w' => e = .returned (.bool true) ∧ Below w.heap.size w w') := HA0
      clear HA0 har
      obtain ⟨R0, hR0⟩ : ∃ r, r = bst ts n := ⟨_, rfl⟩
      have HR0 : Hid (R0 = bst ts n) := hR0
      rw [← hR0]
      clear hR0
      go_enter Try.func9, Try.ntmps9
      go_wp2_with (first
        | (go_at_call 25; refine HA.out.mono ?_; rintro e w1 ⟨rfl, hb1⟩)
        | fail)
      go_loopw [4, 17] (fun y i wr => ∃ (k q : Nat), k ≤ n ∧ i = .int .i64 (k : Int) ∧ y = .int .i64 (q : Int) ∧ q < n ∧ Hid (q = bst ts k) ∧ Hid (Below w.heap.size w wr)) (fun _ i _ => n - (intOf i).toNat)
      case atStart => exact ⟨0, 0, Nat.zero_le _, rfl, rfl, by omega, rfl, hb1⟩
      case round =>
        obtain ⟨k, q, hk, rfl, rfl, hq, HT, HB⟩ := hrel
        clear hb1
        by_cases hlt : k < n
        · obtain ⟨g, o, hg, hc⟩ := (HR.out.still HB.out).at hlt
          obtain ⟨g', o', hg', hc'⟩ := (HR.out.still HB.out).at hq
          rw [hg] at hg'
          simp only [Option.some.injEq, Addr.mk.injEq, and_true] at hg'
          obtain ⟨rfl, rfl⟩ := hg'
          have hst : bst ts (k + 1) = if furt (ts.getD k z3) (ts.getD q z3) then k else q := by rw [HT.out]; rfl
          have i1 : (0 : Int) ≤ (k : Int) := Int.natCast_nonneg _
          have i2 : (k : Int) < (n : Int) := by omega
          have i3 : (0 : Int) ≤ (q : Int) := Int.natCast_nonneg _
          have i4 : (q : Int) < (n : Int) := by omega
          rw [hg]
          generalize ts.getD k z3 = x at *
          generalize ts.getD q z3 = y at *
          have HG : Hid (wr.rangeAt g (o + k * 3) (ints x.li)) := hc
          have HG2 : Hid (wr.rangeAt g (o + q * 3) (ints y.li)) := hc'
          obtain ⟨A1, V, hA1, HA1, hV, HV, HBV⟩ := new3 wr x
          clear hg hc hc'
          have HGo0 := fun w => gofar_any (w := w) x y
          rw [gofar_eq] at HGo0
          cases hf : furt x y with
          | true =>
            rw [hf] at HGo0 hst
            have HGo : Hid (∀ w, Calls Try.prog 26 #[.agg (ints x.li).toArray, .agg (ints y.li).toArray] w fun e w' => e = .returned (.bool true) ∧ Below w.heap.size w w') := HGo0
            have HS : Hid (k = bst ts (k + 1)) := (show _ = _ from by rw [hst]; rfl)
            clear HGo0 hst
            go_wp2_with (first
              | (refine load_mid 30 (.tmp 20) HG.out _ Try.underlying30 rfl (by rw [ints_len]; exact info_st) rfl rfl rfl ?_)
              | (refine store_mid 30 (.tmp 6) (.tmp 21) (xs := x.li) HA1.out info_st rfl rfl rfl rfl ?_; rw [hV])
              | fail)
            refine wp_region_held_drew (S := (fun w' => w'.rangeAt wr.heap.size 0 (ints x.li) ∧ w'.rangeAt g (o + q * 3) (ints y.li))) (by kernel_rfl) ⟨below_range (Below.refl _ _).drew HV.out.all, below_range (bstep HBV.out (Below.refl _ _).drew) HG2.out⟩ (fun hHeld => ?_)
            simp only [Act.put, List.size_toArray, List.length_cons, List.length_nil, Nat.zero_add]
            refine wpAnyH_take (i := 0) (v := .agg (ints x.li).toArray) rfl (by kernel_rfl) (by kernel_rfl) (by kernel_rfl) (fun _ _ _ h => h) (yieldsIf_load_mid (by rfl) 30 (.tmp 6) rfl wr.heap.size (0) (by rfl) (ints x.li) _ (fun w' hS => hS.1) Try.underlying30 rfl (by rw [ints_len, St.li_len]; exact info_st)) hHeld ?_
            simp only [Act.put, List.getElem_toArray, List.getElem_cons_zero, List.getElem_cons_succ, List.setIfInBounds_toArray, List.set_cons_zero, List.set_cons_succ]
            refine wpAnyH_take (i := 1) (v := .slice (some ⟨g, o, none⟩) n c) rfl (by kernel_rfl) (by kernel_rfl) (by kernel_rfl) (fun _ _ _ h => h) (Or.inl ⟨by rfl, fun w' hS => by go_simp⟩) hHeld ?_
            simp only [Act.put, List.getElem_toArray, List.getElem_cons_zero, List.getElem_cons_succ, List.setIfInBounds_toArray, List.set_cons_zero, List.set_cons_succ]
            refine wpAnyH_take (i := 2) (v := .int .i64 (q : Int)) rfl (by kernel_rfl) (by kernel_rfl) (by kernel_rfl) (fun _ _ _ h => h) (Or.inl ⟨by rfl, fun w' hS => by go_simp⟩) hHeld ?_
            simp only [Act.put, List.getElem_toArray, List.getElem_cons_zero, List.getElem_cons_succ, List.setIfInBounds_toArray, List.set_cons_zero, List.set_cons_succ]
            refine wpAnyH_take (i := 3) (v := .pointer (some ⟨g, o + q * 3, none⟩)) rfl (by kernel_rfl) (by kernel_rfl) (by kernel_rfl) (fun _ _ _ h => h) (Or.inl ⟨by rfl, fun w' hS => by go_simp⟩) hHeld ?_
            simp only [Act.put, List.getElem_toArray, List.getElem_cons_zero, List.getElem_cons_succ, List.setIfInBounds_toArray, List.set_cons_zero, List.set_cons_succ]
            refine wpAnyH_take (i := 4) (v := .agg (ints y.li).toArray) rfl (by kernel_rfl) (by kernel_rfl) (by kernel_rfl) (fun _ _ _ h => h) (yieldsIf_load_mid (by rfl) 30 (.tmp 25) rfl g (o + q * 3) (by rfl) (ints y.li) _ (fun w' hS => hS.2) Try.underlying30 rfl (by rw [ints_len, St.li_len]; exact info_st)) hHeld ?_
            simp only [Act.put, List.getElem_toArray, List.getElem_cons_zero, List.getElem_cons_succ, List.setIfInBounds_toArray, List.set_cons_zero, List.set_cons_succ]
            refine wpAnyH_ready (rs := [5]) (by kernel_rfl) (by simp) ?_
            refine AllReadyH.cons rfl (fun K hK => ?_) AllReadyH.nil
            go_simp
            refine (HGo.out _).mono ?_
            rintro e w5 ⟨rfl, hb5⟩
            refine hK.out _ _ ⟨below_range hb5 (below_range (Below.refl _ _).drew HV.out.all), below_range hb5 (below_range (bstep HBV.out (Below.refl _ _).drew) HG2.out)⟩ (fun hHeld => ?_)
            clear hK K
            refine wpAnyH_done (by kernel_rfl) ?_ _
            clear hHeld
            go_wp2
            exact ⟨⟨k + 1, k, by omega, by go_num, rfl, hlt, HS, bstep HB.out (bstep (bstep HBV.out (Below.refl _ _).drew) hb5)⟩, by simp [intOf]; omega⟩
          | false =>
            rw [hf] at HGo0 hst
            have HGo : Hid (∀ w, Calls Try.prog 26 #[.agg (ints x.li).toArray, .agg (ints y.li).toArray] w fun e w' => e = .returned (.bool false) ∧ Below w.heap.size w w') := HGo0
            have HS : Hid (q = bst ts (k + 1)) := (show _ = _ from by rw [hst]; rfl)
            clear HGo0 hst
            go_wp2_with (first
              | (refine load_mid 30 (.tmp 20) HG.out _ Try.underlying30 rfl (by rw [ints_len]; exact info_st) rfl rfl rfl ?_)
              | (refine store_mid 30 (.tmp 6) (.tmp 21) (xs := x.li) HA1.out info_st rfl rfl rfl rfl ?_; rw [hV])
              | fail)
            refine wp_region_held_drew (S := (fun w' => w'.rangeAt wr.heap.size 0 (ints x.li) ∧ w'.rangeAt g (o + q * 3) (ints y.li))) (by kernel_rfl) ⟨below_range (Below.refl _ _).drew HV.out.all, below_range (bstep HBV.out (Below.refl _ _).drew) HG2.out⟩ (fun hHeld => ?_)
            simp only [Act.put, List.size_toArray, List.length_cons, List.length_nil, Nat.zero_add]
            refine wpAnyH_take (i := 0) (v := .agg (ints x.li).toArray) rfl (by kernel_rfl) (by kernel_rfl) (by kernel_rfl) (fun _ _ _ h => h) (yieldsIf_load_mid (by rfl) 30 (.tmp 6) rfl wr.heap.size (0) (by rfl) (ints x.li) _ (fun w' hS => hS.1) Try.underlying30 rfl (by rw [ints_len, St.li_len]; exact info_st)) hHeld ?_
            simp only [Act.put, List.getElem_toArray, List.getElem_cons_zero, List.getElem_cons_succ, List.setIfInBounds_toArray, List.set_cons_zero, List.set_cons_succ]
            refine wpAnyH_take (i := 1) (v := .slice (some ⟨g, o, none⟩) n c) rfl (by kernel_rfl) (by kernel_rfl) (by kernel_rfl) (fun _ _ _ h => h) (Or.inl ⟨by rfl, fun w' hS => by go_simp⟩) hHeld ?_
            simp only [Act.put, List.getElem_toArray, List.getElem_cons_zero, List.getElem_cons_succ, List.setIfInBounds_toArray, List.set_cons_zero, List.set_cons_succ]
            refine wpAnyH_take (i := 2) (v := .int .i64 (q : Int)) rfl (by kernel_rfl) (by kernel_rfl) (by kernel_rfl) (fun _ _ _ h => h) (Or.inl ⟨by rfl, fun w' hS => by go_simp⟩) hHeld ?_
            simp only [Act.put, List.getElem_toArray, List.getElem_cons_zero, List.getElem_cons_succ, List.setIfInBounds_toArray, List.set_cons_zero, List.set_cons_succ]
            refine wpAnyH_take (i := 3) (v := .pointer (some ⟨g, o + q * 3, none⟩)) rfl (by kernel_rfl) (by kernel_rfl) (by kernel_rfl) (fun _ _ _ h => h) (Or.inl ⟨by rfl, fun w' hS => by go_simp⟩) hHeld ?_
            simp only [Act.put, List.getElem_toArray, List.getElem_cons_zero, List.getElem_cons_succ, List.setIfInBounds_toArray, List.set_cons_zero, List.set_cons_succ]
            refine wpAnyH_take (i := 4) (v := .agg (ints y.li).toArray) rfl (by kernel_rfl) (by kernel_rfl) (by kernel_rfl) (fun _ _ _ h => h) (yieldsIf_load_mid (by rfl) 30 (.tmp 25) rfl g (o + q * 3) (by rfl) (ints y.li) _ (fun w' hS => hS.2) Try.underlying30 rfl (by rw [ints_len, St.li_len]; exact info_st)) hHeld ?_
            simp only [Act.put, List.getElem_toArray, List.getElem_cons_zero, List.getElem_cons_succ, List.setIfInBounds_toArray, List.set_cons_zero, List.set_cons_succ]
            refine wpAnyH_ready (rs := [5]) (by kernel_rfl) (by simp) ?_
            refine AllReadyH.cons rfl (fun K hK => ?_) AllReadyH.nil
            go_simp
            refine (HGo.out _).mono ?_
            rintro e w5 ⟨rfl, hb5⟩
            refine hK.out _ _ ⟨below_range hb5 (below_range (Below.refl _ _).drew HV.out.all), below_range hb5 (below_range (bstep HBV.out (Below.refl _ _).drew) HG2.out)⟩ (fun hHeld => ?_)
            clear hK K
            refine wpAnyH_done (by kernel_rfl) ?_ _
            clear hHeld
            go_wp2
            exact ⟨⟨k + 1, q, by omega, by go_num, rfl, hq, HS, bstep HB.out (bstep (bstep HBV.out (Below.refl _ _).drew) hb5)⟩, by simp [intOf]; omega⟩
        · obtain rfl : k = n := by omega
          have HF : Hid (q = R0) := (show q = R0 from by rw [HT.out, HR0.out])
          go_wp2
          (try simp only [Exit.inBlock, Exit.then])
          refine bodyPost_ret (results_tmp2 rfl _ _ _) rfl ?_
          exact ⟨by rw [← HF.out]; rfl, HB.out⟩
end
end Go.Proofs.Ytcieinejjkddfaa.Qm
