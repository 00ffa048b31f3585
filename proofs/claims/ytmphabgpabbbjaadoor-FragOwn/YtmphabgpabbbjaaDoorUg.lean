import Derived.Test.YtmphabgpabbbjaaDoorUf
namespace Go.Proofs.YtmphabgpabbbjaaDoor.Fg
open Go.RowKit Mb
set_option linter.unusedVariables false
set_option maxRecDepth 100000
set_option linter.unusedSimpArgs false
section
variable {w w' W : World} {B : Nat}
theorem Rd.sub {b off n c : Nat} {bs : List Int} (h : Rd w (some ⟨b, off, none⟩) n c bs) (i m d : Nat) (hi : i + m ≤ n) (hd : m ≤ d) : Rd w (some ⟨b, off + i, none⟩) m d ((bs.drop i).take m) := by
  have hl := h.len
  refine ⟨by rw [List.length_take, List.length_drop]; omega, hd, by simp, ?_, (h.by_.drop i).take m⟩
  by_cases hm : m = 0
  · exact .inl hm
  · rcases h.at_ with h0 | ⟨b', off', he, hc⟩
    · omega
    · cases he
      refine .inr ⟨b, off + i, rfl, fun j hj => ?_⟩
      rw [Nat.add_assoc, hc (i + j) (by omega)]
      congr 2
      simp [List.getD, hj]
theorem put3 {k t : Nat} {a b c : Value} (h : w.heap[k]? = some (.cells #[a, b, c] t (0, 0))) (x y z : Value) : (((w.setCell ⟨k, 0, none⟩ x).setCell ⟨k, 1, none⟩ y).setCell ⟨k, 2, none⟩ z).heap[k]? = some (.cells #[x, y, z] t (0, 0)) :=
  blk_set (cs' := #[x, y, z]) (blk_set (cs' := #[x, y, c]) (blk_set (cs' := #[x, b, c]) h rfl) rfl) rfl
theorem below_fz {k i : Nat} {v : Value} (hb : Below w.heap.size w w') (hc : w.cell? ⟨k, i, none⟩ = some v) : w'.frozen? ⟨k, i, none⟩ = w.frozen? ⟨k, i, none⟩ := hb.frozen (World.block_lt_of_cell? w _ hc)
set_option maxHeartbeats 1000000 in
theorem opened_short {ao : Option Addr} {n c : Nat} (hn : n < 8) : Calls Tryd.prog 27 #[.slice ao n c] w fun e w' => e = .returned (.tuple #[.agg #[.int .i64 0, .int .i64 0, .int .i64 0], .slice none 0 0, .bool false]) ∧ Below w.heap.size w w' := by
  go_enter Tryd.func27, Tryd.ntmps27
  go_wp2
  exact bodyPost_ret (v := .tuple #[.agg #[.int .i64 0, .int .i64 0, .int .i64 0], .slice none 0 0, .bool false]) (by simp [results, Tryd.results27, go_sem]) rfl ⟨rfl, (Below.refl _ _).alloc (Nat.le_refl _) _⟩
def opV (f : Bool) (s p q : Int) (A : Option Addr) (m d : Nat) : Value := if f then .tuple #[.agg #[.int .i64 s, .int .i64 p, .int .i64 q], .slice A m d, .bool true] else .tuple #[.agg #[.int .i64 0, .int .i64 0, .int .i64 0], .slice none 0 0, .bool false]
set_option maxHeartbeats 1000000 in
theorem opened_long {b off n c : Nat} {bs : List Int} (hr : Rd w (some ⟨b, off, none⟩) n c bs) (hn : 8 ≤ n) (hc : n ≤ 140737488355328) : Calls Tryd.prog 27 #[.slice (some ⟨b, off, none⟩) n c] w fun e w' => ∃ A, e = .returned (opV (form bs) (sz bs) (pl bs) (sm bs) A (n - 8) (c - 8)) ∧ Rd w' A (n - 8) (c - 8) (bs.drop 8) ∧ Below w.heap.size w w' := by
  have hcap := hr.cap
  have hlen := hr.len
  have HPc : Hid (∀ W', Below w.heap.size w W' → Rd W' (if c = 8 then some ⟨b, off, none⟩ else some ⟨b, off + 8, none⟩) (n - 8) (c - 8) (bs.drop 8)) := fun W' hb => by
    have h := (hr.sub 8 (n - 8) (c - 8) (by omega) (by omega)).still hb
    have e : (bs.drop 8).take (n - 8) = bs.drop 8 := List.take_of_length_le (by rw [List.length_drop]; omega)
    rw [e] at h
    by_cases h8 : c = 8
    · rw [if_pos h8]
      exact ⟨h.len, h.cap, by simp, .inl (by omega), h.by_⟩
    · rw [if_neg h8]
      exact h
  generalize hA : (if c = 8 then some (⟨b, off, none⟩ : Addr) else some ⟨b, off + 8, none⟩) = A at HPc
  generalize hV0 : w.alloc (.cells #[.int .i64 0, .int .i64 0, .int .i64 0] 59) = V0
  have hbV : Below w.heap.size w V0 := by rw [← hV0]; exact balloc (Below.refl _ _)
  have hz0 : V0.heap[w.heap.size]? = some (.cells #[.int .i64 0, .int .i64 0, .int .i64 0] 59 (0, 0)) := by rw [← hV0]; exact heap_alloc_new _ _
  have HR : Hid (Rd V0 (some ⟨b, off, none⟩) n c bs) := hr.still hbV
  have hby := hr.by_
  have b1 := sz_lt hby
  have b2 := pl_lt hby
  have b3 := sm_lt hby
  have HF : Hid (form bs = (plI (sz bs : Int) (pl bs : Int) && decide (((n - 8 : Nat) : Int) = min 248 ((sz bs : Int) - (pl bs : Int))))) := (show _ = _ from by
    rw [plI_nat]
    unfold form
    rw [decide_eq_true (show 8 ≤ bs.length by omega), Bool.true_and]
    cases hp : placed (sz bs) (pl bs) with
    | false => rfl
    | true =>
      unfold placed at hp
      simp only [Bool.and_eq_true, Bool.or_eq_true, decide_eq_true_eq] at hp
      congr 1
      rw [decide_eq_decide]
      omega)
  clear hr hby
  have N1 : Hid (∀ W', Below V0.heap.size V0 W' → Calls Tryd.prog 32 #[.slice (some ⟨b, off, none⟩) 2 c] W' fun e w2 => e = .returned (.int .i64 (sz bs : Int)) ∧ W' = w2) := fun W' hb => number_any (by have := (HR.out.sub 0 2 c (by omega) (by omega)).still hb; simpa using this) (by omega)
  have N2 : Hid (∀ W', Below V0.heap.size V0 W' → Calls Tryd.prog 32 #[.slice (some ⟨b, off + 2, none⟩) 2 (c - 2)] W' fun e w2 => e = .returned (.int .i64 (pl bs : Int)) ∧ W' = w2) := fun W' hb => number_any ((HR.out.sub 2 2 (c - 2) (by omega) (by omega)).still hb) (by omega)
  have N3 : Hid (∀ W', Below V0.heap.size V0 W' → Calls Tryd.prog 32 #[.slice (some ⟨b, off + 4, none⟩) 4 (c - 4)] W' fun e w2 => e = .returned (.int .i64 (sm bs : Int)) ∧ W' = w2) := fun W' hb => number_any ((HR.out.sub 4 4 (c - 4) (by omega) (by omega)).still hb) (by omega)
  have s1 : (0 : Int) ≤ (sz bs : Int) ∧ (sz bs : Int) ≤ 4294967296 := by omega
  have s2 : (0 : Int) ≤ (pl bs : Int) ∧ (pl bs : Int) ≤ 4294967296 := by omega
  generalize hsz : (sz bs : Int) = s at *
  generalize hpl : (pl bs : Int) = p at *
  generalize hsm : (sm bs : Int) = q at *
  have HI : Hid (∀ W', Calls Tryd.prog 33 #[.agg #[.int .i64 s, .int .i64 p, .int .i64 q]] W' fun e w2 => e = .returned (.bool (plI s p)) ∧ Below W'.heap.size W' w2) := fun W' => isPlaced_any s p q s1 s2
  have HL : Hid (∀ W', Calls Tryd.prog 28 #[.agg #[.int .i64 s, .int .i64 p, .int .i64 q]] W' fun e w2 => e = .returned (.int .i64 (min 248 (s - p))) ∧ Below W'.heap.size W' w2) := fun W' => piece_any s p q s1 s2
  clear hsz hpl hsm b1 b2 b3 s1 s2
  have q2 : (2 : Int) ≤ (c : Int) := by omega
  have q4 : (4 : Int) ≤ (c : Int) := by omega
  have q8 : (8 : Int) ≤ (c : Int) := by omega
  have n2 : ¬ c = 2 := by omega
  have n4 : ¬ c = 4 := by omega
  go_enter Tryd.func27, Tryd.ntmps27
  go_wp2
  refine wp_region_held_drew (S := (fun w' => Below V0.heap.size V0 w')) (by kernel_rfl) (Below.refl _ _).drew (fun hHeld => ?_)
  simp only [Act.put, List.size_toArray, List.length_cons, List.length_nil, Nat.zero_add]
  refine wpAnyH_take (i := 0) (v := .slice (some ⟨b, off, none⟩) n c) rfl (by kernel_rfl) (by kernel_rfl) (by kernel_rfl) (fun _ _ _ h => h) (Or.inl ⟨by rfl, fun w' hS => by go_simp⟩) hHeld ?_
  simp only [Act.put, List.getElem_toArray, List.getElem_cons_zero, List.getElem_cons_succ, List.setIfInBounds_toArray, List.set_cons_zero, List.set_cons_succ]
  refine wpAnyH_take (i := 1) (v := .slice (some ⟨b, off, none⟩) 2 c) rfl (by kernel_rfl) (by kernel_rfl) (by kernel_rfl) (fun _ _ _ h => h) (Or.inl ⟨by rfl, fun w' hS => by go_simp⟩) hHeld ?_
  simp only [Act.put, List.getElem_toArray, List.getElem_cons_zero, List.getElem_cons_succ, List.setIfInBounds_toArray, List.set_cons_zero, List.set_cons_succ]
  refine wpAnyH_take (i := 3) (v := .slice (some ⟨b, off, none⟩) n c) rfl (by kernel_rfl) (by kernel_rfl) (by kernel_rfl) (fun _ _ _ h => h) (Or.inl ⟨by rfl, fun w' hS => by go_simp⟩) hHeld ?_
  simp only [Act.put, List.getElem_toArray, List.getElem_cons_zero, List.getElem_cons_succ, List.setIfInBounds_toArray, List.set_cons_zero, List.set_cons_succ]
  refine wpAnyH_take (i := 4) (v := .slice (some ⟨b, off + 2, none⟩) 2 (c - 2)) rfl (by kernel_rfl) (by kernel_rfl) (by kernel_rfl) (fun _ _ _ h => h) (Or.inl ⟨by rfl, fun w' hS => by go_simp⟩) hHeld ?_
  simp only [Act.put, List.getElem_toArray, List.getElem_cons_zero, List.getElem_cons_succ, List.setIfInBounds_toArray, List.set_cons_zero, List.set_cons_succ]
  refine wpAnyH_take (i := 6) (v := .slice (some ⟨b, off, none⟩) n c) rfl (by kernel_rfl) (by kernel_rfl) (by kernel_rfl) (fun _ _ _ h => h) (Or.inl ⟨by rfl, fun w' hS => by go_simp⟩) hHeld ?_
  simp only [Act.put, List.getElem_toArray, List.getElem_cons_zero, List.getElem_cons_succ, List.setIfInBounds_toArray, List.set_cons_zero, List.set_cons_succ]
  refine wpAnyH_take (i := 7) (v := .slice (some ⟨b, off + 4, none⟩) 4 (c - 4)) rfl (by kernel_rfl) (by kernel_rfl) (by kernel_rfl) (fun _ _ _ h => h) (Or.inl ⟨by rfl, fun w' hS => by go_simp⟩) hHeld ?_
  simp only [Act.put, List.getElem_toArray, List.getElem_cons_zero, List.getElem_cons_succ, List.setIfInBounds_toArray, List.set_cons_zero, List.set_cons_succ]
  generalize hD : V0.drew = D0 at *
  have hD0 : Below V0.heap.size V0 D0 := by rw [← hD]; exact (Below.refl _ _).drew
  obtain ⟨D2, hD2⟩ : ∃ D2, D0.alloc (.cells #[.int .i64 s, .int .i64 p, .int .i64 q] 59) = D2 := ⟨_, rfl⟩
  obtain ⟨kd, hkd⟩ : ∃ kd, D0.heap.size = kd := ⟨_, rfl⟩
  have hB2 : Below V0.heap.size V0 D2 := by rw [← hD2]; exact balloc hD0
  refine wpAnyH_ready (rs := [2, 10]) (by kernel_rfl) (by simp) ?_
  refine AllReadyH.cons rfl (fun K hK => ?a0) (AllReadyH.cons rfl (fun K hK => ?b0) AllReadyH.nil)
  case' b0 =>
    go_simp
    refine hK.out _ _ (balloc hD0) (fun hHeld => ?_)
    clear hK K
    refine wpAnyH_ready (rs := [2]) (by kernel_rfl) (by simp) ?_
    refine AllReadyH.cons rfl (fun K hK => ?_) AllReadyH.nil
    go_simp
    refine (N1.out _ (balloc hD0)).mono ?_
    rintro e w2 ⟨rfl, rfl⟩
    refine hK.out _ _ (balloc hD0) (fun hHeld => ?_)
    clear hK K
    refine wpAnyH_ready (rs := [5]) (by kernel_rfl) (by simp) ?_
    refine AllReadyH.cons rfl (fun K hK => ?_) AllReadyH.nil
    go_simp
    refine (N2.out _ (balloc hD0)).mono ?_
    rintro e w2 ⟨rfl, rfl⟩
    refine hK.out _ _ (balloc hD0) (fun hHeld => ?_)
    clear hK K
    refine wpAnyH_ready (rs := [8]) (by kernel_rfl) (by simp) ?_
    refine AllReadyH.cons rfl (fun K hK => ?_) AllReadyH.nil
    go_simp
    refine (N3.out _ (balloc hD0)).mono ?_
    rintro e w2 ⟨rfl, rfl⟩
    refine hK.out _ _ (balloc hD0) (fun hHeld => ?_)
    clear hK K
    refine wpAnyH_take (i := 9) (v := .agg #[.int .i64 s, .int .i64 p, .int .i64 q]) rfl (by kernel_rfl) (by kernel_rfl) (by kernel_rfl) (fun _ _ _ h => h) (Or.inl ⟨by rfl, fun w' hS => by go_simp⟩) hHeld ?_
    simp only [Act.put, List.getElem_toArray, List.getElem_cons_zero, List.getElem_cons_succ, List.setIfInBounds_toArray, List.set_cons_zero, List.set_cons_succ]
    refine wpAnyH_ready (rs := [11]) (by kernel_rfl) (by simp) ?_
    refine AllReadyH.cons rfl (fun K hK => ?_) AllReadyH.nil
    go_simp
    refine hK.out _ _ hB2 (fun hHeld => ?_)
    clear hK K
    refine wpAnyH_done (by kernel_rfl) ?_ _
    clear hHeld
  case' a0 =>
    go_simp
    refine (N1.out _ hD0).mono ?_
    rintro e w2 ⟨rfl, rfl⟩
    refine hK.out _ _ hD0 (fun hHeld => ?_)
    clear hK K
    refine wpAnyH_ready (rs := [5, 10]) (by kernel_rfl) (by simp) ?_
    refine AllReadyH.cons rfl (fun K hK => ?a1) (AllReadyH.cons rfl (fun K hK => ?b1) AllReadyH.nil)
    case' b1 =>
      go_simp
      refine hK.out _ _ (balloc hD0) (fun hHeld => ?_)
      clear hK K
      refine wpAnyH_ready (rs := [5]) (by kernel_rfl) (by simp) ?_
      refine AllReadyH.cons rfl (fun K hK => ?_) AllReadyH.nil
      go_simp
      refine (N2.out _ (balloc hD0)).mono ?_
      rintro e w2 ⟨rfl, rfl⟩
      refine hK.out _ _ (balloc hD0) (fun hHeld => ?_)
      clear hK K
      refine wpAnyH_ready (rs := [8]) (by kernel_rfl) (by simp) ?_
      refine AllReadyH.cons rfl (fun K hK => ?_) AllReadyH.nil
      go_simp
      refine (N3.out _ (balloc hD0)).mono ?_
      rintro e w2 ⟨rfl, rfl⟩
      refine hK.out _ _ (balloc hD0) (fun hHeld => ?_)
      clear hK K
      refine wpAnyH_take (i := 9) (v := .agg #[.int .i64 s, .int .i64 p, .int .i64 q]) rfl (by kernel_rfl) (by kernel_rfl) (by kernel_rfl) (fun _ _ _ h => h) (Or.inl ⟨by rfl, fun w' hS => by go_simp⟩) hHeld ?_
      simp only [Act.put, List.getElem_toArray, List.getElem_cons_zero, List.getElem_cons_succ, List.setIfInBounds_toArray, List.set_cons_zero, List.set_cons_succ]
      refine wpAnyH_ready (rs := [11]) (by kernel_rfl) (by simp) ?_
      refine AllReadyH.cons rfl (fun K hK => ?_) AllReadyH.nil
      go_simp
      refine hK.out _ _ hB2 (fun hHeld => ?_)
      clear hK K
      refine wpAnyH_done (by kernel_rfl) ?_ _
      clear hHeld
    case' a1 =>
      go_simp
      refine (N2.out _ hD0).mono ?_
      rintro e w2 ⟨rfl, rfl⟩
      refine hK.out _ _ hD0 (fun hHeld => ?_)
      clear hK K
      refine wpAnyH_ready (rs := [8, 10]) (by kernel_rfl) (by simp) ?_
      refine AllReadyH.cons rfl (fun K hK => ?a2) (AllReadyH.cons rfl (fun K hK => ?b2) AllReadyH.nil)
      case' b2 =>
        go_simp
        refine hK.out _ _ (balloc hD0) (fun hHeld => ?_)
        clear hK K
        refine wpAnyH_ready (rs := [8]) (by kernel_rfl) (by simp) ?_
        refine AllReadyH.cons rfl (fun K hK => ?_) AllReadyH.nil
        go_simp
        refine (N3.out _ (balloc hD0)).mono ?_
        rintro e w2 ⟨rfl, rfl⟩
        refine hK.out _ _ (balloc hD0) (fun hHeld => ?_)
        clear hK K
        refine wpAnyH_take (i := 9) (v := .agg #[.int .i64 s, .int .i64 p, .int .i64 q]) rfl (by kernel_rfl) (by kernel_rfl) (by kernel_rfl) (fun _ _ _ h => h) (Or.inl ⟨by rfl, fun w' hS => by go_simp⟩) hHeld ?_
        simp only [Act.put, List.getElem_toArray, List.getElem_cons_zero, List.getElem_cons_succ, List.setIfInBounds_toArray, List.set_cons_zero, List.set_cons_succ]
        refine wpAnyH_ready (rs := [11]) (by kernel_rfl) (by simp) ?_
        refine AllReadyH.cons rfl (fun K hK => ?_) AllReadyH.nil
        go_simp
        refine hK.out _ _ hB2 (fun hHeld => ?_)
        clear hK K
        refine wpAnyH_done (by kernel_rfl) ?_ _
        clear hHeld
      case' a2 =>
        go_simp
        refine (N3.out _ hD0).mono ?_
        rintro e w2 ⟨rfl, rfl⟩
        refine hK.out _ _ hD0 (fun hHeld => ?_)
        clear hK K
        refine wpAnyH_take (i := 9) (v := .agg #[.int .i64 s, .int .i64 p, .int .i64 q]) rfl (by kernel_rfl) (by kernel_rfl) (by kernel_rfl) (fun _ _ _ h => h) (Or.inl ⟨by rfl, fun w' hS => by go_simp⟩) hHeld ?_
        simp only [Act.put, List.getElem_toArray, List.getElem_cons_zero, List.getElem_cons_succ, List.setIfInBounds_toArray, List.set_cons_zero, List.set_cons_succ]
        refine wpAnyH_ready (rs := [10]) (by kernel_rfl) (by simp) ?_
        refine AllReadyH.cons rfl (fun K hK => ?_) AllReadyH.nil
        go_simp
        refine hK.out _ _ (balloc hD0) (fun hHeld => ?_)
        clear hK K
        refine wpAnyH_ready (rs := [11]) (by kernel_rfl) (by simp) ?_
        refine AllReadyH.cons rfl (fun K hK => ?_) AllReadyH.nil
        go_simp
        refine hK.out _ _ hB2 (fun hHeld => ?_)
        clear hK K
        refine wpAnyH_done (by kernel_rfl) ?_ _
        clear hHeld
  all_goals
    clear hHeld hD
    have hk2 : D2.heap[kd]? = some (.cells #[.int .i64 s, .int .i64 p, .int .i64 q] 59 (0, 0)) := by rw [← hD2, ← hkd]; exact heap_alloc_new _ _
    have hz2 : D2.heap[w.heap.size]? = some (.cells #[.int .i64 0, .int .i64 0, .int .i64 0] 59 (0, 0)) := (hB2.block _ (lt_heap hz0)).trans hz0
    clear hD2
    have hge : V0.heap.size ≤ kd := by rw [← hkd]; exact hD0.size
    clear hkd hD0
    have x0 : D2.cell? ⟨kd, 0, none⟩ = some (.int .i64 s) := blk_cell hk2 0
    have x1 : D2.cell? ⟨kd, 1, none⟩ = some (.int .i64 p) := blk_cell hk2 1
    have x2 : D2.cell? ⟨kd, 2, none⟩ = some (.int .i64 q) := blk_cell hk2 2
    have y0 : D2.cell? ⟨w.heap.size, 0, none⟩ = some (.int .i64 0) := blk_cell hz2 0
    have y1 : D2.cell? ⟨w.heap.size, 1, none⟩ = some (.int .i64 0) := blk_cell hz2 1
    have y2 : D2.cell? ⟨w.heap.size, 2, none⟩ = some (.int .i64 0) := blk_cell hz2 2
    have f0 : D2.frozen? ⟨w.heap.size, 0, none⟩ = false := frozen_of_row D2 _ _ _ _ hz2
    have f1 : D2.frozen? ⟨w.heap.size, 1, none⟩ = false := frozen_of_row D2 _ _ _ _ hz2
    have f2 : D2.frozen? ⟨w.heap.size, 2, none⟩ = false := frozen_of_row D2 _ _ _ _ hz2
    have hgw : w.heap.size < V0.heap.size := lt_heap hz0
    have ne : kd ≠ w.heap.size := by omega
    have Hb2 : Hid (Below w.heap.size w D2) := bstep hbV hB2
    have HZ : Hid (D2.heap[w.heap.size]? = some (.cells #[.int .i64 0, .int .i64 0, .int .i64 0] 59 (0, 0))) := hz2
    clear hz0 hz2 hB2 hge hgw hV0 hbV hk2
    generalize min 248 (s - p) = m at *
    rcases Bool.eq_false_or_eq_true (plI s p) with hpl | hpl
    · rw [hpl] at HI HF
      by_cases hln : ((n - 8 : Nat) : Int) = m
      · have hb : (((n - 8 : Nat) : Int) != m) = false := by simp [hln]
        have HV : Hid (form bs = true) := (show _ = _ from by rw [HF.out, decide_eq_true hln]; rfl)
        clear hln hpl
        go_wp2_with (first
          | (go_at_call 33; refine (HI.out _).mono ?_; rintro e W3 ⟨rfl, hb3⟩; have ux0 := below_at hb3 x0; have ux1 := below_at hb3 x1; have ux2 := below_at hb3 x2; have uy0 := below_at hb3 y0; have uy1 := below_at hb3 y1; have uy2 := below_at hb3 y2; have uf0 := (below_fz hb3 y0).trans f0; have uf1 := (below_fz hb3 y1).trans f1; have uf2 := (below_fz hb3 y2).trans f2)
          | (go_at_call 28; refine (HL.out _).mono ?_; rintro e W4 ⟨rfl, hb4⟩; have vx0 := below_at hb4 ux0; have vx1 := below_at hb4 ux1; have vx2 := below_at hb4 ux2; have vy0 := below_at hb4 uy0; have vy1 := below_at hb4 uy1; have vy2 := below_at hb4 uy2; have vf0 := (below_fz hb4 uy0).trans uf0; have vf1 := (below_fz hb4 uy1).trans uf1; have vf2 := (below_fz hb4 uy2).trans uf2)
          | fail)
        rw [HV.out]
        have Z4 := put3 (((bstep hb3 hb4).block _ (lt_heap HZ.out)).trans HZ.out) (.int .i64 s) (.int .i64 p) (.int .i64 q)
        have e0 := blk_cell Z4 0
        have e1 := blk_cell Z4 1
        have e2 := blk_cell Z4 2
        refine bodyPost_ret (v := opV true s p q A (n - 8) (c - 8)) (by simp [results, Tryd.results27, go_sem, opV, e0, e1, e2]) rfl ⟨A, rfl, HPc.out _ ?_, ?_⟩
        all_goals exact bset (bset (bset (bstep (bstep Hb2.out hb3) hb4) (Nat.le_refl _) _ _) (Nat.le_refl _) _ _) (Nat.le_refl _) _ _
      · have hb : (((n - 8 : Nat) : Int) != m) = true := by simp [hln]
        have HV : Hid (form bs = false) := (show _ = _ from by rw [HF.out, decide_eq_false hln]; rfl)
        clear hln hpl
        go_wp2_with (first
          | (go_at_call 33; refine (HI.out _).mono ?_; rintro e W3 ⟨rfl, hb3⟩; have ux0 := below_at hb3 x0; have ux1 := below_at hb3 x1; have ux2 := below_at hb3 x2; have uy0 := below_at hb3 y0; have uy1 := below_at hb3 y1; have uy2 := below_at hb3 y2; have uf0 := (below_fz hb3 y0).trans f0; have uf1 := (below_fz hb3 y1).trans f1; have uf2 := (below_fz hb3 y2).trans f2)
          | (go_at_call 28; refine (HL.out _).mono ?_; rintro e W4 ⟨rfl, hb4⟩; have vx0 := below_at hb4 ux0; have vx1 := below_at hb4 ux1; have vx2 := below_at hb4 ux2; have vy0 := below_at hb4 uy0; have vy1 := below_at hb4 uy1; have vy2 := below_at hb4 uy2; have vf0 := (below_fz hb4 uy0).trans uf0; have vf1 := (below_fz hb4 uy1).trans uf1; have vf2 := (below_fz hb4 uy2).trans uf2)
          | fail)
        rw [HV.out]
        have Z4 := put3 (((bstep hb3 hb4).block _ (lt_heap HZ.out)).trans HZ.out) (.int .i64 0) (.int .i64 0) (.int .i64 0)
        have e0 := blk_cell Z4 0
        have e1 := blk_cell Z4 1
        have e2 := blk_cell Z4 2
        refine bodyPost_ret (v := opV false s p q A (n - 8) (c - 8)) (by simp [results, Tryd.results27, go_sem, opV, e0, e1, e2]) rfl ⟨A, rfl, HPc.out _ ?_, ?_⟩
        all_goals exact bset (bset (bset (bstep (bstep Hb2.out hb3) hb4) (Nat.le_refl _) _ _) (Nat.le_refl _) _ _) (Nat.le_refl _) _ _
    · rw [hpl] at HI HF
      have HV : Hid (form bs = false) := (show _ = _ from by rw [HF.out]; rfl)
      clear hpl
      go_wp2_with (first
        | (go_at_call 33; refine (HI.out _).mono ?_; rintro e W3 ⟨rfl, hb3⟩; have ux0 := below_at hb3 x0; have ux1 := below_at hb3 x1; have ux2 := below_at hb3 x2; have uy0 := below_at hb3 y0; have uy1 := below_at hb3 y1; have uy2 := below_at hb3 y2; have uf0 := (below_fz hb3 y0).trans f0; have uf1 := (below_fz hb3 y1).trans f1; have uf2 := (below_fz hb3 y2).trans f2)
        | fail)
      rw [HV.out]
      have Z4 := put3 ((hb3.block _ (lt_heap HZ.out)).trans HZ.out) (.int .i64 0) (.int .i64 0) (.int .i64 0)
      have e0 := blk_cell Z4 0
      have e1 := blk_cell Z4 1
      have e2 := blk_cell Z4 2
      refine bodyPost_ret (v := opV false s p q A (n - 8) (c - 8)) (by simp [results, Tryd.results27, go_sem, opV, e0, e1, e2]) rfl ⟨A, rfl, HPc.out _ ?_, ?_⟩
      all_goals exact bset (bset (bset (bstep Hb2.out hb3) (Nat.le_refl _) _ _) (Nat.le_refl _) _ _) (Nat.le_refl _) _ _
end
end Go.Proofs.YtmphabgpabbbjaaDoor.Fg
