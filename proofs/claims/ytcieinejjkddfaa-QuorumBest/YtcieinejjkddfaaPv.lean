import Derived.Test.YtcieinejjkddfaaPp
namespace Go.Proofs.Ytcieinejjkddfaa.Qm
open Go.RowKit Mb
set_option linter.unusedVariables false
set_option maxRecDepth 100000
set_option linter.unusedSimpArgs false
structure St where
  p : Int
  e : Int
  l : Int
def z3 : St := ⟨0, 0, 0⟩
def St.li (a : St) : List Int := [a.p, a.e, a.l]
theorem St.li_len (a : St) : a.li.length = 3 := rfl
section
variable {w w' : World} {B : Nat}
structure Rd3 (w : World) (ao : Option Addr) (n c : Nat) (ts : List St) : Prop where
  len : ts.length = n
  cap : n ≤ c
  nil : ao = none → c = 0
  at_ : n = 0 ∨ ∃ b off, ao = some ⟨b, off, none⟩ ∧ ∀ i, i < n → w.rangeAt b (off + i * 3) (ints (ts.getD i z3).li)
theorem below_range {b o : Nat} {cs : List Value} (hb : Below w.heap.size w w') (hc : w.rangeAt b o cs) : w'.rangeAt b o cs := fun j v hv => below_at hb (hc j v hv)
theorem Rd3.still {ao : Option Addr} {n c : Nat} {ts : List St} (h : Rd3 w ao n c ts) (hb : Below w.heap.size w w') : Rd3 w' ao n c ts :=
  ⟨h.len, h.cap, h.nil, h.at_.elim (fun hh => .inl hh) (fun ⟨b, off, e, hc⟩ => .inr ⟨b, off, e, fun i hi => below_range hb (hc i hi)⟩)⟩
theorem Rd3.at {ao : Option Addr} {n c : Nat} {ts : List St} (h : Rd3 w ao n c ts) {i : Nat} (hi : i < n) : ∃ b off, ao = some ⟨b, off, none⟩ ∧ w.rangeAt b (off + i * 3) (ints (ts.getD i z3).li) := by
  rcases h.at_ with h3 | ⟨b, off, h4, h5⟩
  · omega
  · exact ⟨b, off, h4, h5 i hi⟩
theorem nan_any (x : Int) : Calls Try.prog 54 #[.int .i64 x] w fun e w' => e = .returned (.bool false) ∧ w = w' := by
  go_enter Try.func54, Try.ntmps54
  go_wp2
  go_ret
  exact ⟨by simp, rfl⟩
def cmpI (x y : Int) : Int := if x < y then -1 else if y < x then 1 else 0
set_option maxHeartbeats 1000000 in
theorem cmp_any (x y : Int) : Calls Try.prog 46 #[.int .i64 x, .int .i64 y] w fun e w' => e = .returned (.int .i64 (cmpI x y)) ∧ w = w' := by
  unfold cmpI
  by_cases h1 : x < y
  · rw [if_pos h1]
    go_enter Try.func46, Try.ntmps46
    go_wp2_with (first
      | (go_at_call 54; refine (nan_any _).mono ?_; rintro e w' ⟨rfl, rfl⟩)
      | fail)
    go_ret
    exact ⟨rfl, rfl⟩
  · rw [if_neg h1]
    by_cases h2 : y < x
    · rw [if_pos h2]
      go_enter Try.func46, Try.ntmps46
      go_wp2_with (first
        | (go_at_call 54; refine (nan_any _).mono ?_; rintro e w' ⟨rfl, rfl⟩)
        | fail)
      go_ret
      exact ⟨rfl, rfl⟩
    · rw [if_neg h2]
      go_enter Try.func46, Try.ntmps46
      go_wp2_with (first
        | (go_at_call 54; refine (nan_any _).mono ?_; rintro e w' ⟨rfl, rfl⟩)
        | fail)
      go_ret
      exact ⟨rfl, rfl⟩
def orI (x y z : Int) : Int := if x ≠ 0 then x else if y ≠ 0 then y else z
theorem blk_three {W : World} (x y z : Int) : Rw (W.alloc (.cells #[.int .i64 x, .int .i64 y, .int .i64 z] 3)) W.heap.size 3 [x, y, z] := heap_alloc_new W _
set_option maxHeartbeats 1000000 in
theorem or_any {g : Nat} {x y z : Int} (h : Rw w g 3 [x, y, z]) : Calls Try.prog 45 #[.slice (some ⟨g, 0, none⟩) 3 3] w fun e w' => e = .returned (.int .i64 (orI x y z)) ∧ w = w' := by
  have c0 : w.cell? ⟨g, 0, none⟩ = some (.int .i64 x) := h.cell (i := 0) (by simp)
  have c1 : w.cell? ⟨g, 1, none⟩ = some (.int .i64 y) := h.cell (i := 1) (by simp)
  have c2 : w.cell? ⟨g, 2, none⟩ = some (.int .i64 z) := h.cell (i := 2) (by simp)
  clear h
  obtain ⟨rr, hrr⟩ : ∃ rr, rr = orI x y z := ⟨_, rfl⟩
  have HRR : Hid (rr = (if x ≠ 0 then x else if y ≠ 0 then y else z)) := hrr
  rw [← hrr]
  clear hrr
  go_enter Try.func45, Try.ntmps45
  go_wp2
  go_loop [8] (fun i => ∃ k : Nat, k ≤ 3 ∧ i = .int .i64 (k : Int) ∧ Hid ((0 < k → x = 0) ∧ (1 < k → y = 0) ∧ (2 < k → z = 0))) (fun i => 3 - (intOf i).toNat)
  case atStart => exact ⟨0, by omega, rfl, by omega, by omega, by omega⟩
  case round =>
    obtain ⟨k, hk, rfl, HT⟩ := hrel
    by_cases hlt : k < 3
    · have hc : w.cell? ⟨g, k, none⟩ = some (.int .i64 (if k = 0 then x else if k = 1 then y else z)) := by
        match k, hlt with
        | 0, _ => exact c0
        | 1, _ => exact c1
        | 2, _ => exact c2
      obtain ⟨u, hu⟩ : ∃ u, u = (if k = 0 then x else if k = 1 then y else z) := ⟨_, rfl⟩
      rw [← hu] at hc
      have HU : Hid (u = (if k = 0 then x else if k = 1 then y else z)) := hu
      clear hu c0 c1 c2
      have i1 : (0 : Int) ≤ (k : Int) := Int.natCast_nonneg _
      have i2 : (k : Int) < 3 := by omega
      by_cases h0 : u = 0
      · have HN : Hid ((0 < k + 1 → x = 0) ∧ (1 < k + 1 → y = 0) ∧ (2 < k + 1 → z = 0)) := by
          have := HU.out
          have h3 := HT.out
          match k, hlt with
          | 0, _ => simp at this; exact ⟨fun _ => by omega, by omega, by omega⟩
          | 1, _ => simp at this; exact ⟨fun _ => h3.1 (by omega), fun _ => by omega, by omega⟩
          | 2, _ => simp at this; exact ⟨fun _ => h3.1 (by omega), fun _ => h3.2.1 (by omega), fun _ => by omega⟩
        subst h0
        go_wp2
        go_round
        case rel => exact ⟨k + 1, by omega, by go_num, HN⟩
        case measure => simp [intOf]; omega
      · have HF : Hid (u = rr) := by
          show u = rr
          rw [HRR.out]
          have := HU.out
          have h3 := HT.out
          match k, hlt with
          | 0, _ => simp at this; rw [if_pos (by omega)]; exact this
          | 1, _ => simp at this; rw [if_neg (by have := h3.1 (by omega); omega), if_pos (by omega)]; exact this
          | 2, _ => simp at this; rw [if_neg (by have := h3.1 (by omega); omega), if_neg (by have := h3.2.1 (by omega); omega)]; exact this
        have h0b : (u == 0) = false := by rw [beq_eq_false_iff_ne]; exact h0
        go_wp2
        go_ret
        exact ⟨ret_int HF.out, rfl⟩
    · obtain rfl : k = 3 := by omega
      have HF : Hid (rr = 0) := by
        have h3 := HT.out
        show rr = 0
        rw [HRR.out]
        rw [if_neg (by have := h3.1 (by omega); omega), if_neg (by have := h3.2.1 (by omega); omega)]
        exact h3.2.2 (by omega)
      go_wp2
      go_ret
      exact ⟨ret_int HF.out.symm, rfl⟩
def gofar (a b : St) : Bool := decide (0 < orI (cmpI a.e b.e) (cmpI a.l b.l) (cmpI b.p a.p))
def furt (a b : St) : Bool := if a.e ≠ b.e then decide (b.e < a.e) else if a.l ≠ b.l then decide (b.l < a.l) else decide (a.p < b.p)
theorem gofar_eq (a b : St) : gofar a b = furt a b := by
  unfold gofar furt orI cmpI
  rw [Bool.eq_iff_iff]
  by_cases h1 : a.e < b.e
  · simp [h1, show a.e ≠ b.e by omega]; omega
  · by_cases h2 : b.e < a.e
    · simp [h1, h2, show a.e ≠ b.e by omega]
    · have h3 : a.e = b.e := by omega
      by_cases h4 : a.l < b.l
      · simp [h3, h4, show a.l ≠ b.l by omega]; omega
      · by_cases h5 : b.l < a.l
        · simp [h3, h4, h5, show a.l ≠ b.l by omega]
        · have h6 : a.l = b.l := by omega
          simp [h3, h6]
          by_cases h7 : b.p < a.p
          · simp [h7]; omega
          · by_cases h8 : a.p < b.p
            · simp [h7, h8]
            · simp [h7, h8]
set_option maxHeartbeats 2000000 in
theorem gofar_any (a b : St) : Calls Try.prog 26 #[.agg #[.int .i64 a.p, .int .i64 a.e, .int .i64 a.l], .agg #[.int .i64 b.p, .int .i64 b.e, .int .i64 b.l]] w fun e w' => e = .returned (.bool (gofar a b)) ∧ Below w.heap.size w w' := by
  generalize hW1 : w.alloc (.cells #[.int .i64 a.p, .int .i64 a.e, .int .i64 a.l] 30) = W1
  generalize hW2 : W1.alloc (.cells #[.int .i64 b.p, .int .i64 b.e, .int .i64 b.l] 30) = W2
  have b1 : Below w.heap.size w W1 := hW1 ▸ balloc (Below.refl _ _)
  have b2 : Below W1.heap.size W1 W2 := hW2 ▸ balloc (Below.refl _ _)
  have s1 : W1.heap.size = w.heap.size + 1 := by rw [← hW1]; simp
  have k1 : W1.heap[w.heap.size]? = some (.cells #[.int .i64 a.p, .int .i64 a.e, .int .i64 a.l] 30 (0, 0)) := by rw [← hW1]; exact heap_alloc_new w _
  have k2 : W2.heap[W1.heap.size]? = some (.cells #[.int .i64 b.p, .int .i64 b.e, .int .i64 b.l] 30 (0, 0)) := by rw [← hW2]; exact heap_alloc_new W1 _
  rw [s1] at k2
  have q0 : W2.cell? ⟨w.heap.size, 0, none⟩ = some (.int .i64 a.p) := below_at b2 (blk_cell k1 0)
  have q1 : W2.cell? ⟨w.heap.size, 1, none⟩ = some (.int .i64 a.e) := below_at b2 (blk_cell k1 1)
  have q2 : W2.cell? ⟨w.heap.size, 2, none⟩ = some (.int .i64 a.l) := below_at b2 (blk_cell k1 2)
  have q3 : W2.cell? ⟨w.heap.size + 1, 0, none⟩ = some (.int .i64 b.p) := blk_cell k2 0
  have q4 : W2.cell? ⟨w.heap.size + 1, 1, none⟩ = some (.int .i64 b.e) := blk_cell k2 1
  have q5 : W2.cell? ⟨w.heap.size + 1, 2, none⟩ = some (.int .i64 b.l) := blk_cell k2 2
  have HB : Hid (Below w.heap.size w W2) := bstep b1 b2
  clear b1 b2 k1 k2
  go_enter Try.func26, Try.ntmps26
  go_wp2_with (fail)
  clear s1
  refine wp_region_held_drew (S := (fun w' => w'.cell? ⟨w.heap.size, 0, none⟩ = some (.int .i64 a.p) ∧ w'.cell? ⟨w.heap.size, 1, none⟩ = some (.int .i64 a.e) ∧ w'.cell? ⟨w.heap.size, 2, none⟩ = some (.int .i64 a.l) ∧ w'.cell? ⟨w.heap.size + 1, 0, none⟩ = some (.int .i64 b.p) ∧ w'.cell? ⟨w.heap.size + 1, 1, none⟩ = some (.int .i64 b.e) ∧ w'.cell? ⟨w.heap.size + 1, 2, none⟩ = some (.int .i64 b.l))) (by kernel_rfl) ⟨below_at (Below.refl _ _).drew q0, below_at (Below.refl _ _).drew q1, below_at (Below.refl _ _).drew q2, below_at (Below.refl _ _).drew q3, below_at (Below.refl _ _).drew q4, below_at (Below.refl _ _).drew q5⟩ (fun hHeld => ?_)
  simp only [Act.put, List.size_toArray, List.length_cons, List.length_nil, Nat.zero_add]
  refine wpAnyH_take (i := 0) (v := .pointer (some ⟨w.heap.size, 1, none⟩)) rfl (by kernel_rfl) (by kernel_rfl) (by kernel_rfl) (fun _ _ _ h => h) (Or.inl ⟨by rfl, fun w' hS => by go_simp⟩) hHeld ?_
  simp only [Act.put, List.getElem_toArray, List.getElem_cons_zero, List.getElem_cons_succ, List.setIfInBounds_toArray, List.set_cons_zero, List.set_cons_succ]
  refine wpAnyH_take (i := 1) (v := .int .i64 a.e) rfl (by kernel_rfl) (by kernel_rfl) (by kernel_rfl) (fun _ _ _ h => h) (Or.inl ⟨by rfl, fun w' hS => by (obtain ⟨s0, s1, s2, s3, s4, s5⟩ := hS; go_simp)⟩) hHeld ?_
  simp only [Act.put, List.getElem_toArray, List.getElem_cons_zero, List.getElem_cons_succ, List.setIfInBounds_toArray, List.set_cons_zero, List.set_cons_succ]
  refine wpAnyH_take (i := 2) (v := .pointer (some ⟨w.heap.size + 1, 1, none⟩)) rfl (by kernel_rfl) (by kernel_rfl) (by kernel_rfl) (fun _ _ _ h => h) (Or.inl ⟨by rfl, fun w' hS => by go_simp⟩) hHeld ?_
  simp only [Act.put, List.getElem_toArray, List.getElem_cons_zero, List.getElem_cons_succ, List.setIfInBounds_toArray, List.set_cons_zero, List.set_cons_succ]
  refine wpAnyH_take (i := 3) (v := .int .i64 b.e) rfl (by kernel_rfl) (by kernel_rfl) (by kernel_rfl) (fun _ _ _ h => h) (Or.inl ⟨by rfl, fun w' hS => by (obtain ⟨s0, s1, s2, s3, s4, s5⟩ := hS; go_simp)⟩) hHeld ?_
  simp only [Act.put, List.getElem_toArray, List.getElem_cons_zero, List.getElem_cons_succ, List.setIfInBounds_toArray, List.set_cons_zero, List.set_cons_succ]
  refine wpAnyH_take (i := 5) (v := .pointer (some ⟨w.heap.size, 2, none⟩)) rfl (by kernel_rfl) (by kernel_rfl) (by kernel_rfl) (fun _ _ _ h => h) (Or.inl ⟨by rfl, fun w' hS => by go_simp⟩) hHeld ?_
  simp only [Act.put, List.getElem_toArray, List.getElem_cons_zero, List.getElem_cons_succ, List.setIfInBounds_toArray, List.set_cons_zero, List.set_cons_succ]
  refine wpAnyH_take (i := 6) (v := .int .i64 a.l) rfl (by kernel_rfl) (by kernel_rfl) (by kernel_rfl) (fun _ _ _ h => h) (Or.inl ⟨by rfl, fun w' hS => by (obtain ⟨s0, s1, s2, s3, s4, s5⟩ := hS; go_simp)⟩) hHeld ?_
  simp only [Act.put, List.getElem_toArray, List.getElem_cons_zero, List.getElem_cons_succ, List.setIfInBounds_toArray, List.set_cons_zero, List.set_cons_succ]
  refine wpAnyH_take (i := 7) (v := .pointer (some ⟨w.heap.size + 1, 2, none⟩)) rfl (by kernel_rfl) (by kernel_rfl) (by kernel_rfl) (fun _ _ _ h => h) (Or.inl ⟨by rfl, fun w' hS => by go_simp⟩) hHeld ?_
  simp only [Act.put, List.getElem_toArray, List.getElem_cons_zero, List.getElem_cons_succ, List.setIfInBounds_toArray, List.set_cons_zero, List.set_cons_succ]
  refine wpAnyH_take (i := 8) (v := .int .i64 b.l) rfl (by kernel_rfl) (by kernel_rfl) (by kernel_rfl) (fun _ _ _ h => h) (Or.inl ⟨by rfl, fun w' hS => by (obtain ⟨s0, s1, s2, s3, s4, s5⟩ := hS; go_simp)⟩) hHeld ?_
  simp only [Act.put, List.getElem_toArray, List.getElem_cons_zero, List.getElem_cons_succ, List.setIfInBounds_toArray, List.set_cons_zero, List.set_cons_succ]
  refine wpAnyH_take (i := 10) (v := .pointer (some ⟨w.heap.size + 1, 0, none⟩)) rfl (by kernel_rfl) (by kernel_rfl) (by kernel_rfl) (fun _ _ _ h => h) (Or.inl ⟨by rfl, fun w' hS => by go_simp⟩) hHeld ?_
  simp only [Act.put, List.getElem_toArray, List.getElem_cons_zero, List.getElem_cons_succ, List.setIfInBounds_toArray, List.set_cons_zero, List.set_cons_succ]
  refine wpAnyH_take (i := 11) (v := .int .i64 b.p) rfl (by kernel_rfl) (by kernel_rfl) (by kernel_rfl) (fun _ _ _ h => h) (Or.inl ⟨by rfl, fun w' hS => by (obtain ⟨s0, s1, s2, s3, s4, s5⟩ := hS; go_simp)⟩) hHeld ?_
  simp only [Act.put, List.getElem_toArray, List.getElem_cons_zero, List.getElem_cons_succ, List.setIfInBounds_toArray, List.set_cons_zero, List.set_cons_succ]
  refine wpAnyH_take (i := 12) (v := .pointer (some ⟨w.heap.size, 0, none⟩)) rfl (by kernel_rfl) (by kernel_rfl) (by kernel_rfl) (fun _ _ _ h => h) (Or.inl ⟨by rfl, fun w' hS => by go_simp⟩) hHeld ?_
  simp only [Act.put, List.getElem_toArray, List.getElem_cons_zero, List.getElem_cons_succ, List.setIfInBounds_toArray, List.set_cons_zero, List.set_cons_succ]
  refine wpAnyH_take (i := 13) (v := .int .i64 a.p) rfl (by kernel_rfl) (by kernel_rfl) (by kernel_rfl) (fun _ _ _ h => h) (Or.inl ⟨by rfl, fun w' hS => by (obtain ⟨s0, s1, s2, s3, s4, s5⟩ := hS; go_simp)⟩) hHeld ?_
  simp only [Act.put, List.getElem_toArray, List.getElem_cons_zero, List.getElem_cons_succ, List.setIfInBounds_toArray, List.set_cons_zero, List.set_cons_succ]
  refine wpAnyH_ready (rs := [4]) (by kernel_rfl) (by simp) ?_
  refine AllReadyH.cons rfl (fun K hK => ?_) AllReadyH.nil
  go_simp
  refine (cmp_any a.e b.e).mono ?_
  rintro e w2 ⟨rfl, rfl⟩
  refine hK.out _ _ ⟨below_at (Below.refl _ _).drew q0, below_at (Below.refl _ _).drew q1, below_at (Below.refl _ _).drew q2, below_at (Below.refl _ _).drew q3, below_at (Below.refl _ _).drew q4, below_at (Below.refl _ _).drew q5⟩ (fun hHeld => ?_)
  clear hK K
  refine wpAnyH_ready (rs := [9]) (by kernel_rfl) (by simp) ?_
  refine AllReadyH.cons rfl (fun K hK => ?_) AllReadyH.nil
  go_simp
  refine (cmp_any a.l b.l).mono ?_
  rintro e w2 ⟨rfl, rfl⟩
  refine hK.out _ _ ⟨below_at (Below.refl _ _).drew q0, below_at (Below.refl _ _).drew q1, below_at (Below.refl _ _).drew q2, below_at (Below.refl _ _).drew q3, below_at (Below.refl _ _).drew q4, below_at (Below.refl _ _).drew q5⟩ (fun hHeld => ?_)
  clear hK K
  refine wpAnyH_ready (rs := [14]) (by kernel_rfl) (by simp) ?_
  refine AllReadyH.cons rfl (fun K hK => ?_) AllReadyH.nil
  go_simp
  refine (cmp_any b.p a.p).mono ?_
  rintro e w2 ⟨rfl, rfl⟩
  refine hK.out _ _ ⟨below_at (Below.refl _ _).drew q0, below_at (Below.refl _ _).drew q1, below_at (Below.refl _ _).drew q2, below_at (Below.refl _ _).drew q3, below_at (Below.refl _ _).drew q4, below_at (Below.refl _ _).drew q5⟩ (fun hHeld => ?_)
  clear hK K
  refine wpAnyH_ready (rs := [15]) (by kernel_rfl) (by simp) ?_
  refine AllReadyH.cons rfl (fun K hK => ?_) AllReadyH.nil
  go_simp
  refine hK.out _ _ ⟨below_at (balloc (Below.refl _ _)) (below_at (Below.refl _ _).drew q0), below_at (balloc (Below.refl _ _)) (below_at (Below.refl _ _).drew q1), below_at (balloc (Below.refl _ _)) (below_at (Below.refl _ _).drew q2), below_at (balloc (Below.refl _ _)) (below_at (Below.refl _ _).drew q3), below_at (balloc (Below.refl _ _)) (below_at (Below.refl _ _).drew q4), below_at (balloc (Below.refl _ _)) (below_at (Below.refl _ _).drew q5)⟩ (fun hHeld => ?_)
  clear hK K
  refine wpAnyH_ready (rs := [16]) (by kernel_rfl) (by simp) ?_
  refine AllReadyH.cons rfl (fun K hK => ?_) AllReadyH.nil
  go_simp
  refine (or_any (blk_three (W := W2.drew) (cmpI a.e b.e) (cmpI a.l b.l) (cmpI b.p a.p))).mono ?_
  rintro e w3 ⟨rfl, rfl⟩
  refine hK.out _ _ ⟨below_at (balloc (Below.refl _ _)) (below_at (Below.refl _ _).drew q0), below_at (balloc (Below.refl _ _)) (below_at (Below.refl _ _).drew q1), below_at (balloc (Below.refl _ _)) (below_at (Below.refl _ _).drew q2), below_at (balloc (Below.refl _ _)) (below_at (Below.refl _ _).drew q3), below_at (balloc (Below.refl _ _)) (below_at (Below.refl _ _).drew q4), below_at (balloc (Below.refl _ _)) (below_at (Below.refl _ _).drew q5)⟩ (fun hHeld => ?_)
  clear hK K
  refine wpAnyH_take (i := 17) (v := .bool (gofar a b)) rfl (by kernel_rfl) (by kernel_rfl) (by kernel_rfl) (fun _ _ _ h => h) (Or.inl ⟨by rfl, fun w' hS => by (go_simp; rfl)⟩) hHeld ?_
  simp only [Act.put, List.getElem_toArray, List.getElem_cons_zero, List.getElem_cons_succ, List.setIfInBounds_toArray, List.set_cons_zero, List.set_cons_succ]
  refine wpAnyH_take (i := 18) (v := .bool (gofar a b)) rfl (by kernel_rfl) (by kernel_rfl) (by kernel_rfl) (fun _ _ _ h => h) (Or.inl ⟨by rfl, fun w' hS => by go_simp⟩) hHeld ?_
  simp only [Act.put, List.getElem_toArray, List.getElem_cons_zero, List.getElem_cons_succ, List.setIfInBounds_toArray, List.set_cons_zero, List.set_cons_succ]
  refine wpAnyH_done (by kernel_rfl) ?_ _
  clear hHeld
  go_wp2
  go_ret
  exact ⟨rfl, bstep HB.out (bstep (Below.refl _ _).drew (balloc (Below.refl _ _)))⟩
end
end Go.Proofs.Ytcieinejjkddfaa.Qm
