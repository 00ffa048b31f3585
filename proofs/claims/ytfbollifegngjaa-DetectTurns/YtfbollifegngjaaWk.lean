import Derived.Test.YtfbollifegngjaaWj
namespace Go.Proofs.Ytfbollifegngjaa.Dt
open Go.RowKit
set_option linter.unusedVariables false
set_option maxRecDepth 100000
set_option linter.unusedSimpArgs false
section
variable {D D' : De} {R R' : Rf} {w w' W V : World} {B m : Nat}
set_option maxHeartbeats 400000 in
theorem same_any {a1 a2 : Option Addr} {n c1 c2 : Nat} {xs : List Int} (h1 : RdI w a1 n xs) (h2 : RdI w a2 n xs) (hn : n ≤ 17592186044420) : Calls Try.prog 33 #[.slice a1 n c1, .slice a2 n c2] w fun e w' => e = .returned (.bool true) ∧ Below w.heap.size w w' := by
  have H1 : Hid (RdI w a1 n xs) := h1
  have H2 : Hid (RdI w a2 n xs) := h2
  clear h1 h2
  go_enter Try.func33, Try.ntmps33
  go_wp2
  go_loopw [5] (fun i wr => ∃ k : Nat, k ≤ n ∧ i = .int .i64 k ∧ Below w.heap.size w wr) (fun i _ => n - (intOf i).toNat)
  case atStart => exact ⟨0, Nat.zero_le _, rfl, Below.refl _ _⟩
  case round =>
    obtain ⟨k, hk, rfl, hb⟩ := hrel
    by_cases hlt : k < n
    · obtain ⟨g1, o1, e1, h1⟩ := (H1.out.still hb).at hlt
      obtain ⟨g2, o2, e2, h2⟩ := (H2.out.still hb).at hlt
      have i1 : (0 : Int) ≤ (k : Int) := Int.natCast_nonneg _
      have i2 : (k : Int) < (n : Int) := by omega
      have HB : Hid (Below w.heap.size w wr) := hb
      generalize xs.getD k 0 = x at *
      subst e1 e2
      clear hb
      go_wp2
      refine wp_region_held_drew (S := (fun w' => w'.cell? ⟨g1, o1 + k, none⟩ = some (.int .i64 x) ∧ w'.cell? ⟨g2, o2 + k, none⟩ = some (.int .i64 x))) (by kernel_rfl) ⟨cell_drew h1, cell_drew h2⟩ (fun hHeld => ?_)
      simp only [Act.put, List.size_toArray, List.length_cons, List.length_nil, Nat.zero_add]
      refine wpAnyH_take (i := 0) (v := .slice (some ⟨g1, o1, none⟩) n c1) rfl (by kernel_rfl) (by kernel_rfl) (by kernel_rfl) (fun _ _ _ h => h) (Or.inl ⟨by rfl, fun w' hS => by go_simp⟩) hHeld ?_
      simp only [Act.put, List.getElem_toArray, List.getElem_cons_zero, List.getElem_cons_succ, List.setIfInBounds_toArray, List.set_cons_zero, List.set_cons_succ]
      refine wpAnyH_take (i := 1) (v := .int .i64 (k : Int)) rfl (by kernel_rfl) (by kernel_rfl) (by kernel_rfl) (fun _ _ _ h => h) (Or.inl ⟨by rfl, fun w' hS => by go_simp⟩) hHeld ?_
      simp only [Act.put, List.getElem_toArray, List.getElem_cons_zero, List.getElem_cons_succ, List.setIfInBounds_toArray, List.set_cons_zero, List.set_cons_succ]
      refine wpAnyH_take (i := 2) (v := .pointer (some ⟨g1, o1 + k, none⟩)) rfl (by kernel_rfl) (by kernel_rfl) (by kernel_rfl) (fun _ _ _ h => h) (Or.inl ⟨by rfl, fun w' hS => by go_simp⟩) hHeld ?_
      simp only [Act.put, List.getElem_toArray, List.getElem_cons_zero, List.getElem_cons_succ, List.setIfInBounds_toArray, List.set_cons_zero, List.set_cons_succ]
      refine wpAnyH_take (i := 3) (v := .int .i64 x) rfl (by kernel_rfl) (by kernel_rfl) (by kernel_rfl) (fun _ _ _ h => h) (Or.inl ⟨by rfl, fun w' hS => by (obtain ⟨s0, s1⟩ := hS; go_simp)⟩) hHeld ?_
      simp only [Act.put, List.getElem_toArray, List.getElem_cons_zero, List.getElem_cons_succ, List.setIfInBounds_toArray, List.set_cons_zero, List.set_cons_succ]
      refine wpAnyH_take (i := 4) (v := .slice (some ⟨g2, o2, none⟩) n c2) rfl (by kernel_rfl) (by kernel_rfl) (by kernel_rfl) (fun _ _ _ h => h) (Or.inl ⟨by rfl, fun w' hS => by go_simp⟩) hHeld ?_
      simp only [Act.put, List.getElem_toArray, List.getElem_cons_zero, List.getElem_cons_succ, List.setIfInBounds_toArray, List.set_cons_zero, List.set_cons_succ]
      refine wpAnyH_take (i := 5) (v := .int .i64 (k : Int)) rfl (by kernel_rfl) (by kernel_rfl) (by kernel_rfl) (fun _ _ _ h => h) (Or.inl ⟨by rfl, fun w' hS => by go_simp⟩) hHeld ?_
      simp only [Act.put, List.getElem_toArray, List.getElem_cons_zero, List.getElem_cons_succ, List.setIfInBounds_toArray, List.set_cons_zero, List.set_cons_succ]
      refine wpAnyH_take (i := 6) (v := .pointer (some ⟨g2, o2 + k, none⟩)) rfl (by kernel_rfl) (by kernel_rfl) (by kernel_rfl) (fun _ _ _ h => h) (Or.inl ⟨by rfl, fun w' hS => by go_simp⟩) hHeld ?_
      simp only [Act.put, List.getElem_toArray, List.getElem_cons_zero, List.getElem_cons_succ, List.setIfInBounds_toArray, List.set_cons_zero, List.set_cons_succ]
      refine wpAnyH_take (i := 7) (v := .int .i64 x) rfl (by kernel_rfl) (by kernel_rfl) (by kernel_rfl) (fun _ _ _ h => h) (Or.inl ⟨by rfl, fun w' hS => by (obtain ⟨s0, s1⟩ := hS; go_simp)⟩) hHeld ?_
      simp only [Act.put, List.getElem_toArray, List.getElem_cons_zero, List.getElem_cons_succ, List.setIfInBounds_toArray, List.set_cons_zero, List.set_cons_succ]
      refine wpAnyH_take (i := 8) (v := .bool false) rfl (by kernel_rfl) (by kernel_rfl) (by kernel_rfl) (fun _ _ _ h => h) (Or.inl ⟨by rfl, fun w' hS => by go_simp⟩) hHeld ?_
      simp only [Act.put, List.getElem_toArray, List.getElem_cons_zero, List.getElem_cons_succ, List.setIfInBounds_toArray, List.set_cons_zero, List.set_cons_succ]
      refine wpAnyH_done (by kernel_rfl) ?_ _
      clear hHeld
      go_wp2
      exact ⟨⟨k + 1, by omega, by go_num, HB.out.drew⟩, by simp [intOf]; omega⟩
    · obtain rfl : k = n := by omega
      go_wp2
      go_ret
      exact ⟨rfl, hb⟩
def Two (w : World) (v1 v2 : Value) : Prop := ∃ a1 a2 n c1 c2 xs, v1 = .slice a1 n c1 ∧ v2 = .slice a2 n c2 ∧ RdI w a1 n xs ∧ RdI w a2 n xs ∧ n ≤ 17
theorem Two.of {B1 B2 : Nat} {v1 v2 : Value} {xs : List Int} (h1 : w.ownsRow B1 3 1 v1 xs.length (ints xs)) (h2 : w.ownsRow B2 3 1 v2 xs.length (ints xs)) (hn : xs.length ≤ 17) : Two w v1 v2 := by
  obtain ⟨a1, c1, rfl⟩ := own_slice0 h1
  obtain ⟨a2, c2, rfl⟩ := own_slice0 h2
  exact ⟨a1, a2, _, c1, c2, xs, rfl, rfl, own_rd h1, own_rd h2, hn⟩

set_option maxHeartbeats 400000 in
theorem list_hears (h : Du D R w B m) (hm : m ≤ 2513169434917) : Calls Try.prog 35 #[.pointer (some ⟨D.b, 0, none⟩), .pointer (some ⟨R.b, 0, none⟩), .int .i64 5] w fun e w' => ∃ v1 v2, e = .returned (.tuple #[v1, v2]) ∧ Two w' v1 v2 ∧ Below w.heap.size w w' := by
  have hlen := h.len
  have h16 := h.r.num
  have heq := h.sim.hears (h.sim.deaf h.r)
  have H1 := hears_any h.d
  have H2 : Hid (∀ w', Below w.heap.size w w' → Calls Try.prog 46 #[.pointer (some ⟨R.b, 0, none⟩)] w' fun e w2 => ∃ v, e = .returned v ∧ w2.ownsRow w'.heap.size 3 1 v (R.hears R.n).length (ints (R.hears R.n)) ∧ Below w'.heap.size w' w2) := fun w' hb => rhears_any (h.r.still hb) (by omega)
  have Hdn : Hid (D.n = R.n) := h.sim.n
  clear h
  go_enter Try.func35, Try.ntmps35
  go_wp2_with (fail)
  refine H1.mono ?_
  rintro e w1 ⟨v1, rfl, g1, rfl, hg1, ho1, hb1⟩
  have B1 : Hid (Below w.heap.size w w1) := hb1
  go_wp2_with (fail)
  refine (H2.out _ B1.out).mono ?_
  rintro e w2 ⟨v2, rfl, ho2, hb2⟩
  have Hfin : Hid (Two w2 (.slice (some ⟨g1, 0, none⟩) D.n D.n) v2 ∧ Below w.heap.size w w2) := by
    rw [heq] at ho1
    refine ⟨Two.of (xs := R.hears R.n) (by have := ((ho1.still hb2).own (B := 0) (n := R.n) (Nat.zero_le _) (by simp [Rf.hears]) (by unfold maxLen; omega)); simpa [Rf.hears, Hdn.out] using this) ho2 ?_, bstep B1.out hb2⟩
    simp [Rf.hears]; omega
  clear ho2 hb2 ho1 hb1
  go_wp2
  go_ret2
  exact ⟨_, _, rfl, Hfin.out.1, Hfin.out.2⟩

set_option maxHeartbeats 400000 in
theorem list_ests (h : Du D R w B m) (hm : m ≤ 2513169434917) : Calls Try.prog 35 #[.pointer (some ⟨D.b, 0, none⟩), .pointer (some ⟨R.b, 0, none⟩), .int .i64 6] w fun e w' => ∃ v1 v2, e = .returned (.tuple #[v1, v2]) ∧ Two w' v1 v2 ∧ Below w.heap.size w w' := by
  have hlen := h.len
  have h16 := h.r.num
  have heq := h.sim.ests
  have H1 := est_any h.d
  have H2 : Hid (∀ w', Below w.heap.size w w' → Calls Try.prog 47 #[.pointer (some ⟨R.b, 0, none⟩)] w' fun e w2 => ∃ v, e = .returned v ∧ w2.ownsRow w'.heap.size 3 1 v (R.ests R.n).length (ints (R.ests R.n)) ∧ Below w'.heap.size w' w2) := fun w' hb => rests_any (h.r.still hb) (by omega)
  have Hdn : Hid (D.n = R.n) := h.sim.n
  clear h
  go_enter Try.func35, Try.ntmps35
  go_wp2_with (fail)
  refine H1.mono ?_
  rintro e w1 ⟨v1, rfl, g1, rfl, hg1, ho1, hb1⟩
  have B1 : Hid (Below w.heap.size w w1) := hb1
  go_wp2_with (fail)
  refine (H2.out _ B1.out).mono ?_
  rintro e w2 ⟨v2, rfl, ho2, hb2⟩
  have Hfin : Hid (Two w2 (.slice (some ⟨g1, 0, none⟩) D.n D.n) v2 ∧ Below w.heap.size w w2) := by
    rw [heq] at ho1
    refine ⟨Two.of (xs := R.ests R.n) (by have := ((ho1.still hb2).own (B := 0) (n := R.n) (Nat.zero_le _) (by simp [Rf.ests]) (by unfold maxLen; omega)); simpa [Rf.ests, Hdn.out] using this) ho2 ?_, bstep B1.out hb2⟩
    simp [Rf.ests]; omega
  clear ho2 hb2 ho1 hb1
  go_wp2
  go_ret2
  exact ⟨_, _, rfl, Hfin.out.1, Hfin.out.2⟩

set_option maxHeartbeats 400000 in
theorem list_sus (h : Du D R w B m) (hm : m ≤ 2513169434917) : Calls Try.prog 35 #[.pointer (some ⟨D.b, 0, none⟩), .pointer (some ⟨R.b, 0, none⟩), .int .i64 7] w fun e w' => ∃ v1 v2, e = .returned (.tuple #[v1, v2]) ∧ Two w' v1 v2 ∧ Below w.heap.size w w' := by
  have hlen := h.len
  have h16 := h.r.num
  have heq := h.sim.sus h.d
  have H1 := sus_any h.d
  have H2 : Hid (∀ w', Below w.heap.size w w' → Calls Try.prog 49 #[.pointer (some ⟨R.b, 0, none⟩)] w' fun e w2 => ∃ v, e = .returned v ∧ w2.ownsRow w'.heap.size 3 1 v (R.sus R.n).length (ints (R.sus R.n)) ∧ Below w'.heap.size w' w2) := fun w' hb => rsus_any (h.r.still hb) (by omega)
  have Hdn : Hid (D.n = R.n) := h.sim.n
  clear h
  go_enter Try.func35, Try.ntmps35
  go_wp2_with (fail)
  refine H1.mono ?_
  rintro e w1 ⟨v1, rfl, ho1, hb1⟩
  have B1 : Hid (Below w.heap.size w w1) := hb1
  go_wp2_with (fail)
  refine (H2.out _ B1.out).mono ?_
  rintro e w2 ⟨v2, rfl, ho2, hb2⟩
  have Hfin : Hid (Two w2 v1 v2 ∧ Below w.heap.size w w2) := by
    rw [heq] at ho1
    refine ⟨Two.of (own_still ho1 hb2) ho2 ?_, bstep B1.out hb2⟩
    unfold Rf.sus; rw [List.length_map]; exact Nat.le_trans (List.length_filter_le _ _) (by simp; omega)
  clear ho2 hb2 ho1 hb1
  go_wp2
  go_ret2
  exact ⟨_, _, rfl, Hfin.out.1, Hfin.out.2⟩

set_option maxHeartbeats 400000 in
theorem list_none (k : Int) (h4 : ¬ k = 4) (h5 : ¬ k = 5) (h6 : ¬ k = 6) (h7 : ¬ k = 7) (a b : Value) : Calls Try.prog 35 #[a, b, .int .i64 k] w fun e w' => ∃ v1 v2, e = .returned (.tuple #[v1, v2]) ∧ Two w' v1 v2 ∧ Below w.heap.size w w' := by
  have t4 : (k == 4) = false := by simp [h4]
  have t5 : (k == 5) = false := by simp [h5]
  have t6 : (k == 6) = false := by simp [h6]
  have t7 : (k == 7) = false := by simp [h7]
  go_enter Try.func35, Try.ntmps35
  go_wp2
  go_ret2
  exact ⟨_, _, rfl, ⟨none, none, 0, 0, 0, [], rfl, rfl, ⟨rfl, .inl rfl⟩, ⟨rfl, .inl rfl⟩, by omega⟩, Below.refl _ _⟩
end
end Go.Proofs.Ytfbollifegngjaa.Dt
