import Derived.Test.YtjnbkkmagceggaaVr
namespace Go.Proofs.Ytjnbkkmagceggaa.Dt
open Go.RowKit
set_option linter.unusedVariables false
set_option maxRecDepth 100000
set_option linter.unusedSimpArgs false
section
variable {D D' : De} {w w' W V : World} {B m : Nat}
set_option maxHeartbeats 1000000 in
theorem holds_any {ao : Option Addr} {n c : Nat} {xs : List Int} (hr : RdI w ao n xs) (hn : n ≤ 17592186044416) (v : Int) : Calls Try.prog 26 #[.slice ao n c, .int .i64 v] w fun e w' => e = .returned (.bool (decide (v ∈ xs))) ∧ w = w' := by
  have HR : Hid (RdI w ao n xs) := hr
  have hl := hr.1
  clear hr
  go_enter Try.func26, Try.ntmps26
  go_wp2
  go_loopw [5] (fun i wr => ∃ k : Nat, k ≤ n ∧ i = .int .i64 k ∧ v ∉ xs.take k ∧ wr = w) (fun i _ => n - (intOf i).toNat)
  case atStart => exact ⟨0, Nat.zero_le _, rfl, by simp, rfl⟩
  case round =>
    obtain ⟨k, hk, rfl, hno, rfl⟩ := hrel
    have Hno : Hid (v ∉ xs.take k) := hno
    clear hno
    by_cases hlt : k < n
    · obtain ⟨g, o, hg, hc⟩ := HR.out.at hlt
      have i1 : (0 : Int) ≤ (k : Int) := Int.natCast_nonneg _
      have i2 : (k : Int) < (n : Int) := by omega
      have hmem : xs.getD k 0 ∈ xs := by
        have : k < xs.length := by omega
        simp [List.getD, this]
      have Hmem : Hid (xs.getD k 0 ∈ xs) := hmem
      have Hnx : Hid (v ≠ xs.getD k 0 → v ∉ xs.take (k + 1)) := fun h hm => by
        rw [List.take_add_one] at hm
        have e2 : xs[k]? = some (xs.getD k 0) := by simp [List.getD, show k < xs.length by omega]
        rw [e2] at hm
        rcases List.mem_append.1 hm with h1 | h1
        · exact Hno.out h1
        · simp at h1
          exact h (by rw [h1]; simp [List.getD])
      generalize xs.getD k 0 = x at *
      subst hg
      clear hmem
      by_cases hx : x = v
      · subst hx
        go_wp2
        go_ret
        exact ⟨by rw [decide_eq_true Hmem.out]; rfl, rfl⟩
      · have hx2 : (x == v) = false := by simp [hx]
        go_wp2
        exact ⟨⟨k + 1, by omega, by go_num, Hnx.out (fun e => hx e.symm), by first | rfl | trivial⟩, by simp [intOf]; omega⟩
    · obtain rfl : k = n := by omega
      have hno := Hno.out
      rw [List.take_of_length_le (by omega)] at hno
      have Hf : Hid (decide (v ∈ xs) = false) := decide_eq_false hno
      clear hno
      go_wp2
      go_ret
      exact ⟨by rw [Hf.out]; rfl, rfl⟩
section
variable {n s b q : Nat} {inc step lim : Int} {p : Pe}
theorem hears_se (hD : D.Ok w B m) (hS : Se D n s inc step lim b q p) (hq : q < n) (hs : q ≠ s) : Calls Try.prog 22 #[.pointer (some ⟨b, 0, none⟩)] w fun e w' => ∃ g, e = .returned (.slice (some ⟨g, 0, none⟩) n n) ∧ Below w.heap.size w w' ∧ ∀ w2, Below w'.heap.size w' w2 → Calls Try.prog 13 #[.slice (some ⟨g, 0, none⟩) n n, .int .i64 (q : Int)] w2 fun e w3 => e = .returned (.int .i64 (if p.heard then p.known else 0)) ∧ w2 = w3 := by
  have := hears_any hD
  rw [hS.b, hS.n] at this
  refine this.mono ?_
  rintro e w' ⟨v, rfl, g, rfl, hg, hB, hb⟩
  refine ⟨g, rfl, hb, fun w2 hb2 => ?_⟩
  have := at_any (c := n) ((hB.still hb2).rd (n := n) (by unfold De.hears; rw [lst_len, hS.n])) (q : Int)
  rw [hS.hears hq hs] at this
  exact this
theorem est_se (hD : D.Ok w B m) (hS : Se D n s inc step lim b q p) (hq : q < n) (hs : q ≠ s) : Calls Try.prog 17 #[.pointer (some ⟨b, 0, none⟩)] w fun e w' => ∃ g, e = .returned (.slice (some ⟨g, 0, none⟩) n n) ∧ Below w.heap.size w w' ∧ ∀ w2, Below w'.heap.size w' w2 → Calls Try.prog 13 #[.slice (some ⟨g, 0, none⟩) n n, .int .i64 (q : Int)] w2 fun e w3 => e = .returned (.int .i64 (if p.heard && p.both then p.known else 0)) ∧ w2 = w3 := by
  have := est_any hD
  rw [hS.b, hS.n] at this
  refine this.mono ?_
  rintro e w' ⟨v, rfl, g, rfl, hg, hB, hb⟩
  refine ⟨g, rfl, hb, fun w2 hb2 => ?_⟩
  have := at_any (c := n) ((hB.still hb2).rd (n := n) (by unfold De.ests; rw [lst_len, hS.n])) (q : Int)
  rw [hS.ests hq hs] at this
  exact this
theorem own_slice {v : Value} {t e n : Nat} {xs : List Value} (h : w.ownsRow B t e v n xs) : ∃ a c, v = .slice a n c := by
  rcases h.2 with ⟨h1, h2⟩ | ⟨g, cap, cur, hv, _⟩
  · exact ⟨none, 0, by rw [h1, h2]⟩
  · exact ⟨_, _, hv⟩
theorem mem_sus (hS : Se D n s inc step lim b q p) (hq : q < n) (hs : q ≠ s) : decide ((q : Int) ∈ D.sus) = (!p.heard && decide (0 < p.known)) := by
  unfold De.sus susN
  have : ((q : Int) ∈ ((List.range D.n).filter fun q => decide (q ≠ D.self) && (!(D.pe q).heard && decide (0 < (D.pe q).known))).map fun (q : Nat) => (q : Int)) ↔ (!p.heard && decide (0 < p.known)) = true := by
    rw [List.mem_map]
    constructor
    · rintro ⟨q', h1, h2⟩
      obtain rfl : q' = q := by omega
      have := (List.mem_filter.1 h1).2
      rw [hS.p, Bool.and_eq_true] at this
      exact this.2
    · intro h
      refine ⟨q, List.mem_filter.2 ⟨List.mem_range.2 (by rw [hS.n]; exact hq), ?_⟩, rfl⟩
      rw [hS.p, h, hS.s, decide_eq_true hs]
      rfl
  by_cases h : (!p.heard && decide (0 < p.known)) = true
  · rw [h]; exact decide_eq_true (this.2 h)
  · rw [Bool.eq_false_iff.2 h]; exact decide_eq_false (fun e => h (this.1 e))
theorem sus_se (hD : D.Ok w B m) (hS : Se D n s inc step lim b q p) (hq : q < n) (hs : q ≠ s) : Calls Try.prog 27 #[.pointer (some ⟨b, 0, none⟩)] w fun e w' => ∃ a l c, e = .returned (.slice a l c) ∧ Below w.heap.size w w' ∧ ∀ w2, Below w'.heap.size w' w2 → Calls Try.prog 26 #[.slice a l c, .int .i64 (q : Int)] w2 fun e w3 => e = .returned (.bool (!p.heard && decide (0 < p.known))) ∧ w2 = w3 := by
  have := sus_any hD
  rw [hS.b] at this
  refine this.mono ?_
  rintro e w' ⟨v, rfl, ho, hb⟩
  obtain ⟨a, c, rfl⟩ := own_slice ho
  refine ⟨a, _, c, rfl, hb, fun w2 hb2 => ?_⟩
  have hle := susN_le D D.n
  have h16 := hD.n16
  have := holds_any (c := c) (own_rd (own_still ho hb2)) (by unfold De.sus; omega) (q : Int)
  rw [mem_sus hS hq hs] at this
  exact this
set_option maxHeartbeats 1000000 in
theorem gone_se (hD : D.Ok w B m) (hS : Se D n s inc step lim b q p) (hq : q < n) (hs : q ≠ s) (hh : p.heard = false) (hk : 0 < p.known) : Calls Try.prog 28 #[.pointer (some ⟨b, 0, none⟩), .int .i64 (q : Int)] w fun e w' => e = .returned (.bool true) ∧ Below w.heap.size w w' := by
  have H1 := hears_se hD hS hq hs
  have H2 : Hid (∀ w', Below w.heap.size w w' → Calls Try.prog 17 #[.pointer (some ⟨b, 0, none⟩)] w' fun e w2 => ∃ g, e = .returned (.slice (some ⟨g, 0, none⟩) n n) ∧ Below w'.heap.size w' w2 ∧ ∀ w3, Below w2.heap.size w2 w3 → Calls Try.prog 13 #[.slice (some ⟨g, 0, none⟩) n n, .int .i64 (q : Int)] w3 fun e w4 => e = .returned (.int .i64 (if p.heard && p.both then p.known else 0)) ∧ w3 = w4) := fun w' hb => est_se (hD.still hb) hS hq hs
  have H3 : Hid (∀ w', Below w.heap.size w w' → Calls Try.prog 27 #[.pointer (some ⟨b, 0, none⟩)] w' fun e w2 => ∃ a l c, e = .returned (.slice a l c) ∧ Below w'.heap.size w' w2 ∧ ∀ w3, Below w2.heap.size w2 w3 → Calls Try.prog 26 #[.slice a l c, .int .i64 (q : Int)] w3 fun e w4 => e = .returned (.bool (!p.heard && decide (0 < p.known))) ∧ w3 = w4) := fun w' hb => sus_se (hD.still hb) hS hq hs
  rw [hh] at H1 H2 H3
  rw [decide_eq_true hk] at H3
  simp only [Bool.false_eq_true, if_false, Bool.false_and, Bool.not_false, Bool.true_and] at H1 H2 H3
  clear hD hS
  go_enter Try.func28, Try.ntmps28
  go_wp2_with (fail)
  refine H1.mono ?_
  rintro e w1 ⟨g, rfl, hb1, ha1⟩
  have A1 := ha1 w1 (Below.refl _ _)
  have B1 : Hid (Below w.heap.size w w1) := hb1
  clear H1 ha1 hb1
  go_wp2_with (fail)
  refine A1.mono ?_
  rintro e w2 ⟨rfl, rfl⟩
  go_wp2_with (fail)
  refine (H2.out _ B1.out).mono ?_
  rintro e w2 ⟨g2, rfl, hb2, ha2⟩
  have A2 := ha2 w2 (Below.refl _ _)
  have B2 : Hid (Below w.heap.size w w2) := bstep B1.out hb2
  clear ha2 hb2
  go_wp2_with (fail)
  refine A2.mono ?_
  rintro e w3 ⟨rfl, rfl⟩
  go_wp2_with (fail)
  refine (H3.out _ B2.out).mono ?_
  rintro e w3 ⟨a, l, c, rfl, hb3, ha3⟩
  have A3 := ha3 w3 (Below.refl _ _)
  have B3 : Hid (Below w.heap.size w w3) := bstep B2.out hb3
  clear ha3 hb3
  go_wp2_with (fail)
  refine A3.mono ?_
  rintro e w4 ⟨rfl, rfl⟩
  go_wp2
  go_ret
  exact ⟨rfl, B3.out⟩
theorem stale_se (h : D.Ok w B m) (hS : Se D n s inc step lim b q p) (hq : q < n) (hs : q ≠ s) (i t x : Int) (hi : 1 ≤ i ∧ i ≤ 4611686018427387904) (ht : 0 ≤ t ∧ t ≤ 4611686018427387904) (hx : 0 ≤ x ∧ x ≤ 4611686018427387904) {g : Nat} (hk : BlkI w g (heaI n s x)) (h1 : i = p.known) (h2 : t ≤ p.last) :
    Calls Try.prog 15 #[.pointer (some ⟨b, 0, none⟩), .int .i64 q, .int .i64 i, .agg #[.int .i64 t, .slice (some ⟨g, 0, none⟩) n n]] w fun e w2 => e = .returned (.int .i64 51) ∧ Below w.heap.size w w2 := by
  have ho : D.okArg q i t (heaI n s x) = true := by
    unfold De.okArg
    rw [hS.isI hq hs, fits_hea hS t x ht hx, show inR1 i = true from decide_eq_true hi]
    rfl
  have := heard_stale (c := n) h q i t (hk.rd (heaI_len n s x)) ho (by rw [Int.toNat_natCast, hS.p]; exact h1) (by rw [Int.toNat_natCast, hS.p]; exact h2)
  rw [hS.b] at this
  exact this
end
end
end Go.Proofs.Ytjnbkkmagceggaa.Dt
