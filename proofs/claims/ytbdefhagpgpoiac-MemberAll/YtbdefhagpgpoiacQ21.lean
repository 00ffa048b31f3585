import Derived.Test.YtbdefhagpgpoiacQ00
import Derived.Test.YtbdefhagpgpoiacQ20
namespace Go.Proofs.Ytbdefhagpgpoiac.Mb
open Go.RowKit
set_option linter.unusedVariables false
set_option maxRecDepth 100000
set_option linter.unusedSimpArgs false
section
variable {A A' : Ag} {w w' W : World} {B : Nat} {T : Int}
theorem pad_at (xs : List Int) (q : Nat) (h : q < 16) : (pad xs).getD q 0 = xs.getD q 0 := by
  unfold pad
  simp [List.getD, h]
theorem honly_n (vs ss : List Int) (n : Nat) (hv : vs.length = n) (hs : ss.length = n) (hn : n ≤ 16) : honly (pad vs) (pad ss) = (List.range n).all fun i => !(ss.getD i 0 == 0 && vs.getD i 0 != 0) := by
  rw [Bool.eq_iff_iff]
  unfold honly
  rw [List.all_eq_true, List.all_eq_true]
  constructor
  · intro h i hi
    have hi' := List.mem_range.1 hi
    have := h i (List.mem_range.2 (by omega))
    rwa [pad_at _ _ (by omega), pad_at _ _ (by omega)] at this
  · intro h i hi
    have hi' := List.mem_range.1 hi
    rw [pad_at _ _ hi', pad_at _ _ hi']
    by_cases hin : i < n
    · exact h i (List.mem_range.2 hin)
    · have e : vs.getD i 0 = 0 := by simp [List.getD, show ¬ i < vs.length by omega]
      rw [e]
      simp
theorem valid_no {p : Pq} {q n : Nat} {inc : Int} (h : okL p.ss n = false ∨ okL p.vs n = false ∨ (pad p.ss).getD q 0 ≠ inc ∨ (pad p.vs).getD q 0 ≠ p.cid ∨ honly (pad p.vs) (pad p.ss) = false ∨ wB p.cid 1 4611686018427387904 = false ∨ wB p.rev 1 4611686018427387904 = false ∨ wB p.top 0 4611686018427387903 = false ∨ prevOk p.prev n = false) : p.valid q inc n = false := by
  unfold Pq.valid
  rcases h with h | h | h | h | h | h | h | h | h
  · rw [h]; simp
  · rw [h]; simp
  · rw [show ((pad p.ss).getD q 0 == inc) = false by simpa using h]; simp
  · rw [show ((pad p.vs).getD q 0 == p.cid) = false by simpa using h]; simp
  · rw [h]; simp
  · rw [h]; simp
  · rw [h]; simp
  · rw [h]; simp
  · rw [h]; simp
set_option maxHeartbeats 16000000 in
theorem qvalid_any (p : Pq) (hp : p.Rd w) (q n : Nat) (hq : q < n) (hn : n ≤ 16) (inc : Int) : Calls Try.prog 39 #[.agg p.cs, .int .i64 q, .int .i64 inc, .int .i64 n] w fun e w' => e = .returned (.bool (p.valid q inc n)) ∧ Below w.heap.size w w' := by
  generalize hW1 : w.alloc (.cells p.cs 40) = W1
  have b1 : Below w.heap.size w W1 := hW1 ▸ balloc (Below.refl _ _)
  have k1 : W1.heap[w.heap.size]? = some (.cells p.cs 40 (0, 0)) := by rw [← hW1]; exact heap_alloc_new w _
  have c0 : W1.cell? ⟨w.heap.size, 0, none⟩ = some (.slice p.sa p.sn p.sc) := blk_cell k1 0
  have c1 : W1.cell? ⟨w.heap.size, 1, none⟩ = some (.int .i64 p.cid) := blk_cell k1 1
  have c2 : W1.cell? ⟨w.heap.size, 2, none⟩ = some (.int .i64 p.rev) := blk_cell k1 2
  have c3 : W1.cell? ⟨w.heap.size, 3, none⟩ = some (.int .i64 p.top) := blk_cell k1 3
  have c8 : W1.cell? ⟨w.heap.size, 8, none⟩ = some (.slice p.va p.vn p.vc) := blk_cell k1 8
  have R4 : Hid (W1.rangeAt w.heap.size 4 (ints p.prev)) := prev_range k1 hp.l
  have hp1 := hp.still b1
  have HP : Hid (p.Rd W1) := hp1
  have HS := qcounts_any (c := p.sc) hp1.s hp1.sn n hn
  have HV := qcounts_any (c := p.vc) hp1.v hp1.vn n hn
  have HB : Hid (Below w.heap.size w W1) := b1
  have Hc : Hid (∀ W, Below W1.heap.size W1 W → W.cell? ⟨w.heap.size, 0, none⟩ = some (.slice p.sa p.sn p.sc)) := fun W hW => below_at hW c0
  generalize hpc : p.cs = pc at *
  clear hp hp1 b1 k1 hpc
  cases hs : okL p.ss n with
  | false =>
    rw [valid_no (.inl hs)]
    rw [hs] at HS
    clear hs HV
    go_enter Try.func39, Try.ntmps39
    go_wp2_with (first | (go_at_call 34; refine HS.mono ?_; rintro e w2 ⟨rfl, rfl⟩) | fail)
    refine wp_region_held_drew (S := (fun w' => True)) (by kernel_rfl) trivial (fun hHeld => ?_)
    simp only [Act.put, List.size_toArray, List.length_cons, List.length_nil, Nat.zero_add]
    refine tkI 0 (.bool false) rfl hHeld ?_
    simp only [Act.put, gA, gB, gC, gD, gE, gF]
    refine tkI 1 (.bool true) rfl hHeld ?_
    simp only [Act.put, gA, gB, gC, gD, gE, gF]
    refine tkI 2 (.bool true) rfl hHeld ?_
    simp only [Act.put, gA, gB, gC, gD, gE, gF]
    refine tkO 3 rfl hHeld ?_
    simp only [Act.put, gA, gB, gC, gD, gE, gF]
    refine tkO 4 rfl hHeld ?_
    simp only [Act.put, gA, gB, gC, gD, gE, gF]
    refine tkO 5 rfl hHeld ?_
    simp only [Act.put, gA, gB, gC, gD, gE, gF]
    refine tkO 6 rfl hHeld ?_
    simp only [Act.put, gA, gB, gC, gD, gE, gF]
    refine tkO 7 rfl hHeld ?_
    simp only [Act.put, gA, gB, gC, gD, gE, gF]
    refine tkO 8 rfl hHeld ?_
    simp only [Act.put, gA, gB, gC, gD, gE, gF]
    refine tkO 9 rfl hHeld ?_
    simp only [Act.put, gA, gB, gC, gD, gE, gF]
    refine tkI 10 (.bool true) rfl hHeld ?_
    simp only [Act.put, gA, gB, gC, gD, gE, gF]
    refine tkI 11 (.bool true) rfl hHeld ?_
    simp only [Act.put, gA, gB, gC, gD, gE, gF]
    refine tkO 12 rfl hHeld ?_
    simp only [Act.put, gA, gB, gC, gD, gE, gF]
    refine tkO 13 rfl hHeld ?_
    simp only [Act.put, gA, gB, gC, gD, gE, gF]
    refine tkO 14 rfl hHeld ?_
    simp only [Act.put, gA, gB, gC, gD, gE, gF]
    refine tkO 15 rfl hHeld ?_
    simp only [Act.put, gA, gB, gC, gD, gE, gF]
    refine tkO 16 rfl hHeld ?_
    simp only [Act.put, gA, gB, gC, gD, gE, gF]
    refine tkO 17 rfl hHeld ?_
    simp only [Act.put, gA, gB, gC, gD, gE, gF]
    refine tkO 18 rfl hHeld ?_
    simp only [Act.put, gA, gB, gC, gD, gE, gF]
    refine tkO 19 rfl hHeld ?_
    simp only [Act.put, gA, gB, gC, gD, gE, gF]
    refine tkI 20 (.bool true) rfl hHeld ?_
    simp only [Act.put, gA, gB, gC, gD, gE, gF]
    refine wpAnyH_done (by kernel_rfl) ?_ _
    clear hHeld
    go_wp2
    go_ret
    exact ⟨rfl, HB.out.drew⟩
  | true =>
    rw [hs] at HS
    cases hv : okL p.vs n with
    | false =>
      rw [valid_no (.inr (.inl hv))]
      rw [hv] at HV
      clear hs hv
      go_enter Try.func39, Try.ntmps39
      go_wp2_with (fail)
      refine HS.mono ?_
      rintro e w2 ⟨rfl, rfl⟩
      go_wp2_with (fail)
      refine HV.mono ?_
      rintro e w2 ⟨rfl, rfl⟩
      go_wp2
      refine wp_region_held_drew (S := (fun w' => True)) (by kernel_rfl) trivial (fun hHeld => ?_)
      simp only [Act.put, List.size_toArray, List.length_cons, List.length_nil, Nat.zero_add]
      refine tkI 0 (.bool false) rfl hHeld ?_
      simp only [Act.put, gA, gB, gC, gD, gE, gF]
      refine tkI 1 (.bool true) rfl hHeld ?_
      simp only [Act.put, gA, gB, gC, gD, gE, gF]
      refine tkI 2 (.bool true) rfl hHeld ?_
      simp only [Act.put, gA, gB, gC, gD, gE, gF]
      refine tkO 3 rfl hHeld ?_
      simp only [Act.put, gA, gB, gC, gD, gE, gF]
      refine tkO 4 rfl hHeld ?_
      simp only [Act.put, gA, gB, gC, gD, gE, gF]
      refine tkO 5 rfl hHeld ?_
      simp only [Act.put, gA, gB, gC, gD, gE, gF]
      refine tkO 6 rfl hHeld ?_
      simp only [Act.put, gA, gB, gC, gD, gE, gF]
      refine tkO 7 rfl hHeld ?_
      simp only [Act.put, gA, gB, gC, gD, gE, gF]
      refine tkO 8 rfl hHeld ?_
      simp only [Act.put, gA, gB, gC, gD, gE, gF]
      refine tkO 9 rfl hHeld ?_
      simp only [Act.put, gA, gB, gC, gD, gE, gF]
      refine tkI 10 (.bool true) rfl hHeld ?_
      simp only [Act.put, gA, gB, gC, gD, gE, gF]
      refine tkI 11 (.bool true) rfl hHeld ?_
      simp only [Act.put, gA, gB, gC, gD, gE, gF]
      refine tkO 12 rfl hHeld ?_
      simp only [Act.put, gA, gB, gC, gD, gE, gF]
      refine tkO 13 rfl hHeld ?_
      simp only [Act.put, gA, gB, gC, gD, gE, gF]
      refine tkO 14 rfl hHeld ?_
      simp only [Act.put, gA, gB, gC, gD, gE, gF]
      refine tkO 15 rfl hHeld ?_
      simp only [Act.put, gA, gB, gC, gD, gE, gF]
      refine tkO 16 rfl hHeld ?_
      simp only [Act.put, gA, gB, gC, gD, gE, gF]
      refine tkO 17 rfl hHeld ?_
      simp only [Act.put, gA, gB, gC, gD, gE, gF]
      refine tkO 18 rfl hHeld ?_
      simp only [Act.put, gA, gB, gC, gD, gE, gF]
      refine tkO 19 rfl hHeld ?_
      simp only [Act.put, gA, gB, gC, gD, gE, gF]
      refine tkI 20 (.bool true) rfl hHeld ?_
      simp only [Act.put, gA, gB, gC, gD, gE, gF]
      refine wpAnyH_done (by kernel_rfl) ?_ _
      clear hHeld
      go_wp2
      go_ret
      exact ⟨rfl, HB.out.drew⟩
    | true =>
      rw [hv] at HV
      have hsl : p.ss.length = n := by unfold okL at hs; exact of_decide_eq_true (Bool.and_eq_true_iff.1 hs).1
      have hvl : p.vs.length = n := by unfold okL at hv; exact of_decide_eq_true (Bool.and_eq_true_iff.1 hv).1
      have hsn : p.sn = n := by have := HP.out.s.1; omega
      have hvn : p.vn = n := by have := HP.out.v.1; omega
      obtain ⟨gs, os, hgs, ex⟩ := HP.out.s.at (i := q) (by omega)
      obtain ⟨gv, ov, hgv, ey⟩ := HP.out.v.at (i := q) (by omega)
      have HRs : Hid (∀ i, i < n → W1.cell? ⟨gs, os + i, none⟩ = some (.int .i64 (p.ss.getD i 0))) := fun i hi => by
        obtain ⟨g2, o2, e2, h2⟩ := HP.out.s.at (i := i) (by omega)
        rw [hgs] at e2
        cases e2
        exact h2
      have HRv : Hid (∀ i, i < n → W1.cell? ⟨gv, ov + i, none⟩ = some (.int .i64 (p.vs.getD i 0))) := fun i hi => by
        obtain ⟨g2, o2, e2, h2⟩ := HP.out.v.at (i := i) (by omega)
        rw [hgv] at e2
        cases e2
        exact h2
      rw [hgs, hsn] at c0 HS
      rw [hgv, hvn] at c8 HV
      have hx : (pad p.ss).getD q 0 = p.ss.getD q 0 := pad_at _ _ (by omega)
      have hy : (pad p.vs).getD q 0 = p.vs.getD q 0 := pad_at _ _ (by omega)
      have qq1 : (0 : Int) ≤ (q : Int) := Int.natCast_nonneg _
      have qq2 : (q : Int) < (n : Int) := by omega
      obtain ⟨x, hxe⟩ : ∃ x, p.ss.getD q 0 = x := ⟨_, rfl⟩
      obtain ⟨y, hye⟩ : ∃ y, p.vs.getD q 0 = y := ⟨_, rfl⟩
      rw [hxe] at ex hx
      rw [hye] at ey hy
      have Hl : Hid (p.ss.length = n ∧ p.vs.length = n) := ⟨hsl, hvl⟩
      have Hok : Hid (okL p.ss n = true ∧ okL p.vs n = true) := ⟨hs, hv⟩
      have Hxy : Hid ((pad p.ss).getD q 0 = x ∧ (pad p.vs).getD q 0 = y) := ⟨hx, hy⟩
      clear hs hv hsl hvl hsn hvn hgs hgv hx hy hxe hye Hc
      by_cases h1 : inc = x
      · subst h1
        by_cases h2 : y = p.cid
        · subst h2
          have hcase : (p.cid < 1) ∨ (1 ≤ p.cid ∧ 4611686018427387904 < p.cid) ∨ ((1 ≤ p.cid ∧ p.cid ≤ 4611686018427387904) ∧ p.rev < 1) ∨ ((1 ≤ p.cid ∧ p.cid ≤ 4611686018427387904) ∧ 1 ≤ p.rev ∧ 4611686018427387904 < p.rev) ∨ ((1 ≤ p.cid ∧ p.cid ≤ 4611686018427387904) ∧ (1 ≤ p.rev ∧ p.rev ≤ 4611686018427387904) ∧ p.top < 0) ∨ ((1 ≤ p.cid ∧ p.cid ≤ 4611686018427387904) ∧ (1 ≤ p.rev ∧ p.rev ≤ 4611686018427387904) ∧ 0 ≤ p.top ∧ 4611686018427387904 ≤ p.top) ∨ ((1 ≤ p.cid ∧ p.cid ≤ 4611686018427387904) ∧ (1 ≤ p.rev ∧ p.rev ≤ 4611686018427387904) ∧ 0 ≤ p.top ∧ p.top < 4611686018427387904) := by omega
          have d0 : W1.drew.cell? ⟨w.heap.size, 0, none⟩ = some (.slice (some ⟨gs, os, none⟩) n p.sc) := below_at (Below.refl _ _).drew c0
          have d1 : W1.drew.cell? ⟨w.heap.size, 1, none⟩ = some (.int .i64 p.cid) := below_at (Below.refl _ _).drew c1
          have d2 : W1.drew.cell? ⟨w.heap.size, 2, none⟩ = some (.int .i64 p.rev) := below_at (Below.refl _ _).drew c2
          have d3 : W1.drew.cell? ⟨w.heap.size, 3, none⟩ = some (.int .i64 p.top) := below_at (Below.refl _ _).drew c3
          have d8 : W1.drew.cell? ⟨w.heap.size, 8, none⟩ = some (.slice (some ⟨gv, ov, none⟩) n p.vc) := below_at (Below.refl _ _).drew c8
          rcases hcase with hc | hc | hc | hc | hc | hc | hc
          · skip
            rw [valid_no (.inr (.inr (.inr (.inr (.inr (.inl (by unfold wB; exact decide_eq_false (by omega))))))))]
            go_enter Try.func39, Try.ntmps39
            go_wp2_with (fail)
            refine HS.mono ?_
            rintro e w2 ⟨rfl, rfl⟩
            go_wp2_with (fail)
            refine HV.mono ?_
            rintro e w2 ⟨rfl, rfl⟩
            go_wp2
            refine wp_region_held_drew (S := (fun w' => w'.cell? ⟨w.heap.size, 0, none⟩ = some (.slice (some ⟨gs, os, none⟩) n p.sc) ∧ w'.cell? ⟨w.heap.size, 8, none⟩ = some (.slice (some ⟨gv, ov, none⟩) n p.vc) ∧ w'.cell? ⟨w.heap.size, 1, none⟩ = some (.int .i64 p.cid) ∧ w'.cell? ⟨gs, os + q, none⟩ = some (.int .i64 inc) ∧ w'.cell? ⟨gv, ov + q, none⟩ = some (.int .i64 p.cid))) (by kernel_rfl) ⟨below_at (Below.refl _ _).drew c0, below_at (Below.refl _ _).drew c8, below_at (Below.refl _ _).drew c1, below_at (Below.refl _ _).drew ex, below_at (Below.refl _ _).drew ey⟩ (fun hHeld => ?_)
            simp only [Act.put, List.size_toArray, List.length_cons, List.length_nil, Nat.zero_add]
            refine tkI 0 (.bool true) rfl hHeld ?_
            simp only [Act.put, gA, gB, gC, gD, gE, gF]
            refine tkI 1 (.bool false) rfl hHeld ?_
            simp only [Act.put, gA, gB, gC, gD, gE, gF]
            refine tkI 2 (.bool false) rfl hHeld ?_
            simp only [Act.put, gA, gB, gC, gD, gE, gF]
            refine tkI 3 (.pointer (some ⟨w.heap.size, 0, none⟩)) rfl hHeld ?_
            simp only [Act.put, gA, gB, gC, gD, gE, gF]
            refine tkL 4 (.slice (some ⟨gs, os, none⟩) n p.sc) rfl (fun w' hS => by (obtain ⟨s0, s1, s2, s3, s4⟩ := hS; go_simp)) hHeld ?_
            simp only [Act.put, gA, gB, gC, gD, gE, gF]
            refine tkI 5 (.int .i64 (q : Int)) rfl hHeld ?_
            simp only [Act.put, gA, gB, gC, gD, gE, gF]
            refine tkL 6 (.pointer (some ⟨gs, os + q, none⟩)) rfl (fun w' hS => by (go_simp <;> first | omega | simp_all | (simp; omega))) hHeld ?_
            simp only [Act.put, gA, gB, gC, gD, gE, gF]
            refine tkL 7 (.int .i64 inc) rfl (fun w' hS => by (obtain ⟨s0, s1, s2, s3, s4⟩ := hS; go_simp)) hHeld ?_
            simp only [Act.put, gA, gB, gC, gD, gE, gF]
            refine tkI 8 (.int .i64 inc) rfl hHeld ?_
            simp only [Act.put, gA, gB, gC, gD, gE, gF]
            refine tkL 9 (.bool false) rfl (fun w' hS => by (go_simp <;> first | omega | simp_all | (simp; omega))) hHeld ?_
            simp only [Act.put, gA, gB, gC, gD, gE, gF]
            refine tkI 10 (.bool false) rfl hHeld ?_
            simp only [Act.put, gA, gB, gC, gD, gE, gF]
            refine tkI 11 (.bool false) rfl hHeld ?_
            simp only [Act.put, gA, gB, gC, gD, gE, gF]
            refine tkI 12 (.pointer (some ⟨w.heap.size, 8, none⟩)) rfl hHeld ?_
            simp only [Act.put, gA, gB, gC, gD, gE, gF]
            refine tkL 13 (.slice (some ⟨gv, ov, none⟩) n p.vc) rfl (fun w' hS => by (obtain ⟨s0, s1, s2, s3, s4⟩ := hS; go_simp)) hHeld ?_
            simp only [Act.put, gA, gB, gC, gD, gE, gF]
            refine tkI 14 (.int .i64 (q : Int)) rfl hHeld ?_
            simp only [Act.put, gA, gB, gC, gD, gE, gF]
            refine tkL 15 (.pointer (some ⟨gv, ov + q, none⟩)) rfl (fun w' hS => by (go_simp <;> first | omega | simp_all | (simp; omega))) hHeld ?_
            simp only [Act.put, gA, gB, gC, gD, gE, gF]
            refine tkL 16 (.int .i64 p.cid) rfl (fun w' hS => by (obtain ⟨s0, s1, s2, s3, s4⟩ := hS; go_simp)) hHeld ?_
            simp only [Act.put, gA, gB, gC, gD, gE, gF]
            refine tkI 17 (.pointer (some ⟨w.heap.size, 1, none⟩)) rfl hHeld ?_
            simp only [Act.put, gA, gB, gC, gD, gE, gF]
            refine tkL 18 (.int .i64 p.cid) rfl (fun w' hS => by (obtain ⟨s0, s1, s2, s3, s4⟩ := hS; go_simp)) hHeld ?_
            simp only [Act.put, gA, gB, gC, gD, gE, gF]
            refine tkL 19 (.bool false) rfl (fun w' hS => by (go_simp <;> first | omega | simp_all | (simp; omega))) hHeld ?_
            simp only [Act.put, gA, gB, gC, gD, gE, gF]
            refine tkI 20 (.bool false) rfl hHeld ?_
            simp only [Act.put, gA, gB, gC, gD, gE, gF]
            refine wpAnyH_done (by kernel_rfl) ?_ _
            clear hHeld
            go_wp2_with (first | (refine wl_at 44 rfl ?_) | fail)
            refine wl_take (v := .bool true) (by kernel_rfl) (by (go_simp <;> first | omega | simp_all | (simp; omega))) ?_
            simp only [Act.put, gA, gB, gC, gD, gE, gF]
            refine wlT (.bool true) ?_
            simp only [Act.put, gA, gB, gC, gD, gE, gF]
            refine wlS ?_
            simp only [Act.put, gA, gB, gC, gD, gE, gF]
            refine wlS ?_
            simp only [Act.put, gA, gB, gC, gD, gE, gF]
            refine wlS ?_
            simp only [Act.put, gA, gB, gC, gD, gE, gF]
            refine wlT (.bool true) ?_
            simp only [Act.put, gA, gB, gC, gD, gE, gF]
            refine wlT (.bool true) ?_
            simp only [Act.put, gA, gB, gC, gD, gE, gF]
            refine wlS ?_
            simp only [Act.put, gA, gB, gC, gD, gE, gF]
            refine wlS ?_
            simp only [Act.put, gA, gB, gC, gD, gE, gF]
            refine wlS ?_
            simp only [Act.put, gA, gB, gC, gD, gE, gF]
            refine wlT (.bool true) ?_
            simp only [Act.put, gA, gB, gC, gD, gE, gF]
            refine wlT (.bool true) ?_
            simp only [Act.put, gA, gB, gC, gD, gE, gF]
            refine wlS ?_
            simp only [Act.put, gA, gB, gC, gD, gE, gF]
            refine wlS ?_
            simp only [Act.put, gA, gB, gC, gD, gE, gF]
            refine wlS ?_
            simp only [Act.put, gA, gB, gC, gD, gE, gF]
            refine wlT (.bool true) ?_
            simp only [Act.put, gA, gB, gC, gD, gE, gF]
            refine wlT (.bool true) ?_
            simp only [Act.put, gA, gB, gC, gD, gE, gF]
            refine wlS ?_
            simp only [Act.put, gA, gB, gC, gD, gE, gF]
            refine wlS ?_
            simp only [Act.put, gA, gB, gC, gD, gE, gF]
            refine wlS ?_
            simp only [Act.put, gA, gB, gC, gD, gE, gF]
            refine wlT (.bool true) ?_
            simp only [Act.put, gA, gB, gC, gD, gE, gF]
            refine wlT (.bool true) ?_
            simp only [Act.put, gA, gB, gC, gD, gE, gF]
            refine wlS ?_
            simp only [Act.put, gA, gB, gC, gD, gE, gF]
            refine wlS ?_
            simp only [Act.put, gA, gB, gC, gD, gE, gF]
            refine wlS ?_
            simp only [Act.put, gA, gB, gC, gD, gE, gF]
            refine wlT (.bool true) ?_
            simp only [Act.put, gA, gB, gC, gD, gE, gF]
            refine ⟨?_⟩
            go_wp2
            go_ret
            exact ⟨rfl, HB.out.drew⟩
          · skip
            rw [valid_no (.inr (.inr (.inr (.inr (.inr (.inl (by unfold wB; exact decide_eq_false (by omega))))))))]
            go_enter Try.func39, Try.ntmps39
            go_wp2_with (fail)
            refine HS.mono ?_
            rintro e w2 ⟨rfl, rfl⟩
            go_wp2_with (fail)
            refine HV.mono ?_
            rintro e w2 ⟨rfl, rfl⟩
            go_wp2
            refine wp_region_held_drew (S := (fun w' => w'.cell? ⟨w.heap.size, 0, none⟩ = some (.slice (some ⟨gs, os, none⟩) n p.sc) ∧ w'.cell? ⟨w.heap.size, 8, none⟩ = some (.slice (some ⟨gv, ov, none⟩) n p.vc) ∧ w'.cell? ⟨w.heap.size, 1, none⟩ = some (.int .i64 p.cid) ∧ w'.cell? ⟨gs, os + q, none⟩ = some (.int .i64 inc) ∧ w'.cell? ⟨gv, ov + q, none⟩ = some (.int .i64 p.cid))) (by kernel_rfl) ⟨below_at (Below.refl _ _).drew c0, below_at (Below.refl _ _).drew c8, below_at (Below.refl _ _).drew c1, below_at (Below.refl _ _).drew ex, below_at (Below.refl _ _).drew ey⟩ (fun hHeld => ?_)
            simp only [Act.put, List.size_toArray, List.length_cons, List.length_nil, Nat.zero_add]
            refine tkI 0 (.bool true) rfl hHeld ?_
            simp only [Act.put, gA, gB, gC, gD, gE, gF]
            refine tkI 1 (.bool false) rfl hHeld ?_
            simp only [Act.put, gA, gB, gC, gD, gE, gF]
            refine tkI 2 (.bool false) rfl hHeld ?_
            simp only [Act.put, gA, gB, gC, gD, gE, gF]
            refine tkI 3 (.pointer (some ⟨w.heap.size, 0, none⟩)) rfl hHeld ?_
            simp only [Act.put, gA, gB, gC, gD, gE, gF]
            refine tkL 4 (.slice (some ⟨gs, os, none⟩) n p.sc) rfl (fun w' hS => by (obtain ⟨s0, s1, s2, s3, s4⟩ := hS; go_simp)) hHeld ?_
            simp only [Act.put, gA, gB, gC, gD, gE, gF]
            refine tkI 5 (.int .i64 (q : Int)) rfl hHeld ?_
            simp only [Act.put, gA, gB, gC, gD, gE, gF]
            refine tkL 6 (.pointer (some ⟨gs, os + q, none⟩)) rfl (fun w' hS => by (go_simp <;> first | omega | simp_all | (simp; omega))) hHeld ?_
            simp only [Act.put, gA, gB, gC, gD, gE, gF]
            refine tkL 7 (.int .i64 inc) rfl (fun w' hS => by (obtain ⟨s0, s1, s2, s3, s4⟩ := hS; go_simp)) hHeld ?_
            simp only [Act.put, gA, gB, gC, gD, gE, gF]
            refine tkI 8 (.int .i64 inc) rfl hHeld ?_
            simp only [Act.put, gA, gB, gC, gD, gE, gF]
            refine tkL 9 (.bool false) rfl (fun w' hS => by (go_simp <;> first | omega | simp_all | (simp; omega))) hHeld ?_
            simp only [Act.put, gA, gB, gC, gD, gE, gF]
            refine tkI 10 (.bool false) rfl hHeld ?_
            simp only [Act.put, gA, gB, gC, gD, gE, gF]
            refine tkI 11 (.bool false) rfl hHeld ?_
            simp only [Act.put, gA, gB, gC, gD, gE, gF]
            refine tkI 12 (.pointer (some ⟨w.heap.size, 8, none⟩)) rfl hHeld ?_
            simp only [Act.put, gA, gB, gC, gD, gE, gF]
            refine tkL 13 (.slice (some ⟨gv, ov, none⟩) n p.vc) rfl (fun w' hS => by (obtain ⟨s0, s1, s2, s3, s4⟩ := hS; go_simp)) hHeld ?_
            simp only [Act.put, gA, gB, gC, gD, gE, gF]
            refine tkI 14 (.int .i64 (q : Int)) rfl hHeld ?_
            simp only [Act.put, gA, gB, gC, gD, gE, gF]
            refine tkL 15 (.pointer (some ⟨gv, ov + q, none⟩)) rfl (fun w' hS => by (go_simp <;> first | omega | simp_all | (simp; omega))) hHeld ?_
            simp only [Act.put, gA, gB, gC, gD, gE, gF]
            refine tkL 16 (.int .i64 p.cid) rfl (fun w' hS => by (obtain ⟨s0, s1, s2, s3, s4⟩ := hS; go_simp)) hHeld ?_
            simp only [Act.put, gA, gB, gC, gD, gE, gF]
            refine tkI 17 (.pointer (some ⟨w.heap.size, 1, none⟩)) rfl hHeld ?_
            simp only [Act.put, gA, gB, gC, gD, gE, gF]
            refine tkL 18 (.int .i64 p.cid) rfl (fun w' hS => by (obtain ⟨s0, s1, s2, s3, s4⟩ := hS; go_simp)) hHeld ?_
            simp only [Act.put, gA, gB, gC, gD, gE, gF]
            refine tkL 19 (.bool false) rfl (fun w' hS => by (go_simp <;> first | omega | simp_all | (simp; omega))) hHeld ?_
            simp only [Act.put, gA, gB, gC, gD, gE, gF]
            refine tkI 20 (.bool false) rfl hHeld ?_
            simp only [Act.put, gA, gB, gC, gD, gE, gF]
            refine wpAnyH_done (by kernel_rfl) ?_ _
            clear hHeld
            go_wp2_with (first | (refine wl_at 44 rfl ?_) | fail)
            refine wl_take (v := .bool false) (by kernel_rfl) (by (go_simp <;> first | omega | simp_all | (simp; omega))) ?_
            simp only [Act.put, gA, gB, gC, gD, gE, gF]
            refine wlT (.bool false) ?_
            simp only [Act.put, gA, gB, gC, gD, gE, gF]
            refine wlT (.pointer (some ⟨w.heap.size, 1, none⟩)) ?_
            simp only [Act.put, gA, gB, gC, gD, gE, gF]
            refine wlT (.int .i64 p.cid) ?_
            simp only [Act.put, gA, gB, gC, gD, gE, gF]
            refine wl_take (v := .bool true) (by kernel_rfl) (by (go_simp <;> first | omega | simp_all | (simp; omega))) ?_
            simp only [Act.put, gA, gB, gC, gD, gE, gF]
            refine wlT (.bool true) ?_
            simp only [Act.put, gA, gB, gC, gD, gE, gF]
            refine wlT (.bool true) ?_
            simp only [Act.put, gA, gB, gC, gD, gE, gF]
            refine wlS ?_
            simp only [Act.put, gA, gB, gC, gD, gE, gF]
            refine wlS ?_
            simp only [Act.put, gA, gB, gC, gD, gE, gF]
            refine wlS ?_
            simp only [Act.put, gA, gB, gC, gD, gE, gF]
            refine wlT (.bool true) ?_
            simp only [Act.put, gA, gB, gC, gD, gE, gF]
            refine wlT (.bool true) ?_
            simp only [Act.put, gA, gB, gC, gD, gE, gF]
            refine wlS ?_
            simp only [Act.put, gA, gB, gC, gD, gE, gF]
            refine wlS ?_
            simp only [Act.put, gA, gB, gC, gD, gE, gF]
            refine wlS ?_
            simp only [Act.put, gA, gB, gC, gD, gE, gF]
            refine wlT (.bool true) ?_
            simp only [Act.put, gA, gB, gC, gD, gE, gF]
            refine wlT (.bool true) ?_
            simp only [Act.put, gA, gB, gC, gD, gE, gF]
            refine wlS ?_
            simp only [Act.put, gA, gB, gC, gD, gE, gF]
            refine wlS ?_
            simp only [Act.put, gA, gB, gC, gD, gE, gF]
            refine wlS ?_
            simp only [Act.put, gA, gB, gC, gD, gE, gF]
            refine wlT (.bool true) ?_
            simp only [Act.put, gA, gB, gC, gD, gE, gF]
            refine wlT (.bool true) ?_
            simp only [Act.put, gA, gB, gC, gD, gE, gF]
            refine wlS ?_
            simp only [Act.put, gA, gB, gC, gD, gE, gF]
            refine wlS ?_
            simp only [Act.put, gA, gB, gC, gD, gE, gF]
            refine wlS ?_
            simp only [Act.put, gA, gB, gC, gD, gE, gF]
            refine wlT (.bool true) ?_
            simp only [Act.put, gA, gB, gC, gD, gE, gF]
            refine ⟨?_⟩
            go_wp2
            go_ret
            exact ⟨rfl, HB.out.drew⟩
          · skip
            rw [valid_no (.inr (.inr (.inr (.inr (.inr (.inr (.inl (by unfold wB; exact decide_eq_false (by omega)))))))))]
            go_enter Try.func39, Try.ntmps39
            go_wp2_with (fail)
            refine HS.mono ?_
            rintro e w2 ⟨rfl, rfl⟩
            go_wp2_with (fail)
            refine HV.mono ?_
            rintro e w2 ⟨rfl, rfl⟩
            go_wp2
            refine wp_region_held_drew (S := (fun w' => w'.cell? ⟨w.heap.size, 0, none⟩ = some (.slice (some ⟨gs, os, none⟩) n p.sc) ∧ w'.cell? ⟨w.heap.size, 8, none⟩ = some (.slice (some ⟨gv, ov, none⟩) n p.vc) ∧ w'.cell? ⟨w.heap.size, 1, none⟩ = some (.int .i64 p.cid) ∧ w'.cell? ⟨gs, os + q, none⟩ = some (.int .i64 inc) ∧ w'.cell? ⟨gv, ov + q, none⟩ = some (.int .i64 p.cid))) (by kernel_rfl) ⟨below_at (Below.refl _ _).drew c0, below_at (Below.refl _ _).drew c8, below_at (Below.refl _ _).drew c1, below_at (Below.refl _ _).drew ex, below_at (Below.refl _ _).drew ey⟩ (fun hHeld => ?_)
            simp only [Act.put, List.size_toArray, List.length_cons, List.length_nil, Nat.zero_add]
            refine tkI 0 (.bool true) rfl hHeld ?_
            simp only [Act.put, gA, gB, gC, gD, gE, gF]
            refine tkI 1 (.bool false) rfl hHeld ?_
            simp only [Act.put, gA, gB, gC, gD, gE, gF]
            refine tkI 2 (.bool false) rfl hHeld ?_
            simp only [Act.put, gA, gB, gC, gD, gE, gF]
            refine tkI 3 (.pointer (some ⟨w.heap.size, 0, none⟩)) rfl hHeld ?_
            simp only [Act.put, gA, gB, gC, gD, gE, gF]
            refine tkL 4 (.slice (some ⟨gs, os, none⟩) n p.sc) rfl (fun w' hS => by (obtain ⟨s0, s1, s2, s3, s4⟩ := hS; go_simp)) hHeld ?_
            simp only [Act.put, gA, gB, gC, gD, gE, gF]
            refine tkI 5 (.int .i64 (q : Int)) rfl hHeld ?_
            simp only [Act.put, gA, gB, gC, gD, gE, gF]
            refine tkL 6 (.pointer (some ⟨gs, os + q, none⟩)) rfl (fun w' hS => by (go_simp <;> first | omega | simp_all | (simp; omega))) hHeld ?_
            simp only [Act.put, gA, gB, gC, gD, gE, gF]
            refine tkL 7 (.int .i64 inc) rfl (fun w' hS => by (obtain ⟨s0, s1, s2, s3, s4⟩ := hS; go_simp)) hHeld ?_
            simp only [Act.put, gA, gB, gC, gD, gE, gF]
            refine tkI 8 (.int .i64 inc) rfl hHeld ?_
            simp only [Act.put, gA, gB, gC, gD, gE, gF]
            refine tkL 9 (.bool false) rfl (fun w' hS => by (go_simp <;> first | omega | simp_all | (simp; omega))) hHeld ?_
            simp only [Act.put, gA, gB, gC, gD, gE, gF]
            refine tkI 10 (.bool false) rfl hHeld ?_
            simp only [Act.put, gA, gB, gC, gD, gE, gF]
            refine tkI 11 (.bool false) rfl hHeld ?_
            simp only [Act.put, gA, gB, gC, gD, gE, gF]
            refine tkI 12 (.pointer (some ⟨w.heap.size, 8, none⟩)) rfl hHeld ?_
            simp only [Act.put, gA, gB, gC, gD, gE, gF]
            refine tkL 13 (.slice (some ⟨gv, ov, none⟩) n p.vc) rfl (fun w' hS => by (obtain ⟨s0, s1, s2, s3, s4⟩ := hS; go_simp)) hHeld ?_
            simp only [Act.put, gA, gB, gC, gD, gE, gF]
            refine tkI 14 (.int .i64 (q : Int)) rfl hHeld ?_
            simp only [Act.put, gA, gB, gC, gD, gE, gF]
            refine tkL 15 (.pointer (some ⟨gv, ov + q, none⟩)) rfl (fun w' hS => by (go_simp <;> first | omega | simp_all | (simp; omega))) hHeld ?_
            simp only [Act.put, gA, gB, gC, gD, gE, gF]
            refine tkL 16 (.int .i64 p.cid) rfl (fun w' hS => by (obtain ⟨s0, s1, s2, s3, s4⟩ := hS; go_simp)) hHeld ?_
            simp only [Act.put, gA, gB, gC, gD, gE, gF]
            refine tkI 17 (.pointer (some ⟨w.heap.size, 1, none⟩)) rfl hHeld ?_
            simp only [Act.put, gA, gB, gC, gD, gE, gF]
            refine tkL 18 (.int .i64 p.cid) rfl (fun w' hS => by (obtain ⟨s0, s1, s2, s3, s4⟩ := hS; go_simp)) hHeld ?_
            simp only [Act.put, gA, gB, gC, gD, gE, gF]
            refine tkL 19 (.bool false) rfl (fun w' hS => by (go_simp <;> first | omega | simp_all | (simp; omega))) hHeld ?_
            simp only [Act.put, gA, gB, gC, gD, gE, gF]
            refine tkI 20 (.bool false) rfl hHeld ?_
            simp only [Act.put, gA, gB, gC, gD, gE, gF]
            refine wpAnyH_done (by kernel_rfl) ?_ _
            clear hHeld
            go_wp2_with (first | (refine wl_at 44 rfl ?_) | fail)
            refine wl_take (v := .bool false) (by kernel_rfl) (by (go_simp <;> first | omega | simp_all | (simp; omega))) ?_
            simp only [Act.put, gA, gB, gC, gD, gE, gF]
            refine wlT (.bool false) ?_
            simp only [Act.put, gA, gB, gC, gD, gE, gF]
            refine wlT (.pointer (some ⟨w.heap.size, 1, none⟩)) ?_
            simp only [Act.put, gA, gB, gC, gD, gE, gF]
            refine wlT (.int .i64 p.cid) ?_
            simp only [Act.put, gA, gB, gC, gD, gE, gF]
            refine wl_take (v := .bool false) (by kernel_rfl) (by (go_simp <;> first | omega | simp_all | (simp; omega))) ?_
            simp only [Act.put, gA, gB, gC, gD, gE, gF]
            refine wlT (.bool false) ?_
            simp only [Act.put, gA, gB, gC, gD, gE, gF]
            refine wlT (.bool false) ?_
            simp only [Act.put, gA, gB, gC, gD, gE, gF]
            refine wlT (.pointer (some ⟨w.heap.size, 2, none⟩)) ?_
            simp only [Act.put, gA, gB, gC, gD, gE, gF]
            refine wlT (.int .i64 p.rev) ?_
            simp only [Act.put, gA, gB, gC, gD, gE, gF]
            refine wl_take (v := .bool true) (by kernel_rfl) (by (go_simp <;> first | omega | simp_all | (simp; omega))) ?_
            simp only [Act.put, gA, gB, gC, gD, gE, gF]
            refine wlT (.bool true) ?_
            simp only [Act.put, gA, gB, gC, gD, gE, gF]
            refine wlT (.bool true) ?_
            simp only [Act.put, gA, gB, gC, gD, gE, gF]
            refine wlS ?_
            simp only [Act.put, gA, gB, gC, gD, gE, gF]
            refine wlS ?_
            simp only [Act.put, gA, gB, gC, gD, gE, gF]
            refine wlS ?_
            simp only [Act.put, gA, gB, gC, gD, gE, gF]
            refine wlT (.bool true) ?_
            simp only [Act.put, gA, gB, gC, gD, gE, gF]
            refine wlT (.bool true) ?_
            simp only [Act.put, gA, gB, gC, gD, gE, gF]
            refine wlS ?_
            simp only [Act.put, gA, gB, gC, gD, gE, gF]
            refine wlS ?_
            simp only [Act.put, gA, gB, gC, gD, gE, gF]
            refine wlS ?_
            simp only [Act.put, gA, gB, gC, gD, gE, gF]
            refine wlT (.bool true) ?_
            simp only [Act.put, gA, gB, gC, gD, gE, gF]
            refine wlT (.bool true) ?_
            simp only [Act.put, gA, gB, gC, gD, gE, gF]
            refine wlS ?_
            simp only [Act.put, gA, gB, gC, gD, gE, gF]
            refine wlS ?_
            simp only [Act.put, gA, gB, gC, gD, gE, gF]
            refine wlS ?_
            simp only [Act.put, gA, gB, gC, gD, gE, gF]
            refine wlT (.bool true) ?_
            simp only [Act.put, gA, gB, gC, gD, gE, gF]
            refine ⟨?_⟩
            go_wp2
            go_ret
            exact ⟨rfl, HB.out.drew⟩
          · skip
            rw [valid_no (.inr (.inr (.inr (.inr (.inr (.inr (.inl (by unfold wB; exact decide_eq_false (by omega)))))))))]
            go_enter Try.func39, Try.ntmps39
            go_wp2_with (fail)
            refine HS.mono ?_
            rintro e w2 ⟨rfl, rfl⟩
            go_wp2_with (fail)
            refine HV.mono ?_
            rintro e w2 ⟨rfl, rfl⟩
            go_wp2
            refine wp_region_held_drew (S := (fun w' => w'.cell? ⟨w.heap.size, 0, none⟩ = some (.slice (some ⟨gs, os, none⟩) n p.sc) ∧ w'.cell? ⟨w.heap.size, 8, none⟩ = some (.slice (some ⟨gv, ov, none⟩) n p.vc) ∧ w'.cell? ⟨w.heap.size, 1, none⟩ = some (.int .i64 p.cid) ∧ w'.cell? ⟨gs, os + q, none⟩ = some (.int .i64 inc) ∧ w'.cell? ⟨gv, ov + q, none⟩ = some (.int .i64 p.cid))) (by kernel_rfl) ⟨below_at (Below.refl _ _).drew c0, below_at (Below.refl _ _).drew c8, below_at (Below.refl _ _).drew c1, below_at (Below.refl _ _).drew ex, below_at (Below.refl _ _).drew ey⟩ (fun hHeld => ?_)
            simp only [Act.put, List.size_toArray, List.length_cons, List.length_nil, Nat.zero_add]
            refine tkI 0 (.bool true) rfl hHeld ?_
            simp only [Act.put, gA, gB, gC, gD, gE, gF]
            refine tkI 1 (.bool false) rfl hHeld ?_
            simp only [Act.put, gA, gB, gC, gD, gE, gF]
            refine tkI 2 (.bool false) rfl hHeld ?_
            simp only [Act.put, gA, gB, gC, gD, gE, gF]
            refine tkI 3 (.pointer (some ⟨w.heap.size, 0, none⟩)) rfl hHeld ?_
            simp only [Act.put, gA, gB, gC, gD, gE, gF]
            refine tkL 4 (.slice (some ⟨gs, os, none⟩) n p.sc) rfl (fun w' hS => by (obtain ⟨s0, s1, s2, s3, s4⟩ := hS; go_simp)) hHeld ?_
            simp only [Act.put, gA, gB, gC, gD, gE, gF]
            refine tkI 5 (.int .i64 (q : Int)) rfl hHeld ?_
            simp only [Act.put, gA, gB, gC, gD, gE, gF]
            refine tkL 6 (.pointer (some ⟨gs, os + q, none⟩)) rfl (fun w' hS => by (go_simp <;> first | omega | simp_all | (simp; omega))) hHeld ?_
            simp only [Act.put, gA, gB, gC, gD, gE, gF]
            refine tkL 7 (.int .i64 inc) rfl (fun w' hS => by (obtain ⟨s0, s1, s2, s3, s4⟩ := hS; go_simp)) hHeld ?_
            simp only [Act.put, gA, gB, gC, gD, gE, gF]
            refine tkI 8 (.int .i64 inc) rfl hHeld ?_
            simp only [Act.put, gA, gB, gC, gD, gE, gF]
            refine tkL 9 (.bool false) rfl (fun w' hS => by (go_simp <;> first | omega | simp_all | (simp; omega))) hHeld ?_
            simp only [Act.put, gA, gB, gC, gD, gE, gF]
            refine tkI 10 (.bool false) rfl hHeld ?_
            simp only [Act.put, gA, gB, gC, gD, gE, gF]
            refine tkI 11 (.bool false) rfl hHeld ?_
            simp only [Act.put, gA, gB, gC, gD, gE, gF]
            refine tkI 12 (.pointer (some ⟨w.heap.size, 8, none⟩)) rfl hHeld ?_
            simp only [Act.put, gA, gB, gC, gD, gE, gF]
            refine tkL 13 (.slice (some ⟨gv, ov, none⟩) n p.vc) rfl (fun w' hS => by (obtain ⟨s0, s1, s2, s3, s4⟩ := hS; go_simp)) hHeld ?_
            simp only [Act.put, gA, gB, gC, gD, gE, gF]
            refine tkI 14 (.int .i64 (q : Int)) rfl hHeld ?_
            simp only [Act.put, gA, gB, gC, gD, gE, gF]
            refine tkL 15 (.pointer (some ⟨gv, ov + q, none⟩)) rfl (fun w' hS => by (go_simp <;> first | omega | simp_all | (simp; omega))) hHeld ?_
            simp only [Act.put, gA, gB, gC, gD, gE, gF]
            refine tkL 16 (.int .i64 p.cid) rfl (fun w' hS => by (obtain ⟨s0, s1, s2, s3, s4⟩ := hS; go_simp)) hHeld ?_
            simp only [Act.put, gA, gB, gC, gD, gE, gF]
            refine tkI 17 (.pointer (some ⟨w.heap.size, 1, none⟩)) rfl hHeld ?_
            simp only [Act.put, gA, gB, gC, gD, gE, gF]
            refine tkL 18 (.int .i64 p.cid) rfl (fun w' hS => by (obtain ⟨s0, s1, s2, s3, s4⟩ := hS; go_simp)) hHeld ?_
            simp only [Act.put, gA, gB, gC, gD, gE, gF]
            refine tkL 19 (.bool false) rfl (fun w' hS => by (go_simp <;> first | omega | simp_all | (simp; omega))) hHeld ?_
            simp only [Act.put, gA, gB, gC, gD, gE, gF]
            refine tkI 20 (.bool false) rfl hHeld ?_
            simp only [Act.put, gA, gB, gC, gD, gE, gF]
            refine wpAnyH_done (by kernel_rfl) ?_ _
            clear hHeld
            go_wp2_with (first | (refine wl_at 44 rfl ?_) | fail)
            refine wl_take (v := .bool false) (by kernel_rfl) (by (go_simp <;> first | omega | simp_all | (simp; omega))) ?_
            simp only [Act.put, gA, gB, gC, gD, gE, gF]
            refine wlT (.bool false) ?_
            simp only [Act.put, gA, gB, gC, gD, gE, gF]
            refine wlT (.pointer (some ⟨w.heap.size, 1, none⟩)) ?_
            simp only [Act.put, gA, gB, gC, gD, gE, gF]
            refine wlT (.int .i64 p.cid) ?_
            simp only [Act.put, gA, gB, gC, gD, gE, gF]
            refine wl_take (v := .bool false) (by kernel_rfl) (by (go_simp <;> first | omega | simp_all | (simp; omega))) ?_
            simp only [Act.put, gA, gB, gC, gD, gE, gF]
            refine wlT (.bool false) ?_
            simp only [Act.put, gA, gB, gC, gD, gE, gF]
            refine wlT (.bool false) ?_
            simp only [Act.put, gA, gB, gC, gD, gE, gF]
            refine wlT (.pointer (some ⟨w.heap.size, 2, none⟩)) ?_
            simp only [Act.put, gA, gB, gC, gD, gE, gF]
            refine wlT (.int .i64 p.rev) ?_
            simp only [Act.put, gA, gB, gC, gD, gE, gF]
            refine wl_take (v := .bool false) (by kernel_rfl) (by (go_simp <;> first | omega | simp_all | (simp; omega))) ?_
            simp only [Act.put, gA, gB, gC, gD, gE, gF]
            refine wlT (.bool false) ?_
            simp only [Act.put, gA, gB, gC, gD, gE, gF]
            refine wlT (.bool false) ?_
            simp only [Act.put, gA, gB, gC, gD, gE, gF]
            refine wlT (.pointer (some ⟨w.heap.size, 2, none⟩)) ?_
            simp only [Act.put, gA, gB, gC, gD, gE, gF]
            refine wlT (.int .i64 p.rev) ?_
            simp only [Act.put, gA, gB, gC, gD, gE, gF]
            refine wl_take (v := .bool true) (by kernel_rfl) (by (go_simp <;> first | omega | simp_all | (simp; omega))) ?_
            simp only [Act.put, gA, gB, gC, gD, gE, gF]
            refine wlT (.bool true) ?_
            simp only [Act.put, gA, gB, gC, gD, gE, gF]
            refine wlT (.bool true) ?_
            simp only [Act.put, gA, gB, gC, gD, gE, gF]
            refine wlS ?_
            simp only [Act.put, gA, gB, gC, gD, gE, gF]
            refine wlS ?_
            simp only [Act.put, gA, gB, gC, gD, gE, gF]
            refine wlS ?_
            simp only [Act.put, gA, gB, gC, gD, gE, gF]
            refine wlT (.bool true) ?_
            simp only [Act.put, gA, gB, gC, gD, gE, gF]
            refine wlT (.bool true) ?_
            simp only [Act.put, gA, gB, gC, gD, gE, gF]
            refine wlS ?_
            simp only [Act.put, gA, gB, gC, gD, gE, gF]
            refine wlS ?_
            simp only [Act.put, gA, gB, gC, gD, gE, gF]
            refine wlS ?_
            simp only [Act.put, gA, gB, gC, gD, gE, gF]
            refine wlT (.bool true) ?_
            simp only [Act.put, gA, gB, gC, gD, gE, gF]
            refine ⟨?_⟩
            go_wp2
            go_ret
            exact ⟨rfl, HB.out.drew⟩
          · skip
            rw [valid_no (.inr (.inr (.inr (.inr (.inr (.inr (.inr (.inl (by unfold wB; exact decide_eq_false (by omega))))))))))]
            go_enter Try.func39, Try.ntmps39
            go_wp2_with (fail)
            refine HS.mono ?_
            rintro e w2 ⟨rfl, rfl⟩
            go_wp2_with (fail)
            refine HV.mono ?_
            rintro e w2 ⟨rfl, rfl⟩
            go_wp2
            refine wp_region_held_drew (S := (fun w' => w'.cell? ⟨w.heap.size, 0, none⟩ = some (.slice (some ⟨gs, os, none⟩) n p.sc) ∧ w'.cell? ⟨w.heap.size, 8, none⟩ = some (.slice (some ⟨gv, ov, none⟩) n p.vc) ∧ w'.cell? ⟨w.heap.size, 1, none⟩ = some (.int .i64 p.cid) ∧ w'.cell? ⟨gs, os + q, none⟩ = some (.int .i64 inc) ∧ w'.cell? ⟨gv, ov + q, none⟩ = some (.int .i64 p.cid))) (by kernel_rfl) ⟨below_at (Below.refl _ _).drew c0, below_at (Below.refl _ _).drew c8, below_at (Below.refl _ _).drew c1, below_at (Below.refl _ _).drew ex, below_at (Below.refl _ _).drew ey⟩ (fun hHeld => ?_)
            simp only [Act.put, List.size_toArray, List.length_cons, List.length_nil, Nat.zero_add]
            refine tkI 0 (.bool true) rfl hHeld ?_
            simp only [Act.put, gA, gB, gC, gD, gE, gF]
            refine tkI 1 (.bool false) rfl hHeld ?_
            simp only [Act.put, gA, gB, gC, gD, gE, gF]
            refine tkI 2 (.bool false) rfl hHeld ?_
            simp only [Act.put, gA, gB, gC, gD, gE, gF]
            refine tkI 3 (.pointer (some ⟨w.heap.size, 0, none⟩)) rfl hHeld ?_
            simp only [Act.put, gA, gB, gC, gD, gE, gF]
            refine tkL 4 (.slice (some ⟨gs, os, none⟩) n p.sc) rfl (fun w' hS => by (obtain ⟨s0, s1, s2, s3, s4⟩ := hS; go_simp)) hHeld ?_
            simp only [Act.put, gA, gB, gC, gD, gE, gF]
            refine tkI 5 (.int .i64 (q : Int)) rfl hHeld ?_
            simp only [Act.put, gA, gB, gC, gD, gE, gF]
            refine tkL 6 (.pointer (some ⟨gs, os + q, none⟩)) rfl (fun w' hS => by (go_simp <;> first | omega | simp_all | (simp; omega))) hHeld ?_
            simp only [Act.put, gA, gB, gC, gD, gE, gF]
            refine tkL 7 (.int .i64 inc) rfl (fun w' hS => by (obtain ⟨s0, s1, s2, s3, s4⟩ := hS; go_simp)) hHeld ?_
            simp only [Act.put, gA, gB, gC, gD, gE, gF]
            refine tkI 8 (.int .i64 inc) rfl hHeld ?_
            simp only [Act.put, gA, gB, gC, gD, gE, gF]
            refine tkL 9 (.bool false) rfl (fun w' hS => by (go_simp <;> first | omega | simp_all | (simp; omega))) hHeld ?_
            simp only [Act.put, gA, gB, gC, gD, gE, gF]
            refine tkI 10 (.bool false) rfl hHeld ?_
            simp only [Act.put, gA, gB, gC, gD, gE, gF]
            refine tkI 11 (.bool false) rfl hHeld ?_
            simp only [Act.put, gA, gB, gC, gD, gE, gF]
            refine tkI 12 (.pointer (some ⟨w.heap.size, 8, none⟩)) rfl hHeld ?_
            simp only [Act.put, gA, gB, gC, gD, gE, gF]
            refine tkL 13 (.slice (some ⟨gv, ov, none⟩) n p.vc) rfl (fun w' hS => by (obtain ⟨s0, s1, s2, s3, s4⟩ := hS; go_simp)) hHeld ?_
            simp only [Act.put, gA, gB, gC, gD, gE, gF]
            refine tkI 14 (.int .i64 (q : Int)) rfl hHeld ?_
            simp only [Act.put, gA, gB, gC, gD, gE, gF]
            refine tkL 15 (.pointer (some ⟨gv, ov + q, none⟩)) rfl (fun w' hS => by (go_simp <;> first | omega | simp_all | (simp; omega))) hHeld ?_
            simp only [Act.put, gA, gB, gC, gD, gE, gF]
            refine tkL 16 (.int .i64 p.cid) rfl (fun w' hS => by (obtain ⟨s0, s1, s2, s3, s4⟩ := hS; go_simp)) hHeld ?_
            simp only [Act.put, gA, gB, gC, gD, gE, gF]
            refine tkI 17 (.pointer (some ⟨w.heap.size, 1, none⟩)) rfl hHeld ?_
            simp only [Act.put, gA, gB, gC, gD, gE, gF]
            refine tkL 18 (.int .i64 p.cid) rfl (fun w' hS => by (obtain ⟨s0, s1, s2, s3, s4⟩ := hS; go_simp)) hHeld ?_
            simp only [Act.put, gA, gB, gC, gD, gE, gF]
            refine tkL 19 (.bool false) rfl (fun w' hS => by (go_simp <;> first | omega | simp_all | (simp; omega))) hHeld ?_
            simp only [Act.put, gA, gB, gC, gD, gE, gF]
            refine tkI 20 (.bool false) rfl hHeld ?_
            simp only [Act.put, gA, gB, gC, gD, gE, gF]
            refine wpAnyH_done (by kernel_rfl) ?_ _
            clear hHeld
            go_wp2_with (first | (refine wl_at 44 rfl ?_) | fail)
            refine wl_take (v := .bool false) (by kernel_rfl) (by (go_simp <;> first | omega | simp_all | (simp; omega))) ?_
            simp only [Act.put, gA, gB, gC, gD, gE, gF]
            refine wlT (.bool false) ?_
            simp only [Act.put, gA, gB, gC, gD, gE, gF]
            refine wlT (.pointer (some ⟨w.heap.size, 1, none⟩)) ?_
            simp only [Act.put, gA, gB, gC, gD, gE, gF]
            refine wlT (.int .i64 p.cid) ?_
            simp only [Act.put, gA, gB, gC, gD, gE, gF]
            refine wl_take (v := .bool false) (by kernel_rfl) (by (go_simp <;> first | omega | simp_all | (simp; omega))) ?_
            simp only [Act.put, gA, gB, gC, gD, gE, gF]
            refine wlT (.bool false) ?_
            simp only [Act.put, gA, gB, gC, gD, gE, gF]
            refine wlT (.bool false) ?_
            simp only [Act.put, gA, gB, gC, gD, gE, gF]
            refine wlT (.pointer (some ⟨w.heap.size, 2, none⟩)) ?_
            simp only [Act.put, gA, gB, gC, gD, gE, gF]
            refine wlT (.int .i64 p.rev) ?_
            simp only [Act.put, gA, gB, gC, gD, gE, gF]
            refine wl_take (v := .bool false) (by kernel_rfl) (by (go_simp <;> first | omega | simp_all | (simp; omega))) ?_
            simp only [Act.put, gA, gB, gC, gD, gE, gF]
            refine wlT (.bool false) ?_
            simp only [Act.put, gA, gB, gC, gD, gE, gF]
            refine wlT (.bool false) ?_
            simp only [Act.put, gA, gB, gC, gD, gE, gF]
            refine wlT (.pointer (some ⟨w.heap.size, 2, none⟩)) ?_
            simp only [Act.put, gA, gB, gC, gD, gE, gF]
            refine wlT (.int .i64 p.rev) ?_
            simp only [Act.put, gA, gB, gC, gD, gE, gF]
            refine wl_take (v := .bool false) (by kernel_rfl) (by (go_simp <;> first | omega | simp_all | (simp; omega))) ?_
            simp only [Act.put, gA, gB, gC, gD, gE, gF]
            refine wlT (.bool false) ?_
            simp only [Act.put, gA, gB, gC, gD, gE, gF]
            refine wlT (.bool false) ?_
            simp only [Act.put, gA, gB, gC, gD, gE, gF]
            refine wlT (.pointer (some ⟨w.heap.size, 3, none⟩)) ?_
            simp only [Act.put, gA, gB, gC, gD, gE, gF]
            refine wlT (.int .i64 p.top) ?_
            simp only [Act.put, gA, gB, gC, gD, gE, gF]
            refine wl_take (v := .bool true) (by kernel_rfl) (by (go_simp <;> first | omega | simp_all | (simp; omega))) ?_
            simp only [Act.put, gA, gB, gC, gD, gE, gF]
            refine wlT (.bool true) ?_
            simp only [Act.put, gA, gB, gC, gD, gE, gF]
            refine wlT (.bool true) ?_
            simp only [Act.put, gA, gB, gC, gD, gE, gF]
            refine wlS ?_
            simp only [Act.put, gA, gB, gC, gD, gE, gF]
            refine wlS ?_
            simp only [Act.put, gA, gB, gC, gD, gE, gF]
            refine wlS ?_
            simp only [Act.put, gA, gB, gC, gD, gE, gF]
            refine wlT (.bool true) ?_
            simp only [Act.put, gA, gB, gC, gD, gE, gF]
            refine ⟨?_⟩
            go_wp2
            go_ret
            exact ⟨rfl, HB.out.drew⟩
          · skip
            rw [valid_no (.inr (.inr (.inr (.inr (.inr (.inr (.inr (.inl (by unfold wB; exact decide_eq_false (by omega))))))))))]
            go_enter Try.func39, Try.ntmps39
            go_wp2_with (fail)
            refine HS.mono ?_
            rintro e w2 ⟨rfl, rfl⟩
            go_wp2_with (fail)
            refine HV.mono ?_
            rintro e w2 ⟨rfl, rfl⟩
            go_wp2
            refine wp_region_held_drew (S := (fun w' => w'.cell? ⟨w.heap.size, 0, none⟩ = some (.slice (some ⟨gs, os, none⟩) n p.sc) ∧ w'.cell? ⟨w.heap.size, 8, none⟩ = some (.slice (some ⟨gv, ov, none⟩) n p.vc) ∧ w'.cell? ⟨w.heap.size, 1, none⟩ = some (.int .i64 p.cid) ∧ w'.cell? ⟨gs, os + q, none⟩ = some (.int .i64 inc) ∧ w'.cell? ⟨gv, ov + q, none⟩ = some (.int .i64 p.cid))) (by kernel_rfl) ⟨below_at (Below.refl _ _).drew c0, below_at (Below.refl _ _).drew c8, below_at (Below.refl _ _).drew c1, below_at (Below.refl _ _).drew ex, below_at (Below.refl _ _).drew ey⟩ (fun hHeld => ?_)
            simp only [Act.put, List.size_toArray, List.length_cons, List.length_nil, Nat.zero_add]
            refine tkI 0 (.bool true) rfl hHeld ?_
            simp only [Act.put, gA, gB, gC, gD, gE, gF]
            refine tkI 1 (.bool false) rfl hHeld ?_
            simp only [Act.put, gA, gB, gC, gD, gE, gF]
            refine tkI 2 (.bool false) rfl hHeld ?_
            simp only [Act.put, gA, gB, gC, gD, gE, gF]
            refine tkI 3 (.pointer (some ⟨w.heap.size, 0, none⟩)) rfl hHeld ?_
            simp only [Act.put, gA, gB, gC, gD, gE, gF]
            refine tkL 4 (.slice (some ⟨gs, os, none⟩) n p.sc) rfl (fun w' hS => by (obtain ⟨s0, s1, s2, s3, s4⟩ := hS; go_simp)) hHeld ?_
            simp only [Act.put, gA, gB, gC, gD, gE, gF]
            refine tkI 5 (.int .i64 (q : Int)) rfl hHeld ?_
            simp only [Act.put, gA, gB, gC, gD, gE, gF]
            refine tkL 6 (.pointer (some ⟨gs, os + q, none⟩)) rfl (fun w' hS => by (go_simp <;> first | omega | simp_all | (simp; omega))) hHeld ?_
            simp only [Act.put, gA, gB, gC, gD, gE, gF]
            refine tkL 7 (.int .i64 inc) rfl (fun w' hS => by (obtain ⟨s0, s1, s2, s3, s4⟩ := hS; go_simp)) hHeld ?_
            simp only [Act.put, gA, gB, gC, gD, gE, gF]
            refine tkI 8 (.int .i64 inc) rfl hHeld ?_
            simp only [Act.put, gA, gB, gC, gD, gE, gF]
            refine tkL 9 (.bool false) rfl (fun w' hS => by (go_simp <;> first | omega | simp_all | (simp; omega))) hHeld ?_
            simp only [Act.put, gA, gB, gC, gD, gE, gF]
            refine tkI 10 (.bool false) rfl hHeld ?_
            simp only [Act.put, gA, gB, gC, gD, gE, gF]
            refine tkI 11 (.bool false) rfl hHeld ?_
            simp only [Act.put, gA, gB, gC, gD, gE, gF]
            refine tkI 12 (.pointer (some ⟨w.heap.size, 8, none⟩)) rfl hHeld ?_
            simp only [Act.put, gA, gB, gC, gD, gE, gF]
            refine tkL 13 (.slice (some ⟨gv, ov, none⟩) n p.vc) rfl (fun w' hS => by (obtain ⟨s0, s1, s2, s3, s4⟩ := hS; go_simp)) hHeld ?_
            simp only [Act.put, gA, gB, gC, gD, gE, gF]
            refine tkI 14 (.int .i64 (q : Int)) rfl hHeld ?_
            simp only [Act.put, gA, gB, gC, gD, gE, gF]
            refine tkL 15 (.pointer (some ⟨gv, ov + q, none⟩)) rfl (fun w' hS => by (go_simp <;> first | omega | simp_all | (simp; omega))) hHeld ?_
            simp only [Act.put, gA, gB, gC, gD, gE, gF]
            refine tkL 16 (.int .i64 p.cid) rfl (fun w' hS => by (obtain ⟨s0, s1, s2, s3, s4⟩ := hS; go_simp)) hHeld ?_
            simp only [Act.put, gA, gB, gC, gD, gE, gF]
            refine tkI 17 (.pointer (some ⟨w.heap.size, 1, none⟩)) rfl hHeld ?_
            simp only [Act.put, gA, gB, gC, gD, gE, gF]
            refine tkL 18 (.int .i64 p.cid) rfl (fun w' hS => by (obtain ⟨s0, s1, s2, s3, s4⟩ := hS; go_simp)) hHeld ?_
            simp only [Act.put, gA, gB, gC, gD, gE, gF]
            refine tkL 19 (.bool false) rfl (fun w' hS => by (go_simp <;> first | omega | simp_all | (simp; omega))) hHeld ?_
            simp only [Act.put, gA, gB, gC, gD, gE, gF]
            refine tkI 20 (.bool false) rfl hHeld ?_
            simp only [Act.put, gA, gB, gC, gD, gE, gF]
            refine wpAnyH_done (by kernel_rfl) ?_ _
            clear hHeld
            go_wp2_with (first | (refine wl_at 44 rfl ?_) | fail)
            refine wl_take (v := .bool false) (by kernel_rfl) (by (go_simp <;> first | omega | simp_all | (simp; omega))) ?_
            simp only [Act.put, gA, gB, gC, gD, gE, gF]
            refine wlT (.bool false) ?_
            simp only [Act.put, gA, gB, gC, gD, gE, gF]
            refine wlT (.pointer (some ⟨w.heap.size, 1, none⟩)) ?_
            simp only [Act.put, gA, gB, gC, gD, gE, gF]
            refine wlT (.int .i64 p.cid) ?_
            simp only [Act.put, gA, gB, gC, gD, gE, gF]
            refine wl_take (v := .bool false) (by kernel_rfl) (by (go_simp <;> first | omega | simp_all | (simp; omega))) ?_
            simp only [Act.put, gA, gB, gC, gD, gE, gF]
            refine wlT (.bool false) ?_
            simp only [Act.put, gA, gB, gC, gD, gE, gF]
            refine wlT (.bool false) ?_
            simp only [Act.put, gA, gB, gC, gD, gE, gF]
            refine wlT (.pointer (some ⟨w.heap.size, 2, none⟩)) ?_
            simp only [Act.put, gA, gB, gC, gD, gE, gF]
            refine wlT (.int .i64 p.rev) ?_
            simp only [Act.put, gA, gB, gC, gD, gE, gF]
            refine wl_take (v := .bool false) (by kernel_rfl) (by (go_simp <;> first | omega | simp_all | (simp; omega))) ?_
            simp only [Act.put, gA, gB, gC, gD, gE, gF]
            refine wlT (.bool false) ?_
            simp only [Act.put, gA, gB, gC, gD, gE, gF]
            refine wlT (.bool false) ?_
            simp only [Act.put, gA, gB, gC, gD, gE, gF]
            refine wlT (.pointer (some ⟨w.heap.size, 2, none⟩)) ?_
            simp only [Act.put, gA, gB, gC, gD, gE, gF]
            refine wlT (.int .i64 p.rev) ?_
            simp only [Act.put, gA, gB, gC, gD, gE, gF]
            refine wl_take (v := .bool false) (by kernel_rfl) (by (go_simp <;> first | omega | simp_all | (simp; omega))) ?_
            simp only [Act.put, gA, gB, gC, gD, gE, gF]
            refine wlT (.bool false) ?_
            simp only [Act.put, gA, gB, gC, gD, gE, gF]
            refine wlT (.bool false) ?_
            simp only [Act.put, gA, gB, gC, gD, gE, gF]
            refine wlT (.pointer (some ⟨w.heap.size, 3, none⟩)) ?_
            simp only [Act.put, gA, gB, gC, gD, gE, gF]
            refine wlT (.int .i64 p.top) ?_
            simp only [Act.put, gA, gB, gC, gD, gE, gF]
            refine wl_take (v := .bool false) (by kernel_rfl) (by (go_simp <;> first | omega | simp_all | (simp; omega))) ?_
            simp only [Act.put, gA, gB, gC, gD, gE, gF]
            refine wlT (.bool false) ?_
            simp only [Act.put, gA, gB, gC, gD, gE, gF]
            refine wlT (.bool false) ?_
            simp only [Act.put, gA, gB, gC, gD, gE, gF]
            refine wlT (.pointer (some ⟨w.heap.size, 3, none⟩)) ?_
            simp only [Act.put, gA, gB, gC, gD, gE, gF]
            refine wlT (.int .i64 p.top) ?_
            simp only [Act.put, gA, gB, gC, gD, gE, gF]
            refine wl_take (v := .bool true) (by kernel_rfl) (by (go_simp <;> first | omega | simp_all | (simp; omega))) ?_
            simp only [Act.put, gA, gB, gC, gD, gE, gF]
            refine wlT (.bool true) ?_
            simp only [Act.put, gA, gB, gC, gD, gE, gF]
            refine ⟨?_⟩
            go_wp2
            go_ret
            exact ⟨rfl, HB.out.drew⟩
          · skip
            have Hc6 : Hid ((1 ≤ p.cid ∧ p.cid ≤ 4611686018427387904) ∧ (1 ≤ p.rev ∧ p.rev ≤ 4611686018427387904) ∧ 0 ≤ p.top ∧ p.top < 4611686018427387904) := hc
            go_enter Try.func39, Try.ntmps39
            go_wp2_with (fail)
            refine HS.mono ?_
            rintro e w2 ⟨rfl, rfl⟩
            go_wp2_with (fail)
            refine HV.mono ?_
            rintro e w2 ⟨rfl, rfl⟩
            go_wp2
            refine wp_region_held_drew (S := (fun w' => w'.cell? ⟨w.heap.size, 0, none⟩ = some (.slice (some ⟨gs, os, none⟩) n p.sc) ∧ w'.cell? ⟨w.heap.size, 8, none⟩ = some (.slice (some ⟨gv, ov, none⟩) n p.vc) ∧ w'.cell? ⟨w.heap.size, 1, none⟩ = some (.int .i64 p.cid) ∧ w'.cell? ⟨gs, os + q, none⟩ = some (.int .i64 inc) ∧ w'.cell? ⟨gv, ov + q, none⟩ = some (.int .i64 p.cid))) (by kernel_rfl) ⟨below_at (Below.refl _ _).drew c0, below_at (Below.refl _ _).drew c8, below_at (Below.refl _ _).drew c1, below_at (Below.refl _ _).drew ex, below_at (Below.refl _ _).drew ey⟩ (fun hHeld => ?_)
            simp only [Act.put, List.size_toArray, List.length_cons, List.length_nil, Nat.zero_add]
            refine tkI 0 (.bool true) rfl hHeld ?_
            simp only [Act.put, gA, gB, gC, gD, gE, gF]
            refine tkI 1 (.bool false) rfl hHeld ?_
            simp only [Act.put, gA, gB, gC, gD, gE, gF]
            refine tkI 2 (.bool false) rfl hHeld ?_
            simp only [Act.put, gA, gB, gC, gD, gE, gF]
            refine tkI 3 (.pointer (some ⟨w.heap.size, 0, none⟩)) rfl hHeld ?_
            simp only [Act.put, gA, gB, gC, gD, gE, gF]
            refine tkL 4 (.slice (some ⟨gs, os, none⟩) n p.sc) rfl (fun w' hS => by (obtain ⟨s0, s1, s2, s3, s4⟩ := hS; go_simp)) hHeld ?_
            simp only [Act.put, gA, gB, gC, gD, gE, gF]
            refine tkI 5 (.int .i64 (q : Int)) rfl hHeld ?_
            simp only [Act.put, gA, gB, gC, gD, gE, gF]
            refine tkL 6 (.pointer (some ⟨gs, os + q, none⟩)) rfl (fun w' hS => by (go_simp <;> first | omega | simp_all | (simp; omega))) hHeld ?_
            simp only [Act.put, gA, gB, gC, gD, gE, gF]
            refine tkL 7 (.int .i64 inc) rfl (fun w' hS => by (obtain ⟨s0, s1, s2, s3, s4⟩ := hS; go_simp)) hHeld ?_
            simp only [Act.put, gA, gB, gC, gD, gE, gF]
            refine tkI 8 (.int .i64 inc) rfl hHeld ?_
            simp only [Act.put, gA, gB, gC, gD, gE, gF]
            refine tkL 9 (.bool false) rfl (fun w' hS => by (go_simp <;> first | omega | simp_all | (simp; omega))) hHeld ?_
            simp only [Act.put, gA, gB, gC, gD, gE, gF]
            refine tkI 10 (.bool false) rfl hHeld ?_
            simp only [Act.put, gA, gB, gC, gD, gE, gF]
            refine tkI 11 (.bool false) rfl hHeld ?_
            simp only [Act.put, gA, gB, gC, gD, gE, gF]
            refine tkI 12 (.pointer (some ⟨w.heap.size, 8, none⟩)) rfl hHeld ?_
            simp only [Act.put, gA, gB, gC, gD, gE, gF]
            refine tkL 13 (.slice (some ⟨gv, ov, none⟩) n p.vc) rfl (fun w' hS => by (obtain ⟨s0, s1, s2, s3, s4⟩ := hS; go_simp)) hHeld ?_
            simp only [Act.put, gA, gB, gC, gD, gE, gF]
            refine tkI 14 (.int .i64 (q : Int)) rfl hHeld ?_
            simp only [Act.put, gA, gB, gC, gD, gE, gF]
            refine tkL 15 (.pointer (some ⟨gv, ov + q, none⟩)) rfl (fun w' hS => by (go_simp <;> first | omega | simp_all | (simp; omega))) hHeld ?_
            simp only [Act.put, gA, gB, gC, gD, gE, gF]
            refine tkL 16 (.int .i64 p.cid) rfl (fun w' hS => by (obtain ⟨s0, s1, s2, s3, s4⟩ := hS; go_simp)) hHeld ?_
            simp only [Act.put, gA, gB, gC, gD, gE, gF]
            refine tkI 17 (.pointer (some ⟨w.heap.size, 1, none⟩)) rfl hHeld ?_
            simp only [Act.put, gA, gB, gC, gD, gE, gF]
            refine tkL 18 (.int .i64 p.cid) rfl (fun w' hS => by (obtain ⟨s0, s1, s2, s3, s4⟩ := hS; go_simp)) hHeld ?_
            simp only [Act.put, gA, gB, gC, gD, gE, gF]
            refine tkL 19 (.bool false) rfl (fun w' hS => by (go_simp <;> first | omega | simp_all | (simp; omega))) hHeld ?_
            simp only [Act.put, gA, gB, gC, gD, gE, gF]
            refine tkI 20 (.bool false) rfl hHeld ?_
            simp only [Act.put, gA, gB, gC, gD, gE, gF]
            refine wpAnyH_done (by kernel_rfl) ?_ _
            clear hHeld
            go_wp2_with (first | (refine wl_at 44 rfl ?_) | fail)
            refine wl_take (v := .bool false) (by kernel_rfl) (by (go_simp <;> first | omega | simp_all | (simp; omega))) ?_
            simp only [Act.put, gA, gB, gC, gD, gE, gF]
            refine wlT (.bool false) ?_
            simp only [Act.put, gA, gB, gC, gD, gE, gF]
            refine wlT (.pointer (some ⟨w.heap.size, 1, none⟩)) ?_
            simp only [Act.put, gA, gB, gC, gD, gE, gF]
            refine wlT (.int .i64 p.cid) ?_
            simp only [Act.put, gA, gB, gC, gD, gE, gF]
            refine wl_take (v := .bool false) (by kernel_rfl) (by (go_simp <;> first | omega | simp_all | (simp; omega))) ?_
            simp only [Act.put, gA, gB, gC, gD, gE, gF]
            refine wlT (.bool false) ?_
            simp only [Act.put, gA, gB, gC, gD, gE, gF]
            refine wlT (.bool false) ?_
            simp only [Act.put, gA, gB, gC, gD, gE, gF]
            refine wlT (.pointer (some ⟨w.heap.size, 2, none⟩)) ?_
            simp only [Act.put, gA, gB, gC, gD, gE, gF]
            refine wlT (.int .i64 p.rev) ?_
            simp only [Act.put, gA, gB, gC, gD, gE, gF]
            refine wl_take (v := .bool false) (by kernel_rfl) (by (go_simp <;> first | omega | simp_all | (simp; omega))) ?_
            simp only [Act.put, gA, gB, gC, gD, gE, gF]
            refine wlT (.bool false) ?_
            simp only [Act.put, gA, gB, gC, gD, gE, gF]
            refine wlT (.bool false) ?_
            simp only [Act.put, gA, gB, gC, gD, gE, gF]
            refine wlT (.pointer (some ⟨w.heap.size, 2, none⟩)) ?_
            simp only [Act.put, gA, gB, gC, gD, gE, gF]
            refine wlT (.int .i64 p.rev) ?_
            simp only [Act.put, gA, gB, gC, gD, gE, gF]
            refine wl_take (v := .bool false) (by kernel_rfl) (by (go_simp <;> first | omega | simp_all | (simp; omega))) ?_
            simp only [Act.put, gA, gB, gC, gD, gE, gF]
            refine wlT (.bool false) ?_
            simp only [Act.put, gA, gB, gC, gD, gE, gF]
            refine wlT (.bool false) ?_
            simp only [Act.put, gA, gB, gC, gD, gE, gF]
            refine wlT (.pointer (some ⟨w.heap.size, 3, none⟩)) ?_
            simp only [Act.put, gA, gB, gC, gD, gE, gF]
            refine wlT (.int .i64 p.top) ?_
            simp only [Act.put, gA, gB, gC, gD, gE, gF]
            refine wl_take (v := .bool false) (by kernel_rfl) (by (go_simp <;> first | omega | simp_all | (simp; omega))) ?_
            simp only [Act.put, gA, gB, gC, gD, gE, gF]
            refine wlT (.bool false) ?_
            simp only [Act.put, gA, gB, gC, gD, gE, gF]
            refine wlT (.bool false) ?_
            simp only [Act.put, gA, gB, gC, gD, gE, gF]
            refine wlT (.pointer (some ⟨w.heap.size, 3, none⟩)) ?_
            simp only [Act.put, gA, gB, gC, gD, gE, gF]
            refine wlT (.int .i64 p.top) ?_
            simp only [Act.put, gA, gB, gC, gD, gE, gF]
            refine wl_take (v := .bool false) (by kernel_rfl) (by (go_simp <;> first | omega | simp_all | (simp; omega))) ?_
            simp only [Act.put, gA, gB, gC, gD, gE, gF]
            refine wlT (.bool false) ?_
            simp only [Act.put, gA, gB, gC, gD, gE, gF]
            refine ⟨?_⟩
            clear d1 d2 d3 hc
            go_wp2
            go_loopw [10] (fun i wr => ∃ k : Nat, k ≤ n ∧ i = .int .i64 k ∧ (∀ i, i < k → (!(p.ss.getD i 0 == 0 && p.vs.getD i 0 != 0)) = true) ∧ W1.drew = wr) (fun i _ => n - (intOf i).toNat)
            case atStart => exact ⟨0, Nat.zero_le _, rfl, fun i hi => by omega, rfl⟩
            case round =>
              obtain ⟨k, hk, rfl, hall, rfl⟩ := hrel
              by_cases hlt : k < n
              · have f0 : W1.drew.cell? ⟨gs, os + k, none⟩ = some (.int .i64 (p.ss.getD k 0)) := below_at (Below.refl _ _).drew (HRs.out k hlt)
                have f1 : W1.drew.cell? ⟨gv, ov + k, none⟩ = some (.int .i64 (p.vs.getD k 0)) := below_at (Below.refl _ _).drew (HRv.out k hlt)
                have i1 : (0 : Int) ≤ (k : Int) := Int.natCast_nonneg _
                have i2 : (k : Int) < (n : Int) := by omega
                have Hall : Hid (∀ i, i < k → (!(p.ss.getD i 0 == 0 && p.vs.getD i 0 != 0)) = true) := hall
                have Hbad : Hid ((!(p.ss.getD k 0 == 0 && p.vs.getD k 0 != 0)) = false → p.valid q inc n = false) := fun hb => valid_no (.inr (.inr (.inr (.inr (.inl (by
                  rw [honly_n p.vs p.ss n Hl.out.2 Hl.out.1 hn]
                  cases ha : (List.range n).all (fun i => !(p.ss.getD i 0 == 0 && p.vs.getD i 0 != 0)) with
                  | false => rfl
                  | true => have := List.all_eq_true.1 ha k (List.mem_range.2 hlt); rw [hb] at this; cases this))))))
                have Hnx : Hid ((!(p.ss.getD k 0 == 0 && p.vs.getD k 0 != 0)) = true → ∀ i, i < k + 1 → (!(p.ss.getD i 0 == 0 && p.vs.getD i 0 != 0)) = true) := fun hg i hi => by
                  by_cases e : i = k
                  · subst e; exact hg
                  · exact Hall.out i (by omega)
                generalize p.ss.getD k 0 = sx at f0 Hbad Hnx
                generalize p.vs.getD k 0 = vx at f1 Hbad Hnx
                clear hall Hall
                by_cases z1 : sx = 0
                · subst z1
                  by_cases z2 : vx = 0
                  · subst z2
                    have HN := Hnx.out rfl
                    have HNh : Hid (∀ i, i < k + 1 → (!(p.ss.getD i 0 == 0 && p.vs.getD i 0 != 0)) = true) := HN
                    clear Hbad Hnx HN
                    go_wp2
                    first
                      | exact ⟨⟨k + 1, by omega, by go_num, HNh.out, by first | rfl | trivial⟩, by simp [intOf]; omega⟩
                      | (go_roundw
                         case rel => exact ⟨k + 1, by omega, by go_num, HNh.out, by first | rfl | trivial⟩
                         case measure => simp [intOf]; omega)
                  · have z2' : (vx == 0) = false := by simpa using z2
                    have HVv : Hid (p.valid q inc n = false) := Hbad.out (by rw [bne, z2']; rfl)
                    clear Hbad Hnx
                    go_wp2
                    go_ret
                    exact ⟨by rw [HVv.out]; rfl, HB.out.drew⟩
                · have z1' : (sx == 0) = false := by simpa using z1
                  have HN := Hnx.out (by rw [z1']; rfl)
                  have HNh : Hid (∀ i, i < k + 1 → (!(p.ss.getD i 0 == 0 && p.vs.getD i 0 != 0)) = true) := HN
                  clear Hbad Hnx HN z1
                  go_wp2
                  first
                    | exact ⟨⟨k + 1, by omega, by go_num, HNh.out, by first | rfl | trivial⟩, by simp [intOf]; omega⟩
                    | (go_roundw
                       case rel => exact ⟨k + 1, by omega, by go_num, HNh.out, by first | rfl | trivial⟩
                       case measure => simp [intOf]; omega)
              · obtain rfl : k = n := by omega
                have hval : p.valid q inc k = prevOk p.prev k := by
                  unfold Pq.valid
                  have hh : honly (pad p.vs) (pad p.ss) = true := by
                    rw [honly_n p.vs p.ss k Hl.out.2 Hl.out.1 hn, List.all_eq_true]
                    intro i hi
                    exact hall i (List.mem_range.1 hi)
                  have h6 := Hc6.out
                  rw [Hok.out.1, Hok.out.2, Hxy.out.1, Hxy.out.2, hh, show wB p.cid 1 4611686018427387904 = true from decide_eq_true (by omega), show wB p.rev 1 4611686018427387904 = true from decide_eq_true (by omega), show wB p.top 0 4611686018427387903 = true from decide_eq_true (by omega)]
                  simp
                have Hval : Hid (p.valid q inc k = prevOk p.prev k) := hval
                obtain ⟨x0, x1, x2, x3, hpv⟩ := list4e p.prev HP.out.l
                have R5 : Hid (W1.drew.rangeAt w.heap.size 4 (ints [x0, x1, x2, x3])) := by rw [← hpv]; exact rng_below R4.out (Below.refl _ _).drew
                have HN := qnone_any (w := W1.drew) [x0, x1, x2, x3] rfl
                have HNn : Hid (Calls Try.prog 51 #[.agg #[.int .i64 x0, .int .i64 x1, .int .i64 x2, .int .i64 x3]] W1.drew fun e w' => e = .returned (.bool (decide ([x0, x1, x2, x3] = [0, 0, 0, 0]))) ∧ Below W1.drew.heap.size W1.drew w') := HN
                have j2 : decide ((k : Int) < (k : Int)) = false := decide_eq_false (by omega)
                clear hall HN hval R4
                cases hz : decide ([x0, x1, x2, x3] = [0, 0, 0, 0]) with
                | true =>
                  have HVv : Hid (p.valid q inc k = true) := by show _ = _; rw [Hval.out, hpv]; unfold prevOk; rw [hz]; rfl
                  rw [hz] at HNn
                  clear hz
                  go_wp2_with (first | (refine load_mid 38 (.tmp 89) R5.out _ Try.underlying38 rfl (by kernel_rfl) rfl rfl rfl ?_) | fail)
                  refine HNn.out.mono ?_
                  rintro e w3 ⟨rfl, hb3⟩
                  go_wp2
                  go_ret
                  exact ⟨by rw [HVv.out]; rfl, bstep HB.out.drew hb3⟩
                | false =>
                  have HVv : Hid (p.valid q inc k = whB x0 x1 x2 x3 k) := by show _ = _; rw [Hval.out, hpv]; unfold prevOk whB; rw [hz]; rfl
                  rw [hz] at HNn
                  clear hz
                  have HWh : Hid (∀ W, Calls Try.prog 59 #[.agg #[.int .i64 x0, .int .i64 x1, .int .i64 x2, .int .i64 x3], .int .i64 k] W fun e w' => e = .returned (.bool (whB x0 x1 x2 x3 k)) ∧ Below W.heap.size W w') := fun W => qwhole_any x0 x1 x2 x3 k
                  go_wp2_with (first | (refine load_mid 38 (.tmp 89) R5.out _ Try.underlying38 rfl (by kernel_rfl) rfl rfl rfl ?_) | fail)
                  refine HNn.out.mono ?_
                  rintro e w3 ⟨rfl, hb3⟩
                  have R6 : Hid (w3.rangeAt w.heap.size 4 (ints [x0, x1, x2, x3])) := rng_below R5.out hb3
                  have HB3 : Hid (Below w.heap.size w w3) := bstep HB.out.drew hb3
                  clear hb3
                  go_wp2_with (first | (refine load_mid 38 (.tmp 93) R6.out _ Try.underlying38 rfl (by kernel_rfl) rfl rfl rfl ?_) | fail)
                  refine (HWh.out w3).mono ?_
                  rintro e w4 ⟨rfl, hb4⟩
                  go_wp2
                  go_ret
                  exact ⟨by rw [HVv.out]; rfl, bstep HB3.out hb4⟩
        · rw [valid_no (.inr (.inr (.inr (.inl (by rw [Hxy.out.2]; exact h2)))))]
          go_enter Try.func39, Try.ntmps39
          go_wp2_with (fail)
          refine HS.mono ?_
          rintro e w2 ⟨rfl, rfl⟩
          go_wp2_with (fail)
          refine HV.mono ?_
          rintro e w2 ⟨rfl, rfl⟩
          go_wp2
          refine wp_region_held_drew (S := (fun w' => w'.cell? ⟨w.heap.size, 0, none⟩ = some (.slice (some ⟨gs, os, none⟩) n p.sc) ∧ w'.cell? ⟨w.heap.size, 8, none⟩ = some (.slice (some ⟨gv, ov, none⟩) n p.vc) ∧ w'.cell? ⟨w.heap.size, 1, none⟩ = some (.int .i64 p.cid) ∧ w'.cell? ⟨gs, os + q, none⟩ = some (.int .i64 inc) ∧ w'.cell? ⟨gv, ov + q, none⟩ = some (.int .i64 y))) (by kernel_rfl) ⟨below_at (Below.refl _ _).drew c0, below_at (Below.refl _ _).drew c8, below_at (Below.refl _ _).drew c1, below_at (Below.refl _ _).drew ex, below_at (Below.refl _ _).drew ey⟩ (fun hHeld => ?_)
          simp only [Act.put, List.size_toArray, List.length_cons, List.length_nil, Nat.zero_add]
          refine tkI 0 (.bool true) rfl hHeld ?_
          simp only [Act.put, gA, gB, gC, gD, gE, gF]
          refine tkI 1 (.bool false) rfl hHeld ?_
          simp only [Act.put, gA, gB, gC, gD, gE, gF]
          refine tkI 2 (.bool false) rfl hHeld ?_
          simp only [Act.put, gA, gB, gC, gD, gE, gF]
          refine tkI 3 (.pointer (some ⟨w.heap.size, 0, none⟩)) rfl hHeld ?_
          simp only [Act.put, gA, gB, gC, gD, gE, gF]
          refine tkL 4 (.slice (some ⟨gs, os, none⟩) n p.sc) rfl (fun w' hS => by (obtain ⟨s0, s1, s2, s3, s4⟩ := hS; go_simp)) hHeld ?_
          simp only [Act.put, gA, gB, gC, gD, gE, gF]
          refine tkI 5 (.int .i64 (q : Int)) rfl hHeld ?_
          simp only [Act.put, gA, gB, gC, gD, gE, gF]
          refine tkL 6 (.pointer (some ⟨gs, os + q, none⟩)) rfl (fun w' hS => by (go_simp <;> first | omega | simp_all | (simp; omega))) hHeld ?_
          simp only [Act.put, gA, gB, gC, gD, gE, gF]
          refine tkL 7 (.int .i64 inc) rfl (fun w' hS => by (obtain ⟨s0, s1, s2, s3, s4⟩ := hS; go_simp)) hHeld ?_
          simp only [Act.put, gA, gB, gC, gD, gE, gF]
          refine tkI 8 (.int .i64 inc) rfl hHeld ?_
          simp only [Act.put, gA, gB, gC, gD, gE, gF]
          refine tkL 9 (.bool false) rfl (fun w' hS => by (go_simp <;> first | omega | simp_all | (simp; omega))) hHeld ?_
          simp only [Act.put, gA, gB, gC, gD, gE, gF]
          refine tkI 10 (.bool false) rfl hHeld ?_
          simp only [Act.put, gA, gB, gC, gD, gE, gF]
          refine tkI 11 (.bool false) rfl hHeld ?_
          simp only [Act.put, gA, gB, gC, gD, gE, gF]
          refine tkI 12 (.pointer (some ⟨w.heap.size, 8, none⟩)) rfl hHeld ?_
          simp only [Act.put, gA, gB, gC, gD, gE, gF]
          refine tkL 13 (.slice (some ⟨gv, ov, none⟩) n p.vc) rfl (fun w' hS => by (obtain ⟨s0, s1, s2, s3, s4⟩ := hS; go_simp)) hHeld ?_
          simp only [Act.put, gA, gB, gC, gD, gE, gF]
          refine tkI 14 (.int .i64 (q : Int)) rfl hHeld ?_
          simp only [Act.put, gA, gB, gC, gD, gE, gF]
          refine tkL 15 (.pointer (some ⟨gv, ov + q, none⟩)) rfl (fun w' hS => by (go_simp <;> first | omega | simp_all | (simp; omega))) hHeld ?_
          simp only [Act.put, gA, gB, gC, gD, gE, gF]
          refine tkL 16 (.int .i64 y) rfl (fun w' hS => by (obtain ⟨s0, s1, s2, s3, s4⟩ := hS; go_simp)) hHeld ?_
          simp only [Act.put, gA, gB, gC, gD, gE, gF]
          refine tkI 17 (.pointer (some ⟨w.heap.size, 1, none⟩)) rfl hHeld ?_
          simp only [Act.put, gA, gB, gC, gD, gE, gF]
          refine tkL 18 (.int .i64 p.cid) rfl (fun w' hS => by (obtain ⟨s0, s1, s2, s3, s4⟩ := hS; go_simp)) hHeld ?_
          simp only [Act.put, gA, gB, gC, gD, gE, gF]
          refine tkL 19 (.bool true) rfl (fun w' hS => by (go_simp <;> first | omega | simp_all | (simp; omega))) hHeld ?_
          simp only [Act.put, gA, gB, gC, gD, gE, gF]
          refine tkI 20 (.bool true) rfl hHeld ?_
          simp only [Act.put, gA, gB, gC, gD, gE, gF]
          refine wpAnyH_done (by kernel_rfl) ?_ _
          clear hHeld
          go_wp2
          go_ret
          exact ⟨rfl, HB.out.drew⟩
      · rw [valid_no (.inr (.inr (.inl (by rw [Hxy.out.1]; exact fun e => h1 e.symm))))]
        go_enter Try.func39, Try.ntmps39
        go_wp2_with (fail)
        refine HS.mono ?_
        rintro e w2 ⟨rfl, rfl⟩
        go_wp2_with (fail)
        refine HV.mono ?_
        rintro e w2 ⟨rfl, rfl⟩
        go_wp2
        refine wp_region_held_drew (S := (fun w' => w'.cell? ⟨w.heap.size, 0, none⟩ = some (.slice (some ⟨gs, os, none⟩) n p.sc) ∧ w'.cell? ⟨w.heap.size, 8, none⟩ = some (.slice (some ⟨gv, ov, none⟩) n p.vc) ∧ w'.cell? ⟨w.heap.size, 1, none⟩ = some (.int .i64 p.cid) ∧ w'.cell? ⟨gs, os + q, none⟩ = some (.int .i64 x) ∧ w'.cell? ⟨gv, ov + q, none⟩ = some (.int .i64 y))) (by kernel_rfl) ⟨below_at (Below.refl _ _).drew c0, below_at (Below.refl _ _).drew c8, below_at (Below.refl _ _).drew c1, below_at (Below.refl _ _).drew ex, below_at (Below.refl _ _).drew ey⟩ (fun hHeld => ?_)
        simp only [Act.put, List.size_toArray, List.length_cons, List.length_nil, Nat.zero_add]
        refine tkI 0 (.bool true) rfl hHeld ?_
        simp only [Act.put, gA, gB, gC, gD, gE, gF]
        refine tkI 1 (.bool false) rfl hHeld ?_
        simp only [Act.put, gA, gB, gC, gD, gE, gF]
        refine tkI 2 (.bool false) rfl hHeld ?_
        simp only [Act.put, gA, gB, gC, gD, gE, gF]
        refine tkI 3 (.pointer (some ⟨w.heap.size, 0, none⟩)) rfl hHeld ?_
        simp only [Act.put, gA, gB, gC, gD, gE, gF]
        refine tkL 4 (.slice (some ⟨gs, os, none⟩) n p.sc) rfl (fun w' hS => by (obtain ⟨s0, s1, s2, s3, s4⟩ := hS; go_simp)) hHeld ?_
        simp only [Act.put, gA, gB, gC, gD, gE, gF]
        refine tkI 5 (.int .i64 (q : Int)) rfl hHeld ?_
        simp only [Act.put, gA, gB, gC, gD, gE, gF]
        refine tkL 6 (.pointer (some ⟨gs, os + q, none⟩)) rfl (fun w' hS => by (go_simp <;> first | omega | simp_all | (simp; omega))) hHeld ?_
        simp only [Act.put, gA, gB, gC, gD, gE, gF]
        refine tkL 7 (.int .i64 x) rfl (fun w' hS => by (obtain ⟨s0, s1, s2, s3, s4⟩ := hS; go_simp)) hHeld ?_
        simp only [Act.put, gA, gB, gC, gD, gE, gF]
        refine tkI 8 (.int .i64 inc) rfl hHeld ?_
        simp only [Act.put, gA, gB, gC, gD, gE, gF]
        refine tkL 9 (.bool true) rfl (fun w' hS => by (go_simp <;> first | omega | simp_all | (simp; omega))) hHeld ?_
        simp only [Act.put, gA, gB, gC, gD, gE, gF]
        refine tkI 10 (.bool true) rfl hHeld ?_
        simp only [Act.put, gA, gB, gC, gD, gE, gF]
        refine tkI 11 (.bool true) rfl hHeld ?_
        simp only [Act.put, gA, gB, gC, gD, gE, gF]
        refine tkO 12 rfl hHeld ?_
        simp only [Act.put, gA, gB, gC, gD, gE, gF]
        refine tkO 13 rfl hHeld ?_
        simp only [Act.put, gA, gB, gC, gD, gE, gF]
        refine tkO 14 rfl hHeld ?_
        simp only [Act.put, gA, gB, gC, gD, gE, gF]
        refine tkO 15 rfl hHeld ?_
        simp only [Act.put, gA, gB, gC, gD, gE, gF]
        refine tkO 16 rfl hHeld ?_
        simp only [Act.put, gA, gB, gC, gD, gE, gF]
        refine tkO 17 rfl hHeld ?_
        simp only [Act.put, gA, gB, gC, gD, gE, gF]
        refine tkO 18 rfl hHeld ?_
        simp only [Act.put, gA, gB, gC, gD, gE, gF]
        refine tkO 19 rfl hHeld ?_
        simp only [Act.put, gA, gB, gC, gD, gE, gF]
        refine tkI 20 (.bool true) rfl hHeld ?_
        simp only [Act.put, gA, gB, gC, gD, gE, gF]
        refine wpAnyH_done (by kernel_rfl) ?_ _
        clear hHeld
        go_wp2
        go_ret
        exact ⟨rfl, HB.out.drew⟩
end
end Go.Proofs.Ytbdefhagpgpoiac.Mb
