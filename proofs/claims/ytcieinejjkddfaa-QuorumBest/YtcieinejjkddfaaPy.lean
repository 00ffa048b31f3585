import Derived.Test.YtcieinejjkddfaaPx
namespace Go.Proofs.Ytcieinejjkddfaa.Qm
open Go.RowKit Mb
set_option linter.unusedVariables false
set_option maxRecDepth 100000
set_option linter.unusedSimpArgs false
section
variable {w w' : World} {B : Nat}
theorem size_or {s p : Nat} (hb : s.testBit p = false) : ∀ k, size (s ||| 2 ^ p) k = size s k + if p < k then 1 else 0
  | 0 => by simp [size]
  | k + 1 => by
      simp only [size, size_or hb k, Nat.testBit_or, Nat.testBit_two_pow]
      by_cases e : p = k
      · subst e
        simp [hb]
      · by_cases h : p < k
        · simp [e, h, show p < k + 1 by omega]; omega
        · simp [e, h, show ¬ p < k + 1 by omega]
theorem fit_p {x : St} (h : fitS x = true) : 0 ≤ x.p ∧ x.p ≤ 15 := by
  unfold fitS at h
  simp only [Bool.and_eq_true, decide_eq_true_eq] at h
  exact h.1
theorem arS_len : ∀ (ts : List St) (s : Nat), arS s ts = true → size s 16 + ts.length ≤ 16
  | [], s, _ => by have := size_le s 16; simpa using this
  | x :: r, s, h => by
      simp only [arS, Bool.and_eq_true, Bool.not_eq_true'] at h
      have hp := fit_p h.1
      have := arS_len r _ h.2.2
      rw [size_or h.2.1, if_pos (by omega)] at this
      simp only [List.length_cons]
      omega
def Gd (ts : List St) : Prop := (∀ x ∈ ts, fitS x = true) ∧ ts.Pairwise fun a b => a.p ≠ b.p
theorem arS_iff : ∀ (ts : List St) (s : Nat), arS s ts = true ↔ (∀ x ∈ ts, fitS x = true ∧ s.testBit x.p.toNat = false) ∧ ts.Pairwise fun a b => a.p ≠ b.p
  | [], s => by simp [arS]
  | x :: r, s => by
      simp only [arS, Bool.and_eq_true, Bool.not_eq_true', arS_iff r, List.pairwise_cons, List.mem_cons, forall_eq_or_imp, Nat.testBit_or, Nat.testBit_two_pow, Bool.or_eq_false_iff, decide_eq_false_iff_not]
      constructor
      · rintro ⟨h1, h2, h3, h4⟩
        refine ⟨⟨⟨h1, h2⟩, fun y hy => ⟨(h3 y hy).1, (h3 y hy).2.1⟩⟩, fun y hy e => ?_, h4⟩
        exact (h3 y hy).2.2 (by rw [e])
      · rintro ⟨⟨⟨h1, h2⟩, h3⟩, h4, h5⟩
        refine ⟨h1, h2, fun y hy => ⟨(h3 y hy).1, (h3 y hy).2, fun e => ?_⟩, h5⟩
        have a1 := fit_p h1
        have a2 := fit_p (h3 y hy).1
        exact h4 y hy (by omega)
theorem arS_gd (ts : List St) : arS 0 ts = true ↔ Gd ts := by
  rw [arS_iff]
  unfold Gd
  simp
theorem Gd.snoc {ts : List St} {x : St} (h : Gd ts) (hx : fitS x = true) (hd : ∀ y ∈ ts, y.p ≠ x.p) : Gd (ts ++ [x]) := by
  refine ⟨fun y hy => ?_, ?_⟩
  · rcases List.mem_append.1 hy with h1 | h1
    · exact h.1 y h1
    · rw [List.mem_singleton.1 h1]; exact hx
  · rw [List.pairwise_append]
    refine ⟨h.2, by simp, fun a ha b hb => ?_⟩
    rw [List.mem_singleton.1 hb]
    exact hd a ha
theorem bad_fit {ts : List St} {k : Nat} (hk : k < ts.length) (h : fitS (ts.getD k z3) = false) : ¬ Gd ts := fun hg => by
  have := hg.1 (ts.getD k z3) (by simp [List.getD, hk])
  rw [h] at this
  cases this
theorem bad_two {ts : List St} {j k : Nat} (hj : j < k) (hk : k < ts.length) (h : (ts.getD j z3).p = (ts.getD k z3).p) : ¬ Gd ts := fun hg => by
  have := (List.pairwise_iff_getElem.1 hg.2) j k (by omega) hk hj
  apply this
  simpa [List.getD, hk, show j < ts.length by omega] using h
theorem bet_no {ts : List St} (h : ¬ Gd ts) : betN ts = 0 ∧ betE ts = 1 := by
  have : arS 0 ts = false := by
    cases hb : arS 0 ts with
    | false => rfl
    | true => exact absurd ((arS_gd ts).1 hb) h
  unfold betN betE
  rw [this]
  simp
theorem bet_yes {ts : List St} (h : Gd ts) (h0 : ts.length ≠ 0) : betN ts = (bst ts ts.length : Int) ∧ betE ts = 0 := by
  unfold betN betE
  rw [(arS_gd ts).2 h, decide_eq_false h0]
  simp
set_option maxHeartbeats 2000000 in
theorem further_any (a b : St) : Calls Try.prog 27 #[.agg #[.int .i64 a.p, .int .i64 a.e, .int .i64 a.l], .agg #[.int .i64 b.p, .int .i64 b.e, .int .i64 b.l]] w fun e w' => e = .returned (.bool (furt a b)) ∧ Below w.heap.size w w' := by
  generalize hW1 : w.alloc (.cells #[.int .i64 a.p, .int .i64 a.e, .int .i64 a.l] 30) = W1
  generalize hW2 : W1.alloc (.cells #[.int .i64 b.p, .int .i64 b.e, .int .i64 b.l] 30) = W2
  have b1 : Below w.heap.size w W1 := hW1 ▸ balloc (Below.refl _ _)
  have b2 : Below W1.heap.size W1 W2 := hW2 ▸ balloc (Below.refl _ _)
  have s1 : W1.heap.size = w.heap.size + 1 := by rw [← hW1]; simp
  have k1 : W1.heap[w.heap.size]? = some (.cells #[.int .i64 a.p, .int .i64 a.e, .int .i64 a.l] 30 (0, 0)) := by rw [← hW1]; exact heap_alloc_new w _
  have k2 : W2.heap[W1.heap.size]? = some (.cells #[.int .i64 b.p, .int .i64 b.e, .int .i64 b.l] 30 (0, 0)) := by rw [← hW2]; exact heap_alloc_new W1 _
  rw [s1] at k2
  have q0 : W2.cell? ⟨w.heap.size, 0, none⟩ = some (.int .i64 a.p) := below_at b2 (blk_cell k1 0)
  have q1 : W2.cell? ⟨w.heap.size, 1, none⟩ = some (.int .i64 a.e) := below_at b2 (blk_cell k1 1)
  have q2 : W2.cell? ⟨w.heap.size, 2, none⟩ = some (.int .i64 a.l) := below_at b2 (blk_cell k1 2)
  have q3 : W2.cell? ⟨w.heap.size + 1, 0, none⟩ = some (.int .i64 b.p) := blk_cell k2 0
  have q4 : W2.cell? ⟨w.heap.size + 1, 1, none⟩ = some (.int .i64 b.e) := blk_cell k2 1
  have q5 : W2.cell? ⟨w.heap.size + 1, 2, none⟩ = some (.int .i64 b.l) := blk_cell k2 2
  have HB : Hid (Below w.heap.size w W2) := bstep b1 b2
  clear b1 b2 k1 k2
  obtain ⟨rr, hrr⟩ : ∃ rr, rr = furt a b := ⟨_, rfl⟩
  rw [← hrr]
  unfold furt at hrr
  generalize a.p = ap at *
  generalize a.e = ae at *
  generalize a.l = al at *
  generalize b.p = bp at *
  generalize b.e = be at *
  generalize b.l = bl at *
  by_cases h1 : ae = be
  · subst h1
    by_cases h2 : al = bl
    · subst h2
      have HF : Hid (rr = decide (ap < bp)) := (show _ = _ from by rw [hrr]; simp)
      clear hrr
      go_enter Try.func27, Try.ntmps27
      go_wp2
      go_ret
      exact ⟨by rw [HF.out]; first | rfl | (simp; omega) | simp_all, HB.out⟩
    · have h2b : (al == bl) = false := by rw [beq_eq_false_iff_ne]; exact h2
      have HF : Hid (rr = decide (bl < al)) := (show _ = _ from by rw [hrr]; simp [h2])
      clear hrr
      go_enter Try.func27, Try.ntmps27
      go_wp2
      go_ret
      exact ⟨by rw [HF.out]; first | rfl | (simp; omega) | simp_all, HB.out⟩
  · have h1b : (ae == be) = false := by rw [beq_eq_false_iff_ne]; exact h1
    have HF : Hid (rr = decide (be < ae)) := (show _ = _ from by rw [hrr]; simp [h1])
    clear hrr
    go_enter Try.func27, Try.ntmps27
    go_wp2
    go_ret
    exact ⟨by rw [HF.out]; first | rfl | (simp; omega) | simp_all, HB.out⟩
end
end Go.Proofs.Ytcieinejjkddfaa.Qm
