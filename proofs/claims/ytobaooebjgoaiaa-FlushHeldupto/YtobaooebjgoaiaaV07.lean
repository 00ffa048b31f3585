import Derived.Test.YtobaooebjgoaiaaV06
import Derived.Test.YtobaooebjgoaiaaV05
namespace Go.Proofs.Ytobaooebjgoaiaa.Hh
open Go.RowKit Go.Maps Mb
set_option linter.unusedVariables false
set_option linter.unusedSimpArgs false
set_option maxRecDepth 100000
section
variable {w w' w1 w2 w3 Z Y V : World} {B T s : Nat} {S S' : St} {hb : Nat} {f f' : Nat → Nat → Nat → Value}
set_option maxHeartbeats 16000000 in
theorem rest_of (h : S.Ok w B hb G) (t : S.Fit) (hz : ∀ d, d < 6 → (S.q d).n = S.N d) : Calls Try.prog 28 #[.pointer (some ⟨hb, 0, none⟩)] w fun e w' => e = .returned (.bool true) ∧ Below w.heap.size w w' := by
 have HOk : Hid (S.Ok w B hb G) := h
 have HN : Hid ((∀ c, c < 6 → (S.r c).n = S.N c) ∧ (∀ c, c < 6 → (S.q c).n = S.N c) ∧ (∀ c, c < 6 → S.N c ≤ 100000000) ∧ ∀ c, c < 6 → ∀ i, i < S.N c → (S.v c i).n ≤ 100000000) := ⟨t.rn, hz, t.N, t.l⟩
 obtain ⟨N3, hN3⟩ : ∃ N, S.N 3 = N := ⟨_, rfl⟩
 have HN3 : Hid (S.N 3 = N3) := hN3
 have n3 : N3 ≤ 100000000 := by rw [← hN3]; exact t.N 3 (by omega)
 obtain ⟨N4, hN4⟩ : ∃ N, S.N 4 = N := ⟨_, rfl⟩
 have HN4 : Hid (S.N 4 = N4) := hN4
 have n4 : N4 ≤ 100000000 := by rw [← hN4]; exact t.N 4 (by omega)
 obtain ⟨N5, hN5⟩ : ∃ N, S.N 5 = N := ⟨_, rfl⟩
 have HN5 : Hid (S.N 5 = N5) := hN5
 have n5 : N5 ≤ 100000000 := by rw [← hN5]; exact t.N 5 (by omega)
 have HB0_ : Hid (Below w.heap.size w w) := Below.refl _ w
 have cc3 : w.cell? ⟨hb, 6, none⟩ = some (.slice (S.r 3).a N3 (S.r 3).c) := by have h1 := h.cr (d := 3) (by omega); rwa [HN.out.1 3 (by omega), HN3.out] at h1
 clear h t hz hN3 hN4 hN5
 go_enter Try.func28, Try.ntmps28
 go_wp2_with fail
 clear cc3
 go_loopw [3] (fun i wr => ∃ q : Nat, q ≤ N3 ∧ i = .int .i64 (q : Int) ∧ Below w.heap.size w wr) (fun i _ => N3 - (intOf i).toNat)
 case atStart => exact ⟨0, Nat.zero_le _, rfl, HB0_.out⟩
 case round =>
  as_aux_lemma =>
  obtain ⟨q, hq, rfl, hbl⟩ := hrel
  have HB : Hid (Below w.heap.size w wr) := hbl
  have cc : wr.cell? ⟨hb, 6, none⟩ = some (.slice (S.r 3).a N3 (S.r 3).c) := by have h1 := cell_up hbl (HOk.out.cr (d := 3) (by omega)); rwa [HN.out.1 3 (by omega), HN3.out] at h1
  clear hbl HB0_
  have i1 : (0 : Int) ≤ (q : Int) := Int.natCast_nonneg _
  by_cases hlt : q < N3
  ·have i2 : (q : Int) < (N3 : Int) := by omega
   have hqN : q < S.N 3 := by rw [HN3.out]; exact hlt
   obtain ⟨bg, hba, hbq⟩ := row_get (HOk.out.row 3 (by omega)) (i := q) (by rw [HN.out.1 3 (by omega)]; exact hqN)
   obtain ⟨mg, hma, hmq⟩ := row_get (HOk.out.mor 3 (by omega)) (i := q) (by rw [HN.out.2.1 3 (by omega)]; exact hqN)
   obtain ⟨⟨xa, xn, xc⟩, hx⟩ : ∃ x, S.u 3 q = x := ⟨_, rfl⟩
   obtain ⟨⟨ya, yn, yc⟩, hy⟩ : ∃ x, S.v 3 q = x := ⟨_, rfl⟩
   have hqQ : q < (S.q 3).n := by rw [HN.out.2.1 3 (by omega)]; exact hqN
   have hxy : xn = yn + 64 := by
    have h1 := (HOk.out.gro 3 (by omega)).n q hqQ
    rw [hx, hy] at h1
    exact h1
   have hyn : yn ≤ 100000000 := by
    have h1 := HN.out.2.2.2 3 (by omega) q hqN
    rw [hy] at h1
    exact h1
   have ro := (HOk.out.gro 3 (by omega)).o q hqQ
   have rb := (HOk.out.fam 3 (by omega)).o q hqN
   rw [hx] at ro hmq
   rw [hy] at rb hbq
   have HRo : Hid (∀ k, k < xn → ∃ g, xa = some ⟨g, 0, none⟩ ∧ w.cell? ⟨g, k * 7 + 4, none⟩ = some (.int .i64 (-1000 - (q : Int)))) := fun k hk => by
    obtain ⟨g, e1, -, e2⟩ := row_getF (y := ⟨xa, xn, xc⟩) ro hk (sz_pos 3)
    have h1 := e2 4 (by decide)
    rw [G_at 3 q k 4 (by decide)] at h1
    exact ⟨g, e1, h1⟩
   have HRb : Hid (∀ k, k < yn → ∃ g, ya = some ⟨g, 0, none⟩ ∧ w.cell? ⟨g, k * 7 + 4, none⟩ = some (.int .i64 (-1000 - (q : Int)))) := fun k hk => by
    obtain ⟨g, e1, -, e2⟩ := row_getF (y := ⟨ya, yn, yc⟩) rb hk (sz_pos 3)
    have h1 := e2 4 (by decide)
    rw [G_at 3 q k 4 (by decide)] at h1
    exact ⟨g, e1, h1⟩
   rw [hba] at cc
   obtain ⟨rc, hrc⟩ : ∃ rc, (S.r 3).c = rc := ⟨_, rfl⟩
   obtain ⟨qc, hqc⟩ : ∃ qc, (S.q 3).c = qc := ⟨_, rfl⟩
   rw [hrc] at cc
   have HC0 : Hid (∀ X, Below w.heap.size w X → X.cell? ⟨hb, 6, none⟩ = some (.slice (some ⟨bg, 0, none⟩) N3 rc)) := fun X hX => by have h1 := cell_up hX (HOk.out.cr (d := 3) (by omega)); rwa [HN.out.1 3 (by omega), HN3.out, hba, hrc] at h1
   have HC1 : Hid (∀ X, Below w.heap.size w X → X.cell? ⟨hb, 7, none⟩ = some (.slice (some ⟨mg, 0, none⟩) N3 qc)) := fun X hX => by have h1 := cell_up hX (HOk.out.cq (d := 3) (by omega)); rwa [HN.out.2.1 3 (by omega), HN3.out, hma, hqc] at h1
   have HCm : Hid (∀ X, Below w.heap.size w X → X.cell? ⟨mg, q, none⟩ = some (.slice xa xn xc)) := fun X hX => cell_up hX hmq
   have HCb : Hid (∀ X, Below w.heap.size w X → X.cell? ⟨bg, q, none⟩ = some (.slice ya yn yc)) := fun X hX => cell_up hX hbq
   have cb := HCb.out wr HB.out
   have k5 : (0 : Int) ≤ (yn : Int) := Int.natCast_nonneg _
   clear hma hmq hba hbq hx hy ro rb hqQ hqN hrc hqc
   go_wp2_with fail
   clear cc cb
   go_loopw [5] (fun i wr => ∃ k : Nat, k ≤ xn ∧ i = .int .i64 (k : Int) ∧ Below w.heap.size w wr) (fun i _ => xn - (intOf i).toNat)
   case atStart => exact ⟨0, Nat.zero_le _, rfl, HB.out⟩
   case round =>
    as_aux_lemma =>
    obtain ⟨k, hk, rfl, hbl⟩ := hrel
    have HB2 : Hid (Below w.heap.size w wr) := hbl
    have c1 := HC1.out wr hbl
    have cm := HCm.out wr hbl
    clear hbl HB
    have k1 : (0 : Int) ≤ (k : Int) := Int.natCast_nonneg _
    by_cases hlk : k < xn
    ·have k2 : (k : Int) < (xn : Int) := by omega
     have k4 : (k : Int) < (yn : Int) + 64 := by omega
     obtain ⟨xg, hxa, hxc⟩ := HRo.out k hlk
     subst hxa
     have x0 : wr.cell? ⟨xg, k * 7 + 4, none⟩ = some (.int .i64 (-1000 - (q : Int))) := cell_up HB2.out hxc
     have c0 := HC0.out wr HB2.out
     have cb := HCb.out wr HB2.out
     clear hxc
     by_cases hky : k < yn
     ·have k3 : (k : Int) < (yn : Int) := by omega
      obtain ⟨yg, hya, hyc⟩ := HRb.out k hky
      subst hya
      have y0 : wr.cell? ⟨yg, k * 7 + 4, none⟩ = some (.int .i64 (-1000 - (q : Int))) := cell_up HB2.out hyc
      clear hyc
      go_wp2_with fail
      exact ⟨⟨k + 1, by omega, by go_num, HB2.out⟩, by simp [intOf]; omega⟩
     ·have k3 : ¬ (k : Int) < (yn : Int) := by omega
      go_wp2_with fail
      exact ⟨⟨k + 1, by omega, by go_num, HB2.out⟩, by simp [intOf]; omega⟩
    ·obtain rfl : k = xn := by omega
     have k4 : ¬ (k : Int) < (yn : Int) + 64 := by omega
     clear c1 cm
     go_wp2_with fail
     exact ⟨⟨q + 1, by omega, by go_num, HB2.out⟩, by simp [intOf]; omega⟩
  ·have hqe : q = N3 := by omega
   have HB1_ : Hid (Below w.heap.size w wr) := HB.out
   have i9 : ¬ (q : Int) < (N3 : Int) := by omega
   clear HB hlt hq hqe
   obtain ⟨W_3, hW⟩ : ∃ W0, W0 = wr := ⟨_, rfl⟩
   subst hW
   have cc4 : W_3.cell? ⟨hb, 8, none⟩ = some (.slice (S.r 4).a N4 (S.r 4).c) := by have h1 := cell_up HB1_.out (HOk.out.cr (d := 4) (by omega)); rwa [HN.out.1 4 (by omega), HN4.out] at h1
   go_wp2_with fail
   clear cc4
   go_loopw [6] (fun i wr => ∃ q : Nat, q ≤ N4 ∧ i = .int .i64 (q : Int) ∧ Below w.heap.size w wr) (fun i _ => N4 - (intOf i).toNat)
   case atStart => exact ⟨0, Nat.zero_le _, rfl, HB1_.out⟩
   case round =>
    as_aux_lemma =>
    obtain ⟨q, hq, rfl, hbl⟩ := hrel
    have HB : Hid (Below w.heap.size w wr) := hbl
    have cc : wr.cell? ⟨hb, 8, none⟩ = some (.slice (S.r 4).a N4 (S.r 4).c) := by have h1 := cell_up hbl (HOk.out.cr (d := 4) (by omega)); rwa [HN.out.1 4 (by omega), HN4.out] at h1
    clear hbl HB1_
    have i1 : (0 : Int) ≤ (q : Int) := Int.natCast_nonneg _
    by_cases hlt : q < N4
    ·have i2 : (q : Int) < (N4 : Int) := by omega
     have hqN : q < S.N 4 := by rw [HN4.out]; exact hlt
     obtain ⟨bg, hba, hbq⟩ := row_get (HOk.out.row 4 (by omega)) (i := q) (by rw [HN.out.1 4 (by omega)]; exact hqN)
     obtain ⟨mg, hma, hmq⟩ := row_get (HOk.out.mor 4 (by omega)) (i := q) (by rw [HN.out.2.1 4 (by omega)]; exact hqN)
     obtain ⟨⟨xa, xn, xc⟩, hx⟩ : ∃ x, S.u 4 q = x := ⟨_, rfl⟩
     obtain ⟨⟨ya, yn, yc⟩, hy⟩ : ∃ x, S.v 4 q = x := ⟨_, rfl⟩
     have hqQ : q < (S.q 4).n := by rw [HN.out.2.1 4 (by omega)]; exact hqN
     have hxy : xn = yn + 64 := by
      have h1 := (HOk.out.gro 4 (by omega)).n q hqQ
      rw [hx, hy] at h1
      exact h1
     have hyn : yn ≤ 100000000 := by
      have h1 := HN.out.2.2.2 4 (by omega) q hqN
      rw [hy] at h1
      exact h1
     have ro := (HOk.out.gro 4 (by omega)).o q hqQ
     have rb := (HOk.out.fam 4 (by omega)).o q hqN
     rw [hx] at ro hmq
     rw [hy] at rb hbq
     have HRo : Hid (∀ k, k < xn → ∃ g, xa = some ⟨g, 0, none⟩ ∧ w.cell? ⟨g, k * 4 + 1, none⟩ = some (.int .i64 (-1000 - (q : Int)))) := fun k hk => by
      obtain ⟨g, e1, -, e2⟩ := row_getF (y := ⟨xa, xn, xc⟩) ro hk (sz_pos 4)
      have h1 := e2 1 (by decide)
      rw [G_at 4 q k 1 (by decide)] at h1
      exact ⟨g, e1, h1⟩
     have HRb : Hid (∀ k, k < yn → ∃ g, ya = some ⟨g, 0, none⟩ ∧ w.cell? ⟨g, k * 4 + 1, none⟩ = some (.int .i64 (-1000 - (q : Int)))) := fun k hk => by
      obtain ⟨g, e1, -, e2⟩ := row_getF (y := ⟨ya, yn, yc⟩) rb hk (sz_pos 4)
      have h1 := e2 1 (by decide)
      rw [G_at 4 q k 1 (by decide)] at h1
      exact ⟨g, e1, h1⟩
     rw [hba] at cc
     obtain ⟨rc, hrc⟩ : ∃ rc, (S.r 4).c = rc := ⟨_, rfl⟩
     obtain ⟨qc, hqc⟩ : ∃ qc, (S.q 4).c = qc := ⟨_, rfl⟩
     rw [hrc] at cc
     have HC0 : Hid (∀ X, Below w.heap.size w X → X.cell? ⟨hb, 8, none⟩ = some (.slice (some ⟨bg, 0, none⟩) N4 rc)) := fun X hX => by have h1 := cell_up hX (HOk.out.cr (d := 4) (by omega)); rwa [HN.out.1 4 (by omega), HN4.out, hba, hrc] at h1
     have HC1 : Hid (∀ X, Below w.heap.size w X → X.cell? ⟨hb, 9, none⟩ = some (.slice (some ⟨mg, 0, none⟩) N4 qc)) := fun X hX => by have h1 := cell_up hX (HOk.out.cq (d := 4) (by omega)); rwa [HN.out.2.1 4 (by omega), HN4.out, hma, hqc] at h1
     have HCm : Hid (∀ X, Below w.heap.size w X → X.cell? ⟨mg, q, none⟩ = some (.slice xa xn xc)) := fun X hX => cell_up hX hmq
     have HCb : Hid (∀ X, Below w.heap.size w X → X.cell? ⟨bg, q, none⟩ = some (.slice ya yn yc)) := fun X hX => cell_up hX hbq
     have cb := HCb.out wr HB.out
     have k5 : (0 : Int) ≤ (yn : Int) := Int.natCast_nonneg _
     clear hma hmq hba hbq hx hy ro rb hqQ hqN hrc hqc
     go_wp2_with fail
     clear cc cb
     go_loopw [8] (fun i wr => ∃ k : Nat, k ≤ xn ∧ i = .int .i64 (k : Int) ∧ Below w.heap.size w wr) (fun i _ => xn - (intOf i).toNat)
     case atStart => exact ⟨0, Nat.zero_le _, rfl, HB.out⟩
     case round =>
      as_aux_lemma =>
      obtain ⟨k, hk, rfl, hbl⟩ := hrel
      have HB2 : Hid (Below w.heap.size w wr) := hbl
      have c1 := HC1.out wr hbl
      have cm := HCm.out wr hbl
      clear hbl HB
      have k1 : (0 : Int) ≤ (k : Int) := Int.natCast_nonneg _
      by_cases hlk : k < xn
      ·have k2 : (k : Int) < (xn : Int) := by omega
       have k4 : (k : Int) < (yn : Int) + 64 := by omega
       obtain ⟨xg, hxa, hxc⟩ := HRo.out k hlk
       subst hxa
       have x0 : wr.cell? ⟨xg, k * 4 + 1, none⟩ = some (.int .i64 (-1000 - (q : Int))) := cell_up HB2.out hxc
       have c0 := HC0.out wr HB2.out
       have cb := HCb.out wr HB2.out
       clear hxc
       by_cases hky : k < yn
       ·have k3 : (k : Int) < (yn : Int) := by omega
        obtain ⟨yg, hya, hyc⟩ := HRb.out k hky
        subst hya
        have y0 : wr.cell? ⟨yg, k * 4 + 1, none⟩ = some (.int .i64 (-1000 - (q : Int))) := cell_up HB2.out hyc
        clear hyc
        go_wp2_with fail
        exact ⟨⟨k + 1, by omega, by go_num, HB2.out⟩, by simp [intOf]; omega⟩
       ·have k3 : ¬ (k : Int) < (yn : Int) := by omega
        go_wp2_with fail
        exact ⟨⟨k + 1, by omega, by go_num, HB2.out⟩, by simp [intOf]; omega⟩
      ·obtain rfl : k = xn := by omega
       have k4 : ¬ (k : Int) < (yn : Int) + 64 := by omega
       clear c1 cm
       go_wp2_with fail
       exact ⟨⟨q + 1, by omega, by go_num, HB2.out⟩, by simp [intOf]; omega⟩
    ·have hqe : q = N4 := by omega
     have HB2_ : Hid (Below w.heap.size w wr) := HB.out
     have i9 : ¬ (q : Int) < (N4 : Int) := by omega
     clear HB hlt hq hqe
     obtain ⟨W_4, hW⟩ : ∃ W0, W0 = wr := ⟨_, rfl⟩
     subst hW
     have cc5 : W_4.cell? ⟨hb, 10, none⟩ = some (.slice (S.r 5).a N5 (S.r 5).c) := by have h1 := cell_up HB2_.out (HOk.out.cr (d := 5) (by omega)); rwa [HN.out.1 5 (by omega), HN5.out] at h1
     go_wp2_with fail
     clear cc5
     go_loopw [9] (fun i wr => ∃ q : Nat, q ≤ N5 ∧ i = .int .i64 (q : Int) ∧ Below w.heap.size w wr) (fun i _ => N5 - (intOf i).toNat)
     case atStart => exact ⟨0, Nat.zero_le _, rfl, HB2_.out⟩
     case round =>
      as_aux_lemma =>
      obtain ⟨q, hq, rfl, hbl⟩ := hrel
      have HB : Hid (Below w.heap.size w wr) := hbl
      have cc : wr.cell? ⟨hb, 10, none⟩ = some (.slice (S.r 5).a N5 (S.r 5).c) := by have h1 := cell_up hbl (HOk.out.cr (d := 5) (by omega)); rwa [HN.out.1 5 (by omega), HN5.out] at h1
      clear hbl HB2_
      have i1 : (0 : Int) ≤ (q : Int) := Int.natCast_nonneg _
      by_cases hlt : q < N5
      ·have i2 : (q : Int) < (N5 : Int) := by omega
       have hqN : q < S.N 5 := by rw [HN5.out]; exact hlt
       obtain ⟨bg, hba, hbq⟩ := row_get (HOk.out.row 5 (by omega)) (i := q) (by rw [HN.out.1 5 (by omega)]; exact hqN)
       obtain ⟨mg, hma, hmq⟩ := row_get (HOk.out.mor 5 (by omega)) (i := q) (by rw [HN.out.2.1 5 (by omega)]; exact hqN)
       obtain ⟨⟨xa, xn, xc⟩, hx⟩ : ∃ x, S.u 5 q = x := ⟨_, rfl⟩
       obtain ⟨⟨ya, yn, yc⟩, hy⟩ : ∃ x, S.v 5 q = x := ⟨_, rfl⟩
       have hqQ : q < (S.q 5).n := by rw [HN.out.2.1 5 (by omega)]; exact hqN
       have hxy : xn = yn + 64 := by
        have h1 := (HOk.out.gro 5 (by omega)).n q hqQ
        rw [hx, hy] at h1
        exact h1
       have hyn : yn ≤ 100000000 := by
        have h1 := HN.out.2.2.2 5 (by omega) q hqN
        rw [hy] at h1
        exact h1
       have ro := (HOk.out.gro 5 (by omega)).o q hqQ
       have rb := (HOk.out.fam 5 (by omega)).o q hqN
       rw [hx] at ro hmq
       rw [hy] at rb hbq
       have HRo : Hid (∀ k, k < xn → ∃ g, xa = some ⟨g, 0, none⟩ ∧ w.cell? ⟨g, k * 4 + 2, none⟩ = some (.int .i64 (-1000 - (q : Int)))) := fun k hk => by
        obtain ⟨g, e1, -, e2⟩ := row_getF (y := ⟨xa, xn, xc⟩) ro hk (sz_pos 5)
        have h1 := e2 2 (by decide)
        rw [G_at 5 q k 2 (by decide)] at h1
        exact ⟨g, e1, h1⟩
       have HRb : Hid (∀ k, k < yn → ∃ g, ya = some ⟨g, 0, none⟩ ∧ w.cell? ⟨g, k * 4 + 2, none⟩ = some (.int .i64 (-1000 - (q : Int)))) := fun k hk => by
        obtain ⟨g, e1, -, e2⟩ := row_getF (y := ⟨ya, yn, yc⟩) rb hk (sz_pos 5)
        have h1 := e2 2 (by decide)
        rw [G_at 5 q k 2 (by decide)] at h1
        exact ⟨g, e1, h1⟩
       rw [hba] at cc
       obtain ⟨rc, hrc⟩ : ∃ rc, (S.r 5).c = rc := ⟨_, rfl⟩
       obtain ⟨qc, hqc⟩ : ∃ qc, (S.q 5).c = qc := ⟨_, rfl⟩
       rw [hrc] at cc
       have HC0 : Hid (∀ X, Below w.heap.size w X → X.cell? ⟨hb, 10, none⟩ = some (.slice (some ⟨bg, 0, none⟩) N5 rc)) := fun X hX => by have h1 := cell_up hX (HOk.out.cr (d := 5) (by omega)); rwa [HN.out.1 5 (by omega), HN5.out, hba, hrc] at h1
       have HC1 : Hid (∀ X, Below w.heap.size w X → X.cell? ⟨hb, 11, none⟩ = some (.slice (some ⟨mg, 0, none⟩) N5 qc)) := fun X hX => by have h1 := cell_up hX (HOk.out.cq (d := 5) (by omega)); rwa [HN.out.2.1 5 (by omega), HN5.out, hma, hqc] at h1
       have HCm : Hid (∀ X, Below w.heap.size w X → X.cell? ⟨mg, q, none⟩ = some (.slice xa xn xc)) := fun X hX => cell_up hX hmq
       have HCb : Hid (∀ X, Below w.heap.size w X → X.cell? ⟨bg, q, none⟩ = some (.slice ya yn yc)) := fun X hX => cell_up hX hbq
       have cb := HCb.out wr HB.out
       have k5 : (0 : Int) ≤ (yn : Int) := Int.natCast_nonneg _
       clear hma hmq hba hbq hx hy ro rb hqQ hqN hrc hqc
       go_wp2_with fail
       clear cc cb
       go_loopw [11] (fun i wr => ∃ k : Nat, k ≤ xn ∧ i = .int .i64 (k : Int) ∧ Below w.heap.size w wr) (fun i _ => xn - (intOf i).toNat)
       case atStart => exact ⟨0, Nat.zero_le _, rfl, HB.out⟩
       case round =>
        as_aux_lemma =>
        obtain ⟨k, hk, rfl, hbl⟩ := hrel
        have HB2 : Hid (Below w.heap.size w wr) := hbl
        have c1 := HC1.out wr hbl
        have cm := HCm.out wr hbl
        clear hbl HB
        have k1 : (0 : Int) ≤ (k : Int) := Int.natCast_nonneg _
        by_cases hlk : k < xn
        ·have k2 : (k : Int) < (xn : Int) := by omega
         have k4 : (k : Int) < (yn : Int) + 64 := by omega
         obtain ⟨xg, hxa, hxc⟩ := HRo.out k hlk
         subst hxa
         have x0 : wr.cell? ⟨xg, k * 4 + 2, none⟩ = some (.int .i64 (-1000 - (q : Int))) := cell_up HB2.out hxc
         have c0 := HC0.out wr HB2.out
         have cb := HCb.out wr HB2.out
         clear hxc
         by_cases hky : k < yn
         ·have k3 : (k : Int) < (yn : Int) := by omega
          obtain ⟨yg, hya, hyc⟩ := HRb.out k hky
          subst hya
          have y0 : wr.cell? ⟨yg, k * 4 + 2, none⟩ = some (.int .i64 (-1000 - (q : Int))) := cell_up HB2.out hyc
          clear hyc
          go_wp2_with fail
          exact ⟨⟨k + 1, by omega, by go_num, HB2.out⟩, by simp [intOf]; omega⟩
         ·have k3 : ¬ (k : Int) < (yn : Int) := by omega
          go_wp2_with fail
          exact ⟨⟨k + 1, by omega, by go_num, HB2.out⟩, by simp [intOf]; omega⟩
        ·obtain rfl : k = xn := by omega
         have k4 : ¬ (k : Int) < (yn : Int) + 64 := by omega
         clear c1 cm
         go_wp2_with fail
         exact ⟨⟨q + 1, by omega, by go_num, HB2.out⟩, by simp [intOf]; omega⟩
      ·have hqe : q = N5 := by omega
       have HB3_ : Hid (Below w.heap.size w wr) := HB.out
       have i9 : ¬ (q : Int) < (N5 : Int) := by omega
       clear HB hlt hq hqe
       obtain ⟨W_5, hW⟩ : ∃ W0, W0 = wr := ⟨_, rfl⟩
       subst hW
       go_wp2_with fail
       go_ret
       exact ⟨rfl, HB3_.out⟩
end
end Go.Proofs.Ytobaooebjgoaiaa.Hh
namespace Go.Proofs.Ytobaooebjgoaiaa.Hh
open Go.RowKit Go.Maps Mb
set_option linter.unusedVariables false
set_option linter.unusedSimpArgs false
set_option maxRecDepth 100000
section
variable {w w' w1 w2 w3 Z Y V : World} {B T s : Nat} {S S' : St} {hb : Nat} {f f' : Nat → Nat → Nat → Value}
set_option maxHeartbeats 8000000 in
theorem as_empty (h : S.Ok w B hb f) (t : S.Fit) (h3 : S.N 3 = 0) (h4 : S.N 4 = 0) (h15 : S.z 3 = .slice none 0 0) : Calls Try.prog 24 #[.pointer (some ⟨hb, 0, none⟩)] w fun e w' => e = .returned (.bool true) ∧ w = w' := by
 have c3 : w.cell? ⟨hb, 6, none⟩ = some (.slice (S.r 3).a 0 (S.r 3).c) := by have h1 := h.cr (d := 3) (by omega); rwa [t.rn 3 (by omega), h3] at h1
 have c4 : w.cell? ⟨hb, 8, none⟩ = some (.slice (S.r 4).a 0 (S.r 4).c) := by have h1 := h.cr (d := 4) (by omega); rwa [t.rn 4 (by omega), h4] at h1
 have c15 : w.cell? ⟨hb, 15, none⟩ = some (.slice none 0 0) := by have h1 := blk_cell h.blk 15; rw [← h15]; exact h1
 clear h t h3 h4 h15
 go_enter Try.func24, Try.ntmps24
 go_wp2_with fail
 go_loopw [3] (fun i wr => i = .int .i64 0 ∧ wr = w) (fun _ _ => 0)
 case atStart => exact ⟨rfl, rfl⟩
 case round =>
  as_aux_lemma =>
  obtain ⟨rfl, rfl⟩ := hrel
  go_wp2_with fail
  go_loopw [4] (fun i w2 => i = .int .i64 0 ∧ w2 = wr) (fun _ _ => 0)
  case atStart => exact ⟨rfl, rfl⟩
  case round =>
   as_aux_lemma =>
   obtain ⟨rfl, rfl⟩ := hrel
   go_wp2_with fail
   go_loopw [5] (fun i w2 => i = .int .i64 0 ∧ w2 = wr) (fun _ _ => 0)
   case atStart => exact ⟨rfl, rfl⟩
   case round =>
    as_aux_lemma =>
    obtain ⟨rfl, rfl⟩ := hrel
    go_wp2_with fail
    go_ret
    exact ⟨rfl, rfl⟩
set_option maxHeartbeats 8000000 in
theorem alone_any (h : S.Ok w B hb f) (t : S.Fit) (hz : ∀ d, d < 6 → (S.q d).n = 0) (h3 : S.N 3 = 0) (h4 : S.N 4 = 0) (h15 : S.z 3 = .slice none 0 0) (hB : B ≤ w.heap.size) : Calls Try.prog 6 #[.pointer (some ⟨hb, 0, none⟩)] w fun e w' => e = .returned (.bool true) ∧ Kept w w' (S.own hb) := by
 have HA : Hid (Calls Try.prog 24 #[.pointer (some ⟨hb, 0, none⟩)] w fun e w' => e = .returned (.bool true) ∧ w = w') := as_empty h t h3 h4 h15
 have HW : Hid (Calls Try.prog 25 #[.pointer (some ⟨hb, 0, none⟩)] w fun e w' => e = .returned (.tuple #[]) ∧ S.Ok w' B hb G ∧ Kept w w' (S.own hb)) := write_any h t hz
 have HT : Hid (S.Fit ∧ ∀ d, d < 6 → (S.q d).n = 0) := ⟨t, hz⟩
 have HBw : Hid (B ≤ w.heap.size) := hB
 clear h t hz h3 h4 h15 hB
 go_enter Try.func6, Try.ntmps6
 go_wp2_with (first
  | (go_at_call 24; refine HA.out.mono ?_; rintro e W1 ⟨rfl, rfl⟩)
  | (go_at_call 25; refine HW.out.mono ?_; rintro e W1 ⟨rfl, k1, k2⟩; have HO1 : Hid (S.Ok W1 B hb G) := k1; have HK1 : Hid (Kept w W1 (S.own hb)) := k2; clear k1 k2)
  | (go_at_call 26; refine (grow_any HO1.out HT.out.1 HT.out.2 (Nat.le_trans HBw.out HK1.out.size)).mono ?_; rintro e W2 ⟨rfl, Q, U, k1, k2, k3, k4⟩; have HO2 : Hid ((S.qu Q U).Ok W2 B hb G ∧ ∀ d, d < 6 → (Q d).n = S.N d) := ⟨k1, k3⟩; have HK2 : Hid (Kept w W2 (S.own hb)) := HK1.out.trans k2; clear k1 k2 k3 k4)
  | (go_at_call 27; refine (plain_any (S := S.qu Q U) HO2.out.1 ⟨HT.out.1.rn, HT.out.1.N, HT.out.1.l⟩ HO2.out.2).mono ?_; rintro e W3 ⟨rfl, k1⟩; have HB3 : Hid (Below W2.heap.size W2 W3) := k1; clear k1)
  | (go_at_call 28; refine (rest_of (S := S.qu Q U) (HO2.out.1.still HB3.out) ⟨HT.out.1.rn, HT.out.1.N, HT.out.1.l⟩ HO2.out.2).mono ?_; rintro e W4 ⟨rfl, k1⟩; have HB4 : Hid (Below W3.heap.size W3 W4) := k1; clear k1)
  | fail)
 go_ret
 exact ⟨rfl, (HK2.out.trans (Kept.ofBelow HB3.out _)).trans (Kept.ofBelow HB4.out _)⟩
end
end Go.Proofs.Ytobaooebjgoaiaa.Hh
