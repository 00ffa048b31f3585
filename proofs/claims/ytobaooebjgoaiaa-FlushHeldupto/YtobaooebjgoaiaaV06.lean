import Derived.Test.YtobaooebjgoaiaaV03
namespace Go.Proofs.Ytobaooebjgoaiaa.Hh
open Go.RowKit Go.Maps Mb
set_option linter.unusedVariables false
set_option linter.unusedSimpArgs false
set_option maxRecDepth 100000
section
variable {w w' w1 w2 w3 Z Y V : World} {B T s : Nat} {S S' : St} {hb : Nat} {f f' : Nat → Nat → Nat → Value}
theorem cell_up {g p : Nat} {v : Value} (hb : Below w.heap.size w w') (h : w.cell? ⟨g, p, none⟩ = some v) : w'.cell? ⟨g, p, none⟩ = some v := below_at hb h
theorem St.Ok.cr (h : S.Ok w B hb f) {d : Nat} (hd : d < 6) : w.cell? ⟨hb, 2 * d, none⟩ = some (.slice (S.r d).a (S.r d).n (S.r d).c) := by
 rw [blk_cell h.blk]
 have e : d = 0 ∨ d = 1 ∨ d = 2 ∨ d = 3 ∨ d = 4 ∨ d = 5 := by omega
 rcases e with rfl | rfl | rfl | rfl | rfl | rfl <;> rfl
theorem St.Ok.cq (h : S.Ok w B hb f) {d : Nat} (hd : d < 6) : w.cell? ⟨hb, 2 * d + 1, none⟩ = some (.slice (S.q d).a (S.q d).n (S.q d).c) := by
 rw [blk_cell h.blk]
 have e : d = 0 ∨ d = 1 ∨ d = 2 ∨ d = 3 ∨ d = 4 ∨ d = 5 := by omega
 rcases e with rfl | rfl | rfl | rfl | rfl | rfl <;> rfl
set_option maxHeartbeats 16000000 in
theorem plain_any (h : S.Ok w B hb G) (t : S.Fit) (hz : ∀ d, d < 6 → (S.q d).n = S.N d) : Calls Try.prog 27 #[.pointer (some ⟨hb, 0, none⟩)] w fun e w' => e = .returned (.bool true) ∧ Below w.heap.size w w' := by
 have HOk : Hid (S.Ok w B hb G) := h
 have HN : Hid ((∀ c, c < 6 → (S.r c).n = S.N c) ∧ (∀ c, c < 6 → (S.q c).n = S.N c) ∧ (∀ c, c < 6 → S.N c ≤ 100000000) ∧ ∀ c, c < 6 → ∀ i, i < S.N c → (S.v c i).n ≤ 100000000) := ⟨t.rn, hz, t.N, t.l⟩
 obtain ⟨N0, hN0⟩ : ∃ N, S.N 0 = N := ⟨_, rfl⟩
 have HN0 : Hid (S.N 0 = N0) := hN0
 have n0 : N0 ≤ 100000000 := by rw [← hN0]; exact t.N 0 (by omega)
 obtain ⟨N1, hN1⟩ : ∃ N, S.N 1 = N := ⟨_, rfl⟩
 have HN1 : Hid (S.N 1 = N1) := hN1
 have n1 : N1 ≤ 100000000 := by rw [← hN1]; exact t.N 1 (by omega)
 obtain ⟨N2, hN2⟩ : ∃ N, S.N 2 = N := ⟨_, rfl⟩
 have HN2 : Hid (S.N 2 = N2) := hN2
 have n2 : N2 ≤ 100000000 := by rw [← hN2]; exact t.N 2 (by omega)
 have HB0_ : Hid (Below w.heap.size w w) := Below.refl _ w
 have cc0 : w.cell? ⟨hb, 0, none⟩ = some (.slice (S.r 0).a N0 (S.r 0).c) := by have h1 := h.cr (d := 0) (by omega); rwa [HN.out.1 0 (by omega), HN0.out] at h1
 clear h t hz hN0 hN1 hN2
 go_enter Try.func27, Try.ntmps27
 go_wp2_with fail
 clear cc0
 go_loopw [3] (fun i wr => ∃ q : Nat, q ≤ N0 ∧ i = .int .i64 (q : Int) ∧ Below w.heap.size w wr) (fun i _ => N0 - (intOf i).toNat)
 case atStart => exact ⟨0, Nat.zero_le _, rfl, HB0_.out⟩
 case round =>
  as_aux_lemma =>
  obtain ⟨q, hq, rfl, hbl⟩ := hrel
  have HB : Hid (Below w.heap.size w wr) := hbl
  have cc : wr.cell? ⟨hb, 0, none⟩ = some (.slice (S.r 0).a N0 (S.r 0).c) := by have h1 := cell_up hbl (HOk.out.cr (d := 0) (by omega)); rwa [HN.out.1 0 (by omega), HN0.out] at h1
  clear hbl HB0_
  have i1 : (0 : Int) ≤ (q : Int) := Int.natCast_nonneg _
  by_cases hlt : q < N0
  ·have i2 : (q : Int) < (N0 : Int) := by omega
   have hqN : q < S.N 0 := by rw [HN0.out]; exact hlt
   obtain ⟨bg, hba, hbq⟩ := row_get (HOk.out.row 0 (by omega)) (i := q) (by rw [HN.out.1 0 (by omega)]; exact hqN)
   obtain ⟨mg, hma, hmq⟩ := row_get (HOk.out.mor 0 (by omega)) (i := q) (by rw [HN.out.2.1 0 (by omega)]; exact hqN)
   obtain ⟨⟨xa, xn, xc⟩, hx⟩ : ∃ x, S.u 0 q = x := ⟨_, rfl⟩
   obtain ⟨⟨ya, yn, yc⟩, hy⟩ : ∃ x, S.v 0 q = x := ⟨_, rfl⟩
   have hqQ : q < (S.q 0).n := by rw [HN.out.2.1 0 (by omega)]; exact hqN
   have hxy : xn = yn + 64 := by
    have h1 := (HOk.out.gro 0 (by omega)).n q hqQ
    rw [hx, hy] at h1
    exact h1
   have hyn : yn ≤ 100000000 := by
    have h1 := HN.out.2.2.2 0 (by omega) q hqN
    rw [hy] at h1
    exact h1
   have ro := (HOk.out.gro 0 (by omega)).o q hqQ
   have rb := (HOk.out.fam 0 (by omega)).o q hqN
   rw [hx] at ro hmq
   rw [hy] at rb hbq
   have HRo : Hid (∀ k, k < xn → ∃ g, xa = some ⟨g, 0, none⟩ ∧ w.cell? ⟨g, k, none⟩ = some (.int .u8 (1 + (q : Int) % 250))) := fun k hk => by
    obtain ⟨g, e1, -, e2⟩ := row_getF (y := ⟨xa, xn, xc⟩) ro hk (sz_pos 0)
    have h1 := e2 0 (by decide)
    rw [G_at 0 q k 0 (by decide)] at h1
    rw [show k * Sz 0 + 0 = k from Nat.mul_one k] at h1
    exact ⟨g, e1, h1⟩
   have HRb : Hid (∀ k, k < yn → ∃ g, ya = some ⟨g, 0, none⟩ ∧ w.cell? ⟨g, k, none⟩ = some (.int .u8 (1 + (q : Int) % 250))) := fun k hk => by
    obtain ⟨g, e1, -, e2⟩ := row_getF (y := ⟨ya, yn, yc⟩) rb hk (sz_pos 0)
    have h1 := e2 0 (by decide)
    rw [G_at 0 q k 0 (by decide)] at h1
    rw [show k * Sz 0 + 0 = k from Nat.mul_one k] at h1
    exact ⟨g, e1, h1⟩
   rw [hba] at cc
   obtain ⟨rc, hrc⟩ : ∃ rc, (S.r 0).c = rc := ⟨_, rfl⟩
   obtain ⟨qc, hqc⟩ : ∃ qc, (S.q 0).c = qc := ⟨_, rfl⟩
   rw [hrc] at cc
   have HC0 : Hid (∀ X, Below w.heap.size w X → X.cell? ⟨hb, 0, none⟩ = some (.slice (some ⟨bg, 0, none⟩) N0 rc)) := fun X hX => by have h1 := cell_up hX (HOk.out.cr (d := 0) (by omega)); rwa [HN.out.1 0 (by omega), HN0.out, hba, hrc] at h1
   have HC1 : Hid (∀ X, Below w.heap.size w X → X.cell? ⟨hb, 1, none⟩ = some (.slice (some ⟨mg, 0, none⟩) N0 qc)) := fun X hX => by have h1 := cell_up hX (HOk.out.cq (d := 0) (by omega)); rwa [HN.out.2.1 0 (by omega), HN0.out, hma, hqc] at h1
   have HCm : Hid (∀ X, Below w.heap.size w X → X.cell? ⟨mg, q, none⟩ = some (.slice xa xn xc)) := fun X hX => cell_up hX hmq
   have HCb : Hid (∀ X, Below w.heap.size w X → X.cell? ⟨bg, q, none⟩ = some (.slice ya yn yc)) := fun X hX => cell_up hX hbq
   have cb := HCb.out wr HB.out
   have k5 : (0 : Int) ≤ (yn : Int) := Int.natCast_nonneg _
   clear hma hmq hba hbq hx hy ro rb hqQ hqN hrc hqc
   go_wp2_with fail
   clear cc cb
   go_loopw [5] (fun i wr => ∃ k : Nat, k ≤ xn ∧ i = .int .i64 (k : Int) ∧ Below w.heap.size w wr) (fun i _ => xn - (intOf i).toNat)
   case atStart => exact ⟨0, Nat.zero_le _, rfl, HB.out⟩
   case round =>
    as_aux_lemma =>
    obtain ⟨k, hk, rfl, hbl⟩ := hrel
    have HB2 : Hid (Below w.heap.size w wr) := hbl
    have c1 := HC1.out wr hbl
    have cm := HCm.out wr hbl
    clear hbl HB
    have k1 : (0 : Int) ≤ (k : Int) := Int.natCast_nonneg _
    by_cases hlk : k < xn
    ·have k2 : (k : Int) < (xn : Int) := by omega
     have k4 : (k : Int) < (yn : Int) + 64 := by omega
     obtain ⟨xg, hxa, hxc⟩ := HRo.out k hlk
     subst hxa
     have HCx : Hid (wr.cell? ⟨xg, k, none⟩ = some (.int .u8 (1 + (q : Int) % 250))) := cell_up HB2.out hxc
     have HSg : Hid (∀ X, Calls Try.prog 56 #[.int .i64 (q : Int)] X fun e w' => e = .returned (.int .u8 (1 + (q : Int) % 250)) ∧ X = w') := fun X => byteOf_any q (by omega)
     clear hxc
     go_upto_region 8 with fail
     clear c1 cm
     by_cases hky : k < yn
     ·have k3 : (k : Int) < (yn : Int) := by omega
      obtain ⟨yg, hya, hyc⟩ := HRb.out k hky
      subst hya
      have HCy : Hid (wr.cell? ⟨yg, k, none⟩ = some (.int .u8 (1 + (q : Int) % 250))) := cell_up HB2.out hyc
      clear hyc
      refine wp_region_held_drew (S := (fun w' => w'.cell? ⟨hb, 1, none⟩ = some (.slice (some ⟨mg, 0, none⟩) N0 qc) ∧ w'.cell? ⟨mg, q, none⟩ = some (.slice (some ⟨xg, 0, none⟩) xn xc) ∧ w'.cell? ⟨xg, k, none⟩ = some (.int .u8 (1 + (q : Int) % 250)) ∧ w'.cell? ⟨hb, 0, none⟩ = some (.slice (some ⟨bg, 0, none⟩) N0 rc) ∧ w'.cell? ⟨bg, q, none⟩ = some (.slice (some ⟨yg, 0, none⟩) yn yc) ∧ w'.cell? ⟨yg, k, none⟩ = some (.int .u8 (1 + (q : Int) % 250)))) (by kernel_rfl) ⟨(below_at (drew_bel _) (HC1.out wr HB2.out)), (below_at (drew_bel _) (HCm.out wr HB2.out)), (below_at (drew_bel _) HCx.out), (below_at (drew_bel _) (HC0.out wr HB2.out)), (below_at (drew_bel _) (HCb.out wr HB2.out)), (below_at (drew_bel _) HCy.out)⟩ (fun hHeld => ?_)
      simp only [Act.put, List.size_toArray, List.length_cons, List.length_nil, Nat.zero_add]
      refine tG9 0 35 (.pointer (some ⟨hb, 0, none⟩)) rfl hHeld ?_
      simp only [Act.put,sA9,sZ9,sC9]
      refine tG9 1 36 (.pointer (some ⟨hb, 0, none⟩)) rfl hHeld ?_
      simp only [Act.put,sA9,sZ9,sC9]
      refine tG9 2 37 (.pointer (some ⟨hb, 1, none⟩)) rfl hHeld ?_
      simp only [Act.put,sA9,sZ9,sC9]
      refine tX9 3 38 (.slice (some ⟨mg, 0, none⟩) N0 qc) rfl (Or.inl ⟨by rfl, fun w' hS => by (obtain ⟨s0, s1, s2, s3, s4, s5⟩ := hS; go_simp)⟩) hHeld ?_
      simp only [Act.put,sA9,sZ9,sC9]
      refine tG9 4 39 (.int .i64 (q : Int)) rfl hHeld ?_
      simp only [Act.put,sA9,sZ9,sC9]
      refine tG9 5 40 (.pointer (some ⟨mg, q, none⟩)) rfl hHeld ?_
      simp only [Act.put,sA9,sZ9,sC9]
      refine tX9 6 41 (.slice (some ⟨xg, 0, none⟩) xn xc) rfl (Or.inl ⟨by rfl, fun w' hS => by (obtain ⟨s0, s1, s2, s3, s4, s5⟩ := hS; go_simp)⟩) hHeld ?_
      simp only [Act.put,sA9,sZ9,sC9]
      refine tG9 7 42 (.int .i64 (k : Int)) rfl hHeld ?_
      simp only [Act.put,sA9,sZ9,sC9]
      refine tG9 8 43 (.pointer (some ⟨xg, k, none⟩)) rfl hHeld ?_
      simp only [Act.put,sA9,sZ9,sC9]
      refine tX9 9 44 (.int .u8 (1 + (q : Int) % 250)) rfl (Or.inl ⟨by rfl, fun w' hS => by (obtain ⟨s0, s1, s2, s3, s4, s5⟩ := hS; go_simp)⟩) hHeld ?_
      simp only [Act.put,sA9,sZ9,sC9]
      refine tG9 10 45 (.int .i64 (q : Int)) rfl hHeld ?_
      simp only [Act.put,sA9,sZ9,sC9]
      have hbD1 : Below wr.heap.size wr wr.drew := drew_bel _
      have q0 := below_at hbD1 (HC1.out wr HB2.out)
      have q1 := below_at hbD1 (HCm.out wr HB2.out)
      have q2 := below_at hbD1 HCx.out
      have q3 := below_at hbD1 (HC0.out wr HB2.out)
      have q4 := below_at hbD1 (HCb.out wr HB2.out)
      have q5 := below_at hbD1 HCy.out
      generalize wr.drew = D1 at *
      refine wpAnyH_ready (rs := [11]) (by kernel_rfl) (by simp) ?_
      refine AllReadyH.cons rfl (fun K hK => ?_) AllReadyH.nil
      go_simp
      refine (HSg.out D1).mono ?_
      rintro e W9 ⟨rfl, rfl⟩
      refine hK.out _ _ ⟨q0, q1, q2, q3, q4, q5⟩ (fun hHeld => ?_)
      clear hK K
      refine tX9 12 47 (.bool false) rfl (Or.inl ⟨by rfl, fun w' hS => by (go_simp <;> simp)⟩) hHeld ?_
      simp only [Act.put,sA9,sZ9,sC9]
      refine tG9 13 48 (.bool false) rfl hHeld ?_
      simp only [Act.put,sA9,sZ9,sC9]
      refine tK9 14 49 (.int .i64 (k : Int)) rfl hHeld ?_
      simp only [Act.put,sA9,sZ9,sC9]
      refine tK9 15 50 (.int .i64 (yn : Int)) rfl hHeld ?_
      simp only [Act.put,sA9,sZ9,sC9]
      refine tX9 16 51 (.bool true) rfl (Or.inl ⟨by kernel_rfl, fun w' hS => by (go_simp <;> (simp <;> omega))⟩) hHeld ?_
      simp only [Act.put,sA9,sZ9,sC9]
      refine tK9 17 52 (.bool true) rfl hHeld ?_
      simp only [Act.put,sA9,sZ9,sC9]
      refine tK9 18 53 (.pointer (some ⟨hb, 0, none⟩)) rfl hHeld ?_
      simp only [Act.put,sA9,sZ9,sC9]
      refine tK9 19 54 (.pointer (some ⟨hb, 0, none⟩)) rfl hHeld ?_
      simp only [Act.put,sA9,sZ9,sC9]
      refine tK9 20 55 (.pointer (some ⟨hb, 0, none⟩)) rfl hHeld ?_
      simp only [Act.put,sA9,sZ9,sC9]
      refine tX9 21 56 (.slice (some ⟨bg, 0, none⟩) N0 rc) rfl (Or.inl ⟨by kernel_rfl, fun w' hS => by (obtain ⟨s0, s1, s2, s3, s4, s5⟩ := hS; go_simp)⟩) hHeld ?_
      simp only [Act.put,sA9,sZ9,sC9]
      refine tK9 22 57 (.int .i64 (q : Int)) rfl hHeld ?_
      simp only [Act.put,sA9,sZ9,sC9]
      refine tK9 23 58 (.pointer (some ⟨bg, q, none⟩)) rfl hHeld ?_
      simp only [Act.put,sA9,sZ9,sC9]
      refine tX9 24 59 (.slice (some ⟨yg, 0, none⟩) yn yc) rfl (Or.inl ⟨by kernel_rfl, fun w' hS => by (obtain ⟨s0, s1, s2, s3, s4, s5⟩ := hS; go_simp)⟩) hHeld ?_
      simp only [Act.put,sA9,sZ9,sC9]
      refine tK9 25 60 (.int .i64 (k : Int)) rfl hHeld ?_
      simp only [Act.put,sA9,sZ9,sC9]
      refine tK9 26 61 (.pointer (some ⟨yg, k, none⟩)) rfl hHeld ?_
      simp only [Act.put,sA9,sZ9,sC9]
      refine tX9 27 62 (.int .u8 (1 + (q : Int) % 250)) rfl (Or.inl ⟨by kernel_rfl, fun w' hS => by (obtain ⟨s0, s1, s2, s3, s4, s5⟩ := hS; go_simp)⟩) hHeld ?_
      simp only [Act.put,sA9,sZ9,sC9]
      refine tK9 28 63 (.int .i64 (q : Int)) rfl hHeld ?_
      simp only [Act.put,sA9,sZ9,sC9]
      refine wpAnyH_ready (rs := [29]) (by kernel_rfl) (by simp) ?_
      refine AllReadyH.cons rfl (fun K hK => ?_) AllReadyH.nil
      go_simp
      refine (HSg.out D1).mono ?_
      rintro e W9 ⟨rfl, rfl⟩
      refine hK.out _ _ ⟨q0, q1, q2, q3, q4, q5⟩ (fun hHeld => ?_)
      clear hK K
      refine tX9 30 65 (.bool false) rfl (Or.inl ⟨by kernel_rfl, fun w' hS => by (go_simp <;> simp)⟩) hHeld ?_
      simp only [Act.put,sA9,sZ9,sC9]
      refine tK9 31 66 (.bool false) rfl hHeld ?_
      simp only [Act.put,sA9,sZ9,sC9]
      refine tG9 32 67 (.bool false) rfl hHeld ?_
      simp only [Act.put,sA9,sZ9,sC9]
      refine wpAnyH_done (by kernel_rfl) ?_ _
      clear hHeld
      have HQ : Hid (Below w.heap.size w D1) := bstep HB2.out hbD1
      clear q0 q1 q2 q3 q4 q5 hbD1
      go_wp2_with (fail)
      exact ⟨⟨k + 1, by omega, by go_num, HQ.out⟩, by simp [intOf]; omega⟩
     ·have k3 : ¬ (k : Int) < (yn : Int) := by omega
      refine wp_region_held_drew (S := (fun w' => w'.cell? ⟨hb, 1, none⟩ = some (.slice (some ⟨mg, 0, none⟩) N0 qc) ∧ w'.cell? ⟨mg, q, none⟩ = some (.slice (some ⟨xg, 0, none⟩) xn xc) ∧ w'.cell? ⟨xg, k, none⟩ = some (.int .u8 (1 + (q : Int) % 250)) ∧ w'.cell? ⟨hb, 0, none⟩ = some (.slice (some ⟨bg, 0, none⟩) N0 rc) ∧ w'.cell? ⟨bg, q, none⟩ = some (.slice ya yn yc))) (by kernel_rfl) ⟨(below_at (drew_bel _) (HC1.out wr HB2.out)), (below_at (drew_bel _) (HCm.out wr HB2.out)), (below_at (drew_bel _) HCx.out), (below_at (drew_bel _) (HC0.out wr HB2.out)), (below_at (drew_bel _) (HCb.out wr HB2.out))⟩ (fun hHeld => ?_)
      simp only [Act.put, List.size_toArray, List.length_cons, List.length_nil, Nat.zero_add]
      refine tG9 0 35 (.pointer (some ⟨hb, 0, none⟩)) rfl hHeld ?_
      simp only [Act.put,sA9,sZ9,sC9]
      refine tG9 1 36 (.pointer (some ⟨hb, 0, none⟩)) rfl hHeld ?_
      simp only [Act.put,sA9,sZ9,sC9]
      refine tG9 2 37 (.pointer (some ⟨hb, 1, none⟩)) rfl hHeld ?_
      simp only [Act.put,sA9,sZ9,sC9]
      refine tX9 3 38 (.slice (some ⟨mg, 0, none⟩) N0 qc) rfl (Or.inl ⟨by rfl, fun w' hS => by (obtain ⟨s0, s1, s2, s3, s4⟩ := hS; go_simp)⟩) hHeld ?_
      simp only [Act.put,sA9,sZ9,sC9]
      refine tG9 4 39 (.int .i64 (q : Int)) rfl hHeld ?_
      simp only [Act.put,sA9,sZ9,sC9]
      refine tG9 5 40 (.pointer (some ⟨mg, q, none⟩)) rfl hHeld ?_
      simp only [Act.put,sA9,sZ9,sC9]
      refine tX9 6 41 (.slice (some ⟨xg, 0, none⟩) xn xc) rfl (Or.inl ⟨by rfl, fun w' hS => by (obtain ⟨s0, s1, s2, s3, s4⟩ := hS; go_simp)⟩) hHeld ?_
      simp only [Act.put,sA9,sZ9,sC9]
      refine tG9 7 42 (.int .i64 (k : Int)) rfl hHeld ?_
      simp only [Act.put,sA9,sZ9,sC9]
      refine tG9 8 43 (.pointer (some ⟨xg, k, none⟩)) rfl hHeld ?_
      simp only [Act.put,sA9,sZ9,sC9]
      refine tX9 9 44 (.int .u8 (1 + (q : Int) % 250)) rfl (Or.inl ⟨by rfl, fun w' hS => by (obtain ⟨s0, s1, s2, s3, s4⟩ := hS; go_simp)⟩) hHeld ?_
      simp only [Act.put,sA9,sZ9,sC9]
      refine tG9 10 45 (.int .i64 (q : Int)) rfl hHeld ?_
      simp only [Act.put,sA9,sZ9,sC9]
      have hbD1 : Below wr.heap.size wr wr.drew := drew_bel _
      have q0 := below_at hbD1 (HC1.out wr HB2.out)
      have q1 := below_at hbD1 (HCm.out wr HB2.out)
      have q2 := below_at hbD1 HCx.out
      have q3 := below_at hbD1 (HC0.out wr HB2.out)
      have q4 := below_at hbD1 (HCb.out wr HB2.out)
      generalize wr.drew = D1 at *
      refine wpAnyH_ready (rs := [11]) (by kernel_rfl) (by simp) ?_
      refine AllReadyH.cons rfl (fun K hK => ?_) AllReadyH.nil
      go_simp
      refine (HSg.out D1).mono ?_
      rintro e W9 ⟨rfl, rfl⟩
      refine hK.out _ _ ⟨q0, q1, q2, q3, q4⟩ (fun hHeld => ?_)
      clear hK K
      refine tX9 12 47 (.bool false) rfl (Or.inl ⟨by rfl, fun w' hS => by (go_simp <;> simp)⟩) hHeld ?_
      simp only [Act.put,sA9,sZ9,sC9]
      refine tG9 13 48 (.bool false) rfl hHeld ?_
      simp only [Act.put,sA9,sZ9,sC9]
      refine tK9 14 49 (.int .i64 (k : Int)) rfl hHeld ?_
      simp only [Act.put,sA9,sZ9,sC9]
      refine tK9 15 50 (.int .i64 (yn : Int)) rfl hHeld ?_
      simp only [Act.put,sA9,sZ9,sC9]
      refine tX9 16 51 (.bool false) rfl (Or.inl ⟨by kernel_rfl, fun w' hS => by (go_simp <;> (simp <;> omega))⟩) hHeld ?_
      simp only [Act.put,sA9,sZ9,sC9]
      refine tK9 17 52 (.bool false) rfl hHeld ?_
      simp only [Act.put,sA9,sZ9,sC9]
      refine tS9 18 53 rfl hHeld ?_
      simp only [Act.put,sA9,sZ9,sC9]
      refine tS9 19 54 rfl hHeld ?_
      simp only [Act.put,sA9,sZ9,sC9]
      refine tS9 20 55 rfl hHeld ?_
      simp only [Act.put,sA9,sZ9,sC9]
      refine tS9 21 56 rfl hHeld ?_
      simp only [Act.put,sA9,sZ9,sC9]
      refine tS9 22 57 rfl hHeld ?_
      simp only [Act.put,sA9,sZ9,sC9]
      refine tS9 23 58 rfl hHeld ?_
      simp only [Act.put,sA9,sZ9,sC9]
      refine tS9 24 59 rfl hHeld ?_
      simp only [Act.put,sA9,sZ9,sC9]
      refine tS9 25 60 rfl hHeld ?_
      simp only [Act.put,sA9,sZ9,sC9]
      refine tS9 26 61 rfl hHeld ?_
      simp only [Act.put,sA9,sZ9,sC9]
      refine tS9 27 62 rfl hHeld ?_
      simp only [Act.put,sA9,sZ9,sC9]
      refine tS9 28 63 rfl hHeld ?_
      simp only [Act.put,sA9,sZ9,sC9]
      refine tS9 29 64 rfl hHeld ?_
      simp only [Act.put,sA9,sZ9,sC9]
      refine tS9 30 65 rfl hHeld ?_
      simp only [Act.put,sA9,sZ9,sC9]
      refine tK9 31 66 (.bool false) rfl hHeld ?_
      simp only [Act.put,sA9,sZ9,sC9]
      refine tG9 32 67 (.bool false) rfl hHeld ?_
      simp only [Act.put,sA9,sZ9,sC9]
      refine wpAnyH_done (by kernel_rfl) ?_ _
      clear hHeld
      have HQ : Hid (Below w.heap.size w D1) := bstep HB2.out hbD1
      clear q0 q1 q2 q3 q4 hbD1
      go_wp2_with (fail)
      exact ⟨⟨k + 1, by omega, by go_num, HQ.out⟩, by simp [intOf]; omega⟩
    ·obtain rfl : k = xn := by omega
     have k4 : ¬ (k : Int) < (yn : Int) + 64 := by omega
     clear c1 cm
     go_wp2_with fail
     exact ⟨⟨q + 1, by omega, by go_num, HB2.out⟩, by simp [intOf]; omega⟩
  ·have hqe : q = N0 := by omega
   have HB1_ : Hid (Below w.heap.size w wr) := HB.out
   have i9 : ¬ (q : Int) < (N0 : Int) := by omega
   clear HB hlt hq hqe
   obtain ⟨W_0, hW⟩ : ∃ W0, W0 = wr := ⟨_, rfl⟩
   subst hW
   have cc1 : W_0.cell? ⟨hb, 2, none⟩ = some (.slice (S.r 1).a N1 (S.r 1).c) := by have h1 := cell_up HB1_.out (HOk.out.cr (d := 1) (by omega)); rwa [HN.out.1 1 (by omega), HN1.out] at h1
   go_wp2_with fail
   clear cc1
   go_loopw [6] (fun i wr => ∃ q : Nat, q ≤ N1 ∧ i = .int .i64 (q : Int) ∧ Below w.heap.size w wr) (fun i _ => N1 - (intOf i).toNat)
   case atStart => exact ⟨0, Nat.zero_le _, rfl, HB1_.out⟩
   case round =>
    as_aux_lemma =>
    obtain ⟨q, hq, rfl, hbl⟩ := hrel
    have HB : Hid (Below w.heap.size w wr) := hbl
    have cc : wr.cell? ⟨hb, 2, none⟩ = some (.slice (S.r 1).a N1 (S.r 1).c) := by have h1 := cell_up hbl (HOk.out.cr (d := 1) (by omega)); rwa [HN.out.1 1 (by omega), HN1.out] at h1
    clear hbl HB1_
    have i1 : (0 : Int) ≤ (q : Int) := Int.natCast_nonneg _
    by_cases hlt : q < N1
    ·have i2 : (q : Int) < (N1 : Int) := by omega
     have hqN : q < S.N 1 := by rw [HN1.out]; exact hlt
     obtain ⟨bg, hba, hbq⟩ := row_get (HOk.out.row 1 (by omega)) (i := q) (by rw [HN.out.1 1 (by omega)]; exact hqN)
     obtain ⟨mg, hma, hmq⟩ := row_get (HOk.out.mor 1 (by omega)) (i := q) (by rw [HN.out.2.1 1 (by omega)]; exact hqN)
     obtain ⟨⟨xa, xn, xc⟩, hx⟩ : ∃ x, S.u 1 q = x := ⟨_, rfl⟩
     obtain ⟨⟨ya, yn, yc⟩, hy⟩ : ∃ x, S.v 1 q = x := ⟨_, rfl⟩
     have hqQ : q < (S.q 1).n := by rw [HN.out.2.1 1 (by omega)]; exact hqN
     have hxy : xn = yn + 64 := by
      have h1 := (HOk.out.gro 1 (by omega)).n q hqQ
      rw [hx, hy] at h1
      exact h1
     have hyn : yn ≤ 100000000 := by
      have h1 := HN.out.2.2.2 1 (by omega) q hqN
      rw [hy] at h1
      exact h1
     have ro := (HOk.out.gro 1 (by omega)).o q hqQ
     have rb := (HOk.out.fam 1 (by omega)).o q hqN
     rw [hx] at ro hmq
     rw [hy] at rb hbq
     have HRo : Hid (∀ k, k < xn → ∃ g, xa = some ⟨g, 0, none⟩ ∧ w.cell? ⟨g, k, none⟩ = some (.int .i64 (-1000 - (q : Int)))) := fun k hk => by
      obtain ⟨g, e1, -, e2⟩ := row_getF (y := ⟨xa, xn, xc⟩) ro hk (sz_pos 1)
      have h1 := e2 0 (by decide)
      rw [G_at 1 q k 0 (by decide)] at h1
      rw [show k * Sz 1 + 0 = k from Nat.mul_one k] at h1
      exact ⟨g, e1, h1⟩
     have HRb : Hid (∀ k, k < yn → ∃ g, ya = some ⟨g, 0, none⟩ ∧ w.cell? ⟨g, k, none⟩ = some (.int .i64 (-1000 - (q : Int)))) := fun k hk => by
      obtain ⟨g, e1, -, e2⟩ := row_getF (y := ⟨ya, yn, yc⟩) rb hk (sz_pos 1)
      have h1 := e2 0 (by decide)
      rw [G_at 1 q k 0 (by decide)] at h1
      rw [show k * Sz 1 + 0 = k from Nat.mul_one k] at h1
      exact ⟨g, e1, h1⟩
     rw [hba] at cc
     obtain ⟨rc, hrc⟩ : ∃ rc, (S.r 1).c = rc := ⟨_, rfl⟩
     obtain ⟨qc, hqc⟩ : ∃ qc, (S.q 1).c = qc := ⟨_, rfl⟩
     rw [hrc] at cc
     have HC0 : Hid (∀ X, Below w.heap.size w X → X.cell? ⟨hb, 2, none⟩ = some (.slice (some ⟨bg, 0, none⟩) N1 rc)) := fun X hX => by have h1 := cell_up hX (HOk.out.cr (d := 1) (by omega)); rwa [HN.out.1 1 (by omega), HN1.out, hba, hrc] at h1
     have HC1 : Hid (∀ X, Below w.heap.size w X → X.cell? ⟨hb, 3, none⟩ = some (.slice (some ⟨mg, 0, none⟩) N1 qc)) := fun X hX => by have h1 := cell_up hX (HOk.out.cq (d := 1) (by omega)); rwa [HN.out.2.1 1 (by omega), HN1.out, hma, hqc] at h1
     have HCm : Hid (∀ X, Below w.heap.size w X → X.cell? ⟨mg, q, none⟩ = some (.slice xa xn xc)) := fun X hX => cell_up hX hmq
     have HCb : Hid (∀ X, Below w.heap.size w X → X.cell? ⟨bg, q, none⟩ = some (.slice ya yn yc)) := fun X hX => cell_up hX hbq
     have cb := HCb.out wr HB.out
     have k5 : (0 : Int) ≤ (yn : Int) := Int.natCast_nonneg _
     clear hma hmq hba hbq hx hy ro rb hqQ hqN hrc hqc
     go_wp2_with fail
     clear cc cb
     go_loopw [8] (fun i wr => ∃ k : Nat, k ≤ xn ∧ i = .int .i64 (k : Int) ∧ Below w.heap.size w wr) (fun i _ => xn - (intOf i).toNat)
     case atStart => exact ⟨0, Nat.zero_le _, rfl, HB.out⟩
     case round =>
      as_aux_lemma =>
      obtain ⟨k, hk, rfl, hbl⟩ := hrel
      have HB2 : Hid (Below w.heap.size w wr) := hbl
      have c1 := HC1.out wr hbl
      have cm := HCm.out wr hbl
      clear hbl HB
      have k1 : (0 : Int) ≤ (k : Int) := Int.natCast_nonneg _
      by_cases hlk : k < xn
      ·have k2 : (k : Int) < (xn : Int) := by omega
       have k4 : (k : Int) < (yn : Int) + 64 := by omega
       obtain ⟨xg, hxa, hxc⟩ := HRo.out k hlk
       subst hxa
       have x0 : wr.cell? ⟨xg, k, none⟩ = some (.int .i64 (-1000 - (q : Int))) := cell_up HB2.out hxc
       have c0 := HC0.out wr HB2.out
       have cb := HCb.out wr HB2.out
       clear hxc
       by_cases hky : k < yn
       ·have k3 : (k : Int) < (yn : Int) := by omega
        obtain ⟨yg, hya, hyc⟩ := HRb.out k hky
        subst hya
        have y0 : wr.cell? ⟨yg, k, none⟩ = some (.int .i64 (-1000 - (q : Int))) := cell_up HB2.out hyc
        clear hyc
        go_wp2_with fail
        exact ⟨⟨k + 1, by omega, by go_num, HB2.out⟩, by simp [intOf]; omega⟩
       ·have k3 : ¬ (k : Int) < (yn : Int) := by omega
        go_wp2_with fail
        exact ⟨⟨k + 1, by omega, by go_num, HB2.out⟩, by simp [intOf]; omega⟩
      ·obtain rfl : k = xn := by omega
       have k4 : ¬ (k : Int) < (yn : Int) + 64 := by omega
       clear c1 cm
       go_wp2_with fail
       exact ⟨⟨q + 1, by omega, by go_num, HB2.out⟩, by simp [intOf]; omega⟩
    ·have hqe : q = N1 := by omega
     have HB2_ : Hid (Below w.heap.size w wr) := HB.out
     have i9 : ¬ (q : Int) < (N1 : Int) := by omega
     clear HB hlt hq hqe
     obtain ⟨W_1, hW⟩ : ∃ W0, W0 = wr := ⟨_, rfl⟩
     subst hW
     have cc2 : W_1.cell? ⟨hb, 4, none⟩ = some (.slice (S.r 2).a N2 (S.r 2).c) := by have h1 := cell_up HB2_.out (HOk.out.cr (d := 2) (by omega)); rwa [HN.out.1 2 (by omega), HN2.out] at h1
     go_wp2_with fail
     clear cc2
     go_loopw [9] (fun i wr => ∃ q : Nat, q ≤ N2 ∧ i = .int .i64 (q : Int) ∧ Below w.heap.size w wr) (fun i _ => N2 - (intOf i).toNat)
     case atStart => exact ⟨0, Nat.zero_le _, rfl, HB2_.out⟩
     case round =>
      as_aux_lemma =>
      obtain ⟨q, hq, rfl, hbl⟩ := hrel
      have HB : Hid (Below w.heap.size w wr) := hbl
      have cc : wr.cell? ⟨hb, 4, none⟩ = some (.slice (S.r 2).a N2 (S.r 2).c) := by have h1 := cell_up hbl (HOk.out.cr (d := 2) (by omega)); rwa [HN.out.1 2 (by omega), HN2.out] at h1
      clear hbl HB2_
      have i1 : (0 : Int) ≤ (q : Int) := Int.natCast_nonneg _
      by_cases hlt : q < N2
      ·have i2 : (q : Int) < (N2 : Int) := by omega
       have hqN : q < S.N 2 := by rw [HN2.out]; exact hlt
       obtain ⟨bg, hba, hbq⟩ := row_get (HOk.out.row 2 (by omega)) (i := q) (by rw [HN.out.1 2 (by omega)]; exact hqN)
       obtain ⟨mg, hma, hmq⟩ := row_get (HOk.out.mor 2 (by omega)) (i := q) (by rw [HN.out.2.1 2 (by omega)]; exact hqN)
       obtain ⟨⟨xa, xn, xc⟩, hx⟩ : ∃ x, S.u 2 q = x := ⟨_, rfl⟩
       obtain ⟨⟨ya, yn, yc⟩, hy⟩ : ∃ x, S.v 2 q = x := ⟨_, rfl⟩
       have hqQ : q < (S.q 2).n := by rw [HN.out.2.1 2 (by omega)]; exact hqN
       have hxy : xn = yn + 64 := by
        have h1 := (HOk.out.gro 2 (by omega)).n q hqQ
        rw [hx, hy] at h1
        exact h1
       have hyn : yn ≤ 100000000 := by
        have h1 := HN.out.2.2.2 2 (by omega) q hqN
        rw [hy] at h1
        exact h1
       have ro := (HOk.out.gro 2 (by omega)).o q hqQ
       have rb := (HOk.out.fam 2 (by omega)).o q hqN
       rw [hx] at ro hmq
       rw [hy] at rb hbq
       have HRo : Hid (∀ k, k < xn → ∃ g, xa = some ⟨g, 0, none⟩ ∧ w.cell? ⟨g, k * 2 + 1, none⟩ = some (.int .i64 (-1000 - (q : Int)))) := fun k hk => by
        obtain ⟨g, e1, -, e2⟩ := row_getF (y := ⟨xa, xn, xc⟩) ro hk (sz_pos 2)
        have h1 := e2 1 (by decide)
        rw [G_at 2 q k 1 (by decide)] at h1
        exact ⟨g, e1, h1⟩
       have HRb : Hid (∀ k, k < yn → ∃ g, ya = some ⟨g, 0, none⟩ ∧ w.cell? ⟨g, k * 2 + 1, none⟩ = some (.int .i64 (-1000 - (q : Int)))) := fun k hk => by
        obtain ⟨g, e1, -, e2⟩ := row_getF (y := ⟨ya, yn, yc⟩) rb hk (sz_pos 2)
        have h1 := e2 1 (by decide)
        rw [G_at 2 q k 1 (by decide)] at h1
        exact ⟨g, e1, h1⟩
       rw [hba] at cc
       obtain ⟨rc, hrc⟩ : ∃ rc, (S.r 2).c = rc := ⟨_, rfl⟩
       obtain ⟨qc, hqc⟩ : ∃ qc, (S.q 2).c = qc := ⟨_, rfl⟩
       rw [hrc] at cc
       have HC0 : Hid (∀ X, Below w.heap.size w X → X.cell? ⟨hb, 4, none⟩ = some (.slice (some ⟨bg, 0, none⟩) N2 rc)) := fun X hX => by have h1 := cell_up hX (HOk.out.cr (d := 2) (by omega)); rwa [HN.out.1 2 (by omega), HN2.out, hba, hrc] at h1
       have HC1 : Hid (∀ X, Below w.heap.size w X → X.cell? ⟨hb, 5, none⟩ = some (.slice (some ⟨mg, 0, none⟩) N2 qc)) := fun X hX => by have h1 := cell_up hX (HOk.out.cq (d := 2) (by omega)); rwa [HN.out.2.1 2 (by omega), HN2.out, hma, hqc] at h1
       have HCm : Hid (∀ X, Below w.heap.size w X → X.cell? ⟨mg, q, none⟩ = some (.slice xa xn xc)) := fun X hX => cell_up hX hmq
       have HCb : Hid (∀ X, Below w.heap.size w X → X.cell? ⟨bg, q, none⟩ = some (.slice ya yn yc)) := fun X hX => cell_up hX hbq
       have cb := HCb.out wr HB.out
       have k5 : (0 : Int) ≤ (yn : Int) := Int.natCast_nonneg _
       clear hma hmq hba hbq hx hy ro rb hqQ hqN hrc hqc
       go_wp2_with fail
       clear cc cb
       go_loopw [11] (fun i wr => ∃ k : Nat, k ≤ xn ∧ i = .int .i64 (k : Int) ∧ Below w.heap.size w wr) (fun i _ => xn - (intOf i).toNat)
       case atStart => exact ⟨0, Nat.zero_le _, rfl, HB.out⟩
       case round =>
        as_aux_lemma =>
        obtain ⟨k, hk, rfl, hbl⟩ := hrel
        have HB2 : Hid (Below w.heap.size w wr) := hbl
        have c1 := HC1.out wr hbl
        have cm := HCm.out wr hbl
        clear hbl HB
        have k1 : (0 : Int) ≤ (k : Int) := Int.natCast_nonneg _
        by_cases hlk : k < xn
        ·have k2 : (k : Int) < (xn : Int) := by omega
         have k4 : (k : Int) < (yn : Int) + 64 := by omega
         obtain ⟨xg, hxa, hxc⟩ := HRo.out k hlk
         subst hxa
         have x0 : wr.cell? ⟨xg, k * 2 + 1, none⟩ = some (.int .i64 (-1000 - (q : Int))) := cell_up HB2.out hxc
         have c0 := HC0.out wr HB2.out
         have cb := HCb.out wr HB2.out
         clear hxc
         by_cases hky : k < yn
         ·have k3 : (k : Int) < (yn : Int) := by omega
          obtain ⟨yg, hya, hyc⟩ := HRb.out k hky
          subst hya
          have y0 : wr.cell? ⟨yg, k * 2 + 1, none⟩ = some (.int .i64 (-1000 - (q : Int))) := cell_up HB2.out hyc
          clear hyc
          go_wp2_with fail
          exact ⟨⟨k + 1, by omega, by go_num, HB2.out⟩, by simp [intOf]; omega⟩
         ·have k3 : ¬ (k : Int) < (yn : Int) := by omega
          go_wp2_with fail
          exact ⟨⟨k + 1, by omega, by go_num, HB2.out⟩, by simp [intOf]; omega⟩
        ·obtain rfl : k = xn := by omega
         have k4 : ¬ (k : Int) < (yn : Int) + 64 := by omega
         clear c1 cm
         go_wp2_with fail
         exact ⟨⟨q + 1, by omega, by go_num, HB2.out⟩, by simp [intOf]; omega⟩
      ·have hqe : q = N2 := by omega
       have HB3_ : Hid (Below w.heap.size w wr) := HB.out
       have i9 : ¬ (q : Int) < (N2 : Int) := by omega
       clear HB hlt hq hqe
       obtain ⟨W_2, hW⟩ : ∃ W0, W0 = wr := ⟨_, rfl⟩
       subst hW
       go_wp2_with fail
       go_ret
       exact ⟨rfl, HB3_.out⟩
end
end Go.Proofs.Ytobaooebjgoaiaa.Hh
