import Derived.Test.YtobaooebjgoaiaaV34
import Derived.Test.YtobaooebjgoaiaaV06
namespace Go.Proofs.Ytobaooebjgoaiaa.Hh
open Go.RowKit Go.Maps Mb
set_option linter.unusedVariables false
set_option linter.unusedSimpArgs false
set_option maxRecDepth 100000
section
variable {w w' w1 w2 w3 Z Y V : World} {B T s : Nat} {lb : Nat} {P : Nat → Prop}
theorem wrap8 {n : Int} (h0 : 0 ≤ n) (h1 : n ≤ 255) : IntKind.u8.wrap n = n := by rw [IntKind.wrap_u8]; omega
set_option maxHeartbeats 16000000 in
theorem kept_any {L : Lt} (h : L.Ok w B lb) (hn : ∀ c, c < 3 → (L.r c).n ≤ 100000000) : Calls Try.prog 23 #[.pointer (some ⟨lb, 0, none⟩)] w fun e w' => e = .returned (.bool true) ∧ Below w.heap.size w w' := by
 have HOk : Hid (L.Ok w B lb) := h
 obtain ⟨N0, hN0⟩ : ∃ N, (L.r 0).n = N := ⟨_, rfl⟩
 have HN0 : Hid ((L.r 0).n = N0) := hN0
 have n0 : N0 ≤ 100000000 := by rw [← hN0]; exact hn 0 (by omega)
 obtain ⟨N1, hN1⟩ : ∃ N, (L.r 1).n = N := ⟨_, rfl⟩
 have HN1 : Hid ((L.r 1).n = N1) := hN1
 have n1 : N1 ≤ 100000000 := by rw [← hN1]; exact hn 1 (by omega)
 obtain ⟨N2, hN2⟩ : ∃ N, (L.r 2).n = N := ⟨_, rfl⟩
 have HN2 : Hid ((L.r 2).n = N2) := hN2
 have n2 : N2 ≤ 100000000 := by rw [← hN2]; exact hn 2 (by omega)
 clear h hn hN0 hN1 hN2
 go_enter Try.func23, Try.ntmps23
 go_wp2_with fail
 go_loopw [3, 4] (fun b i wr => b = .bool true ∧ ∃ k : Nat, k ≤ 64 ∧ i = .int .i64 (k : Int) ∧ Below w.heap.size w wr) (fun _ i _ => 64 - (intOf i).toNat)
 case atStart => exact ⟨rfl, 0, by omega, rfl, Below.refl _ w⟩
 case round =>
  as_aux_lemma =>
  obtain ⟨rfl, k, hk, rfl, hbl⟩ := hrel
  have HB0_ : Hid (Below w.heap.size w wr) := hbl
  clear hbl
  have k1 : (0 : Int) ≤ (k : Int) := Int.natCast_nonneg _
  by_cases hk64 : k < 64
  ·have k2 : (k : Int) < 64 := by omega
   have cc0 : wr.cell? ⟨lb, 0, none⟩ = some (.slice (L.r 0).a N0 (L.r 0).c) := by have h1 := cell_up HB0_.out (HOk.out.cell (c := 0) (by omega)); rwa [HN0.out] at h1
   go_wp2_with fail
   clear cc0
   go_loopw [3, 5] (fun b i wr => b = .bool true ∧ ∃ q : Nat, q ≤ N0 ∧ i = .int .i64 (q : Int) ∧ Below w.heap.size w wr) (fun _ i _ => N0 - (intOf i).toNat)
   case atStart => exact ⟨rfl, 0, Nat.zero_le _, rfl, HB0_.out⟩
   case round =>
    as_aux_lemma =>
    obtain ⟨rfl, q, hq, rfl, hbl⟩ := hrel
    have HB2 : Hid (Below w.heap.size w wr) := hbl
    have cc : wr.cell? ⟨lb, 0, none⟩ = some (.slice (L.r 0).a N0 (L.r 0).c) := by have h1 := cell_up hbl (HOk.out.cell (c := 0) (by omega)); rwa [HN0.out] at h1
    clear hbl HB0_
    have i1 : (0 : Int) ≤ (q : Int) := Int.natCast_nonneg _
    by_cases hlt : q < N0
    ·have i2 : (q : Int) < (N0 : Int) := by omega
     have hqN : q < (L.r 0).n := by rw [HN0.out]; exact hlt
     obtain ⟨rg, hba, hbq⟩ := row_get (HOk.out.row 0 (by omega)) hqN
     obtain ⟨n, f, hxn0, hn, ho, htl⟩ := (HOk.out.fam 0 (by omega) q hqN).out
     obtain ⟨⟨xa, xn, xc⟩, hx⟩ : ∃ x, L.v 0 q = x := ⟨_, rfl⟩
     rw [hx] at hxn0 ho hbq
     have hxn : xn = n + 64 := hxn0
     obtain ⟨xg, hxa, -, hcl⟩ := row_getF (y := ⟨xa, xn, xc⟩) (i := n + k) ho (by show n + k < xn; omega) (show 0 < LSz 0 from by decide)
     have hxa : xa = some ⟨xg, 0, none⟩ := hxa
     subst hxa
     have hcx := hcl (LOf 0) (by decide)
     rw [htl k hk64] at hcx
     obtain ⟨p, hpe⟩ : ∃ p, p = n + k := ⟨_, rfl⟩
     have hp : (xn : Int) - 64 + (k : Int) = (p : Int) := by omega
     have p1 : (0 : Int) ≤ (p : Int) := Int.natCast_nonneg _
     have p2 : (p : Int) < (xn : Int) := by omega
     rw [← hpe] at hcx
     rw [show p * LSz 0 + LOf 0 = p from Nat.mul_one p] at hcx
     have HCx : Hid (∀ X, Below w.heap.size w X → X.cell? ⟨xg, p, none⟩ = some (.int .i64 (-700 - (k : Int)))) := fun X hX => cell_up hX hcx
     have HC0 : Hid (∀ X, Below w.heap.size w X → X.cell? ⟨lb, 0, none⟩ = some (.slice (some ⟨rg, 0, none⟩) N0 (L.r 0).c)) := fun X hX => by have h1 := cell_up hX (HOk.out.cell (c := 0) (by omega)); rwa [HN0.out, hba] at h1
     have HCm : Hid (∀ X, Below w.heap.size w X → X.cell? ⟨rg, q, none⟩ = some (.slice (some ⟨xg, 0, none⟩) xn xc)) := fun X hX => cell_up hX hbq
     have hxn2 : xn ≤ 100000064 := by omega
     obtain ⟨rc, hrc⟩ : ∃ rc, (L.r 0).c = rc := ⟨_, rfl⟩
     rw [hrc] at HC0
     have HC0 : Hid (∀ X, Below w.heap.size w X → X.cell? ⟨lb, 0, none⟩ = some (.slice (some ⟨rg, 0, none⟩) N0 rc)) := HC0
     rw [hba, hrc] at cc
     clear hba hbq hxn hxn0 hn ho htl hx hcl hcx hqN hrc hpe f
     go_upto_region 8 with fail
     clear cc
     refine wp_region_held_drew (S := (fun w' => w'.cell? ⟨lb, 0, none⟩ = some (.slice (some ⟨rg, 0, none⟩) N0 rc) ∧ w'.cell? ⟨rg, q, none⟩ = some (.slice (some ⟨xg, 0, none⟩) xn xc) ∧ w'.cell? ⟨xg, p, none⟩ = some (.int .i64 (-700 - (k : Int))))) (by kernel_rfl) ⟨(below_at (drew_bel _) (HC0.out wr HB2.out)), (below_at (drew_bel _) (HCm.out wr HB2.out)), (below_at (drew_bel _) (HCx.out wr HB2.out))⟩ (fun hHeld => ?_)
     simp only [Act.put, List.size_toArray, List.length_cons, List.length_nil, Nat.zero_add]
     refine tG9 0 22 (.bool true) rfl hHeld ?_
     simp only [Act.put,sA9,sZ9,sC9]
     refine tG9 1 23 (.bool true) rfl hHeld ?_
     simp only [Act.put,sA9,sZ9,sC9]
     refine tK9 2 24 (.pointer (some ⟨lb, 0, none⟩)) rfl hHeld ?_
     simp only [Act.put,sA9,sZ9,sC9]
     refine tK9 3 25 (.pointer (some ⟨lb, 0, none⟩)) rfl hHeld ?_
     simp only [Act.put,sA9,sZ9,sC9]
     refine tK9 4 26 (.pointer (some ⟨lb, 0, none⟩)) rfl hHeld ?_
     simp only [Act.put,sA9,sZ9,sC9]
     refine tX9 5 27 (.slice (some ⟨rg, 0, none⟩) N0 rc) rfl (Or.inl ⟨by kernel_rfl, fun w' hS => by (obtain ⟨s0, s1, s2⟩ := hS; go_simp)⟩) hHeld ?_
     simp only [Act.put,sA9,sZ9,sC9]
     refine tK9 6 28 (.int .i64 (q : Int)) rfl hHeld ?_
     simp only [Act.put,sA9,sZ9,sC9]
     refine tK9 7 29 (.pointer (some ⟨rg, q, none⟩)) rfl hHeld ?_
     simp only [Act.put,sA9,sZ9,sC9]
     refine tX9 8 30 (.slice (some ⟨xg, 0, none⟩) xn xc) rfl (Or.inl ⟨by kernel_rfl, fun w' hS => by (obtain ⟨s0, s1, s2⟩ := hS; go_simp)⟩) hHeld ?_
     simp only [Act.put,sA9,sZ9,sC9]
     refine tK9 9 31 (.pointer (some ⟨lb, 0, none⟩)) rfl hHeld ?_
     simp only [Act.put,sA9,sZ9,sC9]
     refine tK9 10 32 (.pointer (some ⟨lb, 0, none⟩)) rfl hHeld ?_
     simp only [Act.put,sA9,sZ9,sC9]
     refine tK9 11 33 (.pointer (some ⟨lb, 0, none⟩)) rfl hHeld ?_
     simp only [Act.put,sA9,sZ9,sC9]
     refine tX9 12 34 (.slice (some ⟨rg, 0, none⟩) N0 rc) rfl (Or.inl ⟨by kernel_rfl, fun w' hS => by (obtain ⟨s0, s1, s2⟩ := hS; go_simp)⟩) hHeld ?_
     simp only [Act.put,sA9,sZ9,sC9]
     refine tK9 13 35 (.int .i64 (q : Int)) rfl hHeld ?_
     simp only [Act.put,sA9,sZ9,sC9]
     refine tK9 14 36 (.pointer (some ⟨rg, q, none⟩)) rfl hHeld ?_
     simp only [Act.put,sA9,sZ9,sC9]
     refine tX9 15 37 (.slice (some ⟨xg, 0, none⟩) xn xc) rfl (Or.inl ⟨by kernel_rfl, fun w' hS => by (obtain ⟨s0, s1, s2⟩ := hS; go_simp)⟩) hHeld ?_
     simp only [Act.put,sA9,sZ9,sC9]
     refine tK9 16 38 (.int .i64 (xn : Int)) rfl hHeld ?_
     simp only [Act.put,sA9,sZ9,sC9]
     refine tX9 17 39 (.int .i64 ((xn : Int) - 64)) rfl (Or.inl ⟨by kernel_rfl, fun w' hS => by (go_simp <;> exact wrap_id (by omega) (by omega))⟩) hHeld ?_
     simp only [Act.put,sA9,sZ9,sC9]
     refine tK9 18 40 (.int .i64 (k : Int)) rfl hHeld ?_
     simp only [Act.put,sA9,sZ9,sC9]
     refine tX9 19 41 (.int .i64 (p : Int)) rfl (Or.inl ⟨by kernel_rfl, fun w' hS => by (go_simp <;> exact wrap_id (by omega) (by omega))⟩) hHeld ?_
     simp only [Act.put,sA9,sZ9,sC9]
     refine tK9 20 42 (.pointer (some ⟨xg, p, none⟩)) rfl hHeld ?_
     simp only [Act.put,sA9,sZ9,sC9]
     refine tX9 21 43 (.int .i64 (-700 - (k : Int))) rfl (Or.inl ⟨by kernel_rfl, fun w' hS => by (obtain ⟨s0, s1, s2⟩ := hS; go_simp)⟩) hHeld ?_
     simp only [Act.put,sA9,sZ9,sC9]
     refine tK9 22 44 (.int .i64 (k : Int)) rfl hHeld ?_
     simp only [Act.put,sA9,sZ9,sC9]
     refine tX9 23 45 (.int .i64 (-700 - (k : Int))) rfl (Or.inl ⟨by kernel_rfl, fun w' hS => by (go_simp <;> exact wrap_id (by omega) (by omega))⟩) hHeld ?_
     simp only [Act.put,sA9,sZ9,sC9]
     refine tX9 24 46 (.bool true) rfl (Or.inl ⟨by kernel_rfl, fun w' hS => by (go_simp <;> simp)⟩) hHeld ?_
     simp only [Act.put,sA9,sZ9,sC9]
     refine tG9 25 47 (.bool true) rfl hHeld ?_
     simp only [Act.put,sA9,sZ9,sC9]
     refine tG9 26 3 (.bool true) rfl hHeld ?_
     simp only [Act.put,sA9,sZ9,sC9]
     refine wpAnyH_done (by kernel_rfl) ?_ _
     clear hHeld
     have HQ : Hid (Below w.heap.size w wr.drew) := bstep HB2.out (drew_bel _)
     generalize wr.drew = D1 at *
     go_wp2_with (fail)
     exact ⟨⟨rfl, q + 1, by omega, by go_num, HQ.out⟩, by simp [intOf]; omega⟩
    ·have hqe : q = N0 := by omega
     have HB1_ : Hid (Below w.heap.size w wr) := HB2.out
     have i9 : ¬ (q : Int) < (N0 : Int) := by omega
     clear HB2 hlt hq hqe
     obtain ⟨W_0, hW⟩ : ∃ W0, W0 = wr := ⟨_, rfl⟩
     subst hW
     have cc1 : W_0.cell? ⟨lb, 1, none⟩ = some (.slice (L.r 1).a N1 (L.r 1).c) := by have h1 := cell_up HB1_.out (HOk.out.cell (c := 1) (by omega)); rwa [HN1.out] at h1
     go_wp2_with fail
     clear cc1
     go_loopw [3, 6] (fun b i wr => b = .bool true ∧ ∃ q : Nat, q ≤ N1 ∧ i = .int .i64 (q : Int) ∧ Below w.heap.size w wr) (fun _ i _ => N1 - (intOf i).toNat)
     case atStart => exact ⟨rfl, 0, Nat.zero_le _, rfl, HB1_.out⟩
     case round =>
      as_aux_lemma =>
      obtain ⟨rfl, q, hq, rfl, hbl⟩ := hrel
      have HB2 : Hid (Below w.heap.size w wr) := hbl
      have cc : wr.cell? ⟨lb, 1, none⟩ = some (.slice (L.r 1).a N1 (L.r 1).c) := by have h1 := cell_up hbl (HOk.out.cell (c := 1) (by omega)); rwa [HN1.out] at h1
      clear hbl HB1_
      have i1 : (0 : Int) ≤ (q : Int) := Int.natCast_nonneg _
      by_cases hlt : q < N1
      ·have i2 : (q : Int) < (N1 : Int) := by omega
       have hqN : q < (L.r 1).n := by rw [HN1.out]; exact hlt
       obtain ⟨rg, hba, hbq⟩ := row_get (HOk.out.row 1 (by omega)) hqN
       obtain ⟨n, f, hxn0, hn, ho, htl⟩ := (HOk.out.fam 1 (by omega) q hqN).out
       obtain ⟨⟨xa, xn, xc⟩, hx⟩ : ∃ x, L.v 1 q = x := ⟨_, rfl⟩
       rw [hx] at hxn0 ho hbq
       have hxn : xn = n + 64 := hxn0
       obtain ⟨xg, hxa, -, hcl⟩ := row_getF (y := ⟨xa, xn, xc⟩) (i := n + k) ho (by show n + k < xn; omega) (show 0 < LSz 1 from by decide)
       have hxa : xa = some ⟨xg, 0, none⟩ := hxa
       subst hxa
       have hcx := hcl (LOf 1) (by decide)
       rw [htl k hk64] at hcx
       obtain ⟨p, hpe⟩ : ∃ p, p = n + k := ⟨_, rfl⟩
       have hp : (xn : Int) - 64 + (k : Int) = (p : Int) := by omega
       have p1 : (0 : Int) ≤ (p : Int) := Int.natCast_nonneg _
       have p2 : (p : Int) < (xn : Int) := by omega
       rw [← hpe] at hcx
       rw [show p * LSz 1 + LOf 1 = p from Nat.mul_one p] at hcx
       have hm : (k : Int).tmod 7 = (k : Int) % 7 := Int.tmod_eq_emod_of_nonneg k1
       have HCx : Hid (∀ X, Below w.heap.size w X → X.cell? ⟨xg, p, none⟩ = some (.int .u8 (200 + (k : Int) % 7))) := fun X hX => cell_up hX hcx
       have HC0 : Hid (∀ X, Below w.heap.size w X → X.cell? ⟨lb, 1, none⟩ = some (.slice (some ⟨rg, 0, none⟩) N1 (L.r 1).c)) := fun X hX => by have h1 := cell_up hX (HOk.out.cell (c := 1) (by omega)); rwa [HN1.out, hba] at h1
       have HCm : Hid (∀ X, Below w.heap.size w X → X.cell? ⟨rg, q, none⟩ = some (.slice (some ⟨xg, 0, none⟩) xn xc)) := fun X hX => cell_up hX hbq
       have hxn2 : xn ≤ 100000064 := by omega
       obtain ⟨rc, hrc⟩ : ∃ rc, (L.r 1).c = rc := ⟨_, rfl⟩
       rw [hrc] at HC0
       have HC0 : Hid (∀ X, Below w.heap.size w X → X.cell? ⟨lb, 1, none⟩ = some (.slice (some ⟨rg, 0, none⟩) N1 rc)) := HC0
       rw [hba, hrc] at cc
       clear hba hbq hxn hxn0 hn ho htl hx hcl hcx hqN hrc hpe f
       go_upto_region 12 with fail
       clear cc
       refine wp_region_held_drew (S := (fun w' => w'.cell? ⟨lb, 1, none⟩ = some (.slice (some ⟨rg, 0, none⟩) N1 rc) ∧ w'.cell? ⟨rg, q, none⟩ = some (.slice (some ⟨xg, 0, none⟩) xn xc) ∧ w'.cell? ⟨xg, p, none⟩ = some (.int .u8 (200 + (k : Int) % 7)))) (by kernel_rfl) ⟨(below_at (drew_bel _) (HC0.out wr HB2.out)), (below_at (drew_bel _) (HCm.out wr HB2.out)), (below_at (drew_bel _) (HCx.out wr HB2.out))⟩ (fun hHeld => ?_)
       simp only [Act.put, List.size_toArray, List.length_cons, List.length_nil, Nat.zero_add]
       refine tG9 0 57 (.bool true) rfl hHeld ?_
       simp only [Act.put,sA9,sZ9,sC9]
       refine tG9 1 58 (.bool true) rfl hHeld ?_
       simp only [Act.put,sA9,sZ9,sC9]
       refine tK9 2 59 (.pointer (some ⟨lb, 0, none⟩)) rfl hHeld ?_
       simp only [Act.put,sA9,sZ9,sC9]
       refine tK9 3 60 (.pointer (some ⟨lb, 0, none⟩)) rfl hHeld ?_
       simp only [Act.put,sA9,sZ9,sC9]
       refine tK9 4 61 (.pointer (some ⟨lb, 1, none⟩)) rfl hHeld ?_
       simp only [Act.put,sA9,sZ9,sC9]
       refine tX9 5 62 (.slice (some ⟨rg, 0, none⟩) N1 rc) rfl (Or.inl ⟨by kernel_rfl, fun w' hS => by (obtain ⟨s0, s1, s2⟩ := hS; go_simp)⟩) hHeld ?_
       simp only [Act.put,sA9,sZ9,sC9]
       refine tK9 6 63 (.int .i64 (q : Int)) rfl hHeld ?_
       simp only [Act.put,sA9,sZ9,sC9]
       refine tK9 7 64 (.pointer (some ⟨rg, q, none⟩)) rfl hHeld ?_
       simp only [Act.put,sA9,sZ9,sC9]
       refine tX9 8 65 (.slice (some ⟨xg, 0, none⟩) xn xc) rfl (Or.inl ⟨by kernel_rfl, fun w' hS => by (obtain ⟨s0, s1, s2⟩ := hS; go_simp)⟩) hHeld ?_
       simp only [Act.put,sA9,sZ9,sC9]
       refine tK9 9 66 (.pointer (some ⟨lb, 0, none⟩)) rfl hHeld ?_
       simp only [Act.put,sA9,sZ9,sC9]
       refine tK9 10 67 (.pointer (some ⟨lb, 0, none⟩)) rfl hHeld ?_
       simp only [Act.put,sA9,sZ9,sC9]
       refine tK9 11 68 (.pointer (some ⟨lb, 1, none⟩)) rfl hHeld ?_
       simp only [Act.put,sA9,sZ9,sC9]
       refine tX9 12 69 (.slice (some ⟨rg, 0, none⟩) N1 rc) rfl (Or.inl ⟨by kernel_rfl, fun w' hS => by (obtain ⟨s0, s1, s2⟩ := hS; go_simp)⟩) hHeld ?_
       simp only [Act.put,sA9,sZ9,sC9]
       refine tK9 13 70 (.int .i64 (q : Int)) rfl hHeld ?_
       simp only [Act.put,sA9,sZ9,sC9]
       refine tK9 14 71 (.pointer (some ⟨rg, q, none⟩)) rfl hHeld ?_
       simp only [Act.put,sA9,sZ9,sC9]
       refine tX9 15 72 (.slice (some ⟨xg, 0, none⟩) xn xc) rfl (Or.inl ⟨by kernel_rfl, fun w' hS => by (obtain ⟨s0, s1, s2⟩ := hS; go_simp)⟩) hHeld ?_
       simp only [Act.put,sA9,sZ9,sC9]
       refine tK9 16 73 (.int .i64 (xn : Int)) rfl hHeld ?_
       simp only [Act.put,sA9,sZ9,sC9]
       refine tX9 17 74 (.int .i64 ((xn : Int) - 64)) rfl (Or.inl ⟨by kernel_rfl, fun w' hS => by (go_simp <;> exact wrap_id (by omega) (by omega))⟩) hHeld ?_
       simp only [Act.put,sA9,sZ9,sC9]
       refine tK9 18 75 (.int .i64 (k : Int)) rfl hHeld ?_
       simp only [Act.put,sA9,sZ9,sC9]
       refine tX9 19 76 (.int .i64 (p : Int)) rfl (Or.inl ⟨by kernel_rfl, fun w' hS => by (go_simp <;> exact wrap_id (by omega) (by omega))⟩) hHeld ?_
       simp only [Act.put,sA9,sZ9,sC9]
       refine tK9 20 77 (.pointer (some ⟨xg, p, none⟩)) rfl hHeld ?_
       simp only [Act.put,sA9,sZ9,sC9]
       refine tX9 21 78 (.int .u8 (200 + (k : Int) % 7)) rfl (Or.inl ⟨by kernel_rfl, fun w' hS => by (obtain ⟨s0, s1, s2⟩ := hS; go_simp)⟩) hHeld ?_
       simp only [Act.put,sA9,sZ9,sC9]
       refine tK9 22 79 (.int .i64 (k : Int)) rfl hHeld ?_
       simp only [Act.put,sA9,sZ9,sC9]
       refine tX9 23 80 (.int .i64 ((k : Int) % 7)) rfl (Or.inl ⟨by kernel_rfl, fun w' hS => by (go_simp <;> exact (wrap_id (by rw [hm]; omega) (by rw [hm]; omega)).trans hm)⟩) hHeld ?_
       simp only [Act.put,sA9,sZ9,sC9]
       refine tX9 24 81 (.int .i64 (200 + ((k : Int) % 7))) rfl (Or.inl ⟨by kernel_rfl, fun w' hS => by (go_simp <;> exact wrap_id (by omega) (by omega))⟩) hHeld ?_
       simp only [Act.put,sA9,sZ9,sC9]
       refine tX9 25 82 (.int .u8 (200 + (k : Int) % 7)) rfl (Or.inl ⟨by kernel_rfl, fun w' hS => by (go_simp <;> exact wrap8 (by omega) (by omega))⟩) hHeld ?_
       simp only [Act.put,sA9,sZ9,sC9]
       refine tX9 26 83 (.bool true) rfl (Or.inl ⟨by kernel_rfl, fun w' hS => by (go_simp <;> simp)⟩) hHeld ?_
       simp only [Act.put,sA9,sZ9,sC9]
       refine tG9 27 84 (.bool true) rfl hHeld ?_
       simp only [Act.put,sA9,sZ9,sC9]
       refine tG9 28 3 (.bool true) rfl hHeld ?_
       simp only [Act.put,sA9,sZ9,sC9]
       refine wpAnyH_done (by kernel_rfl) ?_ _
       clear hHeld
       have HQ : Hid (Below w.heap.size w wr.drew) := bstep HB2.out (drew_bel _)
       generalize wr.drew = D1 at *
       go_wp2_with (fail)
       exact ⟨⟨rfl, q + 1, by omega, by go_num, HQ.out⟩, by simp [intOf]; omega⟩
      ·have hqe : q = N1 := by omega
       have HB2_ : Hid (Below w.heap.size w wr) := HB2.out
       have i9 : ¬ (q : Int) < (N1 : Int) := by omega
       clear HB2 hlt hq hqe
       obtain ⟨W_1, hW⟩ : ∃ W0, W0 = wr := ⟨_, rfl⟩
       subst hW
       have cM : W_1.cell? ⟨lb, 2, none⟩ = some (.slice none 0 0) := cell_up HB2_.out (blk_cell HOk.out.blk 2)
       go_wp2_with fail
       go_loopw [3, 7] (fun b i wr => b = .bool true ∧ i = .int .i64 0 ∧ Below w.heap.size w wr) (fun _ _ _ => 0)
       case atStart => exact ⟨rfl, rfl, HB2_.out⟩
       case round =>
        as_aux_lemma =>
        obtain ⟨rfl, rfl, hbl⟩ := hrel
        have HB3_ : Hid (Below w.heap.size w wr) := hbl
        clear cM
        have cM : wr.cell? ⟨lb, 2, none⟩ = some (.slice none 0 0) := cell_up hbl (blk_cell HOk.out.blk 2)
        clear hbl HB2_
        have cc2 : wr.cell? ⟨lb, 3, none⟩ = some (.slice (L.r 2).a N2 (L.r 2).c) := by have h1 := cell_up HB3_.out (HOk.out.cell (c := 2) (by omega)); rwa [HN2.out] at h1
        go_wp2_with fail
        clear cc2
        go_loopw [3, 8] (fun b i wr => b = .bool true ∧ ∃ q : Nat, q ≤ N2 ∧ i = .int .i64 (q : Int) ∧ Below w.heap.size w wr) (fun _ i _ => N2 - (intOf i).toNat)
        case atStart => exact ⟨rfl, 0, Nat.zero_le _, rfl, HB3_.out⟩
        case round =>
         as_aux_lemma =>
         obtain ⟨rfl, q, hq, rfl, hbl⟩ := hrel
         have HB2 : Hid (Below w.heap.size w wr) := hbl
         have cc : wr.cell? ⟨lb, 3, none⟩ = some (.slice (L.r 2).a N2 (L.r 2).c) := by have h1 := cell_up hbl (HOk.out.cell (c := 2) (by omega)); rwa [HN2.out] at h1
         clear hbl HB3_
         have i1 : (0 : Int) ≤ (q : Int) := Int.natCast_nonneg _
         by_cases hlt : q < N2
         ·have i2 : (q : Int) < (N2 : Int) := by omega
          have hqN : q < (L.r 2).n := by rw [HN2.out]; exact hlt
          obtain ⟨rg, hba, hbq⟩ := row_get (HOk.out.row 2 (by omega)) hqN
          obtain ⟨n, f, hxn0, hn, ho, htl⟩ := (HOk.out.fam 2 (by omega) q hqN).out
          obtain ⟨⟨xa, xn, xc⟩, hx⟩ : ∃ x, L.v 2 q = x := ⟨_, rfl⟩
          rw [hx] at hxn0 ho hbq
          have hxn : xn = n + 64 := hxn0
          obtain ⟨xg, hxa, -, hcl⟩ := row_getF (y := ⟨xa, xn, xc⟩) (i := n + k) ho (by show n + k < xn; omega) (show 0 < LSz 2 from by decide)
          have hxa : xa = some ⟨xg, 0, none⟩ := hxa
          subst hxa
          have hcx := hcl (LOf 2) (by decide)
          rw [htl k hk64] at hcx
          obtain ⟨p, hpe⟩ : ∃ p, p = n + k := ⟨_, rfl⟩
          have hp : (xn : Int) - 64 + (k : Int) = (p : Int) := by omega
          have p1 : (0 : Int) ≤ (p : Int) := Int.natCast_nonneg _
          have p2 : (p : Int) < (xn : Int) := by omega
          rw [← hpe] at hcx
          have HCx : Hid (∀ X, Below w.heap.size w X → X.cell? ⟨xg, p * 4 + 1, none⟩ = some (.int .i64 (-700 - (k : Int)))) := fun X hX => cell_up hX hcx
          have HC0 : Hid (∀ X, Below w.heap.size w X → X.cell? ⟨lb, 3, none⟩ = some (.slice (some ⟨rg, 0, none⟩) N2 (L.r 2).c)) := fun X hX => by have h1 := cell_up hX (HOk.out.cell (c := 2) (by omega)); rwa [HN2.out, hba] at h1
          have HCm : Hid (∀ X, Below w.heap.size w X → X.cell? ⟨rg, q, none⟩ = some (.slice (some ⟨xg, 0, none⟩) xn xc)) := fun X hX => cell_up hX hbq
          have hxn2 : xn ≤ 100000064 := by omega
          obtain ⟨rc, hrc⟩ : ∃ rc, (L.r 2).c = rc := ⟨_, rfl⟩
          rw [hrc] at HC0
          have HC0 : Hid (∀ X, Below w.heap.size w X → X.cell? ⟨lb, 3, none⟩ = some (.slice (some ⟨rg, 0, none⟩) N2 rc)) := HC0
          rw [hba, hrc] at cc
          clear hba hbq hxn hxn0 hn ho htl hx hcl hcx hqN hrc hpe f
          go_upto_region 20 with fail
          clear cc
          refine wp_region_held_drew (S := (fun w' => w'.cell? ⟨lb, 3, none⟩ = some (.slice (some ⟨rg, 0, none⟩) N2 rc) ∧ w'.cell? ⟨rg, q, none⟩ = some (.slice (some ⟨xg, 0, none⟩) xn xc) ∧ w'.cell? ⟨xg, p * 4 + 1, none⟩ = some (.int .i64 (-700 - (k : Int))))) (by kernel_rfl) ⟨(below_at (drew_bel _) (HC0.out wr HB2.out)), (below_at (drew_bel _) (HCm.out wr HB2.out)), (below_at (drew_bel _) (HCx.out wr HB2.out))⟩ (fun hHeld => ?_)
          simp only [Act.put, List.size_toArray, List.length_cons, List.length_nil, Nat.zero_add]
          refine tG9 0 130 (.bool true) rfl hHeld ?_
          simp only [Act.put,sA9,sZ9,sC9]
          refine tG9 1 131 (.bool true) rfl hHeld ?_
          simp only [Act.put,sA9,sZ9,sC9]
          refine tK9 2 132 (.pointer (some ⟨lb, 0, none⟩)) rfl hHeld ?_
          simp only [Act.put,sA9,sZ9,sC9]
          refine tK9 3 133 (.pointer (some ⟨lb, 0, none⟩)) rfl hHeld ?_
          simp only [Act.put,sA9,sZ9,sC9]
          refine tK9 4 134 (.pointer (some ⟨lb, 3, none⟩)) rfl hHeld ?_
          simp only [Act.put,sA9,sZ9,sC9]
          refine tX9 5 135 (.slice (some ⟨rg, 0, none⟩) N2 rc) rfl (Or.inl ⟨by kernel_rfl, fun w' hS => by (obtain ⟨s0, s1, s2⟩ := hS; go_simp)⟩) hHeld ?_
          simp only [Act.put,sA9,sZ9,sC9]
          refine tK9 6 136 (.int .i64 (q : Int)) rfl hHeld ?_
          simp only [Act.put,sA9,sZ9,sC9]
          refine tK9 7 137 (.pointer (some ⟨rg, q, none⟩)) rfl hHeld ?_
          simp only [Act.put,sA9,sZ9,sC9]
          refine tX9 8 138 (.slice (some ⟨xg, 0, none⟩) xn xc) rfl (Or.inl ⟨by kernel_rfl, fun w' hS => by (obtain ⟨s0, s1, s2⟩ := hS; go_simp)⟩) hHeld ?_
          simp only [Act.put,sA9,sZ9,sC9]
          refine tK9 9 139 (.pointer (some ⟨lb, 0, none⟩)) rfl hHeld ?_
          simp only [Act.put,sA9,sZ9,sC9]
          refine tK9 10 140 (.pointer (some ⟨lb, 0, none⟩)) rfl hHeld ?_
          simp only [Act.put,sA9,sZ9,sC9]
          refine tK9 11 141 (.pointer (some ⟨lb, 3, none⟩)) rfl hHeld ?_
          simp only [Act.put,sA9,sZ9,sC9]
          refine tX9 12 142 (.slice (some ⟨rg, 0, none⟩) N2 rc) rfl (Or.inl ⟨by kernel_rfl, fun w' hS => by (obtain ⟨s0, s1, s2⟩ := hS; go_simp)⟩) hHeld ?_
          simp only [Act.put,sA9,sZ9,sC9]
          refine tK9 13 143 (.int .i64 (q : Int)) rfl hHeld ?_
          simp only [Act.put,sA9,sZ9,sC9]
          refine tK9 14 144 (.pointer (some ⟨rg, q, none⟩)) rfl hHeld ?_
          simp only [Act.put,sA9,sZ9,sC9]
          refine tX9 15 145 (.slice (some ⟨xg, 0, none⟩) xn xc) rfl (Or.inl ⟨by kernel_rfl, fun w' hS => by (obtain ⟨s0, s1, s2⟩ := hS; go_simp)⟩) hHeld ?_
          simp only [Act.put,sA9,sZ9,sC9]
          refine tK9 16 146 (.int .i64 (xn : Int)) rfl hHeld ?_
          simp only [Act.put,sA9,sZ9,sC9]
          refine tX9 17 147 (.int .i64 ((xn : Int) - 64)) rfl (Or.inl ⟨by kernel_rfl, fun w' hS => by (go_simp <;> exact wrap_id (by omega) (by omega))⟩) hHeld ?_
          simp only [Act.put,sA9,sZ9,sC9]
          refine tK9 18 148 (.int .i64 (k : Int)) rfl hHeld ?_
          simp only [Act.put,sA9,sZ9,sC9]
          refine tX9 19 149 (.int .i64 (p : Int)) rfl (Or.inl ⟨by kernel_rfl, fun w' hS => by (go_simp <;> exact wrap_id (by omega) (by omega))⟩) hHeld ?_
          simp only [Act.put,sA9,sZ9,sC9]
          refine tK9 20 150 (.pointer (some ⟨xg, p * 4, none⟩)) rfl hHeld ?_
          simp only [Act.put,sA9,sZ9,sC9]
          refine tK9 21 151 (.pointer (some ⟨xg, p * 4 + 1, none⟩)) rfl hHeld ?_
          simp only [Act.put,sA9,sZ9,sC9]
          refine tX9 22 152 (.int .i64 (-700 - (k : Int))) rfl (Or.inl ⟨by kernel_rfl, fun w' hS => by (obtain ⟨s0, s1, s2⟩ := hS; go_simp)⟩) hHeld ?_
          simp only [Act.put,sA9,sZ9,sC9]
          refine tK9 23 153 (.int .i64 (k : Int)) rfl hHeld ?_
          simp only [Act.put,sA9,sZ9,sC9]
          refine tX9 24 154 (.int .i64 (-700 - (k : Int))) rfl (Or.inl ⟨by kernel_rfl, fun w' hS => by (go_simp <;> exact wrap_id (by omega) (by omega))⟩) hHeld ?_
          simp only [Act.put,sA9,sZ9,sC9]
          refine tX9 25 155 (.bool true) rfl (Or.inl ⟨by kernel_rfl, fun w' hS => by (go_simp <;> simp)⟩) hHeld ?_
          simp only [Act.put,sA9,sZ9,sC9]
          refine tG9 26 156 (.bool true) rfl hHeld ?_
          simp only [Act.put,sA9,sZ9,sC9]
          refine tG9 27 3 (.bool true) rfl hHeld ?_
          simp only [Act.put,sA9,sZ9,sC9]
          refine wpAnyH_done (by kernel_rfl) ?_ _
          clear hHeld
          have HQ : Hid (Below w.heap.size w wr.drew) := bstep HB2.out (drew_bel _)
          generalize wr.drew = D1 at *
          go_wp2_with (fail)
          exact ⟨⟨rfl, q + 1, by omega, by go_num, HQ.out⟩, by simp [intOf]; omega⟩
         ·have hqe : q = N2 := by omega
          have HB4_ : Hid (Below w.heap.size w wr) := HB2.out
          have i9 : ¬ (q : Int) < (N2 : Int) := by omega
          clear HB2 hlt hq hqe
          obtain ⟨W_2, hW⟩ : ∃ W0, W0 = wr := ⟨_, rfl⟩
          subst hW
          go_wp2_with fail
          exact ⟨⟨rfl, k + 1, by omega, by go_num, HB4_.out⟩, by simp [intOf]; omega⟩
  ·obtain rfl : k = 64 := by omega
   go_wp2_with fail
   go_ret
   exact ⟨rfl, HB0_.out⟩
end
end Go.Proofs.Ytobaooebjgoaiaa.Hh
