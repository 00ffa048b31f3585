import Derived.Test.YtobaooebjgoaiaaV02
namespace Go.Proofs.Ytobaooebjgoaiaa.Hh
open Go.RowKit Go.Maps Mb
set_option linter.unusedVariables false
set_option linter.unusedSimpArgs false
set_option maxRecDepth 100000
section
variable {w w' w1 w2 w3 Z : World} {B T s : Nat} {S S' : St} {hb : Nat} {f f' : Nat → Nat → Nat → Value} {P Q : Nat → Prop}
theorem takeD {P : Program} {md : Region.Mode} {ops : Array Oper} {Q : Exit → Act → World → Prop} {S : World → Prop} {i d : Nat} {oi : Oper} {v : Value} {fuel : Nat} {listed : Array Bool} {a : Act} {w : World} (hi : ops[i]? = some oi) (hd : oi.dst = some d)
  (hs : Region.noSelect ops = true) (hf : Region.free md ops listed i = true) (hr : (Region.ready md ops listed).contains i = true)
  (hQ : ∀ c a w, Q (.panic c) (a.put oi.dst v) w → Q (.panic c) a w) (hy : YieldsIf P ops S oi v a) (hS : S w)
  (h : wpAnyH P md ops Q S fuel (listed.setIfInBounds i true) (a.put (some d) v) w) : wpAnyH P md ops Q S (fuel + 1) listed a w :=
 wpAnyH_take hi hs hf hr hQ hy hS (by rw [hd]; exact h)
theorem drew_bel (w : World) : Below w.heap.size w w.drew := (Below.refl _ _).drew
theorem oneTU : (Try.prog.info? 5).map (·.size) = some 1 := by kernel_rfl
theorem step_stU8 {ops : Array Oper} {o : Oper} {a : Act} {K : Act → World → Prop} {Q : Exit → Act → World → Prop} {EE : Prop} (hgd : o.guard = none) (ty : TypeId) (x y : Operand) (ho : o.op = .store ty x y) {g p t : Nat} {C : Array Value} {z : Int} (hx : a.eval x = .pointer (some ⟨g, p, none⟩)) (hy : a.eval y = .int .u8 z) (hg : w.heap[g]? = some (.cells C t (0, 0))) (hp : p < C.size) (hz : (Try.prog.info? ty).map (·.size) = some 1) (hd : o.dst = none)
  (h : K a (w.setCell ⟨g, p, none⟩ (.int .u8 z))) : if Region.wanted o (yielded ops a.tmps) = true then Oper.wp Try.prog o a w K Q else EE := by
  rw [if_pos (show Region.wanted o (yielded ops a.tmps) = true by simp [Region.wanted, hgd])]
  have q : w.cell? ⟨g, p, none⟩ = some C[p] := by rw [blk_cell hg p]; exact Array.getElem?_eq_getElem hp
  have zz : w.frozen? ⟨g, p, none⟩ = false := frozen_of_row w _ _ _ _ hg
  have hs := size_of (w := w) hz
  unfold Oper.wp execOp
  simp only [ho, hx, hy]
  go_simp
  have hk := h
  rw [hd] at *
  exact hk
theorem blk_up {g : Nat} {C : Array Value} {t : Nat} (hb : Below w.heap.size w w') (h : w.heap[g]? = some (.cells C t (0, 0))) : w'.heap[g]? = some (.cells C t (0, 0)) := (Kept.ofBelow hb (fun _ => False)).obj h id
theorem kcell0 {g i : Nat} {v : Value} (k : Kept w w' P) (hc : w.cell? ⟨g, i, none⟩ = some v) (hp : ¬ P g) : w'.cell? ⟨g, i, none⟩ = some v := Ln.kept_cell k hp hc
theorem byteOf_any (q : Nat) (hq : q ≤ 1000000000) : Calls Try.prog 56 #[.int .i64 (q : Int)] w fun e w' => e = .returned (.int .u8 (1 + (q : Int) % 250)) ∧ w = w' := by
 have i0 : (0 : Int) ≤ (q : Int) := Int.natCast_nonneg _
 have i1 : (q : Int) ≤ 1000000000 := by omega
 have e1 : (q : Int).tmod 250 = (q : Int) % 250 := Int.tmod_eq_emod_of_nonneg i0
 go_enter Try.func56, Try.ntmps56
 go_wp2
 go_ret
 refine ⟨?_, rfl⟩
 first
  | rfl
  | (congr 2; rw [e1]; omega)
  | (congr 2; omega)
theorem mrk_one (c i : Nat) : ∀ u ∈ mrk c i, u.oneCell' = true := by
 intro u hu
 unfold mrk at hu
 repeat' split at hu
 all_goals
  simp only [List.mem_cons, List.not_mem_nil, or_false] at hu
  first
   | (rcases hu with rfl | rfl | rfl | rfl | rfl | rfl | rfl <;> rfl)
   | (rcases hu with rfl | rfl | rfl | rfl <;> rfl)
   | (rcases hu with rfl | rfl <;> rfl)
   | (subst hu; rfl)
theorem bF2 (x : Int) : Try.prog.built 76 [(1, .int .i64 x)] = some #[.int .i64 0, .int .i64 x] := by kernel_rfl
theorem bF3 (x : Int) : Try.prog.built 28 [(1, .int .i64 x)] = some #[.int .i64 0, .int .i64 0, .int .i64 0, .int .i64 0, .int .i64 x, .slice none 0 0, .slice none 0 0] := by kernel_rfl
theorem bF4 (x : Int) : Try.prog.built 95 [(1, .int .i64 x)] = some #[.int .i64 0, .int .i64 x, .int .i64 0, .slice none 0 0] := by kernel_rfl
theorem bF5 (x : Int) : Try.prog.built 97 [(2, .int .i64 x)] = some #[.int .i64 0, .int .i64 0, .int .i64 x, .slice none 0 0] := by kernel_rfl
theorem iF2 : (Try.prog.info? 76).map (·.size) = some 2 := by kernel_rfl
theorem iF3 : (Try.prog.info? 28).map (·.size) = some 7 := by kernel_rfl
theorem iF4 : (Try.prog.info? 95).map (·.size) = some 4 := by kernel_rfl
theorem iF5 : (Try.prog.info? 97).map (·.size) = some 4 := by kernel_rfl
theorem PsW.apart {c q k d g bg : Nat} {C : Array Value} {w0 : World} (h : PsW B hb w0 P S c q k Z) (hd : d < 6) (hC : Z.heap[g]? = some (.cells C (Ty d) (0, 0))) (ha : (S.r d).a = some ⟨bg, 0, none⟩) : (¬ hb = g) ∧ ¬ bg = g := by
 obtain ⟨f, h1, -⟩ := h.out
 refine ⟨fun e => ?_, fun e => ?_⟩
 ·rw [← e, h1.blk] at hC
  simp at hC
  exact (ty_h hd).1 hC.2.symm
 ·have h2 := h1.row d hd
  rw [Sl.at ha] at h2
  obtain ⟨cur, h3⟩ := row_ty h2 rfl
  rw [e, hC] at h3
  simp at h3
  exact tye_ne hd hd h3.2
set_option maxHeartbeats 16000000 in
theorem write_any (h : S.Ok w B hb f) (t : S.Fit) (hz : ∀ d, d < 6 → (S.q d).n = 0) : Calls Try.prog 25 #[.pointer (some ⟨hb, 0, none⟩)] w fun e w' => e = .returned (.tuple #[]) ∧ S.Ok w' B hb G ∧ Kept w w' (S.own hb) := by
 have HS0' := PsW.start h hz
 generalize S.own hb = P at HS0' ⊢
 have HS0 : Hid (PsW B hb w P S 0 0 0 w) := HS0'
 have HN : Hid ((∀ c, c < 6 → (S.r c).n = S.N c) ∧ (∀ c, c < 6 → S.N c ≤ 100000000) ∧ ∀ c, c < 6 → ∀ i, i < S.N c → (S.v c i).n ≤ 100000000) := ⟨t.rn, t.N, t.l⟩
 obtain ⟨N0, hN0⟩ : ∃ N, S.N 0 = N := ⟨_, rfl⟩
 have HN0 : Hid (S.N 0 = N0) := hN0
 have n0 : N0 ≤ 100000000 := by rw [← hN0]; exact t.N 0 (by omega)
 obtain ⟨N1, hN1⟩ : ∃ N, S.N 1 = N := ⟨_, rfl⟩
 have HN1 : Hid (S.N 1 = N1) := hN1
 have n1 : N1 ≤ 100000000 := by rw [← hN1]; exact t.N 1 (by omega)
 obtain ⟨N2, hN2⟩ : ∃ N, S.N 2 = N := ⟨_, rfl⟩
 have HN2 : Hid (S.N 2 = N2) := hN2
 have n2 : N2 ≤ 100000000 := by rw [← hN2]; exact t.N 2 (by omega)
 obtain ⟨N3, hN3⟩ : ∃ N, S.N 3 = N := ⟨_, rfl⟩
 have HN3 : Hid (S.N 3 = N3) := hN3
 have n3 : N3 ≤ 100000000 := by rw [← hN3]; exact t.N 3 (by omega)
 obtain ⟨N4, hN4⟩ : ∃ N, S.N 4 = N := ⟨_, rfl⟩
 have HN4 : Hid (S.N 4 = N4) := hN4
 have n4 : N4 ≤ 100000000 := by rw [← hN4]; exact t.N 4 (by omega)
 obtain ⟨N5, hN5⟩ : ∃ N, S.N 5 = N := ⟨_, rfl⟩
 have HN5 : Hid (S.N 5 = N5) := hN5
 have n5 : N5 ≤ 100000000 := by rw [← hN5]; exact t.N 5 (by omega)
 have cd0 : w.cell? ⟨hb, 0, none⟩ = some (.slice (S.r 0).a N0 (S.r 0).c) := by have h1 := HS0.out.cell (d := 0) (by omega); rwa [HN.out.1 0 (by omega), HN0.out] at h1
 clear h t hz HS0' hN0 hN1 hN2 hN3 hN4 hN5
 go_enter Try.func25, Try.ntmps25
 go_wp2_with fail
 clear cd0
 go_loopw [2] (fun i wr => ∃ q : Nat, q ≤ N0 ∧ i = .int .i64 (q : Int) ∧ PsW B hb w P S 0 q 0 wr) (fun i _ => N0 - (intOf i).toNat)
 case atStart => exact ⟨0, Nat.zero_le _, rfl, HS0.out⟩
 case round =>
  as_aux_lemma =>
  obtain ⟨q, hq, rfl, hf⟩ := hrel
  have HF : Hid (PsW B hb w P S 0 q 0 wr) := hf
  have cc : wr.cell? ⟨hb, 0, none⟩ = some (.slice (S.r 0).a N0 (S.r 0).c) := by have h1 := hf.cell (d := 0) (by omega); rwa [HN.out.1 0 (by omega), HN0.out] at h1
  clear hf HS0
  have i1 : (0 : Int) ≤ (q : Int) := Int.natCast_nonneg _
  by_cases hlt : q < N0
  ·have i2 : (q : Int) < (N0 : Int) := by omega
   obtain ⟨⟨xa, xn, xc⟩, hx⟩ : ∃ x, S.v 0 q = x := ⟨_, rfl⟩
   have HX0 : Hid (S.v 0 q = ⟨xa, xn, xc⟩) := hx
   have hqn : q < S.N 0 := by rw [HN0.out]; exact hlt
   have HqN : Hid (q < S.N 0) := hqn
   have hqr : q < (S.r 0).n := by rw [HN.out.1 0 (by omega)]; exact hqn
   have hxn : xn ≤ 100000000 := by have h1 := HN.out.2.2 0 (by omega) q hqn; rw [hx] at h1; exact h1
   obtain ⟨bg, hba, hcq⟩ := HF.out.at (d := 0) (by omega) hqr
   have HBA : Hid ((S.r 0).a = some ⟨bg, 0, none⟩) := hba
   have HCq : Hid (∀ X k', PsW B hb w P S 0 q k' X → X.cell? ⟨bg, q, none⟩ = some (.slice xa xn xc)) := fun X k' hX => by
    obtain ⟨b2, h3, h4⟩ := hX.at (d := 0) (by omega) hqr
    rw [hba] at h3
    simp only [Option.some.injEq, Addr.mk.injEq, and_true] at h3
    subst h3
    rw [h4, hx]; rfl
   rw [hba] at cc
   obtain ⟨rc, hrc⟩ : ∃ rc, (S.r 0).c = rc := ⟨_, rfl⟩
   have HRc : Hid ((S.r 0).c = rc) := hrc
   rw [hrc] at cc
   have cq := HCq.out wr 0 HF.out
   clear hx hba hcq hqr hqn hrc
   go_wp2_with fail
   clear cq
   go_loopw [3] (fun i wr => ∃ k : Nat, k ≤ xn ∧ i = .int .i64 (k : Int) ∧ PsW B hb w P S 0 q k wr) (fun i _ => xn - (intOf i).toNat)
   case atStart => exact ⟨0, Nat.zero_le _, rfl, HF.out⟩
   case round =>
    as_aux_lemma =>
    obtain ⟨k, hk, rfl, hf2⟩ := hrel
    have HF2 : Hid (PsW B hb w P S 0 q k wr) := hf2
    clear cc
    have cc : wr.cell? ⟨hb, 0, none⟩ = some (.slice (some ⟨bg, 0, none⟩) N0 rc) := by have h1 := hf2.cell (d := 0) (by omega); rwa [HN.out.1 0 (by omega), HN0.out, HBA.out, HRc.out] at h1
    have cq := HCq.out wr k hf2
    clear hf2 HF
    have j1 : (0 : Int) ≤ (k : Int) := Int.natCast_nonneg _
    by_cases hlk : k < xn
    ·have j2 : (k : Int) < (xn : Int) := by omega
     obtain ⟨xg, C, hxa, hC, hCs⟩ := HF2.out.blk (d := 0) (by omega) HqN.out (j := k) (by rw [HX0.out]; exact hlk)
     have HXa : Hid ((S.v 0 q).a = some ⟨xg, 0, none⟩) := hxa
     have hxa2 : xa = some ⟨xg, 0, none⟩ := by rw [HX0.out] at hxa; exact hxa
     subst hxa2
     have HX : Hid (wr.heap[xg]? = some (.cells C 5 (0, 0)) ∧ k < C.size) := ⟨hC, by have h1 : (k + 1) * 1 ≤ C.size := hCs; omega⟩
     have HSg : Hid (∀ X, Calls Try.prog 56 #[.int .i64 (q : Int)] X fun e w' => e = .returned (.int .u8 (1 + (q : Int) % 250)) ∧ X = w') := fun X => byteOf_any q (by omega)
     have HNe : Hid ((¬ hb = xg) ∧ ¬ bg = xg) := HF2.out.apart (d := 0) (by omega) hC HBA.out
     clear hxa hC hCs
     go_upto_region 6 with fail
     refine wp_region_held_drew (S := (fun w' => w'.cell? ⟨hb, 0, none⟩ = some (.slice (some ⟨bg, 0, none⟩) N0 rc) ∧ w'.cell? ⟨bg, q, none⟩ = some (.slice (some ⟨xg, 0, none⟩) xn xc))) (by kernel_rfl) ⟨(below_at (drew_bel _) cc), (below_at (drew_bel _) cq)⟩ (fun hHeld => ?_)
     simp only [Act.put, List.size_toArray, List.length_cons, List.length_nil, Nat.zero_add]
     refine tG9 0 35 (.pointer (some ⟨hb, 0, none⟩)) rfl hHeld ?_
     simp only [Act.put,sA9,sZ9,sC9]
     refine tG9 1 36 (.pointer (some ⟨hb, 0, none⟩)) rfl hHeld ?_
     simp only [Act.put,sA9,sZ9,sC9]
     refine tG9 2 37 (.pointer (some ⟨hb, 0, none⟩)) rfl hHeld ?_
     simp only [Act.put,sA9,sZ9,sC9]
     refine tX9 3 38 (.slice (some ⟨bg, 0, none⟩) N0 rc) rfl (Or.inl ⟨by rfl, fun w' hS => by (obtain ⟨s0, s1⟩ := hS; go_simp)⟩) hHeld ?_
     simp only [Act.put,sA9,sZ9,sC9]
     refine tG9 4 39 (.int .i64 (q : Int)) rfl hHeld ?_
     simp only [Act.put,sA9,sZ9,sC9]
     refine tG9 5 40 (.pointer (some ⟨bg, q, none⟩)) rfl hHeld ?_
     simp only [Act.put,sA9,sZ9,sC9]
     refine tX9 6 41 (.slice (some ⟨xg, 0, none⟩) xn xc) rfl (Or.inl ⟨by rfl, fun w' hS => by (obtain ⟨s0, s1⟩ := hS; go_simp)⟩) hHeld ?_
     simp only [Act.put,sA9,sZ9,sC9]
     refine tG9 7 42 (.int .i64 (k : Int)) rfl hHeld ?_
     simp only [Act.put,sA9,sZ9,sC9]
     refine tG9 8 43 (.int .i64 (q : Int)) rfl hHeld ?_
     simp only [Act.put,sA9,sZ9,sC9]
     have hbD3 : Below wr.heap.size wr wr.drew := drew_bel _
     have q0 := below_at hbD3 cc
     have q1 := below_at hbD3 cq
     generalize wr.drew = D3 at *
     refine wpAnyH_ready (rs := [9]) (by kernel_rfl) (by simp) ?_
     refine AllReadyH.cons rfl (fun K hK => ?_) AllReadyH.nil
     go_simp
     refine (HSg.out D3).mono ?_
     rintro e W9 ⟨rfl, rfl⟩
     refine hK.out _ _ ⟨q0, q1⟩ (fun hHeld => ?_)
     clear hK K
     refine tG9 10 45 (.pointer (some ⟨xg, k, none⟩)) rfl hHeld ?_
     simp only [Act.put,sA9,sZ9,sC9]
     refine wpAnyH_ready (rs := [11]) (by kernel_rfl) (by simp) ?_
     refine AllReadyH.cons rfl (fun K hK => ?_) AllReadyH.nil
     refine step_stU8 rfl 5 _ _ rfl (g := xg) (p := k) rfl rfl (blk_up hbD3 HX.out.1) HX.out.2 oneTU rfl ?_
     refine hK.out _ _ ⟨(kcell0 (kset (P := fun j => j = xg) D3 xg k (.int .u8 (1 + (q : Int) % 250)) rfl) q0 HNe.out.1), (kcell0 (kset (P := fun j => j = xg) D3 xg k (.int .u8 (1 + (q : Int) % 250)) rfl) q1 HNe.out.2)⟩ (fun hHeld => ?_)
     clear hK K
     refine wpAnyH_done (by kernel_rfl) ?_ _
     clear hHeld
     have HQ : Hid (PsW B hb w P S 0 q (k + 1) (D3.setCell ⟨xg, k, none⟩ (.int .u8 (1 + (q : Int) % 250)))) := by
      have h1 := (HF2.out.still hbD3).step (by omega) HqN.out HXa.out
      rw [show k * Sz 0 = k from Nat.mul_one k] at h1
      exact h1
     clear hbD3 q0 q1
     generalize D3.setCell ⟨xg, k, none⟩ (.int .u8 (1 + (q : Int) % 250)) = Z at *
     go_wp2_with (fail)
     exact ⟨⟨k + 1, by omega, by go_num, HQ.out⟩, by simp [intOf]; omega⟩
    ·obtain rfl : k = xn := by omega
     have HE : Hid (PsW B hb w P S 0 (q + 1) 0 wr) := by
      have h1 := HF2.out
      rw [show k = (S.v 0 q).n by rw [HX0.out]] at h1
      exact h1.list
     clear HF2
     go_wp2_with fail
     exact ⟨⟨q + 1, by omega, by go_num, HE.out⟩, by simp [intOf]; omega⟩
  ·have hqe : q = N0 := by omega
   have HS1 : Hid (PsW B hb w P S (0 + 1) 0 0 wr) := by
    have h1 := HF.out
    rw [show q = S.N 0 by rw [HN0.out]; exact hqe] at h1
    exact h1.fam
   have i9 : ¬ (q : Int) < (N0 : Int) := by omega
   clear HF hlt hq hqe
   obtain ⟨W_0, hW⟩ : ∃ W0, W0 = wr := ⟨_, rfl⟩
   subst hW
   have cd1 : W_0.cell? ⟨hb, 2, none⟩ = some (.slice (S.r 1).a N1 (S.r 1).c) := by have h1 := HS1.out.cell (d := 1) (by omega); rwa [HN.out.1 1 (by omega), HN1.out] at h1
   go_wp2_with fail
   clear cd1
   go_loopw [4] (fun i wr => ∃ q : Nat, q ≤ N1 ∧ i = .int .i64 (q : Int) ∧ PsW B hb w P S 1 q 0 wr) (fun i _ => N1 - (intOf i).toNat)
   case atStart => exact ⟨0, Nat.zero_le _, rfl, HS1.out⟩
   case round =>
    as_aux_lemma =>
    obtain ⟨q, hq, rfl, hf⟩ := hrel
    have HF : Hid (PsW B hb w P S 1 q 0 wr) := hf
    have cc : wr.cell? ⟨hb, 2, none⟩ = some (.slice (S.r 1).a N1 (S.r 1).c) := by have h1 := hf.cell (d := 1) (by omega); rwa [HN.out.1 1 (by omega), HN1.out] at h1
    clear hf HS1
    have i1 : (0 : Int) ≤ (q : Int) := Int.natCast_nonneg _
    by_cases hlt : q < N1
    ·have i2 : (q : Int) < (N1 : Int) := by omega
     obtain ⟨⟨xa, xn, xc⟩, hx⟩ : ∃ x, S.v 1 q = x := ⟨_, rfl⟩
     have HX0 : Hid (S.v 1 q = ⟨xa, xn, xc⟩) := hx
     have hqn : q < S.N 1 := by rw [HN1.out]; exact hlt
     have HqN : Hid (q < S.N 1) := hqn
     have hqr : q < (S.r 1).n := by rw [HN.out.1 1 (by omega)]; exact hqn
     have hxn : xn ≤ 100000000 := by have h1 := HN.out.2.2 1 (by omega) q hqn; rw [hx] at h1; exact h1
     obtain ⟨bg, hba, hcq⟩ := HF.out.at (d := 1) (by omega) hqr
     have HBA : Hid ((S.r 1).a = some ⟨bg, 0, none⟩) := hba
     have HCq : Hid (∀ X k', PsW B hb w P S 1 q k' X → X.cell? ⟨bg, q, none⟩ = some (.slice xa xn xc)) := fun X k' hX => by
      obtain ⟨b2, h3, h4⟩ := hX.at (d := 1) (by omega) hqr
      rw [hba] at h3
      simp only [Option.some.injEq, Addr.mk.injEq, and_true] at h3
      subst h3
      rw [h4, hx]; rfl
     rw [hba] at cc
     obtain ⟨rc, hrc⟩ : ∃ rc, (S.r 1).c = rc := ⟨_, rfl⟩
     have HRc : Hid ((S.r 1).c = rc) := hrc
     rw [hrc] at cc
     have cq := HCq.out wr 0 HF.out
     clear hx hba hcq hqr hqn hrc
     go_wp2_with fail
     clear cq
     go_loopw [5] (fun i wr => ∃ k : Nat, k ≤ xn ∧ i = .int .i64 (k : Int) ∧ PsW B hb w P S 1 q k wr) (fun i _ => xn - (intOf i).toNat)
     case atStart => exact ⟨0, Nat.zero_le _, rfl, HF.out⟩
     case round =>
      as_aux_lemma =>
      obtain ⟨k, hk, rfl, hf2⟩ := hrel
      have HF2 : Hid (PsW B hb w P S 1 q k wr) := hf2
      clear cc
      have cc : wr.cell? ⟨hb, 2, none⟩ = some (.slice (some ⟨bg, 0, none⟩) N1 rc) := by have h1 := hf2.cell (d := 1) (by omega); rwa [HN.out.1 1 (by omega), HN1.out, HBA.out, HRc.out] at h1
      have cq := HCq.out wr k hf2
      clear hf2 HF
      have j1 : (0 : Int) ≤ (k : Int) := Int.natCast_nonneg _
      by_cases hlk : k < xn
      ·have j2 : (k : Int) < (xn : Int) := by omega
       obtain ⟨xg, C, hxa, hC, hCs⟩ := HF2.out.blk (d := 1) (by omega) HqN.out (j := k) (by rw [HX0.out]; exact hlk)
       have HXa : Hid ((S.v 1 q).a = some ⟨xg, 0, none⟩) := hxa
       have hxa2 : xa = some ⟨xg, 0, none⟩ := by rw [HX0.out] at hxa; exact hxa
       subst hxa2
       have HQ : Hid (PsW B hb w P S 1 q (k + 1) (wr.setCell ⟨xg, k, none⟩ (.int .i64 (-1000 - (q : Int))))) := by
        have h1 := HF2.out.step (by omega) HqN.out HXa.out
        rw [show k * Sz 1 = k from Nat.mul_one k] at h1
        exact h1
       have x0 : wr.cell? ⟨xg, k, none⟩ = some C[k]! := by
        rw [blk_cell hC]
        have h1 : (k + 1) * 1 ≤ C.size := hCs
        rw [Array.getElem!_eq_getD, Array.getD_eq_getD_getElem?, Array.getElem?_eq_getElem (show k < C.size by omega)]
        rfl
       have y0 : wr.frozen? ⟨xg, k, none⟩ = false := frozen_of_row wr _ _ _ _ hC
       generalize C[k]! = c0v at x0
       clear hxa hC hCs HF2
       go_wp2_with fail
       exact ⟨⟨k + 1, by omega, by go_num, HQ.out⟩, by simp [intOf]; omega⟩
      ·obtain rfl : k = xn := by omega
       have HE : Hid (PsW B hb w P S 1 (q + 1) 0 wr) := by
        have h1 := HF2.out
        rw [show k = (S.v 1 q).n by rw [HX0.out]] at h1
        exact h1.list
       clear HF2
       go_wp2_with fail
       exact ⟨⟨q + 1, by omega, by go_num, HE.out⟩, by simp [intOf]; omega⟩
    ·have hqe : q = N1 := by omega
     have HS2 : Hid (PsW B hb w P S (1 + 1) 0 0 wr) := by
      have h1 := HF.out
      rw [show q = S.N 1 by rw [HN1.out]; exact hqe] at h1
      exact h1.fam
     have i9 : ¬ (q : Int) < (N1 : Int) := by omega
     clear HF hlt hq hqe
     obtain ⟨W_1, hW⟩ : ∃ W0, W0 = wr := ⟨_, rfl⟩
     subst hW
     have cd2 : W_1.cell? ⟨hb, 4, none⟩ = some (.slice (S.r 2).a N2 (S.r 2).c) := by have h1 := HS2.out.cell (d := 2) (by omega); rwa [HN.out.1 2 (by omega), HN2.out] at h1
     go_wp2_with fail
     clear cd2
     go_loopw [6] (fun i wr => ∃ q : Nat, q ≤ N2 ∧ i = .int .i64 (q : Int) ∧ PsW B hb w P S 2 q 0 wr) (fun i _ => N2 - (intOf i).toNat)
     case atStart => exact ⟨0, Nat.zero_le _, rfl, HS2.out⟩
     case round =>
      as_aux_lemma =>
      obtain ⟨q, hq, rfl, hf⟩ := hrel
      have HF : Hid (PsW B hb w P S 2 q 0 wr) := hf
      have cc : wr.cell? ⟨hb, 4, none⟩ = some (.slice (S.r 2).a N2 (S.r 2).c) := by have h1 := hf.cell (d := 2) (by omega); rwa [HN.out.1 2 (by omega), HN2.out] at h1
      clear hf HS2
      have i1 : (0 : Int) ≤ (q : Int) := Int.natCast_nonneg _
      by_cases hlt : q < N2
      ·have i2 : (q : Int) < (N2 : Int) := by omega
       obtain ⟨⟨xa, xn, xc⟩, hx⟩ : ∃ x, S.v 2 q = x := ⟨_, rfl⟩
       have HX0 : Hid (S.v 2 q = ⟨xa, xn, xc⟩) := hx
       have hqn : q < S.N 2 := by rw [HN2.out]; exact hlt
       have HqN : Hid (q < S.N 2) := hqn
       have hqr : q < (S.r 2).n := by rw [HN.out.1 2 (by omega)]; exact hqn
       have hxn : xn ≤ 100000000 := by have h1 := HN.out.2.2 2 (by omega) q hqn; rw [hx] at h1; exact h1
       obtain ⟨bg, hba, hcq⟩ := HF.out.at (d := 2) (by omega) hqr
       have HBA : Hid ((S.r 2).a = some ⟨bg, 0, none⟩) := hba
       have HCq : Hid (∀ X k', PsW B hb w P S 2 q k' X → X.cell? ⟨bg, q, none⟩ = some (.slice xa xn xc)) := fun X k' hX => by
        obtain ⟨b2, h3, h4⟩ := hX.at (d := 2) (by omega) hqr
        rw [hba] at h3
        simp only [Option.some.injEq, Addr.mk.injEq, and_true] at h3
        subst h3
        rw [h4, hx]; rfl
       rw [hba] at cc
       obtain ⟨rc, hrc⟩ : ∃ rc, (S.r 2).c = rc := ⟨_, rfl⟩
       have HRc : Hid ((S.r 2).c = rc) := hrc
       rw [hrc] at cc
       have cq := HCq.out wr 0 HF.out
       clear hx hba hcq hqr hqn hrc
       go_wp2_with fail
       clear cq
       go_loopw [7] (fun i wr => ∃ k : Nat, k ≤ xn ∧ i = .int .i64 (k : Int) ∧ PsW B hb w P S 2 q k wr) (fun i _ => xn - (intOf i).toNat)
       case atStart => exact ⟨0, Nat.zero_le _, rfl, HF.out⟩
       case round =>
        as_aux_lemma =>
        obtain ⟨k, hk, rfl, hf2⟩ := hrel
        have HF2 : Hid (PsW B hb w P S 2 q k wr) := hf2
        clear cc
        have cc : wr.cell? ⟨hb, 4, none⟩ = some (.slice (some ⟨bg, 0, none⟩) N2 rc) := by have h1 := hf2.cell (d := 2) (by omega); rwa [HN.out.1 2 (by omega), HN2.out, HBA.out, HRc.out] at h1
        have cq := HCq.out wr k hf2
        clear hf2 HF
        have j1 : (0 : Int) ≤ (k : Int) := Int.natCast_nonneg _
        by_cases hlk : k < xn
        ·have j2 : (k : Int) < (xn : Int) := by omega
         obtain ⟨xg, C, hxa, hC, hCs⟩ := HF2.out.blk (d := 2) (by omega) HqN.out (j := k) (by rw [HX0.out]; exact hlk)
         have HXa : Hid ((S.v 2 q).a = some ⟨xg, 0, none⟩) := hxa
         have hxa2 : xa = some ⟨xg, 0, none⟩ := by rw [HX0.out] at hxa; exact hxa
         subst hxa2
         have HQ : Hid (PsW B hb w P S 2 q (k + 1) (wr.setCells xg (k * 2) (mrk 2 q))) := HF2.out.step (by omega) HqN.out HXa.out
         have HTh : Hid (wr.there xg (k * 2) (mrk 2 q).length) := fun j hj => by
          have h1 : (k + 1) * 2 ≤ C.size := hCs
          have h2 : j < 2 := hj
          exact ⟨by rw [blk_cell hC]; simp [show k * 2 + j < C.size by omega], frozen_of_row wr _ _ _ _ hC⟩
         clear hxa hC hCs HF2
         go_wp2_with (first
          | (refine wl_buildZ rfl 76 _ rfl (built_eq (by kernel_rfl) (bF2 (-1000 - (q : Int)))) ?_)
          | (refine Ln.wl_storeL rfl 76 _ _ rfl (b := xg) (off := k * 2) (L := mrk 2 q) rfl rfl HTh.out iF2 (mrk_one 2 q) ?_; generalize wr.setCells xg (k * 2) (mrk 2 q) = Z at *)
          | fail)
         exact ⟨⟨k + 1, by omega, by go_num, HQ.out⟩, by simp [intOf]; omega⟩
        ·obtain rfl : k = xn := by omega
         have HE : Hid (PsW B hb w P S 2 (q + 1) 0 wr) := by
          have h1 := HF2.out
          rw [show k = (S.v 2 q).n by rw [HX0.out]] at h1
          exact h1.list
         clear HF2
         go_wp2_with fail
         exact ⟨⟨q + 1, by omega, by go_num, HE.out⟩, by simp [intOf]; omega⟩
      ·have hqe : q = N2 := by omega
       have HS3 : Hid (PsW B hb w P S (2 + 1) 0 0 wr) := by
        have h1 := HF.out
        rw [show q = S.N 2 by rw [HN2.out]; exact hqe] at h1
        exact h1.fam
       have i9 : ¬ (q : Int) < (N2 : Int) := by omega
       clear HF hlt hq hqe
       obtain ⟨W_2, hW⟩ : ∃ W0, W0 = wr := ⟨_, rfl⟩
       subst hW
       have cd3 : W_2.cell? ⟨hb, 6, none⟩ = some (.slice (S.r 3).a N3 (S.r 3).c) := by have h1 := HS3.out.cell (d := 3) (by omega); rwa [HN.out.1 3 (by omega), HN3.out] at h1
       go_wp2_with fail
       clear cd3
       go_loopw [8] (fun i wr => ∃ q : Nat, q ≤ N3 ∧ i = .int .i64 (q : Int) ∧ PsW B hb w P S 3 q 0 wr) (fun i _ => N3 - (intOf i).toNat)
       case atStart => exact ⟨0, Nat.zero_le _, rfl, HS3.out⟩
       case round =>
        as_aux_lemma =>
        obtain ⟨q, hq, rfl, hf⟩ := hrel
        have HF : Hid (PsW B hb w P S 3 q 0 wr) := hf
        have cc : wr.cell? ⟨hb, 6, none⟩ = some (.slice (S.r 3).a N3 (S.r 3).c) := by have h1 := hf.cell (d := 3) (by omega); rwa [HN.out.1 3 (by omega), HN3.out] at h1
        clear hf HS3
        have i1 : (0 : Int) ≤ (q : Int) := Int.natCast_nonneg _
        by_cases hlt : q < N3
        ·have i2 : (q : Int) < (N3 : Int) := by omega
         obtain ⟨⟨xa, xn, xc⟩, hx⟩ : ∃ x, S.v 3 q = x := ⟨_, rfl⟩
         have HX0 : Hid (S.v 3 q = ⟨xa, xn, xc⟩) := hx
         have hqn : q < S.N 3 := by rw [HN3.out]; exact hlt
         have HqN : Hid (q < S.N 3) := hqn
         have hqr : q < (S.r 3).n := by rw [HN.out.1 3 (by omega)]; exact hqn
         have hxn : xn ≤ 100000000 := by have h1 := HN.out.2.2 3 (by omega) q hqn; rw [hx] at h1; exact h1
         obtain ⟨bg, hba, hcq⟩ := HF.out.at (d := 3) (by omega) hqr
         have HBA : Hid ((S.r 3).a = some ⟨bg, 0, none⟩) := hba
         have HCq : Hid (∀ X k', PsW B hb w P S 3 q k' X → X.cell? ⟨bg, q, none⟩ = some (.slice xa xn xc)) := fun X k' hX => by
          obtain ⟨b2, h3, h4⟩ := hX.at (d := 3) (by omega) hqr
          rw [hba] at h3
          simp only [Option.some.injEq, Addr.mk.injEq, and_true] at h3
          subst h3
          rw [h4, hx]; rfl
         rw [hba] at cc
         obtain ⟨rc, hrc⟩ : ∃ rc, (S.r 3).c = rc := ⟨_, rfl⟩
         have HRc : Hid ((S.r 3).c = rc) := hrc
         rw [hrc] at cc
         have cq := HCq.out wr 0 HF.out
         clear hx hba hcq hqr hqn hrc
         go_wp2_with fail
         clear cq
         go_loopw [9] (fun i wr => ∃ k : Nat, k ≤ xn ∧ i = .int .i64 (k : Int) ∧ PsW B hb w P S 3 q k wr) (fun i _ => xn - (intOf i).toNat)
         case atStart => exact ⟨0, Nat.zero_le _, rfl, HF.out⟩
         case round =>
          as_aux_lemma =>
          obtain ⟨k, hk, rfl, hf2⟩ := hrel
          have HF2 : Hid (PsW B hb w P S 3 q k wr) := hf2
          clear cc
          have cc : wr.cell? ⟨hb, 6, none⟩ = some (.slice (some ⟨bg, 0, none⟩) N3 rc) := by have h1 := hf2.cell (d := 3) (by omega); rwa [HN.out.1 3 (by omega), HN3.out, HBA.out, HRc.out] at h1
          have cq := HCq.out wr k hf2
          clear hf2 HF
          have j1 : (0 : Int) ≤ (k : Int) := Int.natCast_nonneg _
          by_cases hlk : k < xn
          ·have j2 : (k : Int) < (xn : Int) := by omega
           obtain ⟨xg, C, hxa, hC, hCs⟩ := HF2.out.blk (d := 3) (by omega) HqN.out (j := k) (by rw [HX0.out]; exact hlk)
           have HXa : Hid ((S.v 3 q).a = some ⟨xg, 0, none⟩) := hxa
           have hxa2 : xa = some ⟨xg, 0, none⟩ := by rw [HX0.out] at hxa; exact hxa
           subst hxa2
           have HQ : Hid (PsW B hb w P S 3 q (k + 1) (wr.setCells xg (k * 7) (mrk 3 q))) := HF2.out.step (by omega) HqN.out HXa.out
           have HTh : Hid (wr.there xg (k * 7) (mrk 3 q).length) := fun j hj => by
            have h1 : (k + 1) * 7 ≤ C.size := hCs
            have h2 : j < 7 := hj
            exact ⟨by rw [blk_cell hC]; simp [show k * 7 + j < C.size by omega], frozen_of_row wr _ _ _ _ hC⟩
           clear hxa hC hCs HF2
           go_wp2_with (first
            | (refine wl_buildZ rfl 28 _ rfl (built_eq (by kernel_rfl) (bF3 (-1000 - (q : Int)))) ?_)
            | (refine Ln.wl_storeL rfl 28 _ _ rfl (b := xg) (off := k * 7) (L := mrk 3 q) rfl rfl HTh.out iF3 (mrk_one 3 q) ?_; generalize wr.setCells xg (k * 7) (mrk 3 q) = Z at *)
            | fail)
           exact ⟨⟨k + 1, by omega, by go_num, HQ.out⟩, by simp [intOf]; omega⟩
          ·obtain rfl : k = xn := by omega
           have HE : Hid (PsW B hb w P S 3 (q + 1) 0 wr) := by
            have h1 := HF2.out
            rw [show k = (S.v 3 q).n by rw [HX0.out]] at h1
            exact h1.list
           clear HF2
           go_wp2_with fail
           exact ⟨⟨q + 1, by omega, by go_num, HE.out⟩, by simp [intOf]; omega⟩
        ·have hqe : q = N3 := by omega
         have HS4 : Hid (PsW B hb w P S (3 + 1) 0 0 wr) := by
          have h1 := HF.out
          rw [show q = S.N 3 by rw [HN3.out]; exact hqe] at h1
          exact h1.fam
         have i9 : ¬ (q : Int) < (N3 : Int) := by omega
         clear HF hlt hq hqe
         obtain ⟨W_3, hW⟩ : ∃ W0, W0 = wr := ⟨_, rfl⟩
         subst hW
         have cd4 : W_3.cell? ⟨hb, 8, none⟩ = some (.slice (S.r 4).a N4 (S.r 4).c) := by have h1 := HS4.out.cell (d := 4) (by omega); rwa [HN.out.1 4 (by omega), HN4.out] at h1
         go_wp2_with fail
         clear cd4
         go_loopw [10] (fun i wr => ∃ q : Nat, q ≤ N4 ∧ i = .int .i64 (q : Int) ∧ PsW B hb w P S 4 q 0 wr) (fun i _ => N4 - (intOf i).toNat)
         case atStart => exact ⟨0, Nat.zero_le _, rfl, HS4.out⟩
         case round =>
          as_aux_lemma =>
          obtain ⟨q, hq, rfl, hf⟩ := hrel
          have HF : Hid (PsW B hb w P S 4 q 0 wr) := hf
          have cc : wr.cell? ⟨hb, 8, none⟩ = some (.slice (S.r 4).a N4 (S.r 4).c) := by have h1 := hf.cell (d := 4) (by omega); rwa [HN.out.1 4 (by omega), HN4.out] at h1
          clear hf HS4
          have i1 : (0 : Int) ≤ (q : Int) := Int.natCast_nonneg _
          by_cases hlt : q < N4
          ·have i2 : (q : Int) < (N4 : Int) := by omega
           obtain ⟨⟨xa, xn, xc⟩, hx⟩ : ∃ x, S.v 4 q = x := ⟨_, rfl⟩
           have HX0 : Hid (S.v 4 q = ⟨xa, xn, xc⟩) := hx
           have hqn : q < S.N 4 := by rw [HN4.out]; exact hlt
           have HqN : Hid (q < S.N 4) := hqn
           have hqr : q < (S.r 4).n := by rw [HN.out.1 4 (by omega)]; exact hqn
           have hxn : xn ≤ 100000000 := by have h1 := HN.out.2.2 4 (by omega) q hqn; rw [hx] at h1; exact h1
           obtain ⟨bg, hba, hcq⟩ := HF.out.at (d := 4) (by omega) hqr
           have HBA : Hid ((S.r 4).a = some ⟨bg, 0, none⟩) := hba
           have HCq : Hid (∀ X k', PsW B hb w P S 4 q k' X → X.cell? ⟨bg, q, none⟩ = some (.slice xa xn xc)) := fun X k' hX => by
            obtain ⟨b2, h3, h4⟩ := hX.at (d := 4) (by omega) hqr
            rw [hba] at h3
            simp only [Option.some.injEq, Addr.mk.injEq, and_true] at h3
            subst h3
            rw [h4, hx]; rfl
           rw [hba] at cc
           obtain ⟨rc, hrc⟩ : ∃ rc, (S.r 4).c = rc := ⟨_, rfl⟩
           have HRc : Hid ((S.r 4).c = rc) := hrc
           rw [hrc] at cc
           have cq := HCq.out wr 0 HF.out
           clear hx hba hcq hqr hqn hrc
           go_wp2_with fail
           clear cq
           go_loopw [11] (fun i wr => ∃ k : Nat, k ≤ xn ∧ i = .int .i64 (k : Int) ∧ PsW B hb w P S 4 q k wr) (fun i _ => xn - (intOf i).toNat)
           case atStart => exact ⟨0, Nat.zero_le _, rfl, HF.out⟩
           case round =>
            as_aux_lemma =>
            obtain ⟨k, hk, rfl, hf2⟩ := hrel
            have HF2 : Hid (PsW B hb w P S 4 q k wr) := hf2
            clear cc
            have cc : wr.cell? ⟨hb, 8, none⟩ = some (.slice (some ⟨bg, 0, none⟩) N4 rc) := by have h1 := hf2.cell (d := 4) (by omega); rwa [HN.out.1 4 (by omega), HN4.out, HBA.out, HRc.out] at h1
            have cq := HCq.out wr k hf2
            clear hf2 HF
            have j1 : (0 : Int) ≤ (k : Int) := Int.natCast_nonneg _
            by_cases hlk : k < xn
            ·have j2 : (k : Int) < (xn : Int) := by omega
             obtain ⟨xg, C, hxa, hC, hCs⟩ := HF2.out.blk (d := 4) (by omega) HqN.out (j := k) (by rw [HX0.out]; exact hlk)
             have HXa : Hid ((S.v 4 q).a = some ⟨xg, 0, none⟩) := hxa
             have hxa2 : xa = some ⟨xg, 0, none⟩ := by rw [HX0.out] at hxa; exact hxa
             subst hxa2
             have HQ : Hid (PsW B hb w P S 4 q (k + 1) (wr.setCells xg (k * 4) (mrk 4 q))) := HF2.out.step (by omega) HqN.out HXa.out
             have HTh : Hid (wr.there xg (k * 4) (mrk 4 q).length) := fun j hj => by
              have h1 : (k + 1) * 4 ≤ C.size := hCs
              have h2 : j < 4 := hj
              exact ⟨by rw [blk_cell hC]; simp [show k * 4 + j < C.size by omega], frozen_of_row wr _ _ _ _ hC⟩
             clear hxa hC hCs HF2
             go_wp2_with (first
              | (refine wl_buildZ rfl 95 _ rfl (built_eq (by kernel_rfl) (bF4 (-1000 - (q : Int)))) ?_)
              | (refine Ln.wl_storeL rfl 95 _ _ rfl (b := xg) (off := k * 4) (L := mrk 4 q) rfl rfl HTh.out iF4 (mrk_one 4 q) ?_; generalize wr.setCells xg (k * 4) (mrk 4 q) = Z at *)
              | fail)
             exact ⟨⟨k + 1, by omega, by go_num, HQ.out⟩, by simp [intOf]; omega⟩
            ·obtain rfl : k = xn := by omega
             have HE : Hid (PsW B hb w P S 4 (q + 1) 0 wr) := by
              have h1 := HF2.out
              rw [show k = (S.v 4 q).n by rw [HX0.out]] at h1
              exact h1.list
             clear HF2
             go_wp2_with fail
             exact ⟨⟨q + 1, by omega, by go_num, HE.out⟩, by simp [intOf]; omega⟩
          ·have hqe : q = N4 := by omega
           have HS5 : Hid (PsW B hb w P S (4 + 1) 0 0 wr) := by
            have h1 := HF.out
            rw [show q = S.N 4 by rw [HN4.out]; exact hqe] at h1
            exact h1.fam
           have i9 : ¬ (q : Int) < (N4 : Int) := by omega
           clear HF hlt hq hqe
           obtain ⟨W_4, hW⟩ : ∃ W0, W0 = wr := ⟨_, rfl⟩
           subst hW
           have cd5 : W_4.cell? ⟨hb, 10, none⟩ = some (.slice (S.r 5).a N5 (S.r 5).c) := by have h1 := HS5.out.cell (d := 5) (by omega); rwa [HN.out.1 5 (by omega), HN5.out] at h1
           go_wp2_with fail
           clear cd5
           go_loopw [12] (fun i wr => ∃ q : Nat, q ≤ N5 ∧ i = .int .i64 (q : Int) ∧ PsW B hb w P S 5 q 0 wr) (fun i _ => N5 - (intOf i).toNat)
           case atStart => exact ⟨0, Nat.zero_le _, rfl, HS5.out⟩
           case round =>
            as_aux_lemma =>
            obtain ⟨q, hq, rfl, hf⟩ := hrel
            have HF : Hid (PsW B hb w P S 5 q 0 wr) := hf
            have cc : wr.cell? ⟨hb, 10, none⟩ = some (.slice (S.r 5).a N5 (S.r 5).c) := by have h1 := hf.cell (d := 5) (by omega); rwa [HN.out.1 5 (by omega), HN5.out] at h1
            clear hf HS5
            have i1 : (0 : Int) ≤ (q : Int) := Int.natCast_nonneg _
            by_cases hlt : q < N5
            ·have i2 : (q : Int) < (N5 : Int) := by omega
             obtain ⟨⟨xa, xn, xc⟩, hx⟩ : ∃ x, S.v 5 q = x := ⟨_, rfl⟩
             have HX0 : Hid (S.v 5 q = ⟨xa, xn, xc⟩) := hx
             have hqn : q < S.N 5 := by rw [HN5.out]; exact hlt
             have HqN : Hid (q < S.N 5) := hqn
             have hqr : q < (S.r 5).n := by rw [HN.out.1 5 (by omega)]; exact hqn
             have hxn : xn ≤ 100000000 := by have h1 := HN.out.2.2 5 (by omega) q hqn; rw [hx] at h1; exact h1
             obtain ⟨bg, hba, hcq⟩ := HF.out.at (d := 5) (by omega) hqr
             have HBA : Hid ((S.r 5).a = some ⟨bg, 0, none⟩) := hba
             have HCq : Hid (∀ X k', PsW B hb w P S 5 q k' X → X.cell? ⟨bg, q, none⟩ = some (.slice xa xn xc)) := fun X k' hX => by
              obtain ⟨b2, h3, h4⟩ := hX.at (d := 5) (by omega) hqr
              rw [hba] at h3
              simp only [Option.some.injEq, Addr.mk.injEq, and_true] at h3
              subst h3
              rw [h4, hx]; rfl
             rw [hba] at cc
             obtain ⟨rc, hrc⟩ : ∃ rc, (S.r 5).c = rc := ⟨_, rfl⟩
             have HRc : Hid ((S.r 5).c = rc) := hrc
             rw [hrc] at cc
             have cq := HCq.out wr 0 HF.out
             clear hx hba hcq hqr hqn hrc
             go_wp2_with fail
             clear cq
             go_loopw [13] (fun i wr => ∃ k : Nat, k ≤ xn ∧ i = .int .i64 (k : Int) ∧ PsW B hb w P S 5 q k wr) (fun i _ => xn - (intOf i).toNat)
             case atStart => exact ⟨0, Nat.zero_le _, rfl, HF.out⟩
             case round =>
              as_aux_lemma =>
              obtain ⟨k, hk, rfl, hf2⟩ := hrel
              have HF2 : Hid (PsW B hb w P S 5 q k wr) := hf2
              clear cc
              have cc : wr.cell? ⟨hb, 10, none⟩ = some (.slice (some ⟨bg, 0, none⟩) N5 rc) := by have h1 := hf2.cell (d := 5) (by omega); rwa [HN.out.1 5 (by omega), HN5.out, HBA.out, HRc.out] at h1
              have cq := HCq.out wr k hf2
              clear hf2 HF
              have j1 : (0 : Int) ≤ (k : Int) := Int.natCast_nonneg _
              by_cases hlk : k < xn
              ·have j2 : (k : Int) < (xn : Int) := by omega
               obtain ⟨xg, C, hxa, hC, hCs⟩ := HF2.out.blk (d := 5) (by omega) HqN.out (j := k) (by rw [HX0.out]; exact hlk)
               have HXa : Hid ((S.v 5 q).a = some ⟨xg, 0, none⟩) := hxa
               have hxa2 : xa = some ⟨xg, 0, none⟩ := by rw [HX0.out] at hxa; exact hxa
               subst hxa2
               have HQ : Hid (PsW B hb w P S 5 q (k + 1) (wr.setCells xg (k * 4) (mrk 5 q))) := HF2.out.step (by omega) HqN.out HXa.out
               have HTh : Hid (wr.there xg (k * 4) (mrk 5 q).length) := fun j hj => by
                have h1 : (k + 1) * 4 ≤ C.size := hCs
                have h2 : j < 4 := hj
                exact ⟨by rw [blk_cell hC]; simp [show k * 4 + j < C.size by omega], frozen_of_row wr _ _ _ _ hC⟩
               clear hxa hC hCs HF2
               go_wp2_with (first
                | (refine wl_buildZ rfl 97 _ rfl (built_eq (by kernel_rfl) (bF5 (-1000 - (q : Int)))) ?_)
                | (refine Ln.wl_storeL rfl 97 _ _ rfl (b := xg) (off := k * 4) (L := mrk 5 q) rfl rfl HTh.out iF5 (mrk_one 5 q) ?_; generalize wr.setCells xg (k * 4) (mrk 5 q) = Z at *)
                | fail)
               exact ⟨⟨k + 1, by omega, by go_num, HQ.out⟩, by simp [intOf]; omega⟩
              ·obtain rfl : k = xn := by omega
               have HE : Hid (PsW B hb w P S 5 (q + 1) 0 wr) := by
                have h1 := HF2.out
                rw [show k = (S.v 5 q).n by rw [HX0.out]] at h1
                exact h1.list
               clear HF2
               go_wp2_with fail
               exact ⟨⟨q + 1, by omega, by go_num, HE.out⟩, by simp [intOf]; omega⟩
            ·have hqe : q = N5 := by omega
             have HS6 : Hid (PsW B hb w P S (5 + 1) 0 0 wr) := by
              have h1 := HF.out
              rw [show q = S.N 5 by rw [HN5.out]; exact hqe] at h1
              exact h1.fam
             have i9 : ¬ (q : Int) < (N5 : Int) := by omega
             clear HF hlt hq hqe
             obtain ⟨W_5, hW⟩ : ∃ W0, W0 = wr := ⟨_, rfl⟩
             subst hW
             go_wp2_with fail
             (first | go_end0 | ((try simp only [Exit.inBlock, Exit.then]); refine bodyPost_ret (results_none rfl _ _ _) rfl ?_))
             exact ⟨rfl, HS6.out.done⟩
end
end Go.Proofs.Ytobaooebjgoaiaa.Hh
