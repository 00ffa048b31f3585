import Derived.Test.YtobaooebjgoaiaaV04
namespace Go.Proofs.Ytobaooebjgoaiaa.Hh
open Go.RowKit Go.Maps Mb
set_option linter.unusedVariables false
set_option linter.unusedSimpArgs false
set_option maxRecDepth 100000
section
variable {w w' w1 w2 w3 Z Y V : World} {B T s : Nat} {S S' : St} {hb : Nat} {f f' : Nat → Nat → Nat → Value} {P : Nat → Prop} {c k n : Nat} {x : Sl} {a' : Option Addr} {c' : Nat} {Q : Nat → Sl} {U : Nat → Nat → Sl}
set_option maxHeartbeats 16000000 in
theorem growa_any (h : PsG B hb w P S 0 0 Q U Z) (t : (∀ c, c < 6 → (S.r c).n = S.N c) ∧ (∀ c, c < 6 → S.N c ≤ 100000000) ∧ ∀ c, c < 6 → ∀ i, i < S.N c → (S.v c i).n ≤ 100000000) (hB : B ≤ w.heap.size) : Calls Try.prog 26 #[.pointer (some ⟨hb, 0, none⟩)] Z fun e w' => e = .returned (.tuple #[]) ∧ ∃ Q U, PsG B hb w P S 5 (S.N 5) Q U w' := by
 obtain ⟨e0, z0, e0h, e0z0, e0z1, e0z2, e0z3⟩ := tE0
 obtain ⟨l0, l0h, l0z0, l0z1, l0z2⟩ := tL0
 obtain ⟨e1, z1, e1h, e1z0, e1z1, e1z2, e1z3⟩ := tE1
 obtain ⟨l1, l1h, l1z0, l1z1, l1z2⟩ := tL1
 obtain ⟨e2, z2, e2h, e2z0, e2z1, e2z2, e2z3⟩ := tE2
 obtain ⟨l2, l2h, l2z0, l2z1, l2z2⟩ := tL2
 obtain ⟨e3, z3, e3h, e3z0, e3z1, e3z2, e3z3⟩ := tE3
 obtain ⟨l3, l3h, l3z0, l3z1, l3z2⟩ := tL3
 have HS0 : Hid (∃ Q U, PsG B hb w P S 0 0 Q U Z) := ⟨Q, U, h⟩
 have HN : Hid ((∀ c, c < 6 → (S.r c).n = S.N c) ∧ (∀ c, c < 6 → S.N c ≤ 100000000) ∧ ∀ c, c < 6 → ∀ i, i < S.N c → (S.v c i).n ≤ 100000000) := t
 have HBw : Hid (B ≤ w.heap.size) := hB
 obtain ⟨N0, hN0⟩ : ∃ N, S.N 0 = N := ⟨_, rfl⟩
 have HN0 : Hid (S.N 0 = N0) := hN0
 have n0 : N0 ≤ 100000000 := by rw [← hN0]; exact HN.out.2.1 0 (by omega)
 obtain ⟨N1, hN1⟩ : ∃ N, S.N 1 = N := ⟨_, rfl⟩
 have HN1 : Hid (S.N 1 = N1) := hN1
 have n1 : N1 ≤ 100000000 := by rw [← hN1]; exact HN.out.2.1 1 (by omega)
 obtain ⟨N2, hN2⟩ : ∃ N, S.N 2 = N := ⟨_, rfl⟩
 have HN2 : Hid (S.N 2 = N2) := hN2
 have n2 : N2 ≤ 100000000 := by rw [← hN2]; exact HN.out.2.1 2 (by omega)
 obtain ⟨N3, hN3⟩ : ∃ N, S.N 3 = N := ⟨_, rfl⟩
 have HN3 : Hid (S.N 3 = N3) := hN3
 have n3 : N3 ≤ 100000000 := by rw [← hN3]; exact HN.out.2.1 3 (by omega)
 have cd0 : Z.cell? ⟨hb, 0, none⟩ = some (.slice (S.r 0).a N0 (S.r 0).c) := by have h1 := h.cell (d := 0) (by omega); rwa [HN.out.1 0 (by omega), HN0.out] at h1
 clear h t hB hN0 hN1 hN2 hN3
 go_enter Try.func26, Try.ntmps26
 go_wp2_with fail
 clear cd0
 go_loopw [2] (fun i wr => ∃ (q : Nat) (Q : Nat → Sl) (U : Nat → Nat → Sl), q ≤ N0 ∧ i = .int .i64 (q : Int) ∧ PsG B hb w P S 0 q Q U wr) (fun i _ => N0 - (intOf i).toNat)
 case atStart =>
  obtain ⟨Q0, U0, h0⟩ := HS0.out
  exact ⟨0, Q0, U0, Nat.zero_le _, rfl, h0⟩
 case round =>
  as_aux_lemma =>
  obtain ⟨q, Q, U, hq, rfl, hf⟩ := hrel
  have HF : Hid (PsG B hb w P S 0 q Q U wr) := hf
  have cc : wr.cell? ⟨hb, 0, none⟩ = some (.slice (S.r 0).a N0 (S.r 0).c) := by have h1 := hf.cell (d := 0) (by omega); rwa [HN.out.1 0 (by omega), HN0.out] at h1
  obtain ⟨⟨ma, mn, mc⟩, hQ⟩ : ∃ x, Q 0 = x := ⟨_, rfl⟩
  obtain rfl : q = mn := by have h1 := hf.at_; rw [hQ] at h1; exact h1.symm
  have HQ0 : Hid (Q 0 = ⟨ma, q, mc⟩) := hQ
  clear hf HS0 hQ
  have i1 : (0 : Int) ≤ (q : Int) := Int.natCast_nonneg _
  by_cases hlt : q < N0
  ·have i2 : (q : Int) < (N0 : Int) := by omega
   obtain ⟨⟨xa, xn, xc⟩, hx⟩ : ∃ x, S.v 0 q = x := ⟨_, rfl⟩
   have hqn : q < S.N 0 := by rw [HN0.out]; exact hlt
   have hqr : q < (S.r 0).n := by rw [HN.out.1 0 (by omega)]; exact hqn
   have hxn : xn ≤ 100000000 := by have h1 := HN.out.2.2 0 (by omega) q hqn; rw [hx] at h1; exact h1
   have HqN : Hid (q < S.N 0) := hqn
   obtain ⟨bg, hba, hcq⟩ := HF.out.at (d := 0) (by omega) hqr
   have cq : wr.cell? ⟨bg, q, none⟩ = some (.slice xa xn xc) := by
    rw [hcq, hx]; rfl
   rw [hba] at cc
   obtain ⟨rc, hrc⟩ : ∃ rc, (S.r 0).c = rc := ⟨_, rfl⟩
   rw [hrc] at cc
   have HG : Hid (PgG B hb w P S 0 q Q U 0 ⟨xa, xn, xc⟩ wr) := by
    have h1 := PgG.start HF.out (by omega) hqn
    rw [hx] at h1
    exact h1
   clear hx hba hcq hqr hqn hrc HF
   go_wp2_with fail
   go_loopw [3, 4] (fun m k wr => ∃ (r : Nat) (x : Sl), r ≤ 64 ∧ m = .slice x.a x.n x.c ∧ k = .int .i64 (r : Int) ∧ x.n = xn + r ∧ PgG B hb w P S 0 q Q U r x wr) (fun _ k _ => 64 - (intOf k).toNat)
   case atStart => exact ⟨0, ⟨xa, xn, xc⟩, by omega, rfl, rfl, rfl, HG.out⟩
   case round =>
    as_aux_lemma =>
    obtain ⟨r, ⟨ya, yn, yc⟩, hr, rfl, rfl, hyn, hg⟩ := hrel
    have hyn2 : yn ≤ 100000064 := by have h1 : yn = xn + r := hyn; omega
    have HYn : Hid (yn = xn + r) := hyn
    have HG2 : Hid (PgG B hb w P S 0 q Q U r ⟨ya, yn, yc⟩ wr) := hg
    clear hyn hg HG cc cq
    have j1 : (0 : Int) ≤ (r : Int) := Int.natCast_nonneg _
    by_cases hlk : r < 64
    ·have j2 : (r : Int) < 64 := by omega
     have HSg : Hid (∀ X, Calls Try.prog 56 #[.int .i64 (q : Int)] X fun e w' => e = .returned (.int .u8 (1 + (q : Int) % 250)) ∧ X = w') := fun X => byteOf_any q (by omega)
     go_wp2_with (first
      | (go_at_call 56; refine (HSg.out _).mono ?_; rintro e W9 ⟨rfl, rfl⟩)
      | (refine wl_bsl rfl 92 5 1 _ rfl Try.underlying92 #[.int .u8 (1 + (q : Int) % 250)] (bsl_eq (by kernel_rfl) (bs0 (1 + (q : Int) % 250))) ?_; intro V kv bv sv)
      | (refine wl_appK rfl _ _ 92 rfl B 5 e0 z0 1 1 Try.underlying92 e0h e0z0 e0z1 e0z2 e0z3 (by omega) (.slice ya yn yc) yn (rv (yn * 1) (G 0 q)) rfl (own_still (HG2.out.own (by omega)) bv) (nb := wr.heap.size) (mrk 0 q) rfl rfl kv (mrk_one 0 q) (by unfold maxLen; omega) (by omega) (HG2.out.hB HBw.out bv) ?_; intro a1 c1 Y ho hk he hold; have HQ : Hid (PgG B hb w P S 0 q Q U (r + 1) ⟨a1, yn + 1, c1⟩ Y) := (HG2.out.still bv).grow (by omega) HqN.out ho hk he hold; clear ho hk he hold kv bv sv)
      | fail)
     exact ⟨⟨r + 1, ⟨a1, yn + 1, c1⟩, by omega, rfl, by go_num, by show yn + 1 = _; have := HYn.out; omega, HQ.out⟩, by simp [intOf]; omega⟩
    ·obtain rfl : r = 64 := by omega
     have c1 : wr.cell? ⟨hb, 1, none⟩ = some (.slice ma q mc) := by have h1 := HG2.out.p.cellQ (d := 0) (by omega); rwa [HQ0.out] at h1
     go_wp2_with (first
      | (refine wl_bsl rfl 33 92 1 _ rfl Try.underlying33 #[.slice ya yn yc] (bsl_eq (by kernel_rfl) (bsL0 ya yn yc)) ?_; intro V kv bv sv; have hpV := HG2.out.still bv)
      | (refine app_g rfl _ _ 33 rfl B 92 l0 (.slice none 0 0) 1 24 Try.underlying33 l0h l0z0 l0z1 l0z2 rfl (by omega) (.slice ma q mc) q _ rfl (hpV.more (by omega) HQ0.out) (some ⟨wr.heap.size, 0, none⟩) 1 1 [.slice ya yn yc] rfl (fun h => by cases h) rfl (fun ad had j u hu => by cases had; rw [Addr.add_lit, Nat.zero_add, blk_cell kv]; simpa using hu) (oneV _ rfl) (by unfold maxLen; omega) (by omega) (HG2.out.hB HBw.out bv) ?_; intro v1 Y ho hk he; obtain ⟨a1, c1', rfl⟩ := own_sh ho.out; have hbk := hpV.hbk (by omega) HQ0.out hk.out)
      | (refine wl_stS rfl 33 _ _ rfl (g := hb) (p := 1) rfl rfl hbk (show 1 < 16 from by omega) oL0 rfl ?_; have HQ : Hid (∃ Q' U', PsG B hb w P S 0 (q + 1) Q' U' (Y.setCell ⟨hb, 1, none⟩ (.slice a1 (q + 1) c1'))) := hpV.done' (by omega) HQ0.out ho.out hk.out he.out; clear ho hk he hbk hpV kv bv sv; generalize Y.setCell ⟨hb, 1, none⟩ (.slice a1 (q + 1) c1') = Z at *)
      | fail)
     obtain ⟨Q', U', hQ'⟩ := HQ.out
     exact ⟨⟨q + 1, Q', U', by omega, by go_num, hQ'⟩, by simp [intOf]; omega⟩
  ·have hqe : q = N0 := by omega
   have HS1 : Hid (∃ Q U, PsG B hb w P S (0 + 1) 0 Q U wr) := by
    have h1 := HF.out
    rw [show q = S.N 0 by rw [HN0.out]; exact hqe] at h1
    exact ⟨Q, U, h1.next (by omega)⟩
   have i9 : ¬ (q : Int) < (N0 : Int) := by omega
   clear HF HQ0 hlt hq hqe
   obtain ⟨W_0, hW⟩ : ∃ W0, W0 = wr := ⟨_, rfl⟩
   subst hW
   have cd1 : W_0.cell? ⟨hb, 2, none⟩ = some (.slice (S.r 1).a N1 (S.r 1).c) := by obtain ⟨Q0, U0, h0⟩ := HS1.out; have h1 := h0.cell (d := 1) (by omega); rwa [HN.out.1 1 (by omega), HN1.out] at h1
   go_wp2_with fail
   clear cd1
   go_loopw [5] (fun i wr => ∃ (q : Nat) (Q : Nat → Sl) (U : Nat → Nat → Sl), q ≤ N1 ∧ i = .int .i64 (q : Int) ∧ PsG B hb w P S 1 q Q U wr) (fun i _ => N1 - (intOf i).toNat)
   case atStart =>
    obtain ⟨Q0, U0, h0⟩ := HS1.out
    exact ⟨0, Q0, U0, Nat.zero_le _, rfl, h0⟩
   case round =>
    as_aux_lemma =>
    obtain ⟨q, Q, U, hq, rfl, hf⟩ := hrel
    have HF : Hid (PsG B hb w P S 1 q Q U wr) := hf
    have cc : wr.cell? ⟨hb, 2, none⟩ = some (.slice (S.r 1).a N1 (S.r 1).c) := by have h1 := hf.cell (d := 1) (by omega); rwa [HN.out.1 1 (by omega), HN1.out] at h1
    obtain ⟨⟨ma, mn, mc⟩, hQ⟩ : ∃ x, Q 1 = x := ⟨_, rfl⟩
    obtain rfl : q = mn := by have h1 := hf.at_; rw [hQ] at h1; exact h1.symm
    have HQ0 : Hid (Q 1 = ⟨ma, q, mc⟩) := hQ
    clear hf HS1 hQ
    have i1 : (0 : Int) ≤ (q : Int) := Int.natCast_nonneg _
    by_cases hlt : q < N1
    ·have i2 : (q : Int) < (N1 : Int) := by omega
     obtain ⟨⟨xa, xn, xc⟩, hx⟩ : ∃ x, S.v 1 q = x := ⟨_, rfl⟩
     have hqn : q < S.N 1 := by rw [HN1.out]; exact hlt
     have hqr : q < (S.r 1).n := by rw [HN.out.1 1 (by omega)]; exact hqn
     have hxn : xn ≤ 100000000 := by have h1 := HN.out.2.2 1 (by omega) q hqn; rw [hx] at h1; exact h1
     have HqN : Hid (q < S.N 1) := hqn
     obtain ⟨bg, hba, hcq⟩ := HF.out.at (d := 1) (by omega) hqr
     have cq : wr.cell? ⟨bg, q, none⟩ = some (.slice xa xn xc) := by
      rw [hcq, hx]; rfl
     rw [hba] at cc
     obtain ⟨rc, hrc⟩ : ∃ rc, (S.r 1).c = rc := ⟨_, rfl⟩
     rw [hrc] at cc
     have HG : Hid (PgG B hb w P S 1 q Q U 0 ⟨xa, xn, xc⟩ wr) := by
      have h1 := PgG.start HF.out (by omega) hqn
      rw [hx] at h1
      exact h1
     clear hx hba hcq hqr hqn hrc HF
     go_wp2_with fail
     go_loopw [6, 7] (fun m k wr => ∃ (r : Nat) (x : Sl), r ≤ 64 ∧ m = .slice x.a x.n x.c ∧ k = .int .i64 (r : Int) ∧ x.n = xn + r ∧ PgG B hb w P S 1 q Q U r x wr) (fun _ k _ => 64 - (intOf k).toNat)
     case atStart => exact ⟨0, ⟨xa, xn, xc⟩, by omega, rfl, rfl, rfl, HG.out⟩
     case round =>
      as_aux_lemma =>
      obtain ⟨r, ⟨ya, yn, yc⟩, hr, rfl, rfl, hyn, hg⟩ := hrel
      have hyn2 : yn ≤ 100000064 := by have h1 : yn = xn + r := hyn; omega
      have HYn : Hid (yn = xn + r) := hyn
      have HG2 : Hid (PgG B hb w P S 1 q Q U r ⟨ya, yn, yc⟩ wr) := hg
      clear hyn hg HG cc cq
      have j1 : (0 : Int) ≤ (r : Int) := Int.natCast_nonneg _
      by_cases hlk : r < 64
      ·have j2 : (r : Int) < 64 := by omega
       go_wp2_with (first
        | (refine wl_bsl rfl 26 3 1 _ rfl Try.underlying26 #[.int .i64 (-1000 - (q : Int))] (bsl_eq (by kernel_rfl) (bs1 (-1000 - (q : Int)))) ?_; intro V kv bv sv)
        | (refine wl_appK rfl _ _ 26 rfl B 3 e1 z1 1 8 Try.underlying26 e1h e1z0 e1z1 e1z2 e1z3 (by omega) (.slice ya yn yc) yn (rv (yn * 1) (G 1 q)) rfl (own_still (HG2.out.own (by omega)) bv) (nb := wr.heap.size) (mrk 1 q) rfl rfl kv (mrk_one 1 q) (by unfold maxLen; omega) (by omega) (HG2.out.hB HBw.out bv) ?_; intro a1 c1 Y ho hk he hold; have HQ : Hid (PgG B hb w P S 1 q Q U (r + 1) ⟨a1, yn + 1, c1⟩ Y) := (HG2.out.still bv).grow (by omega) HqN.out ho hk he hold; clear ho hk he hold kv bv sv)
        | fail)
       exact ⟨⟨r + 1, ⟨a1, yn + 1, c1⟩, by omega, rfl, by go_num, by show yn + 1 = _; have := HYn.out; omega, HQ.out⟩, by simp [intOf]; omega⟩
      ·obtain rfl : r = 64 := by omega
       have c1 : wr.cell? ⟨hb, 3, none⟩ = some (.slice ma q mc) := by have h1 := HG2.out.p.cellQ (d := 1) (by omega); rwa [HQ0.out] at h1
       go_wp2_with (first
        | (refine wl_bsl rfl 34 26 1 _ rfl Try.underlying34 #[.slice ya yn yc] (bsl_eq (by kernel_rfl) (bsL1 ya yn yc)) ?_; intro V kv bv sv; have hpV := HG2.out.still bv)
        | (refine app_g rfl _ _ 34 rfl B 26 l1 (.slice none 0 0) 1 24 Try.underlying34 l1h l1z0 l1z1 l1z2 rfl (by omega) (.slice ma q mc) q _ rfl (hpV.more (by omega) HQ0.out) (some ⟨wr.heap.size, 0, none⟩) 1 1 [.slice ya yn yc] rfl (fun h => by cases h) rfl (fun ad had j u hu => by cases had; rw [Addr.add_lit, Nat.zero_add, blk_cell kv]; simpa using hu) (oneV _ rfl) (by unfold maxLen; omega) (by omega) (HG2.out.hB HBw.out bv) ?_; intro v1 Y ho hk he; obtain ⟨a1, c1', rfl⟩ := own_sh ho.out; have hbk := hpV.hbk (by omega) HQ0.out hk.out)
        | (refine wl_stS rfl 34 _ _ rfl (g := hb) (p := 3) rfl rfl hbk (show 3 < 16 from by omega) oL1 rfl ?_; have HQ : Hid (∃ Q' U', PsG B hb w P S 1 (q + 1) Q' U' (Y.setCell ⟨hb, 3, none⟩ (.slice a1 (q + 1) c1'))) := hpV.done' (by omega) HQ0.out ho.out hk.out he.out; clear ho hk he hbk hpV kv bv sv; generalize Y.setCell ⟨hb, 3, none⟩ (.slice a1 (q + 1) c1') = Z at *)
        | fail)
       obtain ⟨Q', U', hQ'⟩ := HQ.out
       exact ⟨⟨q + 1, Q', U', by omega, by go_num, hQ'⟩, by simp [intOf]; omega⟩
    ·have hqe : q = N1 := by omega
     have HS2 : Hid (∃ Q U, PsG B hb w P S (1 + 1) 0 Q U wr) := by
      have h1 := HF.out
      rw [show q = S.N 1 by rw [HN1.out]; exact hqe] at h1
      exact ⟨Q, U, h1.next (by omega)⟩
     have i9 : ¬ (q : Int) < (N1 : Int) := by omega
     clear HF HQ0 hlt hq hqe
     obtain ⟨W_1, hW⟩ : ∃ W0, W0 = wr := ⟨_, rfl⟩
     subst hW
     have cd2 : W_1.cell? ⟨hb, 4, none⟩ = some (.slice (S.r 2).a N2 (S.r 2).c) := by obtain ⟨Q0, U0, h0⟩ := HS2.out; have h1 := h0.cell (d := 2) (by omega); rwa [HN.out.1 2 (by omega), HN2.out] at h1
     go_wp2_with fail
     clear cd2
     go_loopw [8] (fun i wr => ∃ (q : Nat) (Q : Nat → Sl) (U : Nat → Nat → Sl), q ≤ N2 ∧ i = .int .i64 (q : Int) ∧ PsG B hb w P S 2 q Q U wr) (fun i _ => N2 - (intOf i).toNat)
     case atStart =>
      obtain ⟨Q0, U0, h0⟩ := HS2.out
      exact ⟨0, Q0, U0, Nat.zero_le _, rfl, h0⟩
     case round =>
      as_aux_lemma =>
      obtain ⟨q, Q, U, hq, rfl, hf⟩ := hrel
      have HF : Hid (PsG B hb w P S 2 q Q U wr) := hf
      have cc : wr.cell? ⟨hb, 4, none⟩ = some (.slice (S.r 2).a N2 (S.r 2).c) := by have h1 := hf.cell (d := 2) (by omega); rwa [HN.out.1 2 (by omega), HN2.out] at h1
      obtain ⟨⟨ma, mn, mc⟩, hQ⟩ : ∃ x, Q 2 = x := ⟨_, rfl⟩
      obtain rfl : q = mn := by have h1 := hf.at_; rw [hQ] at h1; exact h1.symm
      have HQ0 : Hid (Q 2 = ⟨ma, q, mc⟩) := hQ
      clear hf HS2 hQ
      have i1 : (0 : Int) ≤ (q : Int) := Int.natCast_nonneg _
      by_cases hlt : q < N2
      ·have i2 : (q : Int) < (N2 : Int) := by omega
       obtain ⟨⟨xa, xn, xc⟩, hx⟩ : ∃ x, S.v 2 q = x := ⟨_, rfl⟩
       have hqn : q < S.N 2 := by rw [HN2.out]; exact hlt
       have hqr : q < (S.r 2).n := by rw [HN.out.1 2 (by omega)]; exact hqn
       have hxn : xn ≤ 100000000 := by have h1 := HN.out.2.2 2 (by omega) q hqn; rw [hx] at h1; exact h1
       have HqN : Hid (q < S.N 2) := hqn
       obtain ⟨bg, hba, hcq⟩ := HF.out.at (d := 2) (by omega) hqr
       have cq : wr.cell? ⟨bg, q, none⟩ = some (.slice xa xn xc) := by
        rw [hcq, hx]; rfl
       rw [hba] at cc
       obtain ⟨rc, hrc⟩ : ∃ rc, (S.r 2).c = rc := ⟨_, rfl⟩
       rw [hrc] at cc
       have HG : Hid (PgG B hb w P S 2 q Q U 0 ⟨xa, xn, xc⟩ wr) := by
        have h1 := PgG.start HF.out (by omega) hqn
        rw [hx] at h1
        exact h1
       clear hx hba hcq hqr hqn hrc HF
       go_wp2_with fail
       go_loopw [9, 10] (fun m k wr => ∃ (r : Nat) (x : Sl), r ≤ 64 ∧ m = .slice x.a x.n x.c ∧ k = .int .i64 (r : Int) ∧ x.n = xn + r ∧ PgG B hb w P S 2 q Q U r x wr) (fun _ k _ => 64 - (intOf k).toNat)
       case atStart => exact ⟨0, ⟨xa, xn, xc⟩, by omega, rfl, rfl, rfl, HG.out⟩
       case round =>
        as_aux_lemma =>
        obtain ⟨r, ⟨ya, yn, yc⟩, hr, rfl, rfl, hyn, hg⟩ := hrel
        have hyn2 : yn ≤ 100000064 := by have h1 : yn = xn + r := hyn; omega
        have HYn : Hid (yn = xn + r) := hyn
        have HG2 : Hid (PgG B hb w P S 2 q Q U r ⟨ya, yn, yc⟩ wr) := hg
        clear hyn hg HG cc cq
        have j1 : (0 : Int) ≤ (r : Int) := Int.natCast_nonneg _
        by_cases hlk : r < 64
        ·have j2 : (r : Int) < 64 := by omega
         go_wp2_with (first
          | (refine wl_buildZ rfl 76 _ rfl (built_eq (by kernel_rfl) (bF2 (-1000 - (q : Int)))) ?_)
          | (refine wl_bsl rfl 25 76 1 _ rfl Try.underlying25 #[.int .i64 0, .int .i64 (-1000 - (q : Int))] (bsl_eq (by kernel_rfl) (bs2 (-1000 - (q : Int)))) ?_; intro V kv bv sv)
          | (refine wl_appK rfl _ _ 25 rfl B 76 e2 z2 2 16 Try.underlying25 e2h e2z0 e2z1 e2z2 e2z3 (by omega) (.slice ya yn yc) yn (rv (yn * 2) (G 2 q)) rfl (own_still (HG2.out.own (by omega)) bv) (nb := wr.heap.size) (mrk 2 q) rfl rfl kv (mrk_one 2 q) (by unfold maxLen; omega) (by omega) (HG2.out.hB HBw.out bv) ?_; intro a1 c1 Y ho hk he hold; have HQ : Hid (PgG B hb w P S 2 q Q U (r + 1) ⟨a1, yn + 1, c1⟩ Y) := (HG2.out.still bv).grow (by omega) HqN.out ho hk he hold; clear ho hk he hold kv bv sv)
          | fail)
         exact ⟨⟨r + 1, ⟨a1, yn + 1, c1⟩, by omega, rfl, by go_num, by show yn + 1 = _; have := HYn.out; omega, HQ.out⟩, by simp [intOf]; omega⟩
        ·obtain rfl : r = 64 := by omega
         have c1 : wr.cell? ⟨hb, 5, none⟩ = some (.slice ma q mc) := by have h1 := HG2.out.p.cellQ (d := 2) (by omega); rwa [HQ0.out] at h1
         go_wp2_with (first
          | (refine wl_bsl rfl 35 25 1 _ rfl Try.underlying35 #[.slice ya yn yc] (bsl_eq (by kernel_rfl) (bsL2 ya yn yc)) ?_; intro V kv bv sv; have hpV := HG2.out.still bv)
          | (refine app_g rfl _ _ 35 rfl B 25 l2 (.slice none 0 0) 1 24 Try.underlying35 l2h l2z0 l2z1 l2z2 rfl (by omega) (.slice ma q mc) q _ rfl (hpV.more (by omega) HQ0.out) (some ⟨wr.heap.size, 0, none⟩) 1 1 [.slice ya yn yc] rfl (fun h => by cases h) rfl (fun ad had j u hu => by cases had; rw [Addr.add_lit, Nat.zero_add, blk_cell kv]; simpa using hu) (oneV _ rfl) (by unfold maxLen; omega) (by omega) (HG2.out.hB HBw.out bv) ?_; intro v1 Y ho hk he; obtain ⟨a1, c1', rfl⟩ := own_sh ho.out; have hbk := hpV.hbk (by omega) HQ0.out hk.out)
          | (refine wl_stS rfl 35 _ _ rfl (g := hb) (p := 5) rfl rfl hbk (show 5 < 16 from by omega) oL2 rfl ?_; have HQ : Hid (∃ Q' U', PsG B hb w P S 2 (q + 1) Q' U' (Y.setCell ⟨hb, 5, none⟩ (.slice a1 (q + 1) c1'))) := hpV.done' (by omega) HQ0.out ho.out hk.out he.out; clear ho hk he hbk hpV kv bv sv; generalize Y.setCell ⟨hb, 5, none⟩ (.slice a1 (q + 1) c1') = Z at *)
          | fail)
         obtain ⟨Q', U', hQ'⟩ := HQ.out
         exact ⟨⟨q + 1, Q', U', by omega, by go_num, hQ'⟩, by simp [intOf]; omega⟩
      ·have hqe : q = N2 := by omega
       have HS3 : Hid (∃ Q U, PsG B hb w P S (2 + 1) 0 Q U wr) := by
        have h1 := HF.out
        rw [show q = S.N 2 by rw [HN2.out]; exact hqe] at h1
        exact ⟨Q, U, h1.next (by omega)⟩
       have i9 : ¬ (q : Int) < (N2 : Int) := by omega
       clear HF HQ0 hlt hq hqe
       obtain ⟨W_2, hW⟩ : ∃ W0, W0 = wr := ⟨_, rfl⟩
       subst hW
       have cd3 : W_2.cell? ⟨hb, 6, none⟩ = some (.slice (S.r 3).a N3 (S.r 3).c) := by obtain ⟨Q0, U0, h0⟩ := HS3.out; have h1 := h0.cell (d := 3) (by omega); rwa [HN.out.1 3 (by omega), HN3.out] at h1
       go_wp2_with fail
       clear cd3
       go_loopw [11] (fun i wr => ∃ (q : Nat) (Q : Nat → Sl) (U : Nat → Nat → Sl), q ≤ N3 ∧ i = .int .i64 (q : Int) ∧ PsG B hb w P S 3 q Q U wr) (fun i _ => N3 - (intOf i).toNat)
       case atStart =>
        obtain ⟨Q0, U0, h0⟩ := HS3.out
        exact ⟨0, Q0, U0, Nat.zero_le _, rfl, h0⟩
       case round =>
        as_aux_lemma =>
        obtain ⟨q, Q, U, hq, rfl, hf⟩ := hrel
        have HF : Hid (PsG B hb w P S 3 q Q U wr) := hf
        have cc : wr.cell? ⟨hb, 6, none⟩ = some (.slice (S.r 3).a N3 (S.r 3).c) := by have h1 := hf.cell (d := 3) (by omega); rwa [HN.out.1 3 (by omega), HN3.out] at h1
        obtain ⟨⟨ma, mn, mc⟩, hQ⟩ : ∃ x, Q 3 = x := ⟨_, rfl⟩
        obtain rfl : q = mn := by have h1 := hf.at_; rw [hQ] at h1; exact h1.symm
        have HQ0 : Hid (Q 3 = ⟨ma, q, mc⟩) := hQ
        clear hf HS3 hQ
        have i1 : (0 : Int) ≤ (q : Int) := Int.natCast_nonneg _
        by_cases hlt : q < N3
        ·have i2 : (q : Int) < (N3 : Int) := by omega
         obtain ⟨⟨xa, xn, xc⟩, hx⟩ : ∃ x, S.v 3 q = x := ⟨_, rfl⟩
         have hqn : q < S.N 3 := by rw [HN3.out]; exact hlt
         have hqr : q < (S.r 3).n := by rw [HN.out.1 3 (by omega)]; exact hqn
         have hxn : xn ≤ 100000000 := by have h1 := HN.out.2.2 3 (by omega) q hqn; rw [hx] at h1; exact h1
         have HqN : Hid (q < S.N 3) := hqn
         obtain ⟨bg, hba, hcq⟩ := HF.out.at (d := 3) (by omega) hqr
         have cq : wr.cell? ⟨bg, q, none⟩ = some (.slice xa xn xc) := by
          rw [hcq, hx]; rfl
         rw [hba] at cc
         obtain ⟨rc, hrc⟩ : ∃ rc, (S.r 3).c = rc := ⟨_, rfl⟩
         rw [hrc] at cc
         have HG : Hid (PgG B hb w P S 3 q Q U 0 ⟨xa, xn, xc⟩ wr) := by
          have h1 := PgG.start HF.out (by omega) hqn
          rw [hx] at h1
          exact h1
         clear hx hba hcq hqr hqn hrc HF
         go_wp2_with fail
         go_loopw [12, 13] (fun m k wr => ∃ (r : Nat) (x : Sl), r ≤ 64 ∧ m = .slice x.a x.n x.c ∧ k = .int .i64 (r : Int) ∧ x.n = xn + r ∧ PgG B hb w P S 3 q Q U r x wr) (fun _ k _ => 64 - (intOf k).toNat)
         case atStart => exact ⟨0, ⟨xa, xn, xc⟩, by omega, rfl, rfl, rfl, HG.out⟩
         case round =>
          as_aux_lemma =>
          obtain ⟨r, ⟨ya, yn, yc⟩, hr, rfl, rfl, hyn, hg⟩ := hrel
          have hyn2 : yn ≤ 100000064 := by have h1 : yn = xn + r := hyn; omega
          have HYn : Hid (yn = xn + r) := hyn
          have HG2 : Hid (PgG B hb w P S 3 q Q U r ⟨ya, yn, yc⟩ wr) := hg
          clear hyn hg HG cc cq
          have j1 : (0 : Int) ≤ (r : Int) := Int.natCast_nonneg _
          by_cases hlk : r < 64
          ·have j2 : (r : Int) < 64 := by omega
           go_wp2_with (first
            | (refine wl_buildZ rfl 28 _ rfl (built_eq (by kernel_rfl) (bF3 (-1000 - (q : Int)))) ?_)
            | (refine wl_bsl rfl 22 28 1 _ rfl Try.underlying22 #[.int .i64 0, .int .i64 0, .int .i64 0, .int .i64 0, .int .i64 (-1000 - (q : Int)), .slice none 0 0, .slice none 0 0] (bsl_eq (by kernel_rfl) (bs3 (-1000 - (q : Int)))) ?_; intro V kv bv sv)
            | (refine wl_appK rfl _ _ 22 rfl B 28 e3 z3 7 88 Try.underlying22 e3h e3z0 e3z1 e3z2 e3z3 (by omega) (.slice ya yn yc) yn (rv (yn * 7) (G 3 q)) rfl (own_still (HG2.out.own (by omega)) bv) (nb := wr.heap.size) (mrk 3 q) rfl rfl kv (mrk_one 3 q) (by unfold maxLen; omega) (by omega) (HG2.out.hB HBw.out bv) ?_; intro a1 c1 Y ho hk he hold; have HQ : Hid (PgG B hb w P S 3 q Q U (r + 1) ⟨a1, yn + 1, c1⟩ Y) := (HG2.out.still bv).grow (by omega) HqN.out ho hk he hold; clear ho hk he hold kv bv sv)
            | fail)
           exact ⟨⟨r + 1, ⟨a1, yn + 1, c1⟩, by omega, rfl, by go_num, by show yn + 1 = _; have := HYn.out; omega, HQ.out⟩, by simp [intOf]; omega⟩
          ·obtain rfl : r = 64 := by omega
           have c1 : wr.cell? ⟨hb, 7, none⟩ = some (.slice ma q mc) := by have h1 := HG2.out.p.cellQ (d := 3) (by omega); rwa [HQ0.out] at h1
           go_wp2_with (first
            | (refine wl_bsl rfl 36 22 1 _ rfl Try.underlying36 #[.slice ya yn yc] (bsl_eq (by kernel_rfl) (bsL3 ya yn yc)) ?_; intro V kv bv sv; have hpV := HG2.out.still bv)
            | (refine app_g rfl _ _ 36 rfl B 22 l3 (.slice none 0 0) 1 24 Try.underlying36 l3h l3z0 l3z1 l3z2 rfl (by omega) (.slice ma q mc) q _ rfl (hpV.more (by omega) HQ0.out) (some ⟨wr.heap.size, 0, none⟩) 1 1 [.slice ya yn yc] rfl (fun h => by cases h) rfl (fun ad had j u hu => by cases had; rw [Addr.add_lit, Nat.zero_add, blk_cell kv]; simpa using hu) (oneV _ rfl) (by unfold maxLen; omega) (by omega) (HG2.out.hB HBw.out bv) ?_; intro v1 Y ho hk he; obtain ⟨a1, c1', rfl⟩ := own_sh ho.out; have hbk := hpV.hbk (by omega) HQ0.out hk.out)
            | (refine wl_stS rfl 36 _ _ rfl (g := hb) (p := 7) rfl rfl hbk (show 7 < 16 from by omega) oL3 rfl ?_; have HQ : Hid (∃ Q' U', PsG B hb w P S 3 (q + 1) Q' U' (Y.setCell ⟨hb, 7, none⟩ (.slice a1 (q + 1) c1'))) := hpV.done' (by omega) HQ0.out ho.out hk.out he.out; clear ho hk he hbk hpV kv bv sv; generalize Y.setCell ⟨hb, 7, none⟩ (.slice a1 (q + 1) c1') = Z at *)
            | fail)
           obtain ⟨Q', U', hQ'⟩ := HQ.out
           exact ⟨⟨q + 1, Q', U', by omega, by go_num, hQ'⟩, by simp [intOf]; omega⟩
        ·have hqe : q = N3 := by omega
         have HS4 : Hid (∃ Q U, PsG B hb w P S (3 + 1) 0 Q U wr) := by
          have h1 := HF.out
          rw [show q = S.N 3 by rw [HN3.out]; exact hqe] at h1
          exact ⟨Q, U, h1.next (by omega)⟩
         have i9 : ¬ (q : Int) < (N3 : Int) := by omega
         clear HF HQ0 hlt hq hqe
         obtain ⟨W_3, hW⟩ : ∃ W0, W0 = wr := ⟨_, rfl⟩
         subst hW
         obtain ⟨Q4, U4, h4⟩ := HS4.out
         have HC : Hid (Calls Try.prog 57 #[.pointer (some ⟨hb, 0, none⟩)] W_3 fun e w' => e = .returned (.tuple #[]) ∧ ∃ Q U, PsG B hb w P S 5 (S.N 5) Q U w') := growm_any h4 HN.out HBw.out
         clear HS4 h4
         go_wp2_with (first
          | (go_at_call 57; refine HC.out.mono ?_; rintro e W9 ⟨rfl, h9⟩; have HE : Hid (∃ Q U, PsG B hb w P S 5 (S.N 5) Q U W9) := h9; clear h9)
          | fail)
         (first | go_end0 | ((try simp only [Exit.inBlock, Exit.then]); refine bodyPost_ret (results_none rfl _ _ _) rfl ?_))
         exact ⟨rfl, HE.out⟩
theorem grow_any (h : S.Ok w B hb G) (t : S.Fit) (hz : ∀ d, d < 6 → (S.q d).n = 0) (hB : B ≤ w.heap.size) : Calls Try.prog 26 #[.pointer (some ⟨hb, 0, none⟩)] w fun e w' => e = .returned (.tuple #[]) ∧ ∃ Q U, (S.qu Q U).Ok w' B hb G ∧ Kept w w' (S.own hb) ∧ (∀ d, d < 6 → (Q d).n = S.N d) ∧ ∀ j, (S.qu Q U).own hb j → S.own hb j ∨ w.heap.size ≤ j := by
 have h0 : PsG B hb w (S.own hb) S 0 0 S.q S.u w := ⟨h, Kept.refl _ _, fun j hj => .inl hj, fun d hd => absurd hd (Nat.not_lt_zero d), hz 0 (by omega), fun d hd _ => hz d hd⟩
 refine (growa_any h0 ⟨t.rn, t.N, t.l⟩ hB).mono ?_
 rintro e w' ⟨rfl, Q, U, h1⟩
 exact ⟨rfl, Q, U, h1.all⟩
end
end Go.Proofs.Ytobaooebjgoaiaa.Hh
