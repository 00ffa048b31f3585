import Derived.Test.YtdegjhkjmgimpaaV02
namespace Go.Proofs.Ytdegjhkjmgimpaa.Ms
open Go.RowKit Go.Maps Mb
set_option linter.unusedVariables false
set_option linter.unusedSimpArgs false
set_option maxRecDepth 100000
section
variable {w w' w0 w1 w2 w3 : World} {B T s : Nat} {S S' S1 : St} {sb : Nat} {fb fo : Nat → Nat → Value} {P Q : Nat → Prop}
set_option maxHeartbeats 16000000 in
theorem put_any {ab cb N0 M0 : Nat} (h : S.Ok w B sb fb fo) (l : Lk2 S N0 M0 fb fo) (hab : w.heap[ab]? = some (.cells (rv 7 fun i => (S.vb (N0 + i)).v).toArray 29 (0, 0))) (hcb : w.heap[cb]? = some (.cells (rv 5 fun i => (S.vo (M0 + i)).v).toArray 40 (0, 0))) (hn : ¬ S.own sb ab) (hn2 : ¬ S.own sb cb) (hB : B ≤ w.heap.size) : Calls Try.prog 13 #[.pointer (some ⟨sb, 0, none⟩), .slice (some ⟨ab, 0, none⟩) 7 7, .slice (some ⟨cb, 0, none⟩) 5 5] w fun e w' => e = .returned (.tuple #[]) ∧ PutO B sb w (S.own sb) w' S := by
  obtain ⟨ti, tih, tiz0, tiz1, tiz2⟩ := tTFs
  obtain ⟨ui, uih, uiz0, uiz1, uiz2⟩ := tTB
  obtain ⟨bi, bih, biz0, biz1, biz2⟩ := tU
  obtain ⟨fi, fih, fiz0, fiz1, fiz2⟩ := tFl3
  have HAb : Hid ((ab < w.heap.size ∧ ¬ S.own sb ab) ∧ cb < w.heap.size ∧ ¬ S.own sb cb) := ⟨⟨lt_heap hab, hn⟩, lt_heap hcb, hn2⟩
  generalize hP : S.own sb = P at HAb ⊢
  obtain ⟨⟨ba, bn, bc⟩, hSb⟩ : ∃ x, S.b = x := ⟨_, rfl⟩
  obtain ⟨⟨oa, on, oc⟩, hSo⟩ : ∃ x, S.o = x := ⟨_, rfl⟩
  have e1 : bn = N0 := by have := l.nb; rw [hSb] at this; exact this
  have e2 : on = M0 := by have := l.no; rw [hSo] at this; exact this
  subst e1
  subst e2
  have HP0 : Hid (Ps B sb w P w (S.bo ⟨ba, bn, bc⟩ ⟨oa, on, oc⟩) fb fo) := by
    rw [← hSb, ← hSo]
    exact ⟨h, Kept.refl _ _, fun j hj => .inl (by rw [← hP]; exact hj)⟩
  have HBw : Hid (B ≤ w.heap.size) := hB
  have HL : Hid (Lk2 S bn on fb fo) := l
  have HA1 : Hid (w.heap[ab]? = some (.cells (rv 7 fun i => (S.vb (bn + i)).v).toArray 29 (0, 0))) := hab
  have HA2 : Hid (w.heap[cb]? = some (.cells (rv 5 fun i => (S.vo (on + i)).v).toArray 40 (0, 0))) := hcb
  have c0 : w.cell? ⟨sb, 0, none⟩ = some (.slice ba bn bc) := HP0.out.cB
  have c2 : w.cell? ⟨sb, 2, none⟩ = some (.slice oa on oc) := HP0.out.cO
  have n0 : bn ≤ 100000 := by have := l.bN; have := l.N; omega
  have m0 : on ≤ 1000 := by have := l.bM; have := l.M; omega
  clear hab hcb hn hn2 hP l h hB hSb hSo
  go_enter Try.func13, Try.ntmps13
  go_upto_region 3 with (first
    | (refine app_g rfl _ _ 36 rfl B 29 ui (.slice none 0 0) 1 24 Try.underlying36 uih uiz0 uiz1 uiz2 rfl (by omega) (.slice ba bn bc) bn _ rfl HP0.out.ok.rb (some ⟨ab, 0, none⟩) 7 7 (rv 7 fun i => (S.vb (bn + i)).v) rfl (fun h => by cases h) (rv_len _ _) (fun ad had j u hu => by cases had; rw [Addr.add_lit, Nat.zero_add, blk_cell HA1.out, List.getElem?_toArray]; exact hu) (rv_one fun i hi => rfl) (by unfold maxLen; omega) (by omega) HBw.out ?_; intro v1 Y ho hk he; obtain ⟨a1, c1, rfl⟩ := own_sh ho.out; have hbk : Y.heap[sb]? = some (.cells _ 39 (0, 0)) := hk.out.obj HP0.out.ok.blk (own_sb HP0.out.ok.rb HP0.out.ok.blk (by decide)))
    | (refine wl_stS rfl 36 _ _ rfl (g := sb) (p := 0) rfl rfl hbk (show 0 < 4 from by omega) oneTBB rfl ?_; have HP1 : Hid (Ps B sb w P (Y.setCell ⟨sb, 0, none⟩ (.slice a1 (bn + 7) c1)) (S.bo ⟨a1, bn + 7, c1⟩ ⟨oa, on, oc⟩) fb fo) := HP0.out.tp (HP0.out.ok.appB (m := 7) (rv_len _ _) (fun i hi => rv_get _ hi) ho.out hk.out he.out); clear ho hk he hbk; generalize Y.setCell ⟨sb, 0, none⟩ (.slice a1 (bn + 7) c1) = Z at *)
    | fail)
  clear c0 c2
  have c2 : Z.cell? ⟨sb, 2, none⟩ = some (.slice oa on oc) := HP1.out.cO
  have HA3 : Hid (Z.heap[cb]? = some (.cells (rv 5 fun i => (S.vo (on + i)).v).toArray 40 (0, 0))) := HP1.out.k.obj HA2.out HAb.out.2.2
  have HBz : Hid (B ≤ Z.heap.size) := HP1.out.hB HBw.out
  go_upto_region 4 with (first
    | (refine app_g rfl _ _ 37 rfl B 40 ti (.slice none 0 0) 1 24 Try.underlying37 tih tiz0 tiz1 tiz2 rfl (by omega) (.slice oa on oc) on _ rfl HP1.out.ok.ro (some ⟨cb, 0, none⟩) 5 5 (rv 5 fun i => (S.vo (on + i)).v) rfl (fun h => by cases h) (rv_len _ _) (fun ad had j u hu => by cases had; rw [Addr.add_lit, Nat.zero_add, blk_cell HA3.out, List.getElem?_toArray]; exact hu) (rv_one fun i hi => rfl) (by unfold maxLen; omega) (by omega) HBz.out ?_; intro v1 Y2 ho hk he; obtain ⟨a2, c2', rfl⟩ := own_sh ho.out; have hbk : Y2.heap[sb]? = some (.cells _ 39 (0, 0)) := hk.out.obj HP1.out.ok.blk (own_sb HP1.out.ok.ro HP1.out.ok.blk (by decide)))
    | (refine wl_stS rfl 37 _ _ rfl (g := sb) (p := 2) rfl rfl hbk (show 2 < 4 from by omega) oneTS rfl ?_; have HP2 : Hid (Ps B sb w P (Y2.setCell ⟨sb, 2, none⟩ (.slice a2 (on + 5) c2')) (S.bo ⟨a1, bn + 7, c1⟩ ⟨a2, on + 5, c2'⟩) fb fo) := HP1.out.tp (HP1.out.ok.appO (m := 5) (rv_len _ _) (fun i hi => rv_get _ hi) ho.out hk.out he.out); clear ho hk he hbk; generalize Y2.setCell ⟨sb, 2, none⟩ (.slice a2 (on + 5) c2') = Wa at *)
    | fail)
  have HS1 : Hid (∃ S1, Ps B sb w P Wa S1 fb fo ∧ S1.N = S.N ∧ S1.M = S.M ∧ S1.vb = S.vb ∧ S1.vo = S.vo ∧ S1.b.n = S.N ∧ S1.o.n = S.M ∧ S1.m.n = bn ∧ S1.l.n = on) := ⟨_, HP2.out, rfl, rfl, rfl, rfl, HL.out.N.symm, HL.out.M.symm, HL.out.nm, HL.out.nl⟩
  clear HP0 HP1 HP2 HA1 HA2 HA3 HBz c2
  obtain ⟨S1, hp1, eN, eM, evb, evo, ebn, eon, emn, eln⟩ := HS1.out
  have HL1 : Hid ((∀ i, i < S1.N → (S1.vb i).n ≤ 1000) ∧ (∀ i, i < S1.M → (S1.vo i).n ≤ 1000) ∧ bn ≤ S1.N ∧ on ≤ S1.M) := by
    rw [eN, eM, evb, evo]
    exact ⟨HL.out.lb, HL.out.lo, by rw [HL.out.N]; omega, by rw [HL.out.M]; omega⟩
  have HF0 : Hid (PsF B sb w P S1 fo bn 0 Wa) := ⟨fb, hp1, fun i hi j hj hd => by
    have h1 : i < bn := by omega
    have h2 := HL.out.gb i h1 j
    rw [← evb] at h2
    exact h2 hj⟩
  have HG0 : Hid (∀ i, i < on → ∀ j, j < (S1.vo i).n * 3 → fo i j = Gf i j) := by
    rw [evo]
    exact HL.out.go
  have HbN : Hid (S1.b.n = S1.N ∧ S1.o.n = S1.M ∧ S1.m.n = bn ∧ S1.l.n = on) := ⟨by rw [eN]; exact ebn, by rw [eM]; exact eon, emn, eln⟩
  have HSS : Hid (S1.N = S.N ∧ S1.M = S.M ∧ S1.vb = S.vb ∧ S1.vo = S.vo) := ⟨eN, eM, evb, evo⟩
  have nN : S1.N ≤ 100000 := by rw [eN]; exact HL.out.bN
  have nM : S1.M ≤ 1000 := by rw [eM]; exact HL.out.bM
  clear HS1 hp1 eN eM evb evo ebn eon emn eln HAb HL
  obtain ⟨NN, hNN⟩ : ∃ NN, S1.N = NN := ⟨_, rfl⟩
  obtain ⟨MM, hMM⟩ : ∃ MM, S1.M = MM := ⟨_, rfl⟩
  have HNN : Hid (S1.N = NN ∧ S1.M = MM) := ⟨hNN, hMM⟩
  rw [hNN] at nN
  rw [hMM] at nM
  clear hNN hMM
  go_wp2_with fail
  go_loopw [8] (fun i wr => ∃ q : Nat, bn ≤ q ∧ q ≤ NN ∧ i = .int .i64 (q : Int) ∧ PsF B sb w P S1 fo q 0 wr) (fun i _ => NN - (intOf i).toNat)
  case atStart => exact ⟨bn, Nat.le_refl _, by rw [← HNN.out.1]; exact HL1.out.2.2.1, rfl, HF0.out⟩
  case round =>
    as_aux_lemma =>
    obtain ⟨q, hq0, hq, rfl, hf⟩ := hrel
    have HF : Hid (PsF B sb w P S1 fo q 0 wr) := hf
    have c0 : wr.cell? ⟨sb, 0, none⟩ = some (.slice S1.b.a NN S1.b.c) := by
      obtain ⟨f, hp, -⟩ := hf.out
      have h1 := hp.cB
      rwa [HbN.out.1, HNN.out.1] at h1
    clear hf HF0
    have i1 : (0 : Int) ≤ (q : Int) := Int.natCast_nonneg _
    by_cases hlt : q < NN
    · have i2 : (q : Int) < (NN : Int) := by omega
      obtain ⟨⟨xa, xn, xc⟩, hx⟩ : ∃ x, S1.vb q = x := ⟨_, rfl⟩
      have HX0 : Hid (S1.vb q = ⟨xa, xn, xc⟩) := hx
      have hxn : xn ≤ 1000 := by have h1 := HL1.out.1 q (by rw [HNN.out.1]; exact hlt); rw [hx] at h1; exact h1
      have hrg : ∃ bg, S1.b.a = some ⟨bg, 0, none⟩ ∧ ∀ X f2, Ps B sb w P X S1 f2 fo → X.cell? ⟨bg, q, none⟩ = some (.slice xa xn xc) := by
        obtain ⟨f, hp, -⟩ := HF.out.out
        obtain ⟨bg, h1, h2⟩ := row_get hp.ok.rb (i := q) (by rw [HbN.out.1, HNN.out.1]; exact hlt)
        refine ⟨bg, h1, fun X f2 hX => ?_⟩
        obtain ⟨bg2, h3, h4⟩ := row_get hX.ok.rb (i := q) (by rw [HbN.out.1, HNN.out.1]; exact hlt)
        rw [h1] at h3
        simp only [Option.some.injEq, Addr.mk.injEq, and_true] at h3
        subst h3
        rw [h4, hx]; rfl
      obtain ⟨bg, hba, hcq⟩ := hrg
      have HBA : Hid (S1.b.a = some ⟨bg, 0, none⟩) := hba
      have HCq : Hid (∀ X f2, Ps B sb w P X S1 f2 fo → X.cell? ⟨bg, q, none⟩ = some (.slice xa xn xc)) := hcq
      clear hx hba hcq
      go_wp2_with fail
      go_loopw [9] (fun i wr => ∃ k : Nat, k ≤ xn ∧ i = .int .i64 (k : Int) ∧ PsF B sb w P S1 fo q k wr) (fun i _ => xn - (intOf i).toNat)
      case atStart => exact ⟨0, Nat.zero_le _, rfl, HF.out⟩
      case round =>
        as_aux_lemma =>
        obtain ⟨k, hk, rfl, hf2⟩ := hrel
        have HF2 : Hid (PsF B sb w P S1 fo q k wr) := hf2
        clear c0
        have c0 : wr.cell? ⟨sb, 0, none⟩ = some (.slice (some ⟨bg, 0, none⟩) NN S1.b.c) := by
          obtain ⟨f, hp, -⟩ := hf2.out
          have h1 := hp.cB
          rwa [HbN.out.1, HNN.out.1, HBA.out] at h1
        have cq : wr.cell? ⟨bg, q, none⟩ = some (.slice xa xn xc) := by
          obtain ⟨f, hp, -⟩ := hf2.out
          exact HCq.out _ _ hp
        clear hf2 HF
        have j1 : (0 : Int) ≤ (k : Int) := Int.natCast_nonneg _
        by_cases hlk : k < xn
        · have j2 : (k : Int) < (xn : Int) := by omega
          obtain ⟨f, hp, hd⟩ := HF2.out.out
          have HP : Hid (Ps B sb w P wr S1 f fo) := hp
          have HDn : Hid (dnn (fun i => (S1.vb i).n) S1.N 1 q k f Gb) := hd
          have hof := hp.ok.fb.o q (by rw [HNN.out.1]; exact hlt)
          rw [HX0.out] at hof
          obtain ⟨xg, hxa, ⟨C, hC, hCs⟩, hgc⟩ := row_getF (y := ⟨xa, xn, xc⟩) hof hlk (by omega)
          have hxa : xa = some ⟨xg, 0, none⟩ := hxa
          subst hxa
          have HX : Hid (wr.heap[xg]? = some (.cells C 3 (0, 0)) ∧ k < C.size) := ⟨hC, by omega⟩
          have HXa : Hid ((S1.vb q).a = some ⟨xg, 0, none⟩) := by rw [HX0.out]; exact rfl
          have HqN : Hid (q < S1.N) := by rw [HNN.out.1]; exact hlt
          have Hqm : Hid (S1.m.n ≤ q) := by rw [HbN.out.2.2.1]; exact hq0
          have x0 : wr.cell? ⟨xg, k, none⟩ = some (f q k) := (by have h0 := hgc 0 (by omega); rwa [Nat.mul_one] at h0)
          have y0 : wr.frozen? ⟨xg, k, none⟩ = false := frozen_of_row wr _ _ _ _ hC
          have tp := hp.ok.setB HqN.out Hqm.out HXa.out k (.int .i64 (100 + (q : Int)))
          have HQ : Hid (PsF B sb w P S1 fo q (k + 1) (wr.setCell ⟨xg, k, none⟩ (.int .i64 (100 + (q : Int))))) := ⟨_, hp.tp tp, dnn_step hd⟩
          clear hp hd hof hC hCs HF2 hgc tp
          go_wp2_with fail
          exact ⟨⟨k + 1, by omega, by go_num, HQ.out⟩, by simp [intOf]; omega⟩
        · obtain rfl : k = xn := by omega
          have HE : Hid (PsF B sb w P S1 fo (q + 1) 0 wr) := by
            obtain ⟨f, hp, hd⟩ := HF2.out.out
            refine ⟨f, hp, dnn_next (n := fun i => (S1.vb i).n) ?_⟩
            rw [HX0.out]
            exact hd
          clear HF2
          go_wp2_with fail
          exact ⟨⟨q + 1, by omega, by omega, by go_num, HE.out⟩, by simp [intOf]; omega⟩
    · obtain rfl : NN = q := by omega
      have HE : Hid (Ps B sb w P wr S1 Gb fo) := by
        have h1 := HF.out
        rw [← HNN.out.1] at h1
        exact h1.all
      clear HF i1 hlt hq
      obtain ⟨Wb, hWb⟩ : ∃ W0, W0 = wr := ⟨_, rfl⟩
      subst hWb
      have HO0 : Hid (PsO B sb w P S1 on 0 Wb) := ⟨fo, HE.out, fun i hi j hj hd => by
        have h1 : i < on := by omega
        exact HG0.out i h1 j hj⟩
      have c2 : Wb.cell? ⟨sb, 2, none⟩ = some (.slice S1.o.a MM S1.o.c) := by
        have h1 := HE.out.cO
        rwa [HbN.out.2.1, HNN.out.2] at h1
      clear HE HG0
      go_wp2_with fail
      go_loopw [10] (fun i wr => ∃ q : Nat, on ≤ q ∧ q ≤ MM ∧ i = .int .i64 (q : Int) ∧ PsO B sb w P S1 q 0 wr) (fun i _ => MM - (intOf i).toNat)
      case atStart => exact ⟨on, Nat.le_refl _, by rw [← HNN.out.2]; exact HL1.out.2.2.2, rfl, HO0.out⟩
      case round =>
        as_aux_lemma =>
        obtain ⟨q, hq0, hq, rfl, hf⟩ := hrel
        have HF : Hid (PsO B sb w P S1 q 0 wr) := hf
        clear c2
        have c2 : wr.cell? ⟨sb, 2, none⟩ = some (.slice S1.o.a MM S1.o.c) := by
          obtain ⟨f, hp, -⟩ := hf.out
          have h1 := hp.cO
          rwa [HbN.out.2.1, HNN.out.2] at h1
        clear hf HO0
        have i1 : (0 : Int) ≤ (q : Int) := Int.natCast_nonneg _
        by_cases hlt : q < MM
        · have i2 : (q : Int) < (MM : Int) := by omega
          obtain ⟨⟨xa, xn, xc⟩, hx⟩ : ∃ x, S1.vo q = x := ⟨_, rfl⟩
          have HX0 : Hid (S1.vo q = ⟨xa, xn, xc⟩) := hx
          have hxn : xn ≤ 1000 := by have h1 := HL1.out.2.1 q (by rw [HNN.out.2]; exact hlt); rw [hx] at h1; exact h1
          have hrg : ∃ bg, S1.o.a = some ⟨bg, 0, none⟩ ∧ ∀ X f2, Ps B sb w P X S1 Gb f2 → X.cell? ⟨bg, q, none⟩ = some (.slice xa xn xc) := by
            obtain ⟨f, hp, -⟩ := HF.out.out
            obtain ⟨bg, h1, h2⟩ := row_get hp.ok.ro (i := q) (by rw [HbN.out.2.1, HNN.out.2]; exact hlt)
            refine ⟨bg, h1, fun X f2 hX => ?_⟩
            obtain ⟨bg2, h3, h4⟩ := row_get hX.ok.ro (i := q) (by rw [HbN.out.2.1, HNN.out.2]; exact hlt)
            rw [h1] at h3
            simp only [Option.some.injEq, Addr.mk.injEq, and_true] at h3
            subst h3
            rw [h4, hx]; rfl
          obtain ⟨bg, hba, hcq⟩ := hrg
          have HBA : Hid (S1.o.a = some ⟨bg, 0, none⟩) := hba
          have HCq : Hid (∀ X f2, Ps B sb w P X S1 Gb f2 → X.cell? ⟨bg, q, none⟩ = some (.slice xa xn xc)) := hcq
          clear hx hba hcq
          go_wp2_with fail
          go_loopw [11] (fun i wr => ∃ k : Nat, k ≤ xn ∧ i = .int .i64 (k : Int) ∧ PsO B sb w P S1 q k wr) (fun i _ => xn - (intOf i).toNat)
          case atStart => exact ⟨0, Nat.zero_le _, rfl, HF.out⟩
          case round =>
            as_aux_lemma =>
            obtain ⟨k, hk, rfl, hf2⟩ := hrel
            have HF2 : Hid (PsO B sb w P S1 q k wr) := hf2
            clear c2
            have c2 : wr.cell? ⟨sb, 2, none⟩ = some (.slice (some ⟨bg, 0, none⟩) MM S1.o.c) := by
              obtain ⟨f, hp, -⟩ := hf2.out
              have h1 := hp.cO
              rwa [HbN.out.2.1, HNN.out.2, HBA.out] at h1
            have cq : wr.cell? ⟨bg, q, none⟩ = some (.slice xa xn xc) := by
              obtain ⟨f, hp, -⟩ := hf2.out
              exact HCq.out _ _ hp
            clear hf2 HF
            have j1 : (0 : Int) ≤ (k : Int) := Int.natCast_nonneg _
            by_cases hlk : k < xn
            · have j2 : (k : Int) < (xn : Int) := by omega
              obtain ⟨f, hp, hd⟩ := HF2.out.out
              have hof := hp.ok.fo.o q (by rw [HNN.out.2]; exact hlt)
              rw [HX0.out] at hof
              obtain ⟨xg, hxa, ⟨C, hC, hCs⟩, hcl⟩ := row_getF (y := ⟨xa, xn, xc⟩) hof hlk (by omega)
              have hxa : xa = some ⟨xg, 0, none⟩ := hxa
              subst hxa
              have HP : Hid (Ps B sb w P wr S1 Gb f) := hp
              have HDn : Hid (dnn (fun i => (S1.vo i).n) S1.M 3 q k f Gf) := hd
              have HqM : Hid (q < S1.M) := by rw [HNN.out.2]; exact hlt
              have Hql : Hid (S1.l.n ≤ q) := by rw [HbN.out.2.2.2]; exact hq0
              have HXa : Hid ((S1.vo q).a = some ⟨xg, 0, none⟩) := by rw [HX0.out]; exact rfl
              have HTh : Hid (∀ X, Below wr.heap.size wr X → X.there xg (k * 3) (mcs q k).length) := fun X hX j hj => by
                have hb := blk_up hX hC
                have hj : j < 3 := hj
                exact ⟨by rw [blk_cell hb]; simp [show k * 3 + j < C.size by omega], frozen_of_row X _ _ _ _ hb⟩
              have HSg : Hid (∀ X, Calls Try.prog 25 #[.int .i64 (q : Int), .int .i64 (k : Int)] X fun e w' => e = .returned (.agg (mcs q k).toArray) ∧ Below X.heap.size X w') := fun X => sign_any q k (by omega) (by omega)
              have HNe : Hid ((¬ sb = xg) ∧ ¬ bg = xg) := ⟨fun e => by
                rw [← e, hp.ok.blk] at hC
                simp at hC, fun e => by
                have h1 := hp.ok.ro
                rw [Sl.at HBA.out] at h1
                obtain ⟨cur, h2⟩ := row_ty h1 rfl
                rw [e, hC] at h2
                simp at h2⟩
              clear hp hd hof hC hCs HF2 hcl
              go_upto_region 17 with fail
              refine wp_region_held_drew (S := (fun w' => w'.cell? ⟨sb, 2, none⟩ = some (.slice (some ⟨bg, 0, none⟩) MM S1.o.c) ∧ w'.cell? ⟨bg, q, none⟩ = some (.slice (some ⟨xg, 0, none⟩) xn xc))) (by kernel_rfl) ⟨(below_at (drew_bel _) c2), (below_at (drew_bel _) cq)⟩ (fun hHeld => ?_)
              simp only [Act.put, List.size_toArray, List.length_cons, List.length_nil, Nat.zero_add]
              refine takeD (i := 0) (d := 101) (v := .pointer (some ⟨sb, 0, none⟩)) rfl (by kernel_rfl) (by kernel_rfl) (by kernel_rfl) (by kernel_rfl) (fun _ _ _ h => h) (Or.inl ⟨by rfl, fun w' hS => by go_simp⟩) hHeld ?_
              simp only [Act.put, sA9, sZ9, sC9]
              refine takeD (i := 1) (d := 102) (v := .pointer (some ⟨sb, 0, none⟩)) rfl (by kernel_rfl) (by kernel_rfl) (by kernel_rfl) (by kernel_rfl) (fun _ _ _ h => h) (Or.inl ⟨by rfl, fun w' hS => by go_simp⟩) hHeld ?_
              simp only [Act.put, sA9, sZ9, sC9]
              refine takeD (i := 2) (d := 103) (v := .pointer (some ⟨sb, 2, none⟩)) rfl (by kernel_rfl) (by kernel_rfl) (by kernel_rfl) (by kernel_rfl) (fun _ _ _ h => h) (Or.inl ⟨by rfl, fun w' hS => by go_simp⟩) hHeld ?_
              simp only [Act.put, sA9, sZ9, sC9]
              refine takeD (i := 3) (d := 104) (v := .slice (some ⟨bg, 0, none⟩) MM S1.o.c) rfl (by kernel_rfl) (by kernel_rfl) (by kernel_rfl) (by kernel_rfl) (fun _ _ _ h => h) (Or.inl ⟨by rfl, fun w' hS => by (obtain ⟨s0, s1⟩ := hS; go_simp)⟩) hHeld ?_
              simp only [Act.put, sA9, sZ9, sC9]
              refine takeD (i := 4) (d := 105) (v := .int .i64 (q : Int)) rfl (by kernel_rfl) (by kernel_rfl) (by kernel_rfl) (by kernel_rfl) (fun _ _ _ h => h) (Or.inl ⟨by rfl, fun w' hS => by go_simp⟩) hHeld ?_
              simp only [Act.put, sA9, sZ9, sC9]
              refine takeD (i := 5) (d := 106) (v := .pointer (some ⟨bg, q, none⟩)) rfl (by kernel_rfl) (by kernel_rfl) (by kernel_rfl) (by kernel_rfl) (fun _ _ _ h => h) (Or.inl ⟨by rfl, fun w' hS => by go_simp⟩) hHeld ?_
              simp only [Act.put, sA9, sZ9, sC9]
              refine takeD (i := 6) (d := 107) (v := .slice (some ⟨xg, 0, none⟩) xn xc) rfl (by kernel_rfl) (by kernel_rfl) (by kernel_rfl) (by kernel_rfl) (fun _ _ _ h => h) (Or.inl ⟨by rfl, fun w' hS => by (obtain ⟨s0, s1⟩ := hS; go_simp)⟩) hHeld ?_
              simp only [Act.put, sA9, sZ9, sC9]
              refine takeD (i := 7) (d := 108) (v := .int .i64 (k : Int)) rfl (by kernel_rfl) (by kernel_rfl) (by kernel_rfl) (by kernel_rfl) (fun _ _ _ h => h) (Or.inl ⟨by rfl, fun w' hS => by go_simp⟩) hHeld ?_
              simp only [Act.put, sA9, sZ9, sC9]
              refine takeD (i := 8) (d := 109) (v := .int .i64 (q : Int)) rfl (by kernel_rfl) (by kernel_rfl) (by kernel_rfl) (by kernel_rfl) (fun _ _ _ h => h) (Or.inl ⟨by rfl, fun w' hS => by go_simp⟩) hHeld ?_
              simp only [Act.put, sA9, sZ9, sC9]
              refine takeD (i := 9) (d := 110) (v := .int .i64 (k : Int)) rfl (by kernel_rfl) (by kernel_rfl) (by kernel_rfl) (by kernel_rfl) (fun _ _ _ h => h) (Or.inl ⟨by rfl, fun w' hS => by go_simp⟩) hHeld ?_
              simp only [Act.put, sA9, sZ9, sC9]
              have hbD3 : Below wr.heap.size wr wr.drew := drew_bel _
              have q0 := below_at hbD3 c2
              have q1 := below_at hbD3 cq
              generalize wr.drew = D3 at *
              refine wpAnyH_ready (rs := [10]) (by kernel_rfl) (by simp) ?_
              refine AllReadyH.cons rfl (fun K hK => ?_) AllReadyH.nil
              go_simp
              refine (HSg.out D3).mono ?_
              rintro e W9 ⟨rfl, b9⟩
              refine hK.out _ _ ⟨(below_at b9 q0), (below_at b9 q1)⟩ (fun hHeld => ?_)
              clear hK K
              refine takeD (i := 11) (d := 112) (v := .pointer (some ⟨xg, k * 3, none⟩)) rfl (by kernel_rfl) (by kernel_rfl) (by kernel_rfl) (by kernel_rfl) (fun _ _ _ h => h) (Or.inl ⟨by rfl, fun w' hS => by go_simp⟩) hHeld ?_
              simp only [Act.put, sA9, sZ9, sC9]
              refine wpAnyH_ready (rs := [12]) (by kernel_rfl) (by simp) ?_
              refine AllReadyH.cons rfl (fun K hK => ?_) AllReadyH.nil
              refine Ln.step_storeL rfl 79 _ _ rfl (b := xg) (off := k * 3) (L := mcs q k) rfl rfl (HTh.out W9 (bstep hbD3 b9)) iMb (one3 q k) ?_
              refine hK.out _ _ ⟨(Ln.kept_cell (ksets (P := fun j => j = xg) rfl _ _ _) HNe.out.1 (below_at b9 q0)), (Ln.kept_cell (ksets (P := fun j => j = xg) rfl _ _ _) HNe.out.2 (below_at b9 q1))⟩ (fun hHeld => ?_)
              clear hK K
              refine wpAnyH_done (by kernel_rfl) ?_ _
              clear hHeld
              have bW : Below wr.heap.size wr W9 := bstep hbD3 b9
              obtain ⟨f', tp, hf'⟩ := (HP.out.still bW).ok.setF3 (i := q) (g := xg) (k := k) HqM.out Hql.out HXa.out
              have HQ : Hid (PsO B sb w P S1 q (k + 1) (W9.setCells xg (k * 3) (mcs q k))) := ⟨f', (HP.out.still bW).tp tp, dnn_step3 HDn.out hf'⟩
              clear tp hbD3 b9 q0 q1 bW hf'
              generalize W9.setCells xg (k * 3) (mcs q k) = Z at *
              go_wp2_with (fail)
              exact ⟨⟨k + 1, by omega, by go_num, HQ.out⟩, by simp [intOf]; omega⟩
            · obtain rfl : k = xn := by omega
              have HE : Hid (PsO B sb w P S1 (q + 1) 0 wr) := by
                obtain ⟨f, hp, hd⟩ := HF2.out.out
                refine ⟨f, hp, dnn_next (n := fun i => (S1.vo i).n) ?_⟩
                rw [HX0.out]
                exact hd
              clear HF2
              go_wp2_with fail
              exact ⟨⟨q + 1, by omega, by omega, by go_num, HE.out⟩, by simp [intOf]; omega⟩
        · obtain rfl : MM = q := by omega
          have HE : Hid (Ps B sb w P wr S1 Gb Gf) := by
            have h1 := HF.out
            rw [← HNN.out.2] at h1
            exact h1.all
          clear HF i1 hlt hq
          obtain ⟨Wc, hWc⟩ : ∃ W0, W0 = wr := ⟨_, rfl⟩
          subst hWc
          have Hon : Hid (PsM B sb w P S1 bn Wc) := ⟨S1.m, S1.vm, HE.out, HbN.out.2.2.1⟩
          have c0 : Wc.cell? ⟨sb, 0, none⟩ = some (.slice S1.b.a NN S1.b.c) := by
            have h1 := HE.out.cB
            rwa [HbN.out.1, HNN.out.1] at h1
          clear HE
          go_wp2_with fail
          go_loopw [12] (fun i wr => ∃ q : Nat, bn ≤ q ∧ q ≤ NN ∧ i = .int .i64 (q : Int) ∧ PsM B sb w P S1 q wr) (fun i _ => NN - (intOf i).toNat)
          case atStart => exact ⟨bn, Nat.le_refl _, by rw [← HNN.out.1]; exact HL1.out.2.2.1, rfl, Hon.out⟩
          case round =>
            as_aux_lemma =>
            obtain ⟨q, hq0, hq, rfl, hm⟩ := hrel
            obtain ⟨⟨ma, mn, mc⟩, vm, hp, hmn⟩ := hm.out
            obtain rfl : q = mn := hmn.symm
            have HP : Hid (Ps B sb w P wr (S1.mm ⟨ma, q, mc⟩ vm) Gb Gf) := hp
            clear c0
            have c0 : wr.cell? ⟨sb, 0, none⟩ = some (.slice S1.b.a NN S1.b.c) := by
              have h1 := hp.cB
              rw [show (S1.mm ⟨ma, q, mc⟩ vm).b = S1.b from rfl, HbN.out.1, HNN.out.1] at h1
              exact h1
            clear hm hmn Hon
            have i1 : (0 : Int) ≤ (q : Int) := Int.natCast_nonneg _
            by_cases hlt : q < NN
            · have i2 : (q : Int) < (NN : Int) := by omega
              obtain ⟨⟨xa, xn, xc⟩, hx⟩ : ∃ x, S1.vb q = x := ⟨_, rfl⟩
              have hxn : xn ≤ 1000 := by have h1 := HL1.out.1 q (by rw [HNN.out.1]; exact hlt); rw [hx] at h1; exact h1
              have hqN : q < S1.N := by rw [HNN.out.1]; exact hlt
              have HG : Hid (PgM B sb w P S1 ⟨ma, q, mc⟩ vm 0 ⟨xa, xn, xc⟩ wr) := ⟨hp, by
                have h1 := Gw.start hp.ok.fb hp.ok.gm (show (S1.mm ⟨ma, q, mc⟩ vm).m.n < (S1.mm ⟨ma, q, mc⟩ vm).N from hqN)
                have h2 : (S1.mm ⟨ma, q, mc⟩ vm).vb (S1.mm ⟨ma, q, mc⟩ vm).m.n = ⟨xa, xn, xc⟩ := hx
                rw [h2] at h1
                exact h1, fun j hj => hp.p j (.inr (.inr (.inr (.inr (.inr (.inl ⟨q, hqN, by show Value.ownBlock (S1.vb q).v = _; rw [hx]; exact hj⟩))))))⟩
              obtain ⟨bg, hba, hcq⟩ := row_get hp.ok.rb (i := q) (by show q < S1.b.n; rw [HbN.out.1, HNN.out.1]; exact hlt)
              have cq : wr.cell? ⟨bg, q, none⟩ = some (.slice xa xn xc) := by
                rw [hcq]
                show some (S1.vb q).v = _
                rw [hx]; rfl
              have HX0 : Hid (S1.vb q = ⟨xa, xn, xc⟩) := hx
              have hba : S1.b.a = some ⟨bg, 0, none⟩ := hba
              rw [hba] at c0
              clear hx hba hcq hp HP hqN
              go_wp2_with fail
              go_loopw [13, 14] (fun m k wr => ∃ (r : Nat) (x : Sl), r ≤ 64 ∧ m = .slice x.a x.n x.c ∧ k = .int .i64 (r : Int) ∧ x.n = xn + r ∧ PgM B sb w P S1 ⟨ma, q, mc⟩ vm r x wr) (fun _ k _ => 64 - (intOf k).toNat)
              case atStart => exact ⟨0, ⟨xa, xn, xc⟩, by omega, rfl, rfl, rfl, HG.out⟩
              case round =>
                as_aux_lemma =>
                obtain ⟨r, ⟨ya, yn, yc⟩, hr, rfl, rfl, hyn, hg⟩ := hrel
                have hyn2 : yn ≤ 1064 := by have h1 : yn = xn + r := hyn; omega
                have HYn : Hid (yn = xn + r) := hyn
                have HG2 : Hid (PgM B sb w P S1 ⟨ma, q, mc⟩ vm r ⟨ya, yn, yc⟩ wr) := hg
                clear hyn hg HG c0 cq
                have j1 : (0 : Int) ≤ (r : Int) := Int.natCast_nonneg _
                by_cases hlk : r < 64
                · have j2 : (r : Int) < 64 := by omega
                  go_wp2_with (first
                    | (refine wl_bsl rfl 29 3 1 _ rfl Try.underlying29 #[.int .i64 (100 + (q : Int))] (bsl_eq (by kernel_rfl) (bsI (100 + (q : Int)))) ?_; intro V kv bv sv)
                    | (refine wl_appK rfl _ _ 29 rfl B 3 bi (.int .i64 0) 1 8 Try.underlying29 bih biz0 biz1 biz2 rfl (by omega) (.slice ya yn yc) yn (rv (yn * 1) (Gb q)) rfl (own_still HG2.out.g.o bv) (nb := wr.heap.size) [.int .i64 (100 + (q : Int))] rfl rfl kv (oneV _ rfl) (by unfold maxLen; omega) (by omega) ((HG2.out.p.still bv).hB HBw.out) ?_; intro a1 c1 Y ho hk he hold; have HQ : Hid (PgM B sb w P S1 ⟨ma, q, mc⟩ vm (r + 1) ⟨a1, yn + 1, c1⟩ Y) := pgm_grow HG2.out bv (by rw [HNN.out.1]; exact hlt) ho hk he hold; clear ho hk he hold kv bv sv)
                    | fail)
                  exact ⟨⟨r + 1, ⟨a1, yn + 1, c1⟩, by omega, rfl, by go_num, by show yn + 1 = _; have := HYn.out; omega, HQ.out⟩, by simp [intOf]; omega⟩
                · obtain rfl : r = 64 := by omega
                  have c1 : wr.cell? ⟨sb, 1, none⟩ = some (.slice ma q mc) := HG2.out.p.cM
                  go_wp2_with (first
                    | (refine wl_bsl rfl 36 29 1 _ rfl Try.underlying36 #[.slice ya yn yc] (bsl_eq (by kernel_rfl) (bsB ya yn yc)) ?_; intro V kv bv sv; have hpV := HG2.out.p.still bv)
                    | (refine app_g rfl _ _ 36 rfl B 29 ui (.slice none 0 0) 1 24 Try.underlying36 uih uiz0 uiz1 uiz2 rfl (by omega) (.slice ma q mc) q _ rfl hpV.ok.rm (some ⟨wr.heap.size, 0, none⟩) 1 1 [.slice ya yn yc] rfl (fun h => by cases h) rfl (fun ad had j u hu => by cases had; rw [Addr.add_lit, Nat.zero_add, blk_cell kv]; simpa using hu) (oneV _ rfl) (by unfold maxLen; omega) (by omega) (hpV.hB HBw.out) ?_; intro v1 Y ho hk he; obtain ⟨a1, c1', rfl⟩ := own_sh ho.out; have hbk : Y.heap[sb]? = some (.cells _ 39 (0, 0)) := hk.out.obj hpV.ok.blk (own_sb hpV.ok.rm hpV.ok.blk (by decide)))
                    | (refine wl_stS rfl 36 _ _ rfl (g := sb) (p := 1) rfl rfl hbk (show 1 < 4 from by omega) oneTBB rfl ?_; have HQ : Hid (PsM B sb w P S1 (q + 1) (Y.setCell ⟨sb, 1, none⟩ (.slice a1 (q + 1) c1'))) := pgm_done HG2.out bv ho.out hk.out he.out; clear ho hk he hbk hpV kv bv sv; generalize Y.setCell ⟨sb, 1, none⟩ (.slice a1 (q + 1) c1') = Z at *)
                    | fail)
                  exact ⟨⟨q + 1, by omega, by omega, by go_num, HQ.out⟩, by simp [intOf]; omega⟩
            · obtain rfl : NN = q := by omega
              clear i1 hlt hq
              obtain ⟨Wd, hWd⟩ : ∃ W0, W0 = wr := ⟨_, rfl⟩
              subst hWd
              obtain ⟨S2, hS2⟩ : ∃ S2, S1.mm ⟨ma, NN, mc⟩ vm = S2 := ⟨_, rfl⟩
              have HP2 : Hid (Ps B sb w P Wd S2 Gb Gf ∧ S2.M = MM ∧ S2.o.n = MM ∧ S2.l.n = on ∧ S2.vo = S1.vo ∧ S2.N = S.N ∧ S2.M = S.M ∧ S2.vb = S.vb ∧ S2.vo = S.vo ∧ S2.b.n = S.N ∧ S2.m.n = S.N) := by
                have h1 := HP.out
                rw [hS2] at h1
                refine ⟨h1, ?_⟩
                rw [← hS2]
                exact ⟨HNN.out.2, HbN.out.2.1.trans HNN.out.2, HbN.out.2.2.2, rfl, HSS.out.1, HSS.out.2.1, HSS.out.2.2.1, HSS.out.2.2.2, HbN.out.1.trans HSS.out.1, HNN.out.1.symm.trans HSS.out.1⟩
              have HL2 : Hid ((∀ i, i < MM → (S2.vo i).n ≤ 1000) ∧ on ≤ MM) := by
                rw [HP2.out.2.2.2.2.1, ← HNN.out.2]
                exact ⟨HL1.out.2.1, HL1.out.2.2.2⟩
              have HL0 : Hid (PsL B sb w P S2 on Wd) := ⟨S2.l, S2.vl, HP2.out.1, HP2.out.2.2.2.1⟩
              have c2 : Wd.cell? ⟨sb, 2, none⟩ = some (.slice S2.o.a MM S2.o.c) := by
                have h1 := HP2.out.1.cO
                rwa [HP2.out.2.2.1] at h1
              clear HP hS2 HSS HbN HNN HL1
              go_wp2_with fail
              go_loopw [15] (fun i wr => ∃ q : Nat, on ≤ q ∧ q ≤ MM ∧ i = .int .i64 (q : Int) ∧ PsL B sb w P S2 q wr) (fun i _ => MM - (intOf i).toNat)
              case atStart => exact ⟨on, Nat.le_refl _, HL2.out.2, rfl, HL0.out⟩
              case round =>
                as_aux_lemma =>
                obtain ⟨q, hq0, hq, rfl, hm⟩ := hrel
                obtain ⟨⟨la, ln, lc⟩, vl, hp, hmn⟩ := hm.out
                obtain rfl : q = ln := hmn.symm
                have HP : Hid (Ps B sb w P wr (S2.ll ⟨la, q, lc⟩ vl) Gb Gf) := hp
                clear c2
                have c2 : wr.cell? ⟨sb, 2, none⟩ = some (.slice S2.o.a MM S2.o.c) := by
                  have h1 := hp.cO
                  rw [show (S2.ll ⟨la, q, lc⟩ vl).o = S2.o from rfl, HP2.out.2.2.1] at h1
                  exact h1
                clear hm hmn HL0
                have i1 : (0 : Int) ≤ (q : Int) := Int.natCast_nonneg _
                by_cases hlt : q < MM
                · have i2 : (q : Int) < (MM : Int) := by omega
                  obtain ⟨⟨xa, xn, xc⟩, hx⟩ : ∃ x, S2.vo q = x := ⟨_, rfl⟩
                  have hxn : xn ≤ 1000 := by have h1 := HL2.out.1 q hlt; rw [hx] at h1; exact h1
                  have hqN : q < S2.M := by rw [HP2.out.2.1]; exact hlt
                  have HqM : Hid (q < S2.M) := hqN
                  have HG : Hid (PgL B sb w P S2 ⟨la, q, lc⟩ vl 0 ⟨xa, xn, xc⟩ wr) := ⟨hp, by
                    have h1 := Gw.start hp.ok.fo hp.ok.gl (show (S2.ll ⟨la, q, lc⟩ vl).l.n < (S2.ll ⟨la, q, lc⟩ vl).M from hqN)
                    have h2 : (S2.ll ⟨la, q, lc⟩ vl).vo (S2.ll ⟨la, q, lc⟩ vl).l.n = ⟨xa, xn, xc⟩ := hx
                    rw [h2] at h1
                    exact h1, fun j hj => hp.p j (.inr (.inr (.inr (.inr (.inr (.inr (.inl ⟨q, hqN, by show Value.ownBlock (S2.vo q).v = _; rw [hx]; exact hj⟩)))))))⟩
                  obtain ⟨bg, hba, hcq⟩ := row_get hp.ok.ro (i := q) (by show q < S2.o.n; rw [HP2.out.2.2.1]; exact hlt)
                  have cq : wr.cell? ⟨bg, q, none⟩ = some (.slice xa xn xc) := by
                    rw [hcq]
                    show some (S2.vo q).v = _
                    rw [hx]; rfl
                  have hba : S2.o.a = some ⟨bg, 0, none⟩ := hba
                  rw [hba] at c2
                  clear hx hba hcq hp HP hqN
                  go_wp2_with fail
                  go_loopw [16, 17] (fun m k wr => ∃ (r : Nat) (x : Sl), r ≤ 64 ∧ m = .slice x.a x.n x.c ∧ k = .int .i64 (r : Int) ∧ x.n = xn + r ∧ PgL B sb w P S2 ⟨la, q, lc⟩ vl r x wr) (fun _ k _ => 64 - (intOf k).toNat)
                  case atStart => exact ⟨0, ⟨xa, xn, xc⟩, by omega, rfl, rfl, rfl, HG.out⟩
                  case round =>
                    as_aux_lemma =>
                    obtain ⟨r, ⟨ya, yn, yc⟩, hr, rfl, rfl, hyn, hg⟩ := hrel
                    have hyn2 : yn ≤ 1064 := by have h1 : yn = xn + r := hyn; omega
                    have HYn : Hid (yn = xn + r) := hyn
                    have HG2 : Hid (PgL B sb w P S2 ⟨la, q, lc⟩ vl r ⟨ya, yn, yc⟩ wr) := hg
                    clear hyn hg HG c2 cq
                    have j1 : (0 : Int) ≤ (r : Int) := Int.natCast_nonneg _
                    by_cases hlk : r < 64
                    · have j2 : (r : Int) < 64 := by omega
                      have HSg : Hid (∀ X, Calls Try.prog 25 #[.int .i64 (q : Int), .int .i64 (yn : Int)] X fun e w' => e = .returned (.agg (mcs q yn).toArray) ∧ Below X.heap.size X w') := fun X => sign_any q yn (by omega) (by omega)
                      go_wp2_with (first
                        | (go_at_call 25; refine (HSg.out _).mono ?_; rintro e W9 ⟨rfl, b9⟩; have HG3 : Hid (PgL B sb w P S2 ⟨la, q, lc⟩ vl r ⟨ya, yn, yc⟩ W9) := ⟨HG2.out.p.still b9, ⟨HG2.out.g.n, own_still HG2.out.g.o b9, HG2.out.g.d, HG2.out.g.u, HG2.out.g.e⟩, HG2.out.x⟩; clear b9)
                        | (refine wl_bsl rfl 40 79 1 _ rfl Try.underlying40 (mcs q yn).toArray (bsl_eq (by kernel_rfl) (bsMb (1000 + (q : Int)) (yn : Int) (-9))) ?_; intro V kv bv sv)
                        | (refine wl_appK rfl _ _ 40 rfl B 79 fi (.agg #[.int .i64 0, .int .i64 0, .int .i64 0]) 3 24 Try.underlying40 fih fiz0 fiz1 fiz2 rfl (by omega) (.slice ya yn yc) yn (rv (yn * 3) (Gf q)) rfl (own_still HG3.out.g.o bv) (nb := W9.heap.size) (mcs q yn) rfl rfl kv (one3 q yn) (by unfold maxLen; omega) (by omega) ((HG3.out.p.still bv).hB HBw.out) ?_; intro a1 c1 Y ho hk he hold; have HQ : Hid (PgL B sb w P S2 ⟨la, q, lc⟩ vl (r + 1) ⟨a1, yn + 1, c1⟩ Y) := pgl_grow HG3.out bv HqM.out ho hk he hold; clear ho hk he hold kv bv sv)
                        | fail)
                      exact ⟨⟨r + 1, ⟨a1, yn + 1, c1⟩, by omega, rfl, by go_num, by show yn + 1 = _; have := HYn.out; omega, HQ.out⟩, by simp [intOf]; omega⟩
                    · obtain rfl : r = 64 := by omega
                      have c3 : wr.cell? ⟨sb, 3, none⟩ = some (.slice la q lc) := HG2.out.p.cL
                      go_wp2_with (first
                        | (refine wl_bsl rfl 37 40 1 _ rfl Try.underlying37 #[.slice ya yn yc] (bsl_eq (by kernel_rfl) (bsFs ya yn yc)) ?_; intro V kv bv sv; have hpV := HG2.out.p.still bv)
                        | (refine app_g rfl _ _ 37 rfl B 40 ti (.slice none 0 0) 1 24 Try.underlying37 tih tiz0 tiz1 tiz2 rfl (by omega) (.slice la q lc) q _ rfl hpV.ok.rl (some ⟨wr.heap.size, 0, none⟩) 1 1 [.slice ya yn yc] rfl (fun h => by cases h) rfl (fun ad had j u hu => by cases had; rw [Addr.add_lit, Nat.zero_add, blk_cell kv]; simpa using hu) (oneV _ rfl) (by unfold maxLen; omega) (by omega) (hpV.hB HBw.out) ?_; intro v1 Y ho hk he; obtain ⟨a1, c1', rfl⟩ := own_sh ho.out; have hbk : Y.heap[sb]? = some (.cells _ 39 (0, 0)) := hk.out.obj hpV.ok.blk (own_sb hpV.ok.rl hpV.ok.blk (by decide)))
                        | (refine wl_stS rfl 37 _ _ rfl (g := sb) (p := 3) rfl rfl hbk (show 3 < 4 from by omega) oneTS rfl ?_; have HQ : Hid (PsL B sb w P S2 (q + 1) (Y.setCell ⟨sb, 3, none⟩ (.slice a1 (q + 1) c1'))) := pgl_done HG2.out bv ho.out hk.out he.out; clear ho hk he hbk hpV kv bv sv; generalize Y.setCell ⟨sb, 3, none⟩ (.slice a1 (q + 1) c1') = Z at *)
                        | fail)
                      exact ⟨⟨q + 1, by omega, by omega, by go_num, HQ.out⟩, by simp [intOf]; omega⟩
                · obtain rfl : MM = q := by omega
                  go_wp2_with fail
                  (first | go_end0 | ((try simp only [Exit.inBlock, Exit.then]); refine bodyPost_ret (results_none rfl _ _ _) rfl ?_))
                  exact ⟨rfl, S2.ll ⟨la, MM, lc⟩ vl, HP.out, HP2.out.2.2.2.2.2.1, HP2.out.2.2.2.2.2.2.1, HP2.out.2.2.2.2.2.2.2.1, HP2.out.2.2.2.2.2.2.2.2.1, HP2.out.2.2.2.2.2.2.2.2.2.1, HP2.out.2.2.2.2.2.2.2.2.2.2, HP2.out.2.2.1.trans (HP2.out.2.1.symm.trans HP2.out.2.2.2.2.2.2.1), HP2.out.2.1.symm.trans HP2.out.2.2.2.2.2.2.1⟩
end
end Go.Proofs.Ytdegjhkjmgimpaa.Ms
