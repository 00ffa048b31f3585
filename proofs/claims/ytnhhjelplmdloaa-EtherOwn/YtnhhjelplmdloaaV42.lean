import Derived.Test.YtnhhjelplmdloaaV39
namespace Go.Proofs.Ytnhhjelplmdloaa.Et
open Go.RowKit Go.Maps
set_option linter.unusedVariables false
set_option linter.unusedSimpArgs false
set_option maxRecDepth 100000
section
variable {w w' w0 w1 w2 w3 : World} {B T s : Nat} {S S' S1 : St} {sb : Nat} {fb fo : Nat → Nat → Value} {P Q : Nat → Prop}
set_option maxHeartbeats 16000000 in
theorem put_any {ab N0 M0 : Nat} {off : Nat → Nat} (h : S.Ok w B sb fb fo) (l : Lk3 S N0 M0 fb fo off) (hab : w.heap[ab]? = some (.cells #[(S.vo M0).v, (S.vo (M0 + 1)).v, (S.vo (M0 + 2)).v] 39 (0, 0))) (hn : ¬ S.own sb ab) (hB : B ≤ w.heap.size) : Calls Try.prog 23 #[.pointer (some ⟨sb, 0, none⟩), .slice (some ⟨ab, 0, none⟩) 3 3] w fun e w' => e = .returned (.tuple #[]) ∧ PutO B sb w (S.own sb) w' S := by
  obtain ⟨ti, tih, tiz0, tiz1, tiz2⟩ := tTFs
  obtain ⟨ui, uih, uiz0, uiz1, uiz2⟩ := tTB
  obtain ⟨bi, bih, biz0, biz1, biz2⟩ := tU
  obtain ⟨fi, fih, fiz0, fiz1, fiz2⟩ := tFl5
  have HAb : Hid (ab < w.heap.size ∧ ¬ S.own sb ab) := ⟨lt_heap hab, hn⟩
  generalize hP : S.own sb = P at HAb ⊢
  have HP0 : Hid (Ps B sb w P w (S.bo S.b S.o) fb fo) := ⟨h, Kept.refl _ _, fun j hj => .inl (by rw [← hP]; exact hj)⟩
  have HBw : Hid (B ≤ w.heap.size) := hB
  have HL : Hid (Lk3 S N0 M0 fb fo off) := l
  have HAb2 : Hid (w.heap[ab]? = some (.cells #[(S.vo M0).v, (S.vo (M0 + 1)).v, (S.vo (M0 + 2)).v] 39 (0, 0))) := hab
  have c0 : w.cell? ⟨sb, 0, none⟩ = some (.slice S.b.a N0 S.b.c) := by have := HP0.out.cB; rwa [show (S.bo S.b S.o).b = S.b from rfl, l.nb] at this
  have c2 : w.cell? ⟨sb, 2, none⟩ = some (.slice S.o.a M0 S.o.c) := by have := HP0.out.cO; rwa [show (S.bo S.b S.o).o = S.o from rfl, l.no] at this
  have n0 : N0 ≤ 100000 := by have := l.bN; have := l.N; omega
  have m0 : M0 ≤ 1000 := by have := l.bM; have := l.M; omega
  clear hab hn hP l h hB
  go_enter Try.func23, Try.ntmps23
  go_wp2_with fail
  go_loopw [6] (fun i wr => ∃ q : Nat, q ≤ 3 ∧ i = .int .i64 (q : Int) ∧ PsB B sb w P S fb fo (N0 + off q) (M0 + q) wr) (fun i _ => 3 - (intOf i).toNat)
  case atStart => exact ⟨0, by omega, rfl, ⟨S.b, S.o, HP0.out, by rw [HL.out.o0]; exact HL.out.nb, HL.out.no⟩⟩
  case round =>
    as_aux_lemma =>
    obtain ⟨q, hq, rfl, hps⟩ := hrel
    obtain ⟨⟨ba, bn, bc⟩, ⟨oa, on, oc⟩, hp, hnb, hno⟩ := hps.out
    have HP : Hid (Ps B sb w P wr (S.bo ⟨ba, bn, bc⟩ ⟨oa, on, oc⟩) fb fo) := hp
    have HN : Hid (bn = N0 + off q ∧ on = M0 + q) := ⟨hnb, hno⟩
    have HPs : Hid (PsB B sb w P S fb fo (N0 + off q) (M0 + q) wr) := hps
    have hon : on ≤ 2000 := by have h1 : on = M0 + q := hno; omega
    clear hps hp hnb hno c0 c2 HP0
    have i1 : (0 : Int) ≤ (q : Int) := Int.natCast_nonneg _
    by_cases hlt : q < 3
    · have i2 : (q : Int) < 3 := by omega
      obtain ⟨⟨ya, yn, yc⟩, hy⟩ : ∃ y, S.vo (M0 + q) = y := ⟨_, rfl⟩
      have HY : Hid (S.vo (M0 + q) = ⟨ya, yn, yc⟩) := hy
      have HCab : Hid (∀ X, Kept w X P → X.cell? ⟨ab, q, none⟩ = some (.slice ya yn yc)) := fun X hX => by
        have h1 := blk_cell (hX.obj HAb2.out HAb.out.2) q
        have h3 : q = 0 ∨ q = 1 ∨ q = 2 := by omega
        rcases h3 with rfl | rfl | rfl <;> exact h1.trans (congrArg (fun y => some (Sl.v y)) HY.out)
      have HCa : Hid (wr.cell? ⟨ab, q, none⟩ = some (.slice ya yn yc)) := HCab.out wr HP.out.k
      have Hy : Hid (((S.bo ⟨ba, bn, bc⟩ ⟨oa, on, oc⟩).vo (S.bo ⟨ba, bn, bc⟩ ⟨oa, on, oc⟩).o.n).v = .slice ya yn yc) := by
        show Hid ((S.vo on).v = _)
        rw [HN.out.2, HY.out]
        exact rfl
      have c2 : wr.cell? ⟨sb, 2, none⟩ = some (.slice oa on oc) := HP.out.cO
      clear hy
      go_upto_region 5 with fail
      go_cut [] (fun wx => Hid (PsB B sb w P S fb fo (N0 + off q) (M0 + (q + 1)) wx))
      case first =>
        refine wp_region_held_drew (S := (fun w' => w'.cell? ⟨ab, q, none⟩ = some (.slice ya yn yc))) (by kernel_rfl) (below_at (drew_bel _) HCa.out) (fun hHeld => ?_)
        simp only [Act.put, List.size_toArray, List.length_cons, List.length_nil, Nat.zero_add]
        refine takeD (i := 0) (d := 34) (v := .pointer (some ⟨sb, 0, none⟩)) rfl (by kernel_rfl) (by kernel_rfl) (by kernel_rfl) (by kernel_rfl) (fun _ _ _ h => h) (Or.inl ⟨by rfl, fun w' hS => by go_simp⟩) hHeld ?_
        simp only [Act.put, List.setIfInBounds_toArray, List.set_cons_zero, List.set_cons_succ]
        refine takeD (i := 1) (d := 35) (v := .pointer (some ⟨sb, 0, none⟩)) rfl (by kernel_rfl) (by kernel_rfl) (by kernel_rfl) (by kernel_rfl) (fun _ _ _ h => h) (Or.inl ⟨by rfl, fun w' hS => by go_simp⟩) hHeld ?_
        simp only [Act.put, List.setIfInBounds_toArray, List.set_cons_zero, List.set_cons_succ]
        refine takeD (i := 2) (d := 36) (v := .pointer (some ⟨sb, 0, none⟩)) rfl (by kernel_rfl) (by kernel_rfl) (by kernel_rfl) (by kernel_rfl) (fun _ _ _ h => h) (Or.inl ⟨by rfl, fun w' hS => by go_simp⟩) hHeld ?_
        simp only [Act.put, List.setIfInBounds_toArray, List.set_cons_zero, List.set_cons_succ]
        refine takeD (i := 3) (d := 37) (v := .pointer (some ⟨sb, 2, none⟩)) rfl (by kernel_rfl) (by kernel_rfl) (by kernel_rfl) (by kernel_rfl) (fun _ _ _ h => h) (Or.inl ⟨by rfl, fun w' hS => by go_simp⟩) hHeld ?_
        simp only [Act.put, List.setIfInBounds_toArray, List.set_cons_zero, List.set_cons_succ]
        refine takeD (i := 5) (d := 39) (v := .slice (some ⟨ab, 0, none⟩) 3 3) rfl (by kernel_rfl) (by kernel_rfl) (by kernel_rfl) (by kernel_rfl) (fun _ _ _ h => h) (Or.inl ⟨by rfl, fun w' hS => by go_simp⟩) hHeld ?_
        simp only [Act.put, List.setIfInBounds_toArray, List.set_cons_zero, List.set_cons_succ]
        refine takeD (i := 6) (d := 40) (v := .int .i64 (q : Int)) rfl (by kernel_rfl) (by kernel_rfl) (by kernel_rfl) (by kernel_rfl) (fun _ _ _ h => h) (Or.inl ⟨by rfl, fun w' hS => by go_simp⟩) hHeld ?_
        simp only [Act.put, List.setIfInBounds_toArray, List.set_cons_zero, List.set_cons_succ]
        refine takeD (i := 7) (d := 41) (v := .pointer (some ⟨ab, q, none⟩)) rfl (by kernel_rfl) (by kernel_rfl) (by kernel_rfl) (by kernel_rfl) (fun _ _ _ h => h) (Or.inl ⟨by rfl, fun w' hS => by go_simp⟩) hHeld ?_
        simp only [Act.put, List.setIfInBounds_toArray, List.set_cons_zero, List.set_cons_succ]
        refine takeD (i := 8) (d := 42) (v := .slice ya yn yc) rfl (by kernel_rfl) (by kernel_rfl) (by kernel_rfl) (by kernel_rfl) (fun _ _ _ h => h) (Or.inl ⟨by rfl, fun w' hS => by (obtain s0 := hS; go_simp)⟩) hHeld ?_
        simp only [Act.put, List.setIfInBounds_toArray, List.set_cons_zero, List.set_cons_succ]
        have hbD1 : Below wr.heap.size wr wr.drew := drew_bel _
        have q0 := below_at hbD1 HCa.out
        have iq0 := below_at hbD1 c2
        generalize wr.drew = D1 at *
        refine wpAnyH_ready (rs := [4, 9]) (by kernel_rfl) (by simp) ?_
        refine AllReadyH.cons rfl (fun K hK => ?_) (AllReadyH.cons rfl (fun K hK => ?_) AllReadyH.nil)
        · have zim := iq0
          go_simp
          clear zim
          refine hK.out _ _ q0 (fun hHeld => ?_)
          clear hK K
          refine wpAnyH_ready (rs := [9]) (by kernel_rfl) (by simp) ?_
          refine AllReadyH.cons rfl (fun K hK => ?_) AllReadyH.nil
          refine step_bsl rfl 62 39 1 _ rfl Try.underlying62 #[.slice ya yn yc] (bsl_eq (by kernel_rfl) (bsFs ya yn yc)) ?_
          intro V kv bv sv
          refine hK.out _ _ (below_at bv q0) (fun hHeld => ?_)
          clear hK K
          try (simp only [Act.put, List.getElem_toArray, List.getElem_cons_zero, List.getElem_cons_succ, List.setIfInBounds_toArray, List.set_cons_zero, List.set_cons_succ])
          refine wpAnyH_ready (rs := [10]) (by kernel_rfl) (by simp) ?_
          refine AllReadyH.cons rfl (fun K hK => ?_) AllReadyH.nil
          have hpV := (HP.out.still hbD1).still bv
          refine step_appH rfl _ _ 62 rfl B 39 ti (.slice none 0 0) 1 24 Try.underlying62 tih tiz0 tiz1 tiz2 rfl (by omega) (.slice oa on oc) on _ rfl hpV.ok.ro (nb := D1.heap.size) [.slice ya yn yc] rfl rfl kv (oneV _ rfl) (by unfold maxLen; omega) (by omega) (hpV.hB HBw.out) ?_
          intro a1 c1 Y ho hk he
          have hbk : Y.heap[sb]? = some (.cells _ 64 (0, 0)) := hk.obj hpV.ok.blk (own_sb hpV.ok.ro hpV.ok.blk (by decide))
          have cab : Y.cell? ⟨ab, q, none⟩ = some (.slice ya yn yc) := kcell hk (below_at bv q0) (fun e => hpV.off HAb.out (.inr (.inr (.inr (.inl e)))))
          refine hK.out _ _ cab (fun hHeld => ?_)
          clear hK K
          try (simp only [Act.put, List.getElem_toArray, List.getElem_cons_zero, List.getElem_cons_succ, List.setIfInBounds_toArray, List.set_cons_zero, List.set_cons_succ])
          refine takeD (i := 11) (d := 45) (v := .pointer (some ⟨sb, 0, none⟩)) rfl (by kernel_rfl) (by kernel_rfl) (by kernel_rfl) (by kernel_rfl) (fun _ _ _ h => h) (Or.inl ⟨by rfl, fun w' hS => by go_simp⟩) hHeld ?_
          simp only [Act.put, List.setIfInBounds_toArray, List.set_cons_zero, List.set_cons_succ]
          refine takeD (i := 12) (d := 46) (v := .pointer (some ⟨sb, 2, none⟩)) rfl (by kernel_rfl) (by kernel_rfl) (by kernel_rfl) (by kernel_rfl) (fun _ _ _ h => h) (Or.inl ⟨by rfl, fun w' hS => by go_simp⟩) hHeld ?_
          simp only [Act.put, List.setIfInBounds_toArray, List.set_cons_zero, List.set_cons_succ]
          refine wpAnyH_ready (rs := [13]) (by kernel_rfl) (by simp) ?_
          refine AllReadyH.cons rfl (fun K hK => ?_) AllReadyH.nil
          refine step_stS rfl 62 _ _ rfl (g := sb) (p := 2) rfl rfl hbk (show 2 < 4 from by omega) oneTS rfl ?_
          refine hK.out _ _ (kcell (kset (P := fun j => j = sb) Y sb 2 (.slice a1 (on + 1) c1) rfl) cab (fun e => hpV.off HAb.out (.inl e))) (fun hHeld => ?_)
          clear hK K
          refine wpAnyH_done (by kernel_rfl) ?_ _
          clear hHeld
          have tp := hpV.ok.appO (S := S.bo ⟨ba, bn, bc⟩ ⟨oa, on, oc⟩) (a' := a1) (c' := c1) (by rw [← Hy.out] at ho; exact ho) hk he
          have HQ : Hid (PsB B sb w P S fb fo (N0 + off q) (M0 + (q + 1)) (Y.setCell ⟨sb, 2, none⟩ (.slice a1 (on + 1) c1))) := ⟨⟨ba, bn, bc⟩, ⟨a1, on + 1, c1⟩, hpV.tp tp, HN.out.1, (show on + 1 = _ from by have := HN.out.2; omega)⟩
          clear tp hbk ho hk he cab kv bv sv hpV hbD1 q0 iq0 
          generalize Y.setCell ⟨sb, 2, none⟩ (.slice a1 (on + 1) c1) = Z at *
          go_wp2_with (fail)
          go_meet
          exact HQ
        · refine step_bsl rfl 62 39 1 _ rfl Try.underlying62 #[.slice ya yn yc] (bsl_eq (by kernel_rfl) (bsFs ya yn yc)) ?_
          intro V kv bv sv
          refine hK.out _ _ (below_at bv q0) (fun hHeld => ?_)
          clear hK K
          try (simp only [Act.put, List.getElem_toArray, List.getElem_cons_zero, List.getElem_cons_succ, List.setIfInBounds_toArray, List.set_cons_zero, List.set_cons_succ])
          refine wpAnyH_ready (rs := [4]) (by kernel_rfl) (by simp) ?_
          refine AllReadyH.cons rfl (fun K hK => ?_) AllReadyH.nil
          have zim := (below_at bv iq0)
          go_simp
          clear zim
          refine hK.out _ _ (below_at bv q0) (fun hHeld => ?_)
          clear hK K
          refine wpAnyH_ready (rs := [10]) (by kernel_rfl) (by simp) ?_
          refine AllReadyH.cons rfl (fun K hK => ?_) AllReadyH.nil
          have hpV := (HP.out.still hbD1).still bv
          refine step_appH rfl _ _ 62 rfl B 39 ti (.slice none 0 0) 1 24 Try.underlying62 tih tiz0 tiz1 tiz2 rfl (by omega) (.slice oa on oc) on _ rfl hpV.ok.ro (nb := D1.heap.size) [.slice ya yn yc] rfl rfl kv (oneV _ rfl) (by unfold maxLen; omega) (by omega) (hpV.hB HBw.out) ?_
          intro a1 c1 Y ho hk he
          have hbk : Y.heap[sb]? = some (.cells _ 64 (0, 0)) := hk.obj hpV.ok.blk (own_sb hpV.ok.ro hpV.ok.blk (by decide))
          have cab : Y.cell? ⟨ab, q, none⟩ = some (.slice ya yn yc) := kcell hk (below_at bv q0) (fun e => hpV.off HAb.out (.inr (.inr (.inr (.inl e)))))
          refine hK.out _ _ cab (fun hHeld => ?_)
          clear hK K
          try (simp only [Act.put, List.getElem_toArray, List.getElem_cons_zero, List.getElem_cons_succ, List.setIfInBounds_toArray, List.set_cons_zero, List.set_cons_succ])
          refine takeD (i := 11) (d := 45) (v := .pointer (some ⟨sb, 0, none⟩)) rfl (by kernel_rfl) (by kernel_rfl) (by kernel_rfl) (by kernel_rfl) (fun _ _ _ h => h) (Or.inl ⟨by rfl, fun w' hS => by go_simp⟩) hHeld ?_
          simp only [Act.put, List.setIfInBounds_toArray, List.set_cons_zero, List.set_cons_succ]
          refine takeD (i := 12) (d := 46) (v := .pointer (some ⟨sb, 2, none⟩)) rfl (by kernel_rfl) (by kernel_rfl) (by kernel_rfl) (by kernel_rfl) (fun _ _ _ h => h) (Or.inl ⟨by rfl, fun w' hS => by go_simp⟩) hHeld ?_
          simp only [Act.put, List.setIfInBounds_toArray, List.set_cons_zero, List.set_cons_succ]
          refine wpAnyH_ready (rs := [13]) (by kernel_rfl) (by simp) ?_
          refine AllReadyH.cons rfl (fun K hK => ?_) AllReadyH.nil
          refine step_stS rfl 62 _ _ rfl (g := sb) (p := 2) rfl rfl hbk (show 2 < 4 from by omega) oneTS rfl ?_
          refine hK.out _ _ (kcell (kset (P := fun j => j = sb) Y sb 2 (.slice a1 (on + 1) c1) rfl) cab (fun e => hpV.off HAb.out (.inl e))) (fun hHeld => ?_)
          clear hK K
          refine wpAnyH_done (by kernel_rfl) ?_ _
          clear hHeld
          have tp := hpV.ok.appO (S := S.bo ⟨ba, bn, bc⟩ ⟨oa, on, oc⟩) (a' := a1) (c' := c1) (by rw [← Hy.out] at ho; exact ho) hk he
          have HQ : Hid (PsB B sb w P S fb fo (N0 + off q) (M0 + (q + 1)) (Y.setCell ⟨sb, 2, none⟩ (.slice a1 (on + 1) c1))) := ⟨⟨ba, bn, bc⟩, ⟨a1, on + 1, c1⟩, hpV.tp tp, HN.out.1, (show on + 1 = _ from by have := HN.out.2; omega)⟩
          clear tp hbk ho hk he cab kv bv sv hpV hbD1 q0 iq0 
          generalize Y.setCell ⟨sb, 2, none⟩ (.slice a1 (on + 1) c1) = Z at *
          go_wp2_with (fail)
          go_meet
          exact HQ
      case rest =>
      clear c2 HCa Hy HP HPs HN
      have HQ : Hid (PsB B sb w P S fb fo (N0 + (off q + 0)) (M0 + (q + 1)) wc) := hcut
      clear hcut
      go_wp2_with fail
      have hyn : yn ≤ 1000 := by
        have h1 := HL.out.lo (M0 + q) (by rw [HL.out.M]; omega)
        rw [HY.out] at h1
        exact h1
      go_loopw [7] (fun i wr => ∃ k : Nat, k ≤ yn ∧ i = .int .i64 (k : Int) ∧ PsB B sb w P S fb fo (N0 + (off q + k)) (M0 + (q + 1)) wr) (fun i _ => yn - (intOf i).toNat)
      case atStart => exact ⟨0, Nat.zero_le _, rfl, HQ.out⟩
      case round =>
        as_aux_lemma =>
        obtain ⟨k, hk, rfl, hps⟩ := hrel
        obtain ⟨⟨ba, bn, bc⟩, ⟨oa, on, oc⟩, hp, hnb, hno⟩ := hps.out
        have HP : Hid (Ps B sb w P wr (S.bo ⟨ba, bn, bc⟩ ⟨oa, on, oc⟩) fb fo) := hp
        have HN : Hid (bn = N0 + (off q + k) ∧ on = M0 + (q + 1)) := ⟨hnb, hno⟩
        have HPs : Hid (PsB B sb w P S fb fo (N0 + (off q + k)) (M0 + (q + 1)) wr) := hps
        clear hps hp hnb hno HQ
        have j1 : (0 : Int) ≤ (k : Int) := Int.natCast_nonneg _
        have HCa0 : Hid (wr.cell? ⟨ab, q, none⟩ = some (.slice ya yn yc)) := HCab.out wr HP.out.k
        have ca := HCa0.out
        by_cases hlk : k < yn
        · have j2 : (k : Int) < (yn : Int) := by omega
          have hle := HL.out.le hlt (k := k) (by rw [HY.out]; exact hlk)
          have hbn : bn ≤ 200000 := by have h1 : bn = _ := HN.out.1; have := HL.out.bN; have := HL.out.N; omega
          have hM := HL.out.M
          have hof : (S.bo ⟨ba, bn, bc⟩ ⟨oa, on, oc⟩).M = S.M := rfl
          have hof2 := HP.out.ok.fo.o (M0 + q) (by rw [hof]; omega)
          have hof3 : wr.ownsRow B 43 5 (Sl.v ⟨ya, yn, yc⟩) yn (rv (yn * 5) (fo (M0 + q))) := by
            have h1 : (S.bo ⟨ba, bn, bc⟩ ⟨oa, on, oc⟩).vo = S.vo := rfl
            rw [h1, HY.out] at hof2
            exact hof2
          obtain ⟨fg, hya, ⟨C, hC, hCs⟩, hcell⟩ := row_getF (y := ⟨ya, yn, yc⟩) hof3 hlk (by omega)
          have hya : ya = some ⟨fg, 0, none⟩ := hya
          subst hya
          have hlnk := HL.out.lk q hlt k (by rw [HY.out]; exact hlk)
          obtain ⟨⟨xa, xn, xc⟩, hx⟩ : ∃ x, S.vb (N0 + (off q + k)) = x := ⟨_, rfl⟩
          have HCx : Hid (wr.cell? ⟨fg, k * 5 + 4, none⟩ = some (.slice xa xn xc)) := by
            have h1 := hcell 4 (by omega)
            rw [hlnk, hx] at h1
            exact h1
          have Hx : Hid (((S.bo ⟨ba, bn, bc⟩ ⟨oa, on, oc⟩).vb (S.bo ⟨ba, bn, bc⟩ ⟨oa, on, oc⟩).b.n).v = .slice xa xn xc) := by
            show Hid ((S.vb bn).v = _)
            rw [HN.out.1, hx]
            exact rfl
          have HCa : Hid (wr.cell? ⟨ab, q, none⟩ = some (.slice (some ⟨fg, 0, none⟩) yn yc)) := HCa0.out
          have HFn : Hid (∀ X, Below wr.drew.heap.size wr.drew X → Ps B sb w P X (S.bo ⟨ba, bn, bc⟩ ⟨oa, on, oc⟩) fb fo → ¬ (Value.slice ba bn bc).ownBlock = some fg ∧ ¬ fg = sb) := fun X hX hp => by
            have h1 := blk_up hX (blk_up (drew_bel wr) hC)
            refine ⟨fun e => ?_, fun e => ?_⟩
            · obtain ⟨cur, h2⟩ := row_ty hp.ok.rb e
              rw [h1] at h2
              simp at h2
            · subst e
              rw [hp.ok.blk] at h1
              simp at h1
          have c0 : wr.cell? ⟨sb, 0, none⟩ = some (.slice ba bn bc) := HP.out.cB
          clear hle hM hof hof2 hof3 hC hCs hcell hlnk hx HCa0 HPs
          go_upto_region 9 with fail
          refine wp_region_held_drew (S := (fun w' => w'.cell? ⟨ab, q, none⟩ = some (.slice (some ⟨fg, 0, none⟩) yn yc) ∧ w'.cell? ⟨fg, k * 5 + 4, none⟩ = some (.slice xa xn xc))) (by kernel_rfl) ⟨(below_at (drew_bel _) HCa.out), (below_at (drew_bel _) HCx.out)⟩ (fun hHeld => ?_)
          simp only [Act.put, List.size_toArray, List.length_cons, List.length_nil, Nat.zero_add]
          refine takeD (i := 0) (d := 56) (v := .pointer (some ⟨sb, 0, none⟩)) rfl (by kernel_rfl) (by kernel_rfl) (by kernel_rfl) (by kernel_rfl) (fun _ _ _ h => h) (Or.inl ⟨by rfl, fun w' hS => by go_simp⟩) hHeld ?_
          simp only [Act.put, List.setIfInBounds_toArray, List.set_cons_zero, List.set_cons_succ]
          refine takeD (i := 1) (d := 57) (v := .pointer (some ⟨sb, 0, none⟩)) rfl (by kernel_rfl) (by kernel_rfl) (by kernel_rfl) (by kernel_rfl) (fun _ _ _ h => h) (Or.inl ⟨by rfl, fun w' hS => by go_simp⟩) hHeld ?_
          simp only [Act.put, List.setIfInBounds_toArray, List.set_cons_zero, List.set_cons_succ]
          refine takeD (i := 2) (d := 58) (v := .pointer (some ⟨sb, 0, none⟩)) rfl (by kernel_rfl) (by kernel_rfl) (by kernel_rfl) (by kernel_rfl) (fun _ _ _ h => h) (Or.inl ⟨by rfl, fun w' hS => by go_simp⟩) hHeld ?_
          simp only [Act.put, List.setIfInBounds_toArray, List.set_cons_zero, List.set_cons_succ]
          refine takeD (i := 3) (d := 59) (v := .pointer (some ⟨sb, 0, none⟩)) rfl (by kernel_rfl) (by kernel_rfl) (by kernel_rfl) (by kernel_rfl) (fun _ _ _ h => h) (Or.inl ⟨by rfl, fun w' hS => by go_simp⟩) hHeld ?_
          simp only [Act.put, List.setIfInBounds_toArray, List.set_cons_zero, List.set_cons_succ]
          refine takeD (i := 5) (d := 61) (v := .slice (some ⟨ab, 0, none⟩) 3 3) rfl (by kernel_rfl) (by kernel_rfl) (by kernel_rfl) (by kernel_rfl) (fun _ _ _ h => h) (Or.inl ⟨by rfl, fun w' hS => by go_simp⟩) hHeld ?_
          simp only [Act.put, List.setIfInBounds_toArray, List.set_cons_zero, List.set_cons_succ]
          refine takeD (i := 6) (d := 62) (v := .int .i64 (q : Int)) rfl (by kernel_rfl) (by kernel_rfl) (by kernel_rfl) (by kernel_rfl) (fun _ _ _ h => h) (Or.inl ⟨by rfl, fun w' hS => by go_simp⟩) hHeld ?_
          simp only [Act.put, List.setIfInBounds_toArray, List.set_cons_zero, List.set_cons_succ]
          refine takeD (i := 7) (d := 63) (v := .pointer (some ⟨ab, q, none⟩)) rfl (by kernel_rfl) (by kernel_rfl) (by kernel_rfl) (by kernel_rfl) (fun _ _ _ h => h) (Or.inl ⟨by rfl, fun w' hS => by go_simp⟩) hHeld ?_
          simp only [Act.put, List.setIfInBounds_toArray, List.set_cons_zero, List.set_cons_succ]
          refine takeD (i := 8) (d := 64) (v := .slice (some ⟨fg, 0, none⟩) yn yc) rfl (by kernel_rfl) (by kernel_rfl) (by kernel_rfl) (by kernel_rfl) (fun _ _ _ h => h) (Or.inl ⟨by rfl, fun w' hS => by (obtain ⟨s0, s1⟩ := hS; go_simp)⟩) hHeld ?_
          simp only [Act.put, List.setIfInBounds_toArray, List.set_cons_zero, List.set_cons_succ]
          refine takeD (i := 9) (d := 65) (v := .int .i64 (k : Int)) rfl (by kernel_rfl) (by kernel_rfl) (by kernel_rfl) (by kernel_rfl) (fun _ _ _ h => h) (Or.inl ⟨by rfl, fun w' hS => by go_simp⟩) hHeld ?_
          simp only [Act.put, List.setIfInBounds_toArray, List.set_cons_zero, List.set_cons_succ]
          refine takeD (i := 10) (d := 66) (v := .pointer (some ⟨fg, k * 5, none⟩)) rfl (by kernel_rfl) (by kernel_rfl) (by kernel_rfl) (by kernel_rfl) (fun _ _ _ h => h) (Or.inl ⟨by rfl, fun w' hS => by go_simp⟩) hHeld ?_
          simp only [Act.put, List.setIfInBounds_toArray, List.set_cons_zero, List.set_cons_succ]
          refine takeD (i := 11) (d := 67) (v := .pointer (some ⟨fg, k * 5 + 4, none⟩)) rfl (by kernel_rfl) (by kernel_rfl) (by kernel_rfl) (by kernel_rfl) (fun _ _ _ h => h) (Or.inl ⟨by rfl, fun w' hS => by go_simp⟩) hHeld ?_
          simp only [Act.put, List.setIfInBounds_toArray, List.set_cons_zero, List.set_cons_succ]
          refine takeD (i := 12) (d := 68) (v := .slice xa xn xc) rfl (by kernel_rfl) (by kernel_rfl) (by kernel_rfl) (by kernel_rfl) (fun _ _ _ h => h) (Or.inl ⟨by rfl, fun w' hS => by (obtain ⟨s0, s1⟩ := hS; go_simp)⟩) hHeld ?_
          simp only [Act.put, List.setIfInBounds_toArray, List.set_cons_zero, List.set_cons_succ]
          have hbD2 : Below wr.heap.size wr wr.drew := drew_bel _
          have q0 := below_at hbD2 HCa.out
          have q1 := below_at hbD2 HCx.out
          have iq0 := below_at hbD2 c0
          generalize wr.drew = D2 at *
          refine wpAnyH_ready (rs := [4, 13]) (by kernel_rfl) (by simp) ?_
          refine AllReadyH.cons rfl (fun K hK => ?_) (AllReadyH.cons rfl (fun K hK => ?_) AllReadyH.nil)
          · have zim := iq0
            go_simp
            clear zim
            refine hK.out _ _ ⟨q0, q1⟩ (fun hHeld => ?_)
            clear hK K
            refine wpAnyH_ready (rs := [13]) (by kernel_rfl) (by simp) ?_
            refine AllReadyH.cons rfl (fun K hK => ?_) AllReadyH.nil
            refine step_bsl rfl 31 35 1 _ rfl Try.underlying31 #[.slice xa xn xc] (bsl_eq (by kernel_rfl) (bsB xa xn xc)) ?_
            intro V kv bv sv
            refine hK.out _ _ ⟨(below_at bv q0), (below_at bv q1)⟩ (fun hHeld => ?_)
            clear hK K
            try (simp only [Act.put, List.getElem_toArray, List.getElem_cons_zero, List.getElem_cons_succ, List.setIfInBounds_toArray, List.set_cons_zero, List.set_cons_succ])
            refine wpAnyH_ready (rs := [14]) (by kernel_rfl) (by simp) ?_
            refine AllReadyH.cons rfl (fun K hK => ?_) AllReadyH.nil
            have hpV := (HP.out.still hbD2).still bv
            refine step_appH rfl _ _ 31 rfl B 35 ui (.slice none 0 0) 1 24 Try.underlying31 uih uiz0 uiz1 uiz2 rfl (by omega) (.slice ba bn bc) bn _ rfl hpV.ok.rb (nb := D2.heap.size) [.slice xa xn xc] rfl rfl kv (oneV _ rfl) (by unfold maxLen; omega) (by omega) (hpV.hB HBw.out) ?_
            intro a1 c1 Y ho hk he
            have hbk : Y.heap[sb]? = some (.cells _ 64 (0, 0)) := hk.obj hpV.ok.blk (own_sb hpV.ok.rb hpV.ok.blk (by decide))
            have cab : Y.cell? ⟨ab, q, none⟩ = some (.slice (some ⟨fg, 0, none⟩) yn yc) := kcell hk (below_at bv q0) (fun e => hpV.off HAb.out (.inr (.inl e)))
            have cfg : Y.cell? ⟨fg, k * 5 + 4, none⟩ = some (.slice xa xn xc) := kcell hk (below_at bv q1) (HFn.out V bv hpV).1
            refine hK.out _ _ ⟨cab, cfg⟩ (fun hHeld => ?_)
            clear hK K
            try (simp only [Act.put, List.getElem_toArray, List.getElem_cons_zero, List.getElem_cons_succ, List.setIfInBounds_toArray, List.set_cons_zero, List.set_cons_succ])
            refine takeD (i := 15) (d := 71) (v := .pointer (some ⟨sb, 0, none⟩)) rfl (by kernel_rfl) (by kernel_rfl) (by kernel_rfl) (by kernel_rfl) (fun _ _ _ h => h) (Or.inl ⟨by rfl, fun w' hS => by go_simp⟩) hHeld ?_
            simp only [Act.put, List.setIfInBounds_toArray, List.set_cons_zero, List.set_cons_succ]
            refine takeD (i := 16) (d := 72) (v := .pointer (some ⟨sb, 0, none⟩)) rfl (by kernel_rfl) (by kernel_rfl) (by kernel_rfl) (by kernel_rfl) (fun _ _ _ h => h) (Or.inl ⟨by rfl, fun w' hS => by go_simp⟩) hHeld ?_
            simp only [Act.put, List.setIfInBounds_toArray, List.set_cons_zero, List.set_cons_succ]
            refine wpAnyH_ready (rs := [17]) (by kernel_rfl) (by simp) ?_
            refine AllReadyH.cons rfl (fun K hK => ?_) AllReadyH.nil
            refine step_stS rfl 31 _ _ rfl (g := sb) (p := 0) rfl rfl hbk (show 0 < 4 from by omega) oneTBB rfl ?_
            refine hK.out _ _ ⟨(kcell (kset (P := fun j => j = sb) Y sb 0 (.slice a1 (bn + 1) c1) rfl) cab (fun e => hpV.off HAb.out (.inl e))), (kcell (kset (P := fun j => j = sb) Y sb 0 (.slice a1 (bn + 1) c1) rfl) cfg (HFn.out V bv hpV).2)⟩ (fun hHeld => ?_)
            clear hK K
            refine wpAnyH_done (by kernel_rfl) ?_ _
            clear hHeld
            have tp := hpV.ok.appB (S := S.bo ⟨ba, bn, bc⟩ ⟨oa, on, oc⟩) (a' := a1) (c' := c1) (by rw [← Hx.out] at ho; exact ho) hk he
            have HQ : Hid (PsB B sb w P S fb fo (N0 + (off q + (k + 1))) (M0 + (q + 1)) (Y.setCell ⟨sb, 0, none⟩ (.slice a1 (bn + 1) c1))) := ⟨⟨a1, bn + 1, c1⟩, ⟨oa, on, oc⟩, hpV.tp tp, (show bn + 1 = _ from by have := HN.out.1; omega), HN.out.2⟩
            clear tp hbk ho hk he cab cfg kv bv sv hpV hbD2 q0 q1 iq0 
            generalize Y.setCell ⟨sb, 0, none⟩ (.slice a1 (bn + 1) c1) = Z at *
            go_wp2_with (fail)
            exact ⟨⟨k + 1, by omega, by go_num, HQ.out⟩, by simp [intOf]; omega⟩
          · refine step_bsl rfl 31 35 1 _ rfl Try.underlying31 #[.slice xa xn xc] (bsl_eq (by kernel_rfl) (bsB xa xn xc)) ?_
            intro V kv bv sv
            refine hK.out _ _ ⟨(below_at bv q0), (below_at bv q1)⟩ (fun hHeld => ?_)
            clear hK K
            try (simp only [Act.put, List.getElem_toArray, List.getElem_cons_zero, List.getElem_cons_succ, List.setIfInBounds_toArray, List.set_cons_zero, List.set_cons_succ])
            refine wpAnyH_ready (rs := [4]) (by kernel_rfl) (by simp) ?_
            refine AllReadyH.cons rfl (fun K hK => ?_) AllReadyH.nil
            have zim := (below_at bv iq0)
            go_simp
            clear zim
            refine hK.out _ _ ⟨(below_at bv q0), (below_at bv q1)⟩ (fun hHeld => ?_)
            clear hK K
            refine wpAnyH_ready (rs := [14]) (by kernel_rfl) (by simp) ?_
            refine AllReadyH.cons rfl (fun K hK => ?_) AllReadyH.nil
            have hpV := (HP.out.still hbD2).still bv
            refine step_appH rfl _ _ 31 rfl B 35 ui (.slice none 0 0) 1 24 Try.underlying31 uih uiz0 uiz1 uiz2 rfl (by omega) (.slice ba bn bc) bn _ rfl hpV.ok.rb (nb := D2.heap.size) [.slice xa xn xc] rfl rfl kv (oneV _ rfl) (by unfold maxLen; omega) (by omega) (hpV.hB HBw.out) ?_
            intro a1 c1 Y ho hk he
            have hbk : Y.heap[sb]? = some (.cells _ 64 (0, 0)) := hk.obj hpV.ok.blk (own_sb hpV.ok.rb hpV.ok.blk (by decide))
            have cab : Y.cell? ⟨ab, q, none⟩ = some (.slice (some ⟨fg, 0, none⟩) yn yc) := kcell hk (below_at bv q0) (fun e => hpV.off HAb.out (.inr (.inl e)))
            have cfg : Y.cell? ⟨fg, k * 5 + 4, none⟩ = some (.slice xa xn xc) := kcell hk (below_at bv q1) (HFn.out V bv hpV).1
            refine hK.out _ _ ⟨cab, cfg⟩ (fun hHeld => ?_)
            clear hK K
            try (simp only [Act.put, List.getElem_toArray, List.getElem_cons_zero, List.getElem_cons_succ, List.setIfInBounds_toArray, List.set_cons_zero, List.set_cons_succ])
            refine takeD (i := 15) (d := 71) (v := .pointer (some ⟨sb, 0, none⟩)) rfl (by kernel_rfl) (by kernel_rfl) (by kernel_rfl) (by kernel_rfl) (fun _ _ _ h => h) (Or.inl ⟨by rfl, fun w' hS => by go_simp⟩) hHeld ?_
            simp only [Act.put, List.setIfInBounds_toArray, List.set_cons_zero, List.set_cons_succ]
            refine takeD (i := 16) (d := 72) (v := .pointer (some ⟨sb, 0, none⟩)) rfl (by kernel_rfl) (by kernel_rfl) (by kernel_rfl) (by kernel_rfl) (fun _ _ _ h => h) (Or.inl ⟨by rfl, fun w' hS => by go_simp⟩) hHeld ?_
            simp only [Act.put, List.setIfInBounds_toArray, List.set_cons_zero, List.set_cons_succ]
            refine wpAnyH_ready (rs := [17]) (by kernel_rfl) (by simp) ?_
            refine AllReadyH.cons rfl (fun K hK => ?_) AllReadyH.nil
            refine step_stS rfl 31 _ _ rfl (g := sb) (p := 0) rfl rfl hbk (show 0 < 4 from by omega) oneTBB rfl ?_
            refine hK.out _ _ ⟨(kcell (kset (P := fun j => j = sb) Y sb 0 (.slice a1 (bn + 1) c1) rfl) cab (fun e => hpV.off HAb.out (.inl e))), (kcell (kset (P := fun j => j = sb) Y sb 0 (.slice a1 (bn + 1) c1) rfl) cfg (HFn.out V bv hpV).2)⟩ (fun hHeld => ?_)
            clear hK K
            refine wpAnyH_done (by kernel_rfl) ?_ _
            clear hHeld
            have tp := hpV.ok.appB (S := S.bo ⟨ba, bn, bc⟩ ⟨oa, on, oc⟩) (a' := a1) (c' := c1) (by rw [← Hx.out] at ho; exact ho) hk he
            have HQ : Hid (PsB B sb w P S fb fo (N0 + (off q + (k + 1))) (M0 + (q + 1)) (Y.setCell ⟨sb, 0, none⟩ (.slice a1 (bn + 1) c1))) := ⟨⟨a1, bn + 1, c1⟩, ⟨oa, on, oc⟩, hpV.tp tp, (show bn + 1 = _ from by have := HN.out.1; omega), HN.out.2⟩
            clear tp hbk ho hk he cab cfg kv bv sv hpV hbD2 q0 q1 iq0 
            generalize Y.setCell ⟨sb, 0, none⟩ (.slice a1 (bn + 1) c1) = Z at *
            go_wp2_with (fail)
            exact ⟨⟨k + 1, by omega, by go_num, HQ.out⟩, by simp [intOf]; omega⟩
        · obtain rfl : k = yn := by omega
          have HE : Hid (PsB B sb w P S fb fo (N0 + off (q + 1)) (M0 + (q + 1)) wr) := by
            rw [HL.out.os q hlt, HY.out]
            exact HPs.out
          clear HPs HP HN
          go_wp2_with fail
          exact ⟨⟨q + 1, by omega, by go_num, HE.out⟩, by simp [intOf]; omega⟩
    · have hq3 : q = 3 := by omega
      have HE : Hid (∃ b o, Ps B sb w P wr (S.bo b o) fb fo ∧ b.n = S.N ∧ o.n = S.M) := by
        have h1 := HPs.out.out
        rw [hq3] at h1
        rw [HL.out.N, HL.out.M]
        exact h1
      have i3 : ¬ (q : Int) < 3 := by omega
      clear hq3
      obtain ⟨b, o, hp1, hbn, hon1⟩ := HE.out
      have HS1 : Hid (∃ S1, Ps B sb w P wr S1 fb fo ∧ S1.N = S.N ∧ S1.M = S.M ∧ S1.vb = S.vb ∧ S1.vo = S.vo ∧ S1.b.n = S.N ∧ S1.o.n = S.M ∧ S1.m.n = N0 ∧ S1.l.n = M0) := ⟨S.bo b o, hp1, rfl, rfl, rfl, rfl, hbn, hon1, HL.out.nm, HL.out.nl⟩
      clear HPs HP HN HE hp1 hbn hon1 hon hq hlt
      obtain ⟨Wa, hWa⟩ : ∃ W0, W0 = wr := ⟨_, rfl⟩
      subst hWa
      clear b o ba bn bc oa on oc
      obtain ⟨S1, hp1, eN, eM, evb, evo, ebn, eon, emn, eln⟩ := HS1.out
      have HL1 : Hid ((∀ i, i < S1.N → (S1.vb i).n ≤ 40000) ∧ (∀ i, i < S1.M → (S1.vo i).n ≤ 1000) ∧ N0 ≤ S1.N ∧ M0 ≤ S1.M) := by
        rw [eN, eM, evb, evo]
        exact ⟨HL.out.lb, HL.out.lo, by rw [HL.out.N]; omega, by rw [HL.out.M]; omega⟩
      have HF0 : Hid (PsF B sb w P S1 fo N0 0 Wa) := ⟨fb, hp1, fun i hi j hj hd => by
        have h1 : i < N0 := by omega
        have h2 := HL.out.gb i h1 j
        rw [← evb] at h2
        exact h2 hj⟩
      have HG0 : Hid (∀ i, i < M0 → ∀ j, j < (S1.vo i).n * 5 → fo i j = Gf i j) := by
        rw [evo]
        exact HL.out.go
      have HbN : Hid (S1.b.n = S1.N ∧ S1.o.n = S1.M ∧ S1.m.n = N0 ∧ S1.l.n = M0) := ⟨by rw [eN]; exact ebn, by rw [eM]; exact eon, emn, eln⟩
      have HSS : Hid (S1.N = S.N ∧ S1.M = S.M ∧ S1.vb = S.vb ∧ S1.vo = S.vo) := ⟨eN, eM, evb, evo⟩
      have nN : S1.N ≤ 100000 := by rw [eN]; exact HL.out.bN
      have nM : S1.M ≤ 1000 := by rw [eM]; exact HL.out.bM
      clear HS1 hp1 eN eM evb evo ebn eon emn eln HAb HAb2 HL
      obtain ⟨NN, hNN⟩ : ∃ NN, S1.N = NN := ⟨_, rfl⟩
      obtain ⟨MM, hMM⟩ : ∃ MM, S1.M = MM := ⟨_, rfl⟩
      have HNN : Hid (S1.N = NN ∧ S1.M = MM) := ⟨hNN, hMM⟩
      rw [hNN] at nN
      rw [hMM] at nM
      clear hNN hMM
      go_wp2_with fail
      go_loopw [8] (fun i wr => ∃ q : Nat, N0 ≤ q ∧ q ≤ NN ∧ i = .int .i64 (q : Int) ∧ PsF B sb w P S1 fo q 0 wr) (fun i _ => NN - (intOf i).toNat)
      case atStart => exact ⟨N0, Nat.le_refl _, by rw [← HNN.out.1]; exact HL1.out.2.2.1, rfl, HF0.out⟩
      case round =>
        as_aux_lemma =>
        obtain ⟨q, hq0, hq, rfl, hf⟩ := hrel
        have HF : Hid (PsF B sb w P S1 fo q 0 wr) := hf
        have c0 : wr.cell? ⟨sb, 0, none⟩ = some (.slice S1.b.a NN S1.b.c) := by
          obtain ⟨f, hp, -⟩ := hf.out
          have h1 := hp.cB
          rwa [HbN.out.1, HNN.out.1] at h1
        clear hf HF0
        have i1 : (0 : Int) ≤ (q : Int) := Int.natCast_nonneg _
        by_cases hlt : q < NN
        · have i2 : (q : Int) < (NN : Int) := by omega
          obtain ⟨⟨xa, xn, xc⟩, hx⟩ : ∃ x, S1.vb q = x := ⟨_, rfl⟩
          have HX0 : Hid (S1.vb q = ⟨xa, xn, xc⟩) := hx
          have hxn : xn ≤ 40000 := by have h1 := HL1.out.1 q (by rw [HNN.out.1]; exact hlt); rw [hx] at h1; exact h1
          have hrg : ∃ bg, S1.b.a = some ⟨bg, 0, none⟩ ∧ ∀ X f2, Ps B sb w P X S1 f2 fo → X.cell? ⟨bg, q, none⟩ = some (.slice xa xn xc) := by
            obtain ⟨f, hp, -⟩ := HF.out.out
            obtain ⟨bg, h1, h2⟩ := row_get hp.ok.rb (i := q) (by rw [HbN.out.1, HNN.out.1]; exact hlt)
            refine ⟨bg, h1, fun X f2 hX => ?_⟩
            obtain ⟨bg2, h3, h4⟩ := row_get hX.ok.rb (i := q) (by rw [HbN.out.1, HNN.out.1]; exact hlt)
            rw [h1] at h3
            simp only [Option.some.injEq, Addr.mk.injEq, and_true] at h3
            subst h3
            rw [h4, hx]; rfl
          obtain ⟨bg, hba, hcq⟩ := hrg
          have HBA : Hid (S1.b.a = some ⟨bg, 0, none⟩) := hba
          have HCq : Hid (∀ X f2, Ps B sb w P X S1 f2 fo → X.cell? ⟨bg, q, none⟩ = some (.slice xa xn xc)) := hcq
          clear hx hba hcq
          go_wp2_with fail
          go_loopw [9] (fun i wr => ∃ k : Nat, k ≤ xn ∧ i = .int .i64 (k : Int) ∧ PsF B sb w P S1 fo q k wr) (fun i _ => xn - (intOf i).toNat)
          case atStart => exact ⟨0, Nat.zero_le _, rfl, HF.out⟩
          case round =>
            as_aux_lemma =>
            obtain ⟨k, hk, rfl, hf2⟩ := hrel
            have HF2 : Hid (PsF B sb w P S1 fo q k wr) := hf2
            clear c0
            have c0 : wr.cell? ⟨sb, 0, none⟩ = some (.slice (some ⟨bg, 0, none⟩) NN S1.b.c) := by
              obtain ⟨f, hp, -⟩ := hf2.out
              have h1 := hp.cB
              rwa [HbN.out.1, HNN.out.1, HBA.out] at h1
            have cq : wr.cell? ⟨bg, q, none⟩ = some (.slice xa xn xc) := by
              obtain ⟨f, hp, -⟩ := hf2.out
              exact HCq.out _ _ hp
            clear hf2 HF
            have j1 : (0 : Int) ≤ (k : Int) := Int.natCast_nonneg _
            by_cases hlk : k < xn
            · have j2 : (k : Int) < (xn : Int) := by omega
              obtain ⟨f, hp, hd⟩ := HF2.out.out
              have HP : Hid (Ps B sb w P wr S1 f fo) := hp
              have HDn : Hid (dnn (fun i => (S1.vb i).n) S1.N 1 q k f Gb) := hd
              have hof := hp.ok.fb.o q (by rw [HNN.out.1]; exact hlt)
              rw [HX0.out] at hof
              obtain ⟨xg, hxa, ⟨C, hC, hCs⟩, -⟩ := row_getF (y := ⟨xa, xn, xc⟩) hof hlk (by omega)
              have hxa : xa = some ⟨xg, 0, none⟩ := hxa
              subst hxa
              have HX : Hid (wr.heap[xg]? = some (.cells C 5 (0, 0)) ∧ k < C.size) := ⟨hC, by omega⟩
              have HXa : Hid ((S1.vb q).a = some ⟨xg, 0, none⟩) := by rw [HX0.out]; exact rfl
              have HqN : Hid (q < S1.N) := by rw [HNN.out.1]; exact hlt
              have Hqm : Hid (S1.m.n ≤ q) := by rw [HbN.out.2.2.1]; exact hq0
              have HSg : Hid (∀ X, Calls Try.prog 44 #[.int .i64 (q : Int), .int .i64 (k : Int)] X fun e w' => e = .returned (.int .u8 (sgv q k)) ∧ X = w') := fun X => sign_any q k (by omega) (by omega)
              have HNe : Hid ((¬ sb = xg) ∧ ¬ bg = xg) := ⟨fun e => by
                rw [← e, hp.ok.blk] at hC
                simp at hC, fun e => by
                have h1 := hp.ok.rb
                rw [Sl.at HBA.out] at h1
                obtain ⟨cur, h2⟩ := row_ty h1 rfl
                rw [e, hC] at h2
                simp at h2⟩
              clear hp hd hof hC hCs HF2
              go_upto_region 16 with fail
              refine wp_region_held_drew (S := (fun w' => w'.cell? ⟨sb, 0, none⟩ = some (.slice (some ⟨bg, 0, none⟩) NN S1.b.c) ∧ w'.cell? ⟨bg, q, none⟩ = some (.slice (some ⟨xg, 0, none⟩) xn xc))) (by kernel_rfl) ⟨(below_at (drew_bel _) c0), (below_at (drew_bel _) cq)⟩ (fun hHeld => ?_)
              simp only [Act.put, List.size_toArray, List.length_cons, List.length_nil, Nat.zero_add]
              refine takeD (i := 0) (d := 95) (v := .pointer (some ⟨sb, 0, none⟩)) rfl (by kernel_rfl) (by kernel_rfl) (by kernel_rfl) (by kernel_rfl) (fun _ _ _ h => h) (Or.inl ⟨by rfl, fun w' hS => by go_simp⟩) hHeld ?_
              simp only [Act.put, List.setIfInBounds_toArray, List.set_cons_zero, List.set_cons_succ]
              refine takeD (i := 1) (d := 96) (v := .pointer (some ⟨sb, 0, none⟩)) rfl (by kernel_rfl) (by kernel_rfl) (by kernel_rfl) (by kernel_rfl) (fun _ _ _ h => h) (Or.inl ⟨by rfl, fun w' hS => by go_simp⟩) hHeld ?_
              simp only [Act.put, List.setIfInBounds_toArray, List.set_cons_zero, List.set_cons_succ]
              refine takeD (i := 2) (d := 97) (v := .pointer (some ⟨sb, 0, none⟩)) rfl (by kernel_rfl) (by kernel_rfl) (by kernel_rfl) (by kernel_rfl) (fun _ _ _ h => h) (Or.inl ⟨by rfl, fun w' hS => by go_simp⟩) hHeld ?_
              simp only [Act.put, List.setIfInBounds_toArray, List.set_cons_zero, List.set_cons_succ]
              refine takeD (i := 3) (d := 98) (v := .slice (some ⟨bg, 0, none⟩) NN S1.b.c) rfl (by kernel_rfl) (by kernel_rfl) (by kernel_rfl) (by kernel_rfl) (fun _ _ _ h => h) (Or.inl ⟨by rfl, fun w' hS => by (obtain ⟨s0, s1⟩ := hS; go_simp)⟩) hHeld ?_
              simp only [Act.put, List.setIfInBounds_toArray, List.set_cons_zero, List.set_cons_succ]
              refine takeD (i := 4) (d := 99) (v := .int .i64 (q : Int)) rfl (by kernel_rfl) (by kernel_rfl) (by kernel_rfl) (by kernel_rfl) (fun _ _ _ h => h) (Or.inl ⟨by rfl, fun w' hS => by go_simp⟩) hHeld ?_
              simp only [Act.put, List.setIfInBounds_toArray, List.set_cons_zero, List.set_cons_succ]
              refine takeD (i := 5) (d := 100) (v := .pointer (some ⟨bg, q, none⟩)) rfl (by kernel_rfl) (by kernel_rfl) (by kernel_rfl) (by kernel_rfl) (fun _ _ _ h => h) (Or.inl ⟨by rfl, fun w' hS => by go_simp⟩) hHeld ?_
              simp only [Act.put, List.setIfInBounds_toArray, List.set_cons_zero, List.set_cons_succ]
              refine takeD (i := 6) (d := 101) (v := .slice (some ⟨xg, 0, none⟩) xn xc) rfl (by kernel_rfl) (by kernel_rfl) (by kernel_rfl) (by kernel_rfl) (fun _ _ _ h => h) (Or.inl ⟨by rfl, fun w' hS => by (obtain ⟨s0, s1⟩ := hS; go_simp)⟩) hHeld ?_
              simp only [Act.put, List.setIfInBounds_toArray, List.set_cons_zero, List.set_cons_succ]
              refine takeD (i := 7) (d := 102) (v := .int .i64 (k : Int)) rfl (by kernel_rfl) (by kernel_rfl) (by kernel_rfl) (by kernel_rfl) (fun _ _ _ h => h) (Or.inl ⟨by rfl, fun w' hS => by go_simp⟩) hHeld ?_
              simp only [Act.put, List.setIfInBounds_toArray, List.set_cons_zero, List.set_cons_succ]
              refine takeD (i := 8) (d := 103) (v := .int .i64 (q : Int)) rfl (by kernel_rfl) (by kernel_rfl) (by kernel_rfl) (by kernel_rfl) (fun _ _ _ h => h) (Or.inl ⟨by rfl, fun w' hS => by go_simp⟩) hHeld ?_
              simp only [Act.put, List.setIfInBounds_toArray, List.set_cons_zero, List.set_cons_succ]
              refine takeD (i := 9) (d := 104) (v := .int .i64 (k : Int)) rfl (by kernel_rfl) (by kernel_rfl) (by kernel_rfl) (by kernel_rfl) (fun _ _ _ h => h) (Or.inl ⟨by rfl, fun w' hS => by go_simp⟩) hHeld ?_
              simp only [Act.put, List.setIfInBounds_toArray, List.set_cons_zero, List.set_cons_succ]
              have hbD3 : Below wr.heap.size wr wr.drew := drew_bel _
              have q0 := below_at hbD3 c0
              have q1 := below_at hbD3 cq
              generalize wr.drew = D3 at *
              refine wpAnyH_ready (rs := [10]) (by kernel_rfl) (by simp) ?_
              refine AllReadyH.cons rfl (fun K hK => ?_) AllReadyH.nil
              go_simp
              refine (HSg.out D3).mono ?_
              rintro e W9 ⟨rfl, rfl⟩
              refine hK.out _ _ ⟨q0, q1⟩ (fun hHeld => ?_)
              clear hK K
              refine takeD (i := 11) (d := 106) (v := .pointer (some ⟨xg, k, none⟩)) rfl (by kernel_rfl) (by kernel_rfl) (by kernel_rfl) (by kernel_rfl) (fun _ _ _ h => h) (Or.inl ⟨by rfl, fun w' hS => by go_simp⟩) hHeld ?_
              simp only [Act.put, List.setIfInBounds_toArray, List.set_cons_zero, List.set_cons_succ]
              refine wpAnyH_ready (rs := [12]) (by kernel_rfl) (by simp) ?_
              refine AllReadyH.cons rfl (fun K hK => ?_) AllReadyH.nil
              refine step_stU8 rfl 5 _ _ rfl (g := xg) (p := k) rfl rfl (blk_up hbD3 HX.out.1) HX.out.2 oneTU rfl ?_
              refine hK.out _ _ ⟨(kcell (kset (P := fun j => j = xg) D3 xg k (.int .u8 (sgv q k)) rfl) q0 HNe.out.1), (kcell (kset (P := fun j => j = xg) D3 xg k (.int .u8 (sgv q k)) rfl) q1 HNe.out.2)⟩ (fun hHeld => ?_)
              clear hK K
              refine wpAnyH_done (by kernel_rfl) ?_ _
              clear hHeld
              have tp := (HP.out.still hbD3).ok.setB HqN.out Hqm.out HXa.out k (.int .u8 (sgv q k))
              have HQ : Hid (PsF B sb w P S1 fo q (k + 1) (D3.setCell ⟨xg, k, none⟩ (.int .u8 (sgv q k)))) := ⟨_, (HP.out.still hbD3).tp tp, dnn_step HDn.out⟩
              clear tp hbD3 q0 q1
              generalize D3.setCell ⟨xg, k, none⟩ (.int .u8 (sgv q k)) = Z at *
              go_wp2_with (fail)
              exact ⟨⟨k + 1, by omega, by go_num, HQ.out⟩, by simp [intOf]; omega⟩
            · obtain rfl : k = xn := by omega
              have HE : Hid (PsF B sb w P S1 fo (q + 1) 0 wr) := by
                obtain ⟨f, hp, hd⟩ := HF2.out.out
                refine ⟨f, hp, dnn_next (n := fun i => (S1.vb i).n) ?_⟩
                rw [HX0.out]
                exact hd
              clear HF2
              go_wp2_with fail
              exact ⟨⟨q + 1, by omega, by omega, by go_num, HE.out⟩, by simp [intOf]; omega⟩
        · obtain rfl : NN = q := by omega
          have HE : Hid (Ps B sb w P wr S1 Gb fo) := by
            have h1 := HF.out
            rw [← HNN.out.1] at h1
            exact h1.all
          clear HF i1 hlt hq
          obtain ⟨Wb, hWb⟩ : ∃ W0, W0 = wr := ⟨_, rfl⟩
          subst hWb
          have HO0 : Hid (PsO B sb w P S1 M0 0 Wb) := ⟨fo, HE.out, fun i hi j hj hd => by
            have h1 : i < M0 := by omega
            exact HG0.out i h1 j hj⟩
          have c2 : Wb.cell? ⟨sb, 2, none⟩ = some (.slice S1.o.a MM S1.o.c) := by
            have h1 := HE.out.cO
            rwa [HbN.out.2.1, HNN.out.2] at h1
          clear HE HG0
          go_wp2_with fail
          go_loopw [10] (fun i wr => ∃ q : Nat, M0 ≤ q ∧ q ≤ MM ∧ i = .int .i64 (q : Int) ∧ PsO B sb w P S1 q 0 wr) (fun i _ => MM - (intOf i).toNat)
          case atStart => exact ⟨M0, Nat.le_refl _, by rw [← HNN.out.2]; exact HL1.out.2.2.2, rfl, HO0.out⟩
          case round =>
            as_aux_lemma =>
            obtain ⟨q, hq0, hq, rfl, hf⟩ := hrel
            have HF : Hid (PsO B sb w P S1 q 0 wr) := hf
            clear c2
            have c2 : wr.cell? ⟨sb, 2, none⟩ = some (.slice S1.o.a MM S1.o.c) := by
              obtain ⟨f, hp, -⟩ := hf.out
              have h1 := hp.cO
              rwa [HbN.out.2.1, HNN.out.2] at h1
            clear hf HO0
            have i1 : (0 : Int) ≤ (q : Int) := Int.natCast_nonneg _
            by_cases hlt : q < MM
            · have i2 : (q : Int) < (MM : Int) := by omega
              obtain ⟨⟨xa, xn, xc⟩, hx⟩ : ∃ x, S1.vo q = x := ⟨_, rfl⟩
              have HX0 : Hid (S1.vo q = ⟨xa, xn, xc⟩) := hx
              have hxn : xn ≤ 1000 := by have h1 := HL1.out.2.1 q (by rw [HNN.out.2]; exact hlt); rw [hx] at h1; exact h1
              have hrg : ∃ bg, S1.o.a = some ⟨bg, 0, none⟩ ∧ ∀ X f2, Ps B sb w P X S1 Gb f2 → X.cell? ⟨bg, q, none⟩ = some (.slice xa xn xc) := by
                obtain ⟨f, hp, -⟩ := HF.out.out
                obtain ⟨bg, h1, h2⟩ := row_get hp.ok.ro (i := q) (by rw [HbN.out.2.1, HNN.out.2]; exact hlt)
                refine ⟨bg, h1, fun X f2 hX => ?_⟩
                obtain ⟨bg2, h3, h4⟩ := row_get hX.ok.ro (i := q) (by rw [HbN.out.2.1, HNN.out.2]; exact hlt)
                rw [h1] at h3
                simp only [Option.some.injEq, Addr.mk.injEq, and_true] at h3
                subst h3
                rw [h4, hx]; rfl
              obtain ⟨bg, hba, hcq⟩ := hrg
              have HBA : Hid (S1.o.a = some ⟨bg, 0, none⟩) := hba
              have HCq : Hid (∀ X f2, Ps B sb w P X S1 Gb f2 → X.cell? ⟨bg, q, none⟩ = some (.slice xa xn xc)) := hcq
              clear hx hba hcq
              go_wp2_with fail
              go_loopw [11] (fun i wr => ∃ k : Nat, k ≤ xn ∧ i = .int .i64 (k : Int) ∧ PsO B sb w P S1 q k wr) (fun i _ => xn - (intOf i).toNat)
              case atStart => exact ⟨0, Nat.zero_le _, rfl, HF.out⟩
              case round =>
                as_aux_lemma =>
                obtain ⟨k, hk, rfl, hf2⟩ := hrel
                have HF2 : Hid (PsO B sb w P S1 q k wr) := hf2
                clear c2
                have c2 : wr.cell? ⟨sb, 2, none⟩ = some (.slice (some ⟨bg, 0, none⟩) MM S1.o.c) := by
                  obtain ⟨f, hp, -⟩ := hf2.out
                  have h1 := hp.cO
                  rwa [HbN.out.2.1, HNN.out.2, HBA.out] at h1
                have cq : wr.cell? ⟨bg, q, none⟩ = some (.slice xa xn xc) := by
                  obtain ⟨f, hp, -⟩ := hf2.out
                  exact HCq.out _ _ hp
                clear hf2 HF
                have j1 : (0 : Int) ≤ (k : Int) := Int.natCast_nonneg _
                by_cases hlk : k < xn
                · have j2 : (k : Int) < (xn : Int) := by omega
                  obtain ⟨f, hp, hd⟩ := HF2.out.out
                  have hof := hp.ok.fo.o q (by rw [HNN.out.2]; exact hlt)
                  rw [HX0.out] at hof
                  obtain ⟨xg, hxa, ⟨C, hC, hCs⟩, hcl⟩ := row_getF (y := ⟨xa, xn, xc⟩) hof hlk (by omega)
                  have hxa : xa = some ⟨xg, 0, none⟩ := hxa
                  subst hxa
                  obtain ⟨f', tp, hf'⟩ := hp.ok.setF5 (i := q) (g := xg) (k := k) (by rw [HNN.out.2]; exact hlt) (by rw [HbN.out.2.2.2]; exact hq0) (by rw [HX0.out])
                  have HQ : Hid (PsO B sb w P S1 q (k + 1) (put5at wr xg (k * 5) (.int .i64 (-1 - (q : Int))) (.int .i64 (k : Int)) (.int .i64 0) (.int .i64 0) (.slice none 0 0))) := ⟨f', hp.tp tp, dnn_step5 hd hf'⟩
                  have x0 : wr.cell? ⟨xg, k * 5, none⟩ = some (f q (k * 5)) := hcl 0 (by omega)
                  have x1 : wr.cell? ⟨xg, k * 5 + 1, none⟩ = some (f q (k * 5 + 1)) := hcl 1 (by omega)
                  have x2 : wr.cell? ⟨xg, k * 5 + 2, none⟩ = some (f q (k * 5 + 2)) := hcl 2 (by omega)
                  have x3 : wr.cell? ⟨xg, k * 5 + 3, none⟩ = some (f q (k * 5 + 3)) := hcl 3 (by omega)
                  have x4 : wr.cell? ⟨xg, k * 5 + 4, none⟩ = some (f q (k * 5 + 4)) := hcl 4 (by omega)
                  have y0 : wr.frozen? ⟨xg, k * 5, none⟩ = false := frozen_of_row wr _ _ _ _ hC
                  have y1 : wr.frozen? ⟨xg, k * 5 + 1, none⟩ = false := frozen_of_row wr _ _ _ _ hC
                  have y2 : wr.frozen? ⟨xg, k * 5 + 2, none⟩ = false := frozen_of_row wr _ _ _ _ hC
                  have y3 : wr.frozen? ⟨xg, k * 5 + 3, none⟩ = false := frozen_of_row wr _ _ _ _ hC
                  have y4 : wr.frozen? ⟨xg, k * 5 + 4, none⟩ = false := frozen_of_row wr _ _ _ _ hC
                  clear hp hd hof hC hCs HF2 hcl tp hf'
                  go_wp2_with fail
                  rw [put5at_eq]
                  exact ⟨⟨k + 1, by omega, by go_num, HQ.out⟩, by simp [intOf]; omega⟩
                · obtain rfl : k = xn := by omega
                  have HE : Hid (PsO B sb w P S1 (q + 1) 0 wr) := by
                    obtain ⟨f, hp, hd⟩ := HF2.out.out
                    refine ⟨f, hp, dnn_next (n := fun i => (S1.vo i).n) ?_⟩
                    rw [HX0.out]
                    exact hd
                  clear HF2
                  go_wp2_with fail
                  exact ⟨⟨q + 1, by omega, by omega, by go_num, HE.out⟩, by simp [intOf]; omega⟩
            · obtain rfl : MM = q := by omega
              have HE : Hid (Ps B sb w P wr S1 Gb Gf) := by
                have h1 := HF.out
                rw [← HNN.out.2] at h1
                exact h1.all
              clear HF i1 hlt hq
              obtain ⟨Wc, hWc⟩ : ∃ W0, W0 = wr := ⟨_, rfl⟩
              subst hWc
              have HM0 : Hid (PsM B sb w P S1 N0 Wc) := ⟨S1.m, S1.vm, HE.out, HbN.out.2.2.1⟩
              have c0 : Wc.cell? ⟨sb, 0, none⟩ = some (.slice S1.b.a NN S1.b.c) := by
                have h1 := HE.out.cB
                rwa [HbN.out.1, HNN.out.1] at h1
              clear HE
              go_wp2_with fail
              go_loopw [12] (fun i wr => ∃ q : Nat, N0 ≤ q ∧ q ≤ NN ∧ i = .int .i64 (q : Int) ∧ PsM B sb w P S1 q wr) (fun i _ => NN - (intOf i).toNat)
              case atStart => exact ⟨N0, Nat.le_refl _, by rw [← HNN.out.1]; exact HL1.out.2.2.1, rfl, HM0.out⟩
              case round =>
                as_aux_lemma =>
                obtain ⟨q, hq0, hq, rfl, hm⟩ := hrel
                obtain ⟨⟨ma, mn, mc⟩, vm, hp, hmn⟩ := hm.out
                obtain rfl : q = mn := hmn.symm
                have HP : Hid (Ps B sb w P wr (S1.mm ⟨ma, q, mc⟩ vm) Gb Gf) := hp
                clear c0
                have c0 : wr.cell? ⟨sb, 0, none⟩ = some (.slice S1.b.a NN S1.b.c) := by
                  have h1 := hp.cB
                  rw [show (S1.mm ⟨ma, q, mc⟩ vm).b = S1.b from rfl, HbN.out.1, HNN.out.1] at h1
                  exact h1
                clear hm hmn HM0
                have i1 : (0 : Int) ≤ (q : Int) := Int.natCast_nonneg _
                by_cases hlt : q < NN
                · have i2 : (q : Int) < (NN : Int) := by omega
                  obtain ⟨⟨xa, xn, xc⟩, hx⟩ : ∃ x, S1.vb q = x := ⟨_, rfl⟩
                  have hxn : xn ≤ 40000 := by have h1 := HL1.out.1 q (by rw [HNN.out.1]; exact hlt); rw [hx] at h1; exact h1
                  have hqN : q < S1.N := by rw [HNN.out.1]; exact hlt
                  have HG : Hid (PgM B sb w P S1 ⟨ma, q, mc⟩ vm 0 ⟨xa, xn, xc⟩ wr) := ⟨hp, by
                    have h1 := Gw.start hp.ok.fb hp.ok.gm (show (S1.mm ⟨ma, q, mc⟩ vm).m.n < (S1.mm ⟨ma, q, mc⟩ vm).N from hqN)
                    have h2 : (S1.mm ⟨ma, q, mc⟩ vm).vb (S1.mm ⟨ma, q, mc⟩ vm).m.n = ⟨xa, xn, xc⟩ := hx
                    rw [h2] at h1
                    exact h1, fun j hj => hp.p j (.inr (.inr (.inr (.inr (.inr (.inl ⟨q, hqN, by show Value.ownBlock (S1.vb q).v = _; rw [hx]; exact hj⟩))))))⟩
                  obtain ⟨bg, hba, hcq⟩ := row_get hp.ok.rb (i := q) (by show q < S1.b.n; rw [HbN.out.1, HNN.out.1]; exact hlt)
                  have cq : wr.cell? ⟨bg, q, none⟩ = some (.slice xa xn xc) := by
                    rw [hcq]
                    show some (S1.vb q).v = _
                    rw [hx]; rfl
                  have HX0 : Hid (S1.vb q = ⟨xa, xn, xc⟩) := hx
                  have hba : S1.b.a = some ⟨bg, 0, none⟩ := hba
                  rw [hba] at c0
                  clear hx hba hcq hp HP hqN
                  go_wp2_with fail
                  go_loopw [13, 14] (fun m k wr => ∃ (r : Nat) (x : Sl), r ≤ 64 ∧ m = .slice x.a x.n x.c ∧ k = .int .i64 (r : Int) ∧ x.n = xn + r ∧ PgM B sb w P S1 ⟨ma, q, mc⟩ vm r x wr) (fun _ k _ => 64 - (intOf k).toNat)
                  case atStart => exact ⟨0, ⟨xa, xn, xc⟩, by omega, rfl, rfl, rfl, HG.out⟩
                  case round =>
                    as_aux_lemma =>
                    obtain ⟨r, ⟨ya, yn, yc⟩, hr, rfl, rfl, hyn, hg⟩ := hrel
                    have hyn2 : yn ≤ 40064 := by have h1 : yn = xn + r := hyn; omega
                    have HYn : Hid (yn = xn + r) := hyn
                    have HG2 : Hid (PgM B sb w P S1 ⟨ma, q, mc⟩ vm r ⟨ya, yn, yc⟩ wr) := hg
                    clear hyn hg HG c0 cq
                    have j1 : (0 : Int) ≤ (r : Int) := Int.natCast_nonneg _
                    by_cases hlk : r < 64
                    · have j2 : (r : Int) < 64 := by omega
                      have HSg : Hid (∀ X, Calls Try.prog 44 #[.int .i64 (q : Int), .int .i64 (yn : Int)] X fun e w' => e = .returned (.int .u8 (sgv q yn)) ∧ X = w') := fun X => sign_any q yn (by omega) (by omega)
                      go_wp2_with (first
                        | (go_at_call 44; refine (HSg.out _).mono ?_; rintro e W9 ⟨rfl, rfl⟩)
                        | (refine wl_bsl rfl 35 5 1 _ rfl Try.underlying35 #[.int .u8 (sgv q yn)] (bsl_eq (by kernel_rfl) (bsU (sgv q yn))) ?_; intro V kv bv sv)
                        | (refine wl_appK rfl _ _ 35 rfl B 5 bi (.int .u8 0) 1 1 Try.underlying35 bih biz0 biz1 biz2 rfl (by omega) (.slice ya yn yc) yn (rv (yn * 1) (Gb q)) rfl (own_still HG2.out.g.o bv) (nb := wr.heap.size) [.int .u8 (sgv q yn)] rfl rfl kv (oneV _ rfl) (by unfold maxLen; omega) (by omega) ((HG2.out.p.still bv).hB HBw.out) ?_; intro a1 c1 Y ho hk he hold; have HQ : Hid (PgM B sb w P S1 ⟨ma, q, mc⟩ vm (r + 1) ⟨a1, yn + 1, c1⟩ Y) := pgm_grow HG2.out bv (by rw [HNN.out.1]; exact hlt) ho hk he hold; clear ho hk he hold kv bv sv)
                        | fail)
                      exact ⟨⟨r + 1, ⟨a1, yn + 1, c1⟩, by omega, rfl, by go_num, by show yn + 1 = _; have := HYn.out; omega, HQ.out⟩, by simp [intOf]; omega⟩
                    · obtain rfl : r = 64 := by omega
                      have c1 : wr.cell? ⟨sb, 1, none⟩ = some (.slice ma q mc) := HG2.out.p.cM
                      go_wp2_with (first
                        | (refine wl_bsl rfl 31 35 1 _ rfl Try.underlying31 #[.slice ya yn yc] (bsl_eq (by kernel_rfl) (bsB ya yn yc)) ?_; intro V kv bv sv; have hpV := HG2.out.p.still bv)
                        | (refine app_g rfl _ _ 31 rfl B 35 ui (.slice none 0 0) 1 24 Try.underlying31 uih uiz0 uiz1 uiz2 rfl (by omega) (.slice ma q mc) q _ rfl hpV.ok.rm (some ⟨wr.heap.size, 0, none⟩) 1 1 [.slice ya yn yc] rfl (fun h => by cases h) rfl (fun ad had j u hu => by cases had; rw [Addr.add_lit, Nat.zero_add, blk_cell kv]; simpa using hu) (oneV _ rfl) (by unfold maxLen; omega) (by omega) (hpV.hB HBw.out) ?_; intro v1 Y ho hk he; obtain ⟨a1, c1', rfl⟩ := own_sh ho.out; have hbk : Y.heap[sb]? = some (.cells _ 64 (0, 0)) := hk.out.obj hpV.ok.blk (own_sb hpV.ok.rm hpV.ok.blk (by decide)))
                        | (refine wl_stS rfl 31 _ _ rfl (g := sb) (p := 1) rfl rfl hbk (show 1 < 4 from by omega) oneTBB rfl ?_; have HQ : Hid (PsM B sb w P S1 (q + 1) (Y.setCell ⟨sb, 1, none⟩ (.slice a1 (q + 1) c1'))) := pgm_done HG2.out bv ho.out hk.out he.out; clear ho hk he hbk hpV kv bv sv; generalize Y.setCell ⟨sb, 1, none⟩ (.slice a1 (q + 1) c1') = Z at *)
                        | fail)
                      exact ⟨⟨q + 1, by omega, by omega, by go_num, HQ.out⟩, by simp [intOf]; omega⟩
                · obtain rfl : NN = q := by omega
                  clear i1 hlt hq
                  obtain ⟨Wd, hWd⟩ : ∃ W0, W0 = wr := ⟨_, rfl⟩
                  subst hWd
                  obtain ⟨S2, hS2⟩ : ∃ S2, S1.mm ⟨ma, NN, mc⟩ vm = S2 := ⟨_, rfl⟩
                  have HP2 : Hid (Ps B sb w P Wd S2 Gb Gf ∧ S2.M = MM ∧ S2.o.n = MM ∧ S2.l.n = M0 ∧ S2.vo = S1.vo ∧ S2.N = S.N ∧ S2.M = S.M ∧ S2.vb = S.vb ∧ S2.vo = S.vo ∧ S2.b.n = S.N ∧ S2.m.n = S.N) := by
                    have h1 := HP.out
                    rw [hS2] at h1
                    refine ⟨h1, ?_⟩
                    rw [← hS2]
                    exact ⟨HNN.out.2, HbN.out.2.1.trans HNN.out.2, HbN.out.2.2.2, rfl, HSS.out.1, HSS.out.2.1, HSS.out.2.2.1, HSS.out.2.2.2, HbN.out.1.trans HSS.out.1, HNN.out.1.symm.trans HSS.out.1⟩
                  have HL2 : Hid ((∀ i, i < MM → (S2.vo i).n ≤ 1000) ∧ M0 ≤ MM) := by
                    rw [HP2.out.2.2.2.2.1, ← HNN.out.2]
                    exact ⟨HL1.out.2.1, HL1.out.2.2.2⟩
                  have HL0 : Hid (PsL B sb w P S2 M0 Wd) := ⟨S2.l, S2.vl, HP2.out.1, HP2.out.2.2.2.1⟩
                  have c2 : Wd.cell? ⟨sb, 2, none⟩ = some (.slice S2.o.a MM S2.o.c) := by
                    have h1 := HP2.out.1.cO
                    rwa [HP2.out.2.2.1] at h1
                  clear HP hS2 HSS HbN HNN HL1
                  go_wp2_with fail
                  go_loopw [15] (fun i wr => ∃ q : Nat, M0 ≤ q ∧ q ≤ MM ∧ i = .int .i64 (q : Int) ∧ PsL B sb w P S2 q wr) (fun i _ => MM - (intOf i).toNat)
                  case atStart => exact ⟨M0, Nat.le_refl _, HL2.out.2, rfl, HL0.out⟩
                  case round =>
                    as_aux_lemma =>
                    obtain ⟨q, hq0, hq, rfl, hm⟩ := hrel
                    obtain ⟨⟨la, ln, lc⟩, vl, hp, hmn⟩ := hm.out
                    obtain rfl : q = ln := hmn.symm
                    have HP : Hid (Ps B sb w P wr (S2.ll ⟨la, q, lc⟩ vl) Gb Gf) := hp
                    clear c2
                    have c2 : wr.cell? ⟨sb, 2, none⟩ = some (.slice S2.o.a MM S2.o.c) := by
                      have h1 := hp.cO
                      rw [show (S2.ll ⟨la, q, lc⟩ vl).o = S2.o from rfl, HP2.out.2.2.1] at h1
                      exact h1
                    clear hm hmn HL0
                    have i1 : (0 : Int) ≤ (q : Int) := Int.natCast_nonneg _
                    by_cases hlt : q < MM
                    · have i2 : (q : Int) < (MM : Int) := by omega
                      obtain ⟨⟨xa, xn, xc⟩, hx⟩ : ∃ x, S2.vo q = x := ⟨_, rfl⟩
                      have hxn : xn ≤ 1000 := by have h1 := HL2.out.1 q hlt; rw [hx] at h1; exact h1
                      have hqN : q < S2.M := by rw [HP2.out.2.1]; exact hlt
                      have HqM : Hid (q < S2.M) := hqN
                      have HG : Hid (PgL B sb w P S2 ⟨la, q, lc⟩ vl 0 ⟨xa, xn, xc⟩ wr) := ⟨hp, by
                        have h1 := Gw.start hp.ok.fo hp.ok.gl (show (S2.ll ⟨la, q, lc⟩ vl).l.n < (S2.ll ⟨la, q, lc⟩ vl).M from hqN)
                        have h2 : (S2.ll ⟨la, q, lc⟩ vl).vo (S2.ll ⟨la, q, lc⟩ vl).l.n = ⟨xa, xn, xc⟩ := hx
                        rw [h2] at h1
                        exact h1, fun j hj => hp.p j (.inr (.inr (.inr (.inr (.inr (.inr (.inl ⟨q, hqN, by show Value.ownBlock (S2.vo q).v = _; rw [hx]; exact hj⟩)))))))⟩
                      obtain ⟨bg, hba, hcq⟩ := row_get hp.ok.ro (i := q) (by show q < S2.o.n; rw [HP2.out.2.2.1]; exact hlt)
                      have cq : wr.cell? ⟨bg, q, none⟩ = some (.slice xa xn xc) := by
                        rw [hcq]
                        show some (S2.vo q).v = _
                        rw [hx]; rfl
                      have hba : S2.o.a = some ⟨bg, 0, none⟩ := hba
                      rw [hba] at c2
                      clear hx hba hcq hp HP hqN
                      go_wp2_with fail
                      go_loopw [16, 17] (fun m k wr => ∃ (r : Nat) (x : Sl), r ≤ 64 ∧ m = .slice x.a x.n x.c ∧ k = .int .i64 (r : Int) ∧ x.n = xn + r ∧ PgL B sb w P S2 ⟨la, q, lc⟩ vl r x wr) (fun _ k _ => 64 - (intOf k).toNat)
                      case atStart => exact ⟨0, ⟨xa, xn, xc⟩, by omega, rfl, rfl, rfl, HG.out⟩
                      case round =>
                        as_aux_lemma =>
                        obtain ⟨r, ⟨ya, yn, yc⟩, hr, rfl, rfl, hyn, hg⟩ := hrel
                        have hyn2 : yn ≤ 1064 := by have h1 : yn = xn + r := hyn; omega
                        have HYn : Hid (yn = xn + r) := hyn
                        have HG2 : Hid (PgL B sb w P S2 ⟨la, q, lc⟩ vl r ⟨ya, yn, yc⟩ wr) := hg
                        clear hyn hg HG c2 cq
                        have j1 : (0 : Int) ≤ (r : Int) := Int.natCast_nonneg _
                        by_cases hlk : r < 64
                        · have j2 : (r : Int) < 64 := by omega
                          go_wp2_with (first
                            | (refine wl_buildZ rfl 43 _ rfl (built_eq (by kernel_rfl) (bFl2 (-1 - (q : Int)) (yn : Int))) ?_)
                            | (refine wl_bsl rfl 39 43 1 _ rfl Try.underlying39 #[.int .i64 (-1 - (q : Int)), .int .i64 (yn : Int), .int .i64 0, .int .i64 0, .slice none 0 0] (bsl_eq (by kernel_rfl) (bsFl (-1 - (q : Int)) (yn : Int) 0 0 none 0 0)) ?_; intro V kv bv sv)
                            | (refine wl_appK rfl _ _ 39 rfl B 43 fi (.agg #[.int .i64 0, .int .i64 0, .int .i64 0, .int .i64 0, .slice none 0 0]) 5 56 Try.underlying39 fih fiz0 fiz1 fiz2 rfl (by omega) (.slice ya yn yc) yn (rv (yn * 5) (Gf q)) rfl (own_still HG2.out.g.o bv) (nb := wr.heap.size) [.int .i64 (-1 - (q : Int)), .int .i64 (yn : Int), .int .i64 0, .int .i64 0, .slice none 0 0] rfl rfl kv (one5 _ _) (by unfold maxLen; omega) (by omega) ((HG2.out.p.still bv).hB HBw.out) ?_; intro a1 c1 Y ho hk he hold; have HQ : Hid (PgL B sb w P S2 ⟨la, q, lc⟩ vl (r + 1) ⟨a1, yn + 1, c1⟩ Y) := pgl_grow HG2.out bv HqM.out ho hk he hold; clear ho hk he hold kv bv sv)
                            | fail)
                          exact ⟨⟨r + 1, ⟨a1, yn + 1, c1⟩, by omega, rfl, by go_num, by show yn + 1 = _; have := HYn.out; omega, HQ.out⟩, by simp [intOf]; omega⟩
                        · obtain rfl : r = 64 := by omega
                          have c3 : wr.cell? ⟨sb, 3, none⟩ = some (.slice la q lc) := HG2.out.p.cL
                          go_wp2_with (first
                            | (refine wl_bsl rfl 62 39 1 _ rfl Try.underlying62 #[.slice ya yn yc] (bsl_eq (by kernel_rfl) (bsFs ya yn yc)) ?_; intro V kv bv sv; have hpV := HG2.out.p.still bv)
                            | (refine app_g rfl _ _ 62 rfl B 39 ti (.slice none 0 0) 1 24 Try.underlying62 tih tiz0 tiz1 tiz2 rfl (by omega) (.slice la q lc) q _ rfl hpV.ok.rl (some ⟨wr.heap.size, 0, none⟩) 1 1 [.slice ya yn yc] rfl (fun h => by cases h) rfl (fun ad had j u hu => by cases had; rw [Addr.add_lit, Nat.zero_add, blk_cell kv]; simpa using hu) (oneV _ rfl) (by unfold maxLen; omega) (by omega) (hpV.hB HBw.out) ?_; intro v1 Y ho hk he; obtain ⟨a1, c1', rfl⟩ := own_sh ho.out; have hbk : Y.heap[sb]? = some (.cells _ 64 (0, 0)) := hk.out.obj hpV.ok.blk (own_sb hpV.ok.rl hpV.ok.blk (by decide)))
                            | (refine wl_stS rfl 62 _ _ rfl (g := sb) (p := 3) rfl rfl hbk (show 3 < 4 from by omega) oneTS rfl ?_; have HQ : Hid (PsL B sb w P S2 (q + 1) (Y.setCell ⟨sb, 3, none⟩ (.slice a1 (q + 1) c1'))) := pgl_done HG2.out bv ho.out hk.out he.out; clear ho hk he hbk hpV kv bv sv; generalize Y.setCell ⟨sb, 3, none⟩ (.slice a1 (q + 1) c1') = Z at *)
                            | fail)
                          exact ⟨⟨q + 1, by omega, by omega, by go_num, HQ.out⟩, by simp [intOf]; omega⟩
                    · obtain rfl : MM = q := by omega
                      go_wp2_with fail
                      (first | go_end0 | ((try simp only [Exit.inBlock, Exit.then]); refine bodyPost_ret (results_none rfl _ _ _) rfl ?_))
                      exact ⟨rfl, S2.ll ⟨la, MM, lc⟩ vl, HP.out, HP2.out.2.2.2.2.2.1, HP2.out.2.2.2.2.2.2.1, HP2.out.2.2.2.2.2.2.2.1, HP2.out.2.2.2.2.2.2.2.2.1, HP2.out.2.2.2.2.2.2.2.2.2.1, HP2.out.2.2.2.2.2.2.2.2.2.2, HP2.out.2.2.1.trans (HP2.out.2.1.symm.trans HP2.out.2.2.2.2.2.2.1), HP2.out.2.1.symm.trans HP2.out.2.2.2.2.2.2.1⟩
end
end Go.Proofs.Ytnhhjelplmdloaa.Et
