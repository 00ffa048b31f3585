import Derived.Test.YtobaooebjgoaiaaV07
namespace Go.Proofs.Ytobaooebjgoaiaa.Hh
open Go.RowKit Go.Maps Mb
set_option linter.unusedVariables false
set_option linter.unusedSimpArgs false
set_option maxRecDepth 100000
section
variable {w w' w1 w2 w3 Z Y V : World} {B T s : Nat} {S S' : St} {hb : Nat} {f f' : Nat → Nat → Nat → Value} {P : Nat → Prop} {R : Nat → Sl} {c n m : Nat} {a a1 : Option Addr} {cc c1 : Nat}
theorem step_appH {ops : Array Oper} {o : Oper} {a : Act} {K : Act → World → Prop} {Q : Exit → Act → World → Prop} {E : Prop} (hgd : o.guard = none) (s x : Operand) (t : TypeId)
  (ho : o.op = .call { callee := .builtin .append, args := #[s, x], argTypes := #[t, t] })
  (base : Nat) (e : TypeId) (i : TypeInfo) (z : Value) (size bytes : Nat) (ht : Try.prog.underlying t = some (.slice e)) (hi : Try.prog.info? e = some i) (hz : i.zero = some z)
  (hsize : i.size = size) (hby : i.bytes = bytes) (hzs : z.cells.size = size) (hsz : 0 < size)
  (v : Value) (n : Nat) (xs : List Value) (hs : a.eval s = v) (hown : w.ownsRow base e size v n xs) {nb : Nat} (news : List Value) (hx : a.eval x = .slice (some ⟨nb, 0, none⟩) 1 1) (hl : news.length = size) (hnb : w.heap[nb]? = some (.cells news.toArray e (0, 0))) (h1 : ∀ u ∈ news, u.oneCell' = true)
  (h63 : n + 1 ≤ maxLen) (hbytes : (n + 1) * bytes ≤ 140737488355328) (hbase : base ≤ w.heap.size)
  (h : ∀ a' c' w', w'.ownsRow base e size (.slice a' (n + 1) c') (n + 1) (xs ++ news) → Kept w w' (fun k => v.ownBlock = some k) → ((Value.slice a' (n + 1) c').ownBlock = v.ownBlock ∨ (Value.slice a' (n + 1) c').ownBlock = some w.heap.size) → K (a.put o.dst (.slice a' (n + 1) c')) w') : if Region.wanted o (yielded ops a.tmps) = true then Oper.wp Try.prog o a w K Q else E := by
 have hwt : Region.wanted o (yielded ops a.tmps) = true := by simp [Region.wanted, hgd]
 rw [if_pos hwt]
 obtain ⟨v', w', hr, h2, h3, h4, h5⟩ := run_append_own_at (P := Try.prog) w base t o.type e i z size bytes ht hi hz hsize hby hzs hsz v n xs hown ⟨nb, 0, none⟩ 1 1 news (by rw [hl]; omega) (fun j u hu => by
  rw [Addr.add_lit, Nat.zero_add, blk_cell hnb]
  simpa using hu) h1 h63 hbytes hbase
 obtain ⟨a', c', rfl⟩ := own_sh h2
 unfold Oper.wp execOp
 simp only [ho, resolve, invoke, builtin, Sem.run_bind, Sem.run_pure, Result.andThen_ok, List.map_toArray, List.map_cons, List.map_nil, hs, hx, hr]
 exact h a' c' w' h2 ((Kept.ofGrown h3).mono fun k _ hk => hk.symm) h5
def St.rr (S : St) (R : Nat → Sl) : St := { S with r := R }
structure PsM (B hb : Nat) (w : World) (P : Nat → Prop) (S : St) (f : Nat → Nat → Nat → Value) (R : Nat → Sl) (Z : World) : Prop where
 ok : (S.rr R).Ok Z B hb f
 k : Kept w Z P
 p : ∀ j, (S.rr R).own hb j → P j ∨ w.heap.size ≤ j
theorem PsM.still (h : PsM B hb w P S f R Z) (hz : Below Z.heap.size Z Y) : PsM B hb w P S f R Y := ⟨h.ok.still hz, h.k.trans (Kept.ofBelow hz _), h.p⟩
theorem PsM.hB (h : PsM B hb w P S f R Z) (hB : B ≤ w.heap.size) : B ≤ Z.heap.size := Nat.le_trans hB h.k.size
theorem PsM.row (h : PsM B hb w P S f R Z) (hc : c < 6) (hR : R c = ⟨a, n, cc⟩) : Z.ownsRow B (Ety c) 1 (.slice a n cc) n (rv n fun i => (S.v c i).v) := by
 have h1 : Z.ownsRow B (Ety c) 1 (R c).v (R c).n (rv (R c).n fun i => (S.v c i).v) := h.ok.row c hc
 rw [hR] at h1
 exact h1
theorem PsM.hbk (h : PsM B hb w P S f R Z) (hc : c < 6) (hR : R c = ⟨a, n, cc⟩) (hk : Kept Z Y (fun j => (Value.slice a n cc).ownBlock = some j)) : Y.heap[hb]? = some (.cells (S.rr R).cs 40 (0, 0)) :=
 hk.obj h.ok.blk (own_hb (h.row hc hR) h.ok.blk (ty_h hc).2)
theorem PsM.addR {x : Value} (h : PsM B hb w P S f R Z) (hc : c < 6) (hR : R c = ⟨a, n, cc⟩) (hv : (S.v c n).v = x) (ho : Y.ownsRow B (Ety c) 1 (.slice a1 (n + 1) c1) (n + 1) (rv n (fun i => (S.v c i).v) ++ [x])) (hk : Kept Z Y (fun j => (Value.slice a n cc).ownBlock = some j)) (he : (Value.slice a1 (n + 1) c1).ownBlock = (Value.slice a n cc).ownBlock ∨ (Value.slice a1 (n + 1) c1).ownBlock = some Z.heap.size) : PsM B hb w P S f (upc R c ⟨a1, n + 1, c1⟩) (Y.setCell ⟨hb, 2 * c, none⟩ (.slice a1 (n + 1) c1)) := by
 have e : (S.rr R).r c = ⟨a, n, cc⟩ := hR
 have t := h.ok.addR (w1 := Y) (m := 1) (a' := a1) (c' := c1) (news := [x]) hc rfl (fun i hi => by
  obtain rfl : i = 0 := by omega
  rw [e, ← hv]
  rfl) (by rw [e]; exact ho) (by rw [e]; exact hk) (by rw [e]; exact he)
 rw [e] at t
 exact ⟨t.ok, h.k.step t.k h.p, fun j hj => (t.p j hj).elim (h.p j) (fun hh => .inr (Nat.le_trans h.k.size hh))⟩
theorem PsM.cell (h : PsM B hb w P S f R Z) {d : Nat} (hd : d < 6) : Z.cell? ⟨hb, 2 * d, none⟩ = some (.slice (R d).a (R d).n (R d).c) := h.ok.cr hd
theorem PsM.start (h : S.Ok w B hb f) : PsM B hb w (S.own hb) S f S.r w := ⟨h, Kept.refl _ _, fun _ hj => .inl hj⟩
set_option maxHeartbeats 16000000 in
theorem msgs_any {M0 m lc : Nat} {la : Option Addr} (h : PsM B hb w P S f R Z) (hB : B ≤ w.heap.size) (hM : (R 5).n = M0) (hM5 : M0 < S.N 5) (hl : S.v 5 M0 = ⟨la, m, lc⟩) (hk : ∀ k, k < m → f 5 M0 (k * 4 + 3) = (S.v 0 ((R 0).n + k)).v) (b0 : (R 0).n + m ≤ 100000000) (b5 : M0 ≤ 100000000) : Calls Try.prog 17 #[.pointer (some ⟨hb, 0, none⟩), .slice la m lc] Z fun e w' => e = .returned (.tuple #[]) ∧ ∃ R', PsM B hb w P S f R' w' ∧ (R' 0).n = (R 0).n + m ∧ (R' 5).n = M0 + 1 ∧ ∀ d, d ≠ 0 → d ≠ 5 → R' d = R d := by
 obtain ⟨l0, l0h, l0z0, l0z1, l0z2⟩ := tL0
 obtain ⟨l5, l5h, l5z0, l5z1, l5z2⟩ := tL5
 obtain ⟨N0, hN0⟩ : ∃ N0, (R 0).n = N0 := ⟨_, rfl⟩
 have HP0 : Hid (PsM B hb w P S f R Z) := h
 have HBw : Hid (B ≤ w.heap.size) := hB
 have HM : Hid (M0 < S.N 5 ∧ S.v 5 M0 = ⟨la, m, lc⟩) := ⟨hM5, hl⟩
 have HMr : Hid ((R 5).n = M0 ∧ (R 0).n = N0) := ⟨hM, hN0⟩
 have Hlk : Hid (∀ k, k < m → f 5 M0 (k * 4 + 3) = (S.v 0 (N0 + k)).v) := by rw [← hN0]; exact hk
 rw [hN0] at b0
 generalize hR0 : R = R0 at *
 clear h hB hM hM5 hl hk hN0 hR0
 go_enter Try.func17, Try.ntmps17
 go_wp2_with fail
 go_loopw [4] (fun i wr => ∃ (k : Nat) (R : Nat → Sl), k ≤ m ∧ i = .int .i64 (k : Int) ∧ PsM B hb w P S f R wr ∧ (R 0).n = N0 + k ∧ ∀ d, d ≠ 0 → R d = R0 d) (fun i _ => m - (intOf i).toNat)
 case atStart => exact ⟨0, R0, Nat.zero_le _, rfl, HP0.out, HMr.out.2, fun _ _ => rfl⟩
 case round =>
  as_aux_lemma =>
  obtain ⟨k, R, hk, rfl, hp, hbn, hRd⟩ := hrel
  have HP : Hid (PsM B hb w P S f R wr) := hp
  have HRd : Hid (∀ d, d ≠ 0 → R d = R0 d) := hRd
  obtain ⟨⟨ba, bn, bc⟩, hR⟩ : ∃ x, R 0 = x := ⟨_, rfl⟩
  have HR : Hid (R 0 = ⟨ba, bn, bc⟩) := hR
  have HBn : Hid (bn = N0 + k) := by rw [hR] at hbn; exact hbn
  have hbn2 : bn ≤ 100000000 := by have h1 : bn = _ := HBn.out; omega
  clear hRd hR hbn HP0
  have i1 : (0 : Int) ≤ (k : Int) := Int.natCast_nonneg _
  by_cases hlt : k < m
  ·have i2 : (k : Int) < (m : Int) := by omega
   have hfo := (hp.ok.fam 5 (by omega)).o M0 HM.out.1
   have hfo2 : wr.ownsRow B (Ty 5) (Sz 5) (S.v 5 M0).v (S.v 5 M0).n (rv ((S.v 5 M0).n * Sz 5) (f 5 M0)) := hfo
   rw [HM.out.2] at hfo2
   obtain ⟨lg, hla, ⟨C, hC, hCs⟩, hcell⟩ := row_getF (y := ⟨la, m, lc⟩) hfo2 hlt (sz_pos 5)
   have hla : la = some ⟨lg, 0, none⟩ := hla
   subst hla
   obtain ⟨⟨xa, xn, xc⟩, hx⟩ : ∃ x, S.v 0 bn = x := ⟨_, rfl⟩
   have Hx : Hid ((S.v 0 bn).v = .slice xa xn xc) := by rw [hx]; exact rfl
   have HCx : Hid (wr.cell? ⟨lg, k * 4 + 3, none⟩ = some (.slice xa xn xc)) := by
    have h1 : wr.cell? ⟨lg, k * 4 + 3, none⟩ = some (f 5 M0 (k * 4 + 3)) := hcell 3 (by decide)
    rw [Hlk.out k hlt, ← HBn.out, hx] at h1
    exact h1
   have HFn : Hid (∀ X, Below wr.drew.heap.size wr.drew X → PsM B hb w P S f R X → ¬ (Value.slice ba bn bc).ownBlock = some lg ∧ ¬ lg = hb) := fun X hX hp => by
    have h1 : X.heap[lg]? = some (.cells C 97 (0, 0)) := blk_up hX (blk_up (drew_bel wr) hC)
    refine ⟨fun e => ?_, fun e => ?_⟩
    ·obtain ⟨cur, h2⟩ := row_ty (hp.row (by omega) HR.out) e
     rw [h1] at h2
     simp at h2
     exact absurd h2.2 (by decide)
    ·subst e
     rw [hp.ok.blk] at h1
     simp at h1
   have c0 : wr.cell? ⟨hb, 0, none⟩ = some (.slice ba bn bc) := by have h1 := hp.cell (d := 0) (by omega); rwa [HR.out] at h1
   clear hfo hfo2 hC hCs hcell hx hp
   go_upto_region 3 with fail
   refine wp_region_held_drew (S := (fun w' => w'.cell? ⟨lg, k * 4 + 3, none⟩ = some (.slice xa xn xc))) (by kernel_rfl) (below_at (drew_bel _) HCx.out) (fun hHeld => ?_)
   simp only [Act.put, List.size_toArray, List.length_cons, List.length_nil, Nat.zero_add]
   refine tG9 0 11 (.pointer (some ⟨hb, 0, none⟩)) rfl hHeld ?_
   simp only [Act.put,sA9,sZ9,sC9]
   refine tG9 1 12 (.pointer (some ⟨hb, 0, none⟩)) rfl hHeld ?_
   simp only [Act.put,sA9,sZ9,sC9]
   refine tG9 2 13 (.pointer (some ⟨hb, 0, none⟩)) rfl hHeld ?_
   simp only [Act.put,sA9,sZ9,sC9]
   refine tG9 3 14 (.pointer (some ⟨hb, 0, none⟩)) rfl hHeld ?_
   simp only [Act.put,sA9,sZ9,sC9]
   refine tG9 5 16 (.slice (some ⟨lg, 0, none⟩) m lc) rfl hHeld ?_
   simp only [Act.put,sA9,sZ9,sC9]
   refine tG9 6 17 (.int .i64 (k : Int)) rfl hHeld ?_
   simp only [Act.put,sA9,sZ9,sC9]
   refine tG9 7 18 (.pointer (some ⟨lg, k * 4, none⟩)) rfl hHeld ?_
   simp only [Act.put,sA9,sZ9,sC9]
   refine tG9 8 19 (.pointer (some ⟨lg, k * 4 + 3, none⟩)) rfl hHeld ?_
   simp only [Act.put,sA9,sZ9,sC9]
   refine tX9 9 20 (.slice xa xn xc) rfl (Or.inl ⟨by rfl, fun w' hS => by (obtain s0 := hS; go_simp)⟩) hHeld ?_
   simp only [Act.put,sA9,sZ9,sC9]
   have hbD2 : Below wr.heap.size wr wr.drew := drew_bel _
   have q0 := below_at hbD2 HCx.out
   have iq0 := below_at hbD2 c0
   generalize wr.drew = D2 at *
   refine wpAnyH_ready (rs := [4, 10]) (by kernel_rfl) (by simp) ?_
   refine AllReadyH.cons rfl (fun K hK => ?_) (AllReadyH.cons rfl (fun K hK => ?_) AllReadyH.nil)
   ·have zim := iq0
    go_simp
    clear zim
    refine hK.out _ _ q0 (fun hHeld => ?_)
    clear hK K
    refine wpAnyH_ready (rs := [10]) (by kernel_rfl) (by simp) ?_
    refine AllReadyH.cons rfl (fun K hK => ?_) AllReadyH.nil
    refine step_bsl rfl 33 92 1 _ rfl Try.underlying33 #[.slice xa xn xc] (bsl_eq (by kernel_rfl) (bsL0 xa xn xc)) ?_
    intro V kv bv sv
    refine hK.out _ _ (below_at bv q0) (fun hHeld => ?_)
    clear hK K
    try (simp only [Act.put,gA9,gZ9,gC9,sA9,sZ9,sC9])
    refine wpAnyH_ready (rs := [11]) (by kernel_rfl) (by simp) ?_
    refine AllReadyH.cons rfl (fun K hK => ?_) AllReadyH.nil
    have hpV := (HP.out.still hbD2).still bv
    refine step_appH rfl _ _ 33 rfl B 92 l0 (.slice none 0 0) 1 24 Try.underlying33 l0h l0z0 l0z1 l0z2 rfl (by omega) (.slice ba bn bc) bn _ rfl (hpV.row (by omega) HR.out) (nb := D2.heap.size) [.slice xa xn xc] rfl rfl kv (oneV _ rfl) (by unfold maxLen; omega) (by omega) (hpV.hB HBw.out) ?_
    intro a1 c1 Y ho hk he
    have hbk := hpV.hbk (by omega) HR.out hk
    have cfg : Y.cell? ⟨lg, k * 4 + 3, none⟩ = some (.slice xa xn xc) := kcell0 hk (below_at bv q0) (HFn.out V bv hpV).1
    refine hK.out _ _ cfg (fun hHeld => ?_)
    clear hK K
    try (simp only [Act.put,gA9,gZ9,gC9,sA9,sZ9,sC9])
    refine tG9 12 23 (.pointer (some ⟨hb, 0, none⟩)) rfl hHeld ?_
    simp only [Act.put,sA9,sZ9,sC9]
    refine tG9 13 24 (.pointer (some ⟨hb, 0, none⟩)) rfl hHeld ?_
    simp only [Act.put,sA9,sZ9,sC9]
    refine wpAnyH_ready (rs := [14]) (by kernel_rfl) (by simp) ?_
    refine AllReadyH.cons rfl (fun K hK => ?_) AllReadyH.nil
    refine step_stS rfl 33 _ _ rfl (g := hb) (p := 0) rfl rfl hbk (show 0 < 16 from by omega) oL0 rfl ?_
    refine hK.out _ _ (kcell0 (kset (P := fun j => j = hb) Y hb 0 (.slice a1 (bn + 1) c1) rfl) cfg (HFn.out V bv hpV).2) (fun hHeld => ?_)
    clear hK K
    refine wpAnyH_done (by kernel_rfl) ?_ _
    clear hHeld
    have HQ : Hid (PsM B hb w P S f (upc R 0 ⟨a1, bn + 1, c1⟩) (Y.setCell ⟨hb, 0, none⟩ (.slice a1 (bn + 1) c1))) := hpV.addR (by omega) HR.out Hx.out ho hk he
    clear hbk ho hk he cfg kv bv sv hpV hbD2 q0 iq0 
    generalize Y.setCell ⟨hb, 0, none⟩ (.slice a1 (bn + 1) c1) = Z at *
    go_wp2_with (fail)
    exact ⟨⟨k + 1, _, by omega, by go_num, HQ.out, by rw [upc_at]; show bn + 1 = _; have := HBn.out; omega, fun d hd => by rw [upc_ne _ _ hd]; exact HRd.out d hd⟩, by simp [intOf]; omega⟩
   ·refine step_bsl rfl 33 92 1 _ rfl Try.underlying33 #[.slice xa xn xc] (bsl_eq (by kernel_rfl) (bsL0 xa xn xc)) ?_
    intro V kv bv sv
    refine hK.out _ _ (below_at bv q0) (fun hHeld => ?_)
    clear hK K
    try (simp only [Act.put,gA9,gZ9,gC9,sA9,sZ9,sC9])
    refine wpAnyH_ready (rs := [4]) (by kernel_rfl) (by simp) ?_
    refine AllReadyH.cons rfl (fun K hK => ?_) AllReadyH.nil
    have zim := (below_at bv iq0)
    go_simp
    clear zim
    refine hK.out _ _ (below_at bv q0) (fun hHeld => ?_)
    clear hK K
    refine wpAnyH_ready (rs := [11]) (by kernel_rfl) (by simp) ?_
    refine AllReadyH.cons rfl (fun K hK => ?_) AllReadyH.nil
    have hpV := (HP.out.still hbD2).still bv
    refine step_appH rfl _ _ 33 rfl B 92 l0 (.slice none 0 0) 1 24 Try.underlying33 l0h l0z0 l0z1 l0z2 rfl (by omega) (.slice ba bn bc) bn _ rfl (hpV.row (by omega) HR.out) (nb := D2.heap.size) [.slice xa xn xc] rfl rfl kv (oneV _ rfl) (by unfold maxLen; omega) (by omega) (hpV.hB HBw.out) ?_
    intro a1 c1 Y ho hk he
    have hbk := hpV.hbk (by omega) HR.out hk
    have cfg : Y.cell? ⟨lg, k * 4 + 3, none⟩ = some (.slice xa xn xc) := kcell0 hk (below_at bv q0) (HFn.out V bv hpV).1
    refine hK.out _ _ cfg (fun hHeld => ?_)
    clear hK K
    try (simp only [Act.put,gA9,gZ9,gC9,sA9,sZ9,sC9])
    refine tG9 12 23 (.pointer (some ⟨hb, 0, none⟩)) rfl hHeld ?_
    simp only [Act.put,sA9,sZ9,sC9]
    refine tG9 13 24 (.pointer (some ⟨hb, 0, none⟩)) rfl hHeld ?_
    simp only [Act.put,sA9,sZ9,sC9]
    refine wpAnyH_ready (rs := [14]) (by kernel_rfl) (by simp) ?_
    refine AllReadyH.cons rfl (fun K hK => ?_) AllReadyH.nil
    refine step_stS rfl 33 _ _ rfl (g := hb) (p := 0) rfl rfl hbk (show 0 < 16 from by omega) oL0 rfl ?_
    refine hK.out _ _ (kcell0 (kset (P := fun j => j = hb) Y hb 0 (.slice a1 (bn + 1) c1) rfl) cfg (HFn.out V bv hpV).2) (fun hHeld => ?_)
    clear hK K
    refine wpAnyH_done (by kernel_rfl) ?_ _
    clear hHeld
    have HQ : Hid (PsM B hb w P S f (upc R 0 ⟨a1, bn + 1, c1⟩) (Y.setCell ⟨hb, 0, none⟩ (.slice a1 (bn + 1) c1))) := hpV.addR (by omega) HR.out Hx.out ho hk he
    clear hbk ho hk he cfg kv bv sv hpV hbD2 q0 iq0 
    generalize Y.setCell ⟨hb, 0, none⟩ (.slice a1 (bn + 1) c1) = Z at *
    go_wp2_with (fail)
    exact ⟨⟨k + 1, _, by omega, by go_num, HQ.out, by rw [upc_at]; show bn + 1 = _; have := HBn.out; omega, fun d hd => by rw [upc_ne _ _ hd]; exact HRd.out d hd⟩, by simp [intOf]; omega⟩
  ·obtain rfl : k = m := by omega
   obtain ⟨⟨ma, mn, mc⟩, hR5⟩ : ∃ x, R 5 = x := ⟨_, rfl⟩
   obtain rfl : M0 = mn := by have h1 := HMr.out.1; rw [← HRd.out 5 (by omega), hR5] at h1; exact h1.symm
   have HR5 : Hid (R 5 = ⟨ma, M0, mc⟩) := hR5
   have c10 : wr.cell? ⟨hb, 10, none⟩ = some (.slice ma M0 mc) := by have h1 := hp.cell (d := 5) (by omega); rwa [hR5] at h1
   have Hx : Hid ((S.v 5 M0).v = .slice la k lc) := by rw [HM.out.2]; exact rfl
   clear hp hR5 hlt hk
   go_wp2_with (first
    | (refine wl_bsl rfl 38 60 1 _ rfl Try.underlying38 #[.slice la k lc] (bsl_eq (by kernel_rfl) (bsL5 la k lc)) ?_; intro V kv bv sv; have hpV := HP.out.still bv)
    | (refine app_g rfl _ _ 38 rfl B 60 l5 (.slice none 0 0) 1 24 Try.underlying38 l5h l5z0 l5z1 l5z2 rfl (by omega) (.slice ma M0 mc) M0 _ rfl (hpV.row (by omega) HR5.out) (some ⟨wr.heap.size, 0, none⟩) 1 1 [.slice la k lc] rfl (fun h => by cases h) rfl (fun ad had j u hu => by cases had; rw [Addr.add_lit, Nat.zero_add, blk_cell kv]; simpa using hu) (oneV _ rfl) (by unfold maxLen; omega) (by omega) (hpV.hB HBw.out) ?_; intro v1 Y ho hk he; obtain ⟨a1, c1', rfl⟩ := own_sh ho.out; have hbk := hpV.hbk (by omega) HR5.out hk.out)
    | (refine wl_stS rfl 38 _ _ rfl (g := hb) (p := 10) rfl rfl hbk (show 10 < 16 from by omega) oL5 rfl ?_; have HQ : Hid (PsM B hb w P S f (upc R 5 ⟨a1, M0 + 1, c1'⟩) (Y.setCell ⟨hb, 10, none⟩ (.slice a1 (M0 + 1) c1'))) := hpV.addR (by omega) HR5.out Hx.out ho.out hk.out he.out; clear ho hk he hbk hpV kv bv sv; generalize Y.setCell ⟨hb, 10, none⟩ (.slice a1 (M0 + 1) c1') = Z2 at *)
    | fail)
   (first | go_end0 | ((try simp only [Exit.inBlock, Exit.then]); refine bodyPost_ret (results_none rfl _ _ _) rfl ?_))
   refine ⟨rfl, _, HQ.out, ?_, ?_, fun d hd0 hd5 => ?_⟩
   ·rw [upc_ne _ _ (by omega), HR.out]; have h1 := HMr.out.2; have h2 : bn = _ := HBn.out; show bn = _; omega
   ·rw [upc_at]
   ·rw [upc_ne _ _ hd5]; exact HRd.out d hd0
end
end Go.Proofs.Ytobaooebjgoaiaa.Hh
namespace Go.Proofs.Ytobaooebjgoaiaa.Hh
open Go.RowKit Go.Maps Mb
set_option linter.unusedVariables false
set_option linter.unusedSimpArgs false
set_option maxRecDepth 100000
section
variable {w w' w1 w2 w3 Z Y V : World} {B T s : Nat} {S S' : St} {hb : Nat} {f f' : Nat → Nat → Nat → Value} {P : Nat → Prop} {c : Nat}
def St.ext (S : St) (c : Nat) (x : Sl) : St := { S with N := upc S.N c (S.N c + 1), v := upc S.v c (updS (S.v c) (S.N c) x) }
def updG (f : Nat → Nat → Value) (n : Nat) (g : Nat → Value) : Nat → Nat → Value := fun i => if i = n then g else f i
theorem updG_at (f : Nat → Nat → Value) (n : Nat) (g : Nat → Value) : updG f n g n = g := by simp [updG]
theorem updG_ne (f : Nat → Nat → Value) {n i : Nat} (g : Nat → Value) (h : i ≠ n) : updG f n g i = f i := by simp [updG, h]
theorem St.Ok.ext {x : Sl} {g : Nat → Value} (h : S.Ok w B hb f) (hc : c < 6) (hq : (S.q c).n = 0) (hr : (S.r c).n ≤ S.N c) (ho : w.ownsRow B (Ty c) (Sz c) x.v x.n (rv (x.n * Sz c) g)) (hd : ∀ j, x.v.ownBlock = some j → ¬ S.own hb j) : (S.ext c x).Ok w B hb (upc f c (updG (f c) (S.N c) g)) := by
 refine ⟨h.blk, h.ge, fun d hd2 => ?_, h.mor, h.rq, fun d hd2 => ?_, fun d hd2 => ?_⟩
 ·show w.ownsRow B (Ety d) 1 (S.r d).v (S.r d).n (rv (S.r d).n fun i => (upc S.v c (updS (S.v c) (S.N c) x) d i).v)
  by_cases e : d = c
  ·subst e
   rw [upc_at, rv_congr (g := fun i => (S.v d i).v) fun i hi => by show (updS (S.v d) (S.N d) x i).v = _; rw [updS_ne _ _ (by omega)]]
   exact h.row d hd2
  ·rw [upc_ne _ _ e]
   exact h.row d hd2
 ·show Fm B (Ty d) (Sz d) w (upc S.N c (S.N c + 1) d) (upc S.v c (updS (S.v c) (S.N c) x) d) (upc f c (updG (f c) (S.N c) g) d)
  by_cases e : d = c
  ·subst e
   rw [upc_at, upc_at, upc_at]
   have hf := h.fam d hd2
   refine ⟨fun i hi => ?_, fun i j hi hj hij q e1 e2 => ?_⟩
   ·by_cases e : i = S.N d
    ·subst e
     rw [updS_same, updG_at]
     exact ho
    ·rw [updS_ne _ _ e, updG_ne _ _ e]
     exact hf.o i (by omega)
   ·by_cases e3 : i = S.N d
    ·rw [e3, updS_same] at e1
     rw [updS_ne _ _ (by omega)] at e2
     exact hd q e1 (.inr ⟨d, hd2, .inr (.inr (.inl ⟨j, by omega, e2⟩))⟩)
    ·rw [updS_ne _ _ e3] at e1
     by_cases e4 : j = S.N d
     ·rw [e4, updS_same] at e2
      exact hd q e2 (.inr ⟨d, hd2, .inr (.inr (.inl ⟨i, by omega, e1⟩))⟩)
     ·rw [updS_ne _ _ e4] at e2
      exact hf.d i j (by omega) (by omega) hij q e1 e2
  ·rw [upc_ne _ _ e, upc_ne _ _ e, upc_ne _ _ e]
   exact h.fam d hd2
 ·show Gr B (Ty d) (Sz d) w (upc S.N c (S.N c + 1) d) (upc S.v c (updS (S.v c) (S.N c) x) d) (S.q d).n (S.u d) (G d)
  by_cases e : d = c
  ·subst e
   refine ⟨fun i hi => ?_, fun i hi => ?_, fun i j hi => ?_⟩ <;> (rw [hq] at hi; exact absurd hi (Nat.not_lt_zero i))
  ·rw [upc_ne _ _ e, upc_ne _ _ e]
   exact h.gro d hd2
theorem St.own_ext {x : Sl} {j : Nat} (hj : (S.ext c x).own hb j) : S.own hb j ∨ x.v.ownBlock = some j := by
 rcases hj with hj | ⟨d, hd, hj | hj | ⟨i, hi, hj⟩ | hj⟩
 ·exact .inl (.inl hj)
 ·exact .inl (.inr ⟨d, hd, .inl hj⟩)
 ·exact .inl (.inr ⟨d, hd, .inr (.inl hj)⟩)
 ·have hi2 : i < upc S.N c (S.N c + 1) d := hi
  have hj2 : (upc S.v c (updS (S.v c) (S.N c) x) d i).v.ownBlock = some j := hj
  clear hi hj
  by_cases e : d = c
  ·subst e
   rw [upc_at] at hi2 hj2
   by_cases e2 : i = S.N d
   ·subst e2
    rw [updS_same] at hj2
    exact .inr hj2
   ·rw [updS_ne _ _ e2] at hj2
    exact .inl (.inr ⟨d, hd, .inr (.inr (.inl ⟨i, by omega, hj2⟩))⟩)
  ·rw [upc_ne _ _ e] at hi2 hj2
   exact .inl (.inr ⟨d, hd, .inr (.inr (.inl ⟨i, hi2, hj2⟩))⟩)
 ·exact .inl (.inr ⟨d, hd, .inr (.inr (.inr hj))⟩)
structure Ex (S S' : St) (hb c : Nat) (L : List Sl) (f f' : Nat → Nat → Nat → Value) : Prop where
 e : S'.r = S.r ∧ S'.q = S.q ∧ S'.u = S.u ∧ S'.z = S.z
 N : S'.N = upc S.N c (S.N c + L.length)
 vv : ∀ d, d ≠ c → S'.v d = S.v d
 lo : ∀ i, i < S.N c → S'.v c i = S.v c i
 hi : ∀ i, i < L.length → L[i]? = some (S'.v c (S.N c + i))
 ff : ∀ d, d ≠ c → f' d = f d
 fo : ∀ i, i < S.N c → f' c i = f c i
 own : ∀ j, S'.own hb j → S.own hb j ∨ ∃ x ∈ L, x.v.ownBlock = some j
theorem St.Ok.exts (hc : c < 6) : ∀ (L : List Sl) (S : St) (f : Nat → Nat → Nat → Value), S.Ok w B hb f → (S.q c).n = 0 → (S.r c).n ≤ S.N c → (∀ x ∈ L, ∃ g, w.ownsRow B (Ty c) (Sz c) x.v x.n (rv (x.n * Sz c) g)) → (∀ x ∈ L, ∀ j, x.v.ownBlock = some j → ¬ S.own hb j) → L.Pairwise (fun x y => ∀ j, x.v.ownBlock = some j → y.v.ownBlock ≠ some j) → ∃ S' f', S'.Ok w B hb f' ∧ Ex S S' hb c L f f'
 | [], S, f, h, hq, hr, ho, hd, hp => ⟨S, f, h, ⟨rfl, rfl, rfl, rfl⟩, by funext d; unfold upc; split <;> simp_all, fun _ _ => rfl, fun _ _ => rfl, fun i hi => absurd hi (Nat.not_lt_zero i), fun _ _ => rfl, fun _ _ => rfl, fun j hj => .inl hj⟩
 | x :: L, S, f, h, hq, hr, ho, hd, hp => by
  obtain ⟨g, hg⟩ := ho x (List.mem_cons_self ..)
  have h1 := h.ext hc hq hr hg (hd x (List.mem_cons_self ..))
  rw [List.pairwise_cons] at hp
  have eN : (S.ext c x).N c = S.N c + 1 := upc_at _ _ _
  obtain ⟨S', f', h2, e⟩ := St.Ok.exts hc L (S.ext c x) _ h1 hq (by rw [eN]; show (S.r c).n ≤ _; omega) (fun y hy => ho y (List.mem_cons_of_mem _ hy)) (fun y hy j hj hj2 => by
   rcases St.own_ext hj2 with h3 | h3
   ·exact hd y (List.mem_cons_of_mem _ hy) j hj h3
   ·exact hp.1 y hy j h3 hj) hp.2
  refine ⟨S', f', h2, ⟨e.e, ?_, fun d hdc => ?_, fun i hi => ?_, fun i hi => ?_, fun d hdc => ?_, fun i hi => ?_, fun j hj => ?_⟩⟩
  ·rw [e.N]
   funext d
   show upc (upc S.N c (S.N c + 1)) c (upc S.N c (S.N c + 1) c + L.length) d = _
   by_cases e1 : d = c
   ·subst e1; rw [upc_at, upc_at, upc_at, List.length_cons]; omega
   ·rw [upc_ne _ _ e1, upc_ne _ _ e1, upc_ne _ _ e1]
  ·rw [e.vv d hdc]
   show upc S.v c (updS (S.v c) (S.N c) x) d = _
   rw [upc_ne _ _ hdc]
  ·rw [e.lo i (by rw [eN]; omega)]
   show upc S.v c (updS (S.v c) (S.N c) x) c i = _
   rw [upc_at, updS_ne _ _ (by omega)]
  ·match i, hi with
   | 0, _ =>
    rw [Nat.add_zero, e.lo (S.N c) (by rw [eN]; omega)]
    show some x = some (upc S.v c (updS (S.v c) (S.N c) x) c (S.N c))
    rw [upc_at, updS_same]
   | i + 1, hi =>
    have h3 := e.hi i (by simp at hi; omega)
    rw [eN] at h3
    rw [show S.N c + (i + 1) = S.N c + 1 + i by omega, ← h3]
    rfl
  ·rw [e.ff d hdc, upc_ne _ _ hdc]
  ·rw [e.fo i (by rw [eN]; omega), upc_at, updG_ne _ _ (by omega)]
  ·rcases e.own j hj with h3 | ⟨y, hy, h3⟩
   ·rcases St.own_ext h3 with h4 | h4
    ·exact .inl h4
    ·exact .inr ⟨x, List.mem_cons_self .., h4⟩
   ·exact .inr ⟨y, List.mem_cons_of_mem _ hy, h3⟩
end
end Go.Proofs.Ytobaooebjgoaiaa.Hh
