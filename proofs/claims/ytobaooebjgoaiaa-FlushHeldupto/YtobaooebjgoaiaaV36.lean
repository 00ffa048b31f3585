import Derived.Test.YtobaooebjgoaiaaV35
namespace Go.Proofs.Ytobaooebjgoaiaa.Hh
open Go.RowKit Go.Maps Mb
set_option linter.unusedVariables false
set_option linter.unusedSimpArgs false
set_option maxRecDepth 100000
open Go.Proofs.Ytobaooebjgoaiaa.Fm
section
variable {w w' w1 w2 w3 Z Y V : World} {B T s : Nat} {lb : Nat} {P : Nat → Prop}
theorem TyP.obj {P Q : Nat → Prop} (h : TyP w P Q) {k t : Nat} {C : Array Value} (hk : w.heap[k]? = some (.cells C t (0, 0))) (hq : ¬ Q t) : ¬ P k := fun hp => by
 obtain ⟨cur, t2, h1, h2⟩ := h k hp
 rw [hk] at h2
 simp at h2
 exact hq (h2.2 ▸ h1)
section
variable {L L' : Lt} {ds xs : List Dx} {j j1 : Nat}
theorem Dz.offB {k : Nat} {C : Array Value} (h : Dz B lb L w ds L' xs j j1 Z) (hL : L.Ok w B lb) (hc : Z.heap[k]? = some (.cells C 95 (0, 0))) (hge : w.heap.size ≤ k) : ¬ L'.own lb k := fun hp => by
 rcases hp with rfl | ⟨c, h3, h4 | ⟨i, hi, h4⟩⟩
 ·have h5 := h.ok.blk
  rw [hc] at h5
  simp at h5
 ·obtain ⟨c2, h5⟩ := row_ty (h.ok.row c h3) h4
  rw [hc] at h5
  simp at h5
  have e : c = 0 ∨ c = 1 ∨ c = 2 := by omega
  rcases e with rfl | rfl | rfl <;> exact absurd h5.2 (by decide)
 ·have e : c = 0 ∨ c = 1 ∨ c = 2 := by omega
  rcases e with rfl | rfl | rfl
  ·obtain ⟨m, f, _, _, h6, _⟩ := (h.ok.fam 0 h3 i hi).out
   obtain ⟨c2, h5⟩ := row_ty h6 h4
   rw [hc] at h5
   simp at h5
   exact absurd h5.2 (by decide)
  ·obtain ⟨m, f, _, _, h6, _⟩ := (h.ok.fam 1 h3 i hi).out
   obtain ⟨c2, h5⟩ := row_ty h6 h4
   rw [hc] at h5
   simp at h5
   exact absurd h5.2 (by decide)
  ·rw [h.v2] at h4
   rw [h.r2] at hi
   have := (hL.lt (.inr ⟨2, h3, .inr ⟨i, hi, h4⟩⟩)).1
   omega
theorem Dz.growB {k : Nat} {C : Array Value} (h : Dz B lb L w ds L' xs j j1 Z) (hL : L.Ok w B lb) (hc : Z.heap[k]? = some (.cells C 95 (0, 0))) (hge : w.heap.size ≤ k) (hk : Kept Z Y (fun i => i = k)) : Dz B lb L w ds L' xs j j1 Y :=
 { h with ok := h.ok.keep hk (fun i hp e => h.offB hL hc hge (e ▸ hp)), k := h.k.step hk (fun i e => .inr (e ▸ hge)), el := fun i hi => hk.owns (h.el i hi) (fun q hq e => by
   subst e
   obtain ⟨c2, h5⟩ := row_ty (h.el i hi) hq
   rw [hc] at h5
   simp at h5) }
end
theorem Lt.Ok.keptT {L : Lt} {c n cc : Nat} {a : Option Addr} {v : Value} (h : L.Ok V B lb) (hc : c < 3) (hR : L.r c = ⟨a, n, cc⟩) (hk : Kept V Y (fun k => (Value.slice a n cc).ownBlock = some k)) : ∃ P, Kept V (Y.setCell ⟨lb, LPos c, none⟩ v) P ∧ TyP V P (fun x => x = LEt c ∨ x = 48) := by
 have hr := h.row' hc hR
 refine ⟨fun k => (Value.slice a n cc).ownBlock = some k ∨ k = lb, (hk.mono fun _ _ h => .inl h).trans (kset Y lb _ _ (.inr rfl)), fun k hk => ?_⟩
 rcases hk with hk | rfl
 ·obtain ⟨cur, h1⟩ := row_ty hr hk
  exact ⟨cur, _, .inl rfl, h1⟩
 ·exact ⟨_, _, .inr rfl, h.blk⟩
theorem row_ds {a : Option Addr} {c base : Nat} {xs : List Dx} (h : w.ownsRow base 95 4 (.slice a (xs.length + 64) c) (xs.length + 64) (msC xs ++ td 64)) : Row w a xs.length 4 (dxC xs) := by
 rcases h.2 with ⟨h1, h2⟩ | ⟨g, cap, cur, hv, _⟩
 ·omega
 ·simp only [Value.slice.injEq] at hv
  obtain ⟨rfl, -, rfl⟩ := hv
  refine .inr ⟨g, 0, rfl, fun i hi => ?_⟩
  rw [Nat.zero_add, World.ownsRow.cellAt h i (by omega), List.getElem?_append_left (by rw [msC_len]; exact hi), msC_at xs i hi]
structure LdO (B lb : Nat) (L : Lt) (w : World) (ds : List Dx) (n : Nat) (a : Option Addr) (xs : List Dx) (L' : Lt) (w' : World) : Prop where
 len : xs.length = n
 al : Al xs ds
 nil : ∀ i, i < n → (xs.getD i dx0).ba ≠ none
 rd : RdDs w' a xs
 ok : L'.Ok w' B lb
 r0 : L'.r 0 = L.r 0
 r1 : (L'.r 1).n = (L.r 1).n + n
 r2 : (L'.r 2).n = (L.r 2).n + 1
 k : Kept w w' (L.own lb)
 own : ∀ k, L'.own lb k → L.own lb k ∨ w.heap.size ≤ k
set_option maxHeartbeats 16000000 in
theorem ldatas_any {L : Lt} {w0 : World} {ao : Option Addr} {cp n : Nat} {ds : List Dx} (h : L.Ok w B lb) (h0 : w0.heap.size ≤ B) (hw0 : Below w0.heap.size w0 w) (hd : RdDs w0 ao ds) (hln : ds.length = n) (hn : n ≤ 1048576) (hdz : ∀ i, i < ds.length → ((ds.getD i dx0).ba = none → (ds.getD i dx0).bs.length = 0 ∧ (ds.getD i dx0).bc = 0) ∧ (ds.getD i dx0).bs.length ≤ 1048576) (hB : B ≤ w.heap.size) (hrn : ∀ c, c < 3 → (L.r c).n ≤ 50000000) : Calls Try.prog 13 #[.pointer (some ⟨lb, 0, none⟩), .slice ao n cp] w fun e w' => ∃ a c, e = .returned (.slice a n c) ∧ n ≤ c ∧ c ≤ 9223372036854775807 ∧ ∃ L' xs, LdO B lb L w ds n a xs L' w' := by
 obtain ⟨e0, z0, e0h, e0z0, e0z1, e0z2, e0z3⟩ := tE0
 obtain ⟨e4, z4, e4h, e4z0, e4z1, e4z2, e4z3⟩ := tE4
 obtain ⟨l0, l0h, l0z0, l0z1, l0z2⟩ := tL0
 obtain ⟨l4, l4h, l4z0, l4z1, l4z2⟩ := tL4
 have HD : Hid (∀ X, Kept w X (L.own lb) → RdDs X ao ds) := fun X hX => hd.still (hw0.trans (hX.below hw0.size (fun k hk hp => by have := (h.lt hp).2; omega)))
 have HDz : Hid (∀ i, i < n → ((ds.getD i dx0).ba = none → (ds.getD i dx0).bs.length = 0 ∧ (ds.getD i dx0).bc = 0) ∧ (ds.getD i dx0).bs.length ≤ 1048576) := by rw [← hln]; exact hdz
 have HLe : Hid (ds.length = n) := hln
 have HOk : Hid (L.Ok w B lb) := h
 have HBw : Hid (B ≤ w.heap.size) := hB
 have HRn : Hid (∀ c, c < 3 → (L.r c).n ≤ 50000000) := hrn
 have Q0 : Hid (Dz B lb L w ds L [] 0 0 w ∧ w.ownsRow w.heap.size 95 4 (.slice none 0 0) 0 (msC [])) := ⟨⟨h, rfl, rfl, rfl, rfl, fun _ hk => .inl hk, Kept.refl _ _, rfl, fun i hi => absurd hi (Nat.not_lt_zero i), fun i hi => absurd hi (Nat.not_lt_zero i)⟩, rfl, .inl ⟨rfl, rfl⟩⟩
 clear h h0 hw0 hd hln hdz hB hrn
 go_enter Try.func13, Try.ntmps13
 go_wp2_with fail
 go_loopw [5, 6] (fun ov iv wr => ∃ (j : Nat) (L' : Lt) (xs : List Dx), j ≤ n ∧ iv = .int .i64 (j : Int) ∧ Dz B lb L w ds L' xs j j wr ∧ wr.ownsRow w.heap.size 95 4 ov j (msC xs)) (fun _ iv _ => n - (intOf iv).toNat)
 case atStart => exact ⟨0, L, [], Nat.zero_le _, rfl, Q0.out.1, Q0.out.2⟩
 case round =>
  as_aux_lemma =>
  obtain ⟨j, L', xs, hj, rfl, hq, hro⟩ := hrel
  have HQ : Hid (Dz B lb L w ds L' xs j j wr) := hq
  have HRow : Hid (wr.ownsRow w.heap.size 95 4 u5 j (msC xs)) := hro
  clear hq hro Q0
  have i1 : (0 : Int) ≤ (j : Int) := Int.natCast_nonneg _
  by_cases hlt : j < n
  ·have i2 : (j : Int) < (n : Int) := by omega
   obtain ⟨b, off, rfl, hcc⟩ := (HD.out wr HQ.out.k).at (i := j) (by rw [HLe.out]; exact hlt)
   have HCC : Hid (∀ X, Kept w X (L.own lb) → X.rangeAt b (off + j * 4) (ds.getD j dx0).cs) := fun X hX => by
    obtain ⟨b2, off2, e, h2⟩ := (HD.out X hX).at (i := j) (by rw [HLe.out]; exact hlt)
    cases e
    exact h2
   have HC : Hid (wr.rangeAt b (off + j * 4) (ds.getD j dx0).cs) := hcc
   have HRb : Hid (RdB wr (ds.getD j dx0).ba (ds.getD j dx0).bs) := ((HD.out wr HQ.out.k).el j (by rw [HLe.out]; exact hlt)).b
   have HZ2 : Hid (((ds.getD j dx0).ba = none → (ds.getD j dx0).bs.length = 0 ∧ (ds.getD j dx0).bc = 0) ∧ (ds.getD j dx0).bs.length ≤ 1048576) := HDz.out j hlt
   obtain ⟨m, hm⟩ : ∃ m, ds.getD j dx0 = m := ⟨_, rfl⟩
   have HM : Hid (ds.getD j dx0 = m) := hm
   rw [hm] at HCC HC HRb HZ2
   have HCC : Hid (∀ X, Kept w X (L.own lb) → X.rangeAt b (off + j * 4) m.cs) := HCC
   have HC : Hid (wr.rangeAt b (off + j * 4) m.cs) := HC
   have HRb : Hid (RdB wr m.ba m.bs) := HRb
   have HZ2 : Hid ((m.ba = none → m.bs.length = 0 ∧ m.bc = 0) ∧ m.bs.length ≤ 1048576) := HZ2
   have Hm4 : Hid (m.cs.length = 4) := rfl
   have hm1 := HZ2.out.2
   have Hbl : Hid ((byts m.bs).length = m.bs.length * 1) := (show (byts m.bs).length = m.bs.length * 1 from by rw [byts_len, Nat.mul_one])
   clear hcc hm
   go_upto_region 6 with (first
    | (refine load_mid 95 (.tmp 19) HC.out _ Try.underlying95 rfl (by rw [Hm4.out]; exact info_data) rfl rfl rfl ?_)
    | (refine wl_allocZ rfl 95 rfl zData ?_; intro Y2 k2 b2 s2; have K2 : Hid _ := k2; have BB2 : Hid _ := b2; clear k2 b2 s2)
    | (refine wl_storeZ rfl 95 _ _ rfl (L := m.cs) rfl rfl K2.out info_data rfl (dxcs_one _) ?_; intro Y4 k4 hk4; have K4 : Hid (Y4.heap[wr.heap.size]? = some (.cells m.cs.toArray 95 (0, 0))) := k4; have BB4 : Hid (Below wr.heap.size wr Y4) := BB2.out.trans (hk4.below BB2.out.size (fun k hk e => by omega)); clear k4 hk4)
    | fail)
   generalize hvb : wr.heap.size = vb at *
   have Hvb : Hid (wr.heap.size = vb) := hvb
   have BW4 : Hid (Below wr.heap.size wr Y4) := (show Below wr.heap.size wr Y4 from by rw [hvb]; exact BB4.out)
   have HV4 : Hid (vb < Y4.heap.size) := lt_heap K4.out
   clear hvb BB4 BB2 K2 HC
   generalize hY5 : Y4.alloc (.cells #[] 5) = Y5
   have B45 : Hid (Below Y4.heap.size Y4 Y5) := hY5 ▸ balloc (Below.refl _ _)
   have O5 : Hid (Y5.ownsRow Y4.heap.size 5 1 (.slice (some ⟨Y4.heap.size, 0, none⟩) 0 0) 0 []) := hY5 ▸ World.ownsRow_made Y4 #[] 0 (by omega) (Nat.zero_le _) (by simp)
   have q3 : Y5.cell? ⟨vb, 3, none⟩ = some (.slice m.ba m.bs.length m.bc) := blk_cell (blk_on B45.out K4.out) 3
   have HRb5 : Hid (RdB Y5 m.ba m.bs) := Row.still HRb.out (bstep BW4.out B45.out)
   obtain ⟨bn, hbn⟩ : ∃ bn, m.bs.length = bn := ⟨_, rfl⟩
   have HBn : Hid (m.bs.length = bn) := hbn
   rw [hbn] at q3 hm1
   go_wp2_with (first
    | (refine app_g rfl _ _ 92 rfl Y4.heap.size 5 e0 z0 1 1 Try.underlying92 e0h e0z0 e0z1 e0z2 e0z3 (by omega) (.slice (some ⟨Y4.heap.size, 0, none⟩) 0 0) 0 [] rfl O5.out m.ba bn m.bc (byts m.bs) rfl (fun e => by have h1 := HZ2.out.1 e; rw [HBn.out] at h1; exact h1) (by rw [byts_len, HBn.out, Nat.mul_one]) (rdB_news HRb5.out) (byts_one m.bs) (by unfold maxLen; omega) (by omega) B45.out.size ?_; intro v6 Y6 ho hk he; obtain ⟨a1, c1, rfl⟩ := own_sh ho.out)
    | fail)
   have B46 : Hid (Below Y4.heap.size Y4 Y6) := B45.out.trans (hk.out.below B45.out.size (fun k hk e => by have h1 : some Y4.heap.size = some k := e; simp at h1; omega))
   have O6 : Hid (Y6.ownsRow Y4.heap.size 5 1 (.slice a1 bn c1) bn (byts m.bs ++ tb 0)) := by
    have h1 := ho.out
    rw [Nat.zero_add] at h1
    show Hid (Y6.ownsRow Y4.heap.size 5 1 (.slice a1 bn c1) bn (byts m.bs ++ []))
    rw [List.append_nil]
    exact h1
   clear ho hk he O5 B45 hY5 q3 HRb5 hbn
   obtain ⟨Wj, hWj⟩ : ∃ W0, W0 = wr := ⟨_, rfl⟩
   subst hWj
   obtain ⟨⟨ra, rn, rc⟩, hR⟩ : ∃ x, L'.r 1 = x := ⟨_, rfl⟩
   have HR : Hid (L'.r 1 = ⟨ra, rn, rc⟩) := hR
   have hrn : rn ≤ 60000000 := by have h1 := HQ.out.r1; rw [hR] at h1; have h2 : rn = (L.r 1).n + j := h1; have := HRn.out 1 (by omega); omega
   clear hR
   go_loopw [8, 9] (fun mv kv wr => ∃ (r : Nat) (x : Sl), r ≤ 64 ∧ mv = .slice x.a x.n x.c ∧ kv = .int .i64 (r : Int) ∧ x.n = bn + r ∧ wr.ownsRow Y4.heap.size 5 1 (.slice x.a x.n x.c) x.n (byts m.bs ++ tb r) ∧ Below Y4.heap.size Y4 wr) (fun _ kv _ => 64 - (intOf kv).toNat)
   case atStart => exact ⟨0, ⟨a1, bn, c1⟩, by omega, rfl, rfl, rfl, O6.out, B46.out⟩
   case round =>
    as_aux_lemma =>
    obtain ⟨r, ⟨xa, xn, xc⟩, hr, rfl, rfl, hxn, ho, hb⟩ := hrel
    have HXn : Hid (xn = bn + r) := hxn
    have hxn2 : xn ≤ 1048640 := by have h1 : xn = bn + r := hxn; omega
    have HO : Hid (wr.ownsRow Y4.heap.size 5 1 (.slice xa xn xc) xn (byts m.bs ++ tb r)) := ho
    have HB : Hid (Below Y4.heap.size Y4 wr) := hb
    clear hxn ho hb O6 B46
    have j1 : (0 : Int) ≤ (r : Int) := Int.natCast_nonneg _
    by_cases hlk : r < 64
    ·have j2 : (r : Int) < 64 := by omega
     have hm7 : (r : Int).tmod 7 = (r : Int) % 7 := Int.tmod_eq_emod_of_nonneg j1
     have hw1 : IntKind.i64.wrap ((r : Int) % 7) = (r : Int) % 7 := wrap_id (by omega) (by omega)
     have hw2 : IntKind.i64.wrap (200 + (r : Int) % 7) = 200 + (r : Int) % 7 := wrap_id (by omega) (by omega)
     have hw3 : IntKind.u8.wrap (200 + (r : Int) % 7) = 200 + (r : Int) % 7 := by rw [IntKind.wrap_u8]; omega
     go_wp2_with (first
      | (refine wl_bsl rfl 92 5 1 _ rfl Try.underlying92 #[.int .u8 (200 + (r : Int) % 7)] (bsl_eq (by kernel_rfl) (bs0 (200 + (r : Int) % 7))) ?_; intro V kv bv sv)
      | (refine app_g rfl _ _ 92 rfl Y4.heap.size 5 e0 z0 1 1 Try.underlying92 e0h e0z0 e0z1 e0z2 e0z3 (by omega) (.slice xa xn xc) xn _ rfl (own_still HO.out bv) (some ⟨wr.heap.size, 0, none⟩) 1 1 [.int .u8 (200 + (r : Int) % 7)] rfl (fun h => by cases h) rfl (fun ad had j u hu => by cases had; rw [Addr.add_lit, Nat.zero_add, blk_cell kv]; simpa using hu) (oneV _ rfl) (by unfold maxLen; omega) (by omega) (Nat.le_trans HB.out.size bv.size) ?_; intro v2 Y ho hk he; obtain ⟨a2, c2, rfl⟩ := own_sh ho.out)
      | fail)
     have hBV := bstep HB.out bv
     have HQ9 : Hid (Below Y4.heap.size Y4 Y) := hBV.trans (hk.out.below hBV.size (fun q hq e => by have := (World.ownsRow.lt HO.out _ e).1; omega))
     have HO2 : Hid (Y.ownsRow Y4.heap.size 5 1 (.slice a2 (xn + 1) c2) (xn + 1) (byts m.bs ++ tb (r + 1))) := by
      have h1 := ho.out
      rw [List.append_assoc] at h1
      rw [tb_snoc]
      exact h1
     clear ho hk he kv bv sv hBV
     exact ⟨⟨r + 1, ⟨a2, xn + 1, c2⟩, by omega, rfl, by go_num, by show xn + 1 = _; have := HXn.out; omega, HO2.out, HQ9.out⟩, by simp [intOf]; omega⟩
    ·obtain rfl : r = 64 := by omega
     obtain ⟨hf1, hf2, xg, rfl⟩ := own_fits HO.out (by have := HXn.out; omega)
     have HFit : Hid (xn ≤ xc ∧ xc ≤ 9223372036854775807) := ⟨hf1, hf2⟩
     have hBr := bstep BW4.out HB.out
     have HZw : Hid (Dz B lb L w ds L' xs j j wr) := HQ.out.still hBr
     have HRw : Hid (wr.ownsRow w.heap.size 95 4 u5 j (msC xs)) := own_still HRow.out hBr
     have HKd : Hid (wr.heap[vb]? = some (.cells m.cs.toArray 95 (0, 0))) := blk_on HB.out K4.out
     have c1 : wr.cell? ⟨lb, 1, none⟩ = some (.slice ra rn rc) := by have h1 := HZw.out.ok.cell (c := 1) (by omega); rwa [HR.out] at h1
     have n0 : (0 : Int) ≤ (bn : Int) := Int.natCast_nonneg _
     have n1 : (bn : Int) ≤ (xc : Int) := by have := HXn.out; omega
     clear hf1 hf2 hBr
     go_upto_region 13 with (first
      | (refine wl_bsl rfl 33 92 1 _ rfl Try.underlying33 #[.slice (some ⟨xg, 0, none⟩) xn xc] (bsl_eq (by kernel_rfl) (bsL0 _ _ _)) ?_; intro V kv bv sv; have hZV := HZw.out.still bv)
      | (refine app_g rfl _ _ 33 rfl B 92 l0 (.slice none 0 0) 1 24 Try.underlying33 l0h l0z0 l0z1 l0z2 rfl (by omega) (.slice ra rn rc) rn _ rfl (hZV.ok.row' (by omega) HR.out) (some ⟨wr.heap.size, 0, none⟩) 1 1 [.slice (some ⟨xg, 0, none⟩) xn xc] rfl (fun h => by cases h) rfl (fun ad had j u hu => by cases had; rw [Addr.add_lit, Nat.zero_add, blk_cell kv]; simpa using hu) (oneV _ rfl) (by unfold maxLen; omega) (by omega) (Nat.le_trans HBw.out hZV.k.size) ?_; intro v2 Y ho hk he; obtain ⟨a2, c2, rfl⟩ := own_sh ho.out; have hbk := hZV.ok.hbk (by omega) HR.out hk.out)
      | (refine wl_stS rfl 33 _ _ rfl (g := lb) (p := 1) rfl rfl hbk (show 1 < 4 from by omega) oL0 rfl ?_; have HV : Hid (V.ownsRow Y4.heap.size 5 1 (.slice (some ⟨xg, 0, none⟩) xn xc) xn (byts m.bs ++ tb 64)) := own_still HO.out bv; have HLd := hZV.lend (base := Y4.heap.size) (bs := m.bs) (xa := some ⟨xg, 0, none⟩) (xc := xc) HR.out (by have h1 := HXn.out; rw [HBn.out, ← h1]; exact HV.out) (by have := HZ2.out.2; omega) (Nat.le_trans HQ.out.k.size BW4.out.size) HBw.out (by have h1 := HXn.out; rw [HBn.out, ← h1]; exact ho.out) hk.out he.out; obtain ⟨hz1, P1, kp1, ty1⟩ := HLd; generalize Y.setCell ⟨lb, 1, none⟩ (.slice a2 (rn + 1) c2) = Z at *; have HZ1 : Hid (Dz B lb L w ds (L'.add 1 ⟨a2, rn + 1, c2⟩ ⟨some ⟨xg, 0, none⟩, m.bs.length + 64, xc⟩) xs j (j + 1) Z) := hz1; have HRz : Hid (Z.ownsRow w.heap.size 95 4 u5 j (msC xs)) := ty1.keep (own_still HRw.out bv) (by decide) kp1; have HXz : Hid (Z.ownsRow Y4.heap.size 5 1 (.slice (some ⟨xg, 0, none⟩) xn xc) xn (byts m.bs ++ tb 64)) := ty1.keep HV.out (by decide) kp1; have HKz : Hid (Z.heap[vb]? = some (.cells m.cs.toArray 95 (0, 0))) := kp1.obj (blk_on bv HKd.out) (ty1.obj (blk_on bv HKd.out) (by decide)); have z3 : Z.cell? ⟨b, off + j * 4 + 3, none⟩ = some (.slice m.ba bn m.bc) := (by have h1 := HCC.out Z hz1.k 3 _ rfl; rw [HBn.out] at h1; exact h1); have q7 : Z.cell? ⟨vb, 3, none⟩ = some (.slice m.ba bn m.bc) := (by have h1 := blk_cell HKz.out 3; rw [← HBn.out]; exact h1); have y7 : Z.frozen? ⟨vb, 3, none⟩ = false := frozen_of_row _ _ 3 _ _ HKz.out; clear ho hk he hbk hZV kv bv sv hz1 kp1 ty1 HV c1)
      | fail)
     obtain ⟨x, hxe⟩ : ∃ x : Dx, x = ⟨m.s, m.st, some ⟨xg, 0, none⟩, xc, m.bs⟩ := ⟨_, rfl⟩
     have Hxe : Hid (x = ⟨m.s, m.st, some ⟨xg, 0, none⟩, xc, m.bs⟩) := hxe
     have KS := kset (P := fun k => k = vb) Z vb 3 (.slice (some ⟨xg, 0, none⟩) bn xc) rfl
     have K7 : Hid ((Z.setCell ⟨vb, 3, none⟩ (.slice (some ⟨xg, 0, none⟩) bn xc)).heap[vb]? = some (.cells x.cs.toArray 95 (0, 0))) := blk_set HKz.out (by rw [hxe, ← HBn.out]; rfl)
     have hvw : w.heap.size ≤ vb := by have := HQ.out.k.size; have := Hvb.out; omega
     have HZ7 := HZ1.out.growB HOk.out HKz.out hvw KS
     have HR7 : Hid ((Z.setCell ⟨vb, 3, none⟩ (.slice (some ⟨xg, 0, none⟩) bn xc)).ownsRow w.heap.size 95 4 u5 j (msC xs)) := KS.owns HRz.out (fun k hk e => by
      have h1 := (World.ownsRow.lt HRow.out k hk).2
      have := Hvb.out
      omega)
     have HX7 : Hid ((Z.setCell ⟨vb, 3, none⟩ (.slice (some ⟨xg, 0, none⟩) bn xc)).ownsRow w.heap.size 5 1 (.slice (some ⟨xg, 0, none⟩) xn xc) xn (byts m.bs ++ tb 64)) := own_lower (KS.owns HXz.out (fun k hk e => by
      have h1 := (World.ownsRow.lt HXz.out k hk).1
      have := HV4.out
      omega)) (Nat.le_trans HQ.out.k.size BW4.out.size)
     have HP7 : Hid (Dz B lb L w ds (L'.add 1 ⟨a2, rn + 1, c2⟩ ⟨some ⟨xg, 0, none⟩, m.bs.length + 64, xc⟩) (xs ++ [x]) (j + 1) (j + 1) (Z.setCell ⟨vb, 3, none⟩ (.slice (some ⟨xg, 0, none⟩) bn xc))) := HZ7.push (by have h1 := HX7.out; have h2 := HXn.out; rw [hxe]; show World.ownsRow _ _ _ _ (.slice (some ⟨xg, 0, none⟩) (m.bs.length + 64) xc) (m.bs.length + 64) _; rw [HBn.out, ← h2]; exact h1) (by rw [HM.out, hxe]; exact ⟨rfl, rfl, rfl⟩)
     clear hxe KS q7 y7 z3 HZ7
     generalize Z.setCell ⟨vb, 3, none⟩ (.slice (some ⟨xg, 0, none⟩) bn xc) = Y7 at *
     have Hld : Hid (Y7.rangeAt vb 0 x.cs) := blk_range K7.out
     have Hx4 : Hid (x.cs.length = 4) := rfl
     go_wp2_with (first
      | (refine load_mid 95 (.tmp 7) Hld.out _ Try.underlying95 rfl (by rw [Hx4.out]; exact info_data) rfl rfl rfl ?_)
      | (refine wl_bsl rfl 29 95 1 _ rfl Try.underlying29 x.cs.toArray (bsl_eq (by kernel_rfl) (bDa x)) ?_; intro V2 kv bv sv)
      | (refine app_g rfl _ _ 29 rfl w.heap.size 95 e4 z4 4 48 Try.underlying29 e4h e4z0 e4z1 e4z2 e4z3 (by omega) u5 j (msC xs) rfl (own_still HR7.out bv) (some ⟨Y7.heap.size, 0, none⟩) 1 1 x.cs rfl (fun h => by cases h) (Dx.cs_len x) (fun ad he j u hu => by cases he; rw [Addr.add_lit, Nat.zero_add, blk_cell kv]; simpa using hu) (dxcs_one x) (by unfold maxLen; omega) (by omega) (Nat.le_trans HP7.out.k.size bv.size) ?_; intro v3 Z3 ho hk he)
      | fail)
     have HF : Hid (Dz B lb L w ds (L'.add 1 ⟨a2, rn + 1, c2⟩ ⟨some ⟨xg, 0, none⟩, m.bs.length + 64, xc⟩) (xs ++ [x]) (j + 1) (j + 1) Z3) := (HP7.out.still bv).grow HOk.out (own_still HR7.out bv) hk.out
     have HRF : Hid (Z3.ownsRow w.heap.size 95 4 v3 (j + 1) (msC (xs ++ [x]))) := by rw [msC_app]; exact ho.out
     exact ⟨⟨j + 1, _, xs ++ [x], by omega, by go_num, HF.out, HRF.out⟩, by simp [intOf]; omega⟩
  ·obtain rfl : n = j := by omega
   obtain ⟨va, vc, rfl⟩ := own_sh HRow.out
   have HRow0 : Hid (wr.ownsRow w.heap.size 95 4 (.slice va n vc) n (msC xs ++ td 0)) := by
    show Hid (wr.ownsRow w.heap.size 95 4 (.slice va n vc) n (msC xs ++ []))
    rw [List.append_nil]
    exact HRow.out
   obtain ⟨Wj, hWj⟩ : ∃ W0, W0 = wr := ⟨_, rfl⟩
   subst hWj
   go_wp2_with fail
   go_loopw [5, 10] (fun mv kv wr => ∃ (r : Nat) (x : Sl), r ≤ 64 ∧ mv = .slice x.a x.n x.c ∧ kv = .int .i64 (r : Int) ∧ x.n = n + r ∧ wr.ownsRow w.heap.size 95 4 (.slice x.a x.n x.c) x.n (msC xs ++ td r) ∧ Dz B lb L w ds L' xs n n wr) (fun _ kv _ => 64 - (intOf kv).toNat)
   case atStart => exact ⟨0, ⟨va, n, vc⟩, by omega, rfl, rfl, rfl, HRow0.out, HQ.out⟩
   case round =>
    as_aux_lemma =>
    obtain ⟨r, ⟨xa, xn, xc⟩, hr, rfl, rfl, hxn, ho, hz⟩ := hrel
    have HXn : Hid (xn = n + r) := hxn
    have hxn2 : xn ≤ 1048640 := by have h1 : xn = n + r := hxn; omega
    have HO : Hid (wr.ownsRow w.heap.size 95 4 (.slice xa xn xc) xn (msC xs ++ td r)) := ho
    have HZ : Hid (Dz B lb L w ds L' xs n n wr) := hz
    clear hxn ho hz HRow0 HRow HQ
    have j1 : (0 : Int) ≤ (r : Int) := Int.natCast_nonneg _
    by_cases hlk : r < 64
    ·have j2 : (r : Int) < 64 := by omega
     go_wp2_with (first
      | (refine wl_buildZ rfl 95 _ rfl (built_eq (by kernel_rfl) (bF4 (-700 - (r : Int)))) ?_)
      | (refine wl_bsl rfl 29 95 1 _ rfl Try.underlying29 #[.int .i64 0, .int .i64 (-700 - (r : Int)), .int .i64 0, .slice none 0 0] (bsl_eq (by kernel_rfl) (bs4 (-700 - (r : Int)))) ?_; intro V kv bv sv)
      | (refine app_g rfl _ _ 29 rfl w.heap.size 95 e4 z4 4 48 Try.underlying29 e4h e4z0 e4z1 e4z2 e4z3 (by omega) (.slice xa xn xc) xn _ rfl (own_still HO.out bv) (some ⟨wr.heap.size, 0, none⟩) 1 1 [.int .i64 0, .int .i64 (-700 - (r : Int)), .int .i64 0, .slice none 0 0] rfl (fun h => by cases h) rfl (fun ad had j u hu => by cases had; rw [Addr.add_lit, Nat.zero_add, blk_cell kv]; simpa using hu) (by intro u hu; simp only [List.mem_cons, List.not_mem_nil, or_false] at hu; rcases hu with rfl | rfl | rfl | rfl <;> rfl) (by unfold maxLen; omega) (by omega) (Nat.le_trans HZ.out.k.size bv.size) ?_; intro v2 Y ho hk he; obtain ⟨a2, c2, rfl⟩ := own_sh ho.out)
      | fail)
     have HZ2 : Hid (Dz B lb L w ds L' xs n n Y) := (HZ.out.still bv).grow HOk.out (own_still HO.out bv) hk.out
     have HO2 : Hid (Y.ownsRow w.heap.size 95 4 (.slice a2 (xn + 1) c2) (xn + 1) (msC xs ++ td (r + 1))) := by
      have h1 := ho.out
      rw [List.append_assoc] at h1
      rw [td_snoc]
      exact h1
     clear ho hk he kv bv sv
     exact ⟨⟨r + 1, ⟨a2, xn + 1, c2⟩, by omega, rfl, by go_num, by show xn + 1 = _; have := HXn.out; omega, HO2.out, HZ2.out⟩, by simp [intOf]; omega⟩
    ·obtain rfl : r = 64 := by omega
     obtain ⟨hf1, hf2, xg, rfl⟩ := own_fits HO.out (by have := HXn.out; omega)
     have HFit : Hid (xn ≤ xc ∧ xc ≤ 9223372036854775807) := ⟨hf1, hf2⟩
     obtain ⟨⟨da, dn, dc⟩, hR⟩ : ∃ x, L'.r 2 = x := ⟨_, rfl⟩
     have HR : Hid (L'.r 2 = ⟨da, dn, dc⟩) := hR
     have hdn : dn ≤ 50000000 := by have h1 := HRn.out 2 (by omega); rw [← HZ.out.r2, hR] at h1; exact h1
     have c3 : wr.cell? ⟨lb, 3, none⟩ = some (.slice da dn dc) := by have h1 := HZ.out.ok.cell (c := 2) (by omega); rwa [hR] at h1
     have n0 : (0 : Int) ≤ (n : Int) := Int.natCast_nonneg _
     have n1 : (n : Int) ≤ (xc : Int) := by have := HXn.out; omega
     clear hf1 hf2 hR
     go_wp2_with (first
      | (refine wl_bsl rfl 37 29 1 _ rfl Try.underlying37 #[.slice (some ⟨xg, 0, none⟩) xn xc] (bsl_eq (by kernel_rfl) (bsL4 _ _ _)) ?_; intro V kv bv sv; have hZV := HZ.out.still bv)
      | (refine app_g rfl _ _ 37 rfl B 29 l4 (.slice none 0 0) 1 24 Try.underlying37 l4h l4z0 l4z1 l4z2 rfl (by omega) (.slice da dn dc) dn _ rfl (hZV.ok.row' (by omega) HR.out) (some ⟨wr.heap.size, 0, none⟩) 1 1 [.slice (some ⟨xg, 0, none⟩) xn xc] rfl (fun h => by cases h) rfl (fun ad had j u hu => by cases had; rw [Addr.add_lit, Nat.zero_add, blk_cell kv]; simpa using hu) (oneV _ rfl) (by unfold maxLen; omega) (by omega) (Nat.le_trans HBw.out hZV.k.size) ?_; intro v2 Y ho hk he; obtain ⟨a2, c2, rfl⟩ := own_sh ho.out; have hbk := hZV.ok.hbk (by omega) HR.out hk.out)
      | (refine wl_stS rfl 37 _ _ rfl (g := lb) (p := 3) rfl rfl hbk (show 3 < 4 from by omega) oL4 rfl ?_; have HOV : Hid (V.ownsRow w.heap.size 95 4 (.slice (some ⟨xg, 0, none⟩) xn xc) xn (msC xs ++ td 64)) := own_still HO.out bv; have HZVh : Hid (Dz B lb L w ds L' xs n n V) := hZV; have HXl : Hid (xn = xs.length + 64) := (by rw [hZV.len]; exact HXn.out); have HAd : Hid _ := hZV.ok.add (c := 2) (x := ⟨some ⟨xg, 0, none⟩, xn, xc⟩) (by omega) HR.out (by have h1 := HXl.out; subst h1; exact tl_ds (by rw [hZV.len]; omega) (own_mono HOV.out HBw.out)) ho.out hk.out he.out; have HKT := hZV.ok.keptT (v := .slice a2 (dn + 1) c2) (c := 2) (by omega) HR.out hk.out; obtain ⟨P1, kp1, ty1⟩ := HKT; have HKP : Hid (Kept V (Y.setCell ⟨lb, 3, none⟩ (.slice a2 (dn + 1) c2)) P1) := kp1; have HTY : Hid (TyP V P1 (fun x => x = LEt 2 ∨ x = 48)) := ty1; clear ho hk he hbk hZV kv bv sv kp1 ty1 c3)
      | fail)
     go_ret
     obtain ⟨t1, t2, t3⟩ := HAd.out
     refine ⟨_, _, rfl, by have := HXn.out; have := HFit.out.1; omega, HFit.out.2, L'.add 2 ⟨a2, dn + 1, c2⟩ ⟨some ⟨xg, 0, none⟩, xn, xc⟩, xs, ?_⟩
     have hz := HZVh.out
     have hel := fun i hi => HTY.out.keep (hz.el i hi) (by decide) HKP.out
     have hrw := HTY.out.keep HOV.out (by decide) HKP.out
     refine ⟨hz.len, ⟨by rw [hz.len, HLe.out], fun i hi => hz.al i (by rw [HLe.out] at hi; exact hi)⟩, fun i hi e => ?_, ⟨?_, fun i hi => ?_⟩, t1, ?_, ?_, ?_, hz.k.step t2 hz.own, fun k hk => ?_⟩
     ·obtain ⟨_, _, g, e2⟩ := own_fits (hz.el i hi) (by omega)
      rw [e] at e2
      cases e2
     ·have h1 := HXl.out
      subst h1
      exact row_ds hrw
     ·have hi2 : i < n := by rw [hz.len] at hi; exact hi
      have h3 := (HD.out V hz.k).el i (by rw [HLe.out]; exact hi2)
      refine ⟨rd_bs (hel i hi2), ?_⟩
      rw [(hz.al i hi2).1]
      exact h3.r
     ·show upc L'.r 2 ⟨a2, dn + 1, c2⟩ 0 = _
      rw [upc_ne _ _ (by omega)]; exact hz.r0
     ·show (upc L'.r 2 ⟨a2, dn + 1, c2⟩ 1).n = _
      rw [upc_ne _ _ (by omega)]; exact hz.r1
     ·show (upc L'.r 2 ⟨a2, dn + 1, c2⟩ 2).n = _
      rw [upc_at, ← hz.r2, HR.out]
     ·rcases t3 k hk with h5 | h5 | h5
      ·exact hz.own k h5
      ·exact .inr (Nat.le_trans hz.k.size h5)
      ·exact .inr (World.ownsRow.lt HOV.out k h5).1
end
end Go.Proofs.Ytobaooebjgoaiaa.Hh
