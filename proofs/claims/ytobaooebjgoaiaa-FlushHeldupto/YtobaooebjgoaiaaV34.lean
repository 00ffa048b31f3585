import Derived.Test.YtobaooebjgoaiaaV18
import Derived.Test.YtobaooebjgoaiaaV08
import Derived.Test.YtobaooebjgoaiaaV33
namespace Go.Proofs.Ytobaooebjgoaiaa.Hh
open Go.RowKit Go.Maps Mb
set_option linter.unusedVariables false
set_option linter.unusedSimpArgs false
set_option maxRecDepth 100000
open Go.Proofs.Ytobaooebjgoaiaa.Fm
section
variable {w w' w1 w2 w3 Z Y V : World} {B T s : Nat} {lb : Nat} {P : Nat → Prop}
theorem own_fits {t s n c : Nat} {a : Option Addr} {l : List Value} (h : w.ownsRow B t s (.slice a n c) n l) (hn : 0 < n) : n ≤ c ∧ c ≤ 9223372036854775807 ∧ ∃ g, a = some ⟨g, 0, none⟩ := by
 rcases h.2 with ⟨h1, h2⟩ | ⟨g, cap, cur, hv, hB, hg, hnc, hcm, _⟩
 ·omega
 ·simp only [Value.slice.injEq] at hv
  obtain ⟨rfl, -, rfl⟩ := hv
  exact ⟨hnc, by unfold maxLen at hcm; omega, g, rfl⟩
theorem own_mono {t s n B' : Nat} {v : Value} {l : List Value} (h : w.ownsRow B' t s v n l) (hB : B ≤ B') : w.ownsRow B t s v n l := by
 refine ⟨h.1, ?_⟩
 rcases h.2 with ⟨h1, h2⟩ | ⟨g, cap, cur, hv, hb, r⟩
 ·exact .inl ⟨h1, h2⟩
 ·exact .inr ⟨g, cap, cur, hv, Nat.le_trans hB hb, r⟩
set_option maxHeartbeats 16000000 in
theorem lints_any {L : Lt} {ra wa : Option Addr} {rn rc : Nat} {wc : Nat} {who : List Int} (h : L.Ok w B lb) (hr : L.r 0 = ⟨ra, rn, rc⟩) (hrn : rn ≤ 100000000) (hw : RdI w wa who) (hwn : who.length ≤ 1048576) (hnil : wa = none → who.length = 0 ∧ wc = 0) (hB : B ≤ w.heap.size) : Calls Try.prog 11 #[.pointer (some ⟨lb, 0, none⟩), .slice wa who.length wc] w fun e w' => ∃ a c, e = .returned (.slice a who.length c) ∧ RdI w' a who ∧ who.length ≤ c ∧ c ≤ 9223372036854775807 ∧ ∃ y x, (L.add 0 y x).Ok w' B lb ∧ y.n = rn + 1 ∧ Kept w w' (L.own lb) ∧ ∀ j, (L.add 0 y x).own lb j → L.own lb j ∨ w.heap.size ≤ j := by
 obtain ⟨e1, z1, e1h, e1z0, e1z1, e1z2, e1z3⟩ := tE1
 obtain ⟨l1, l1h, l1z0, l1z1, l1z2⟩ := tL1
 generalize hL : who.length = n at *
 have HLn : Hid (who.length = n) := hL
 have HOk : Hid (L.Ok w B lb) := h
 have HR : Hid (L.r 0 = ⟨ra, rn, rc⟩) := hr
 have HBw : Hid (B ≤ w.heap.size) := hB
 have HW : Hid (RdI w wa who) := hw
 have HNil : Hid (wa = none → n = 0 ∧ wc = 0) := hnil
 generalize hW0 : w.alloc (.cells #[] 3) = W0
 have B0 : Hid (Below w.heap.size w W0) := hW0 ▸ balloc (Below.refl _ _)
 have O0 : Hid (W0.ownsRow w.heap.size 3 1 (.slice (some ⟨w.heap.size, 0, none⟩) 0 0) 0 []) := hW0 ▸ World.ownsRow_made w #[] 0 (by omega) (Nat.zero_le _) (by simp)
 clear h hr hB hw hnil hL
 go_enter Try.func11, Try.ntmps11
 go_wp2_with (first
  | (refine app_g rfl _ _ 26 rfl w.heap.size 3 e1 z1 1 8 Try.underlying26 e1h e1z0 e1z1 e1z2 e1z3 (by omega) (.slice (some ⟨w.heap.size, 0, none⟩) 0 0) 0 [] rfl O0.out wa n wc (ints who) rfl HNil.out (by rw [ints_len, HLn.out, Nat.mul_one]) (rdI_news (HW.out.still B0.out)) (ints_one who) (by unfold maxLen; omega) (by omega) B0.out.size ?_; intro v1 Y1 ho hk he; obtain ⟨a1, c1, rfl⟩ := own_sh ho.out)
  | fail)
 have B1 : Hid (Below w.heap.size w Y1) := B0.out.trans (hk.out.below B0.out.size (fun q hq e => by have h1 : some w.heap.size = some q := e; simp at h1; omega))
 have O1 : Hid (Y1.ownsRow w.heap.size 3 1 (.slice a1 (n + 0) c1) (n + 0) (ints who ++ tls 0)) := by
  have h1 := ho.out
  rw [Nat.zero_add] at h1
  show Hid (Y1.ownsRow w.heap.size 3 1 (.slice a1 n c1) n (ints who ++ []))
  rw [List.append_nil]
  exact h1
 clear ho hk he O0 B0 hW0
 go_loopw [5, 6] (fun m k wr => ∃ (r : Nat) (x : Sl), r ≤ 64 ∧ m = .slice x.a x.n x.c ∧ k = .int .i64 (r : Int) ∧ x.n = n + r ∧ wr.ownsRow w.heap.size 3 1 (.slice x.a x.n x.c) x.n (ints who ++ tls r) ∧ Below w.heap.size w wr) (fun _ k _ => 64 - (intOf k).toNat)
 case atStart => exact ⟨0, ⟨a1, n, c1⟩, by omega, rfl, rfl, rfl, by have h1 := O1.out; rw [Nat.add_zero] at h1; exact h1, B1.out⟩
 case round =>
  as_aux_lemma =>
  obtain ⟨r, ⟨xa, xn, xc⟩, hr, rfl, rfl, hxn, ho, hb⟩ := hrel
  have HXn : Hid (xn = n + r) := hxn
  have hxn2 : xn ≤ 1048640 := by have h1 : xn = n + r := hxn; omega
  have HO : Hid (wr.ownsRow w.heap.size 3 1 (.slice xa xn xc) xn (ints who ++ tls r)) := ho
  have HB : Hid (Below w.heap.size w wr) := hb
  clear hxn ho hb O1 B1
  have j1 : (0 : Int) ≤ (r : Int) := Int.natCast_nonneg _
  by_cases hlk : r < 64
  ·have j2 : (r : Int) < 64 := by omega
   go_wp2_with (first
    | (refine wl_bsl rfl 26 3 1 _ rfl Try.underlying26 #[.int .i64 (-700 - (r : Int))] (bsl_eq (by kernel_rfl) (bs1 (-700 - (r : Int)))) ?_; intro V kv bv sv)
    | (refine app_g rfl _ _ 26 rfl w.heap.size 3 e1 z1 1 8 Try.underlying26 e1h e1z0 e1z1 e1z2 e1z3 (by omega) (.slice xa xn xc) xn _ rfl (own_still HO.out bv) (some ⟨wr.heap.size, 0, none⟩) 1 1 [.int .i64 (-700 - (r : Int))] rfl (fun h => by cases h) rfl (fun ad had j u hu => by cases had; rw [Addr.add_lit, Nat.zero_add, blk_cell kv]; simpa using hu) (oneV _ rfl) (by unfold maxLen; omega) (by omega) (Nat.le_trans HB.out.size bv.size) ?_; intro v2 Y ho hk he; obtain ⟨a2, c2, rfl⟩ := own_sh ho.out)
    | fail)
   have hBV := bstep HB.out bv
   have HQ : Hid (Below w.heap.size w Y) := hBV.trans (hk.out.below hBV.size (fun q hq e => by have := (World.ownsRow.lt HO.out _ e).1; omega))
   have HO2 : Hid (Y.ownsRow w.heap.size 3 1 (.slice a2 (xn + 1) c2) (xn + 1) (ints who ++ tls (r + 1))) := by
    have h1 := ho.out
    rw [List.append_assoc] at h1
    rw [tls_snoc]
    exact h1
   clear ho hk he kv bv sv hBV
   exact ⟨⟨r + 1, ⟨a2, xn + 1, c2⟩, by omega, rfl, by go_num, by show xn + 1 = _; have := HXn.out; omega, HO2.out, HQ.out⟩, by simp [intOf]; omega⟩
  ·obtain rfl : r = 64 := by omega
   obtain rfl : xn = n + 64 := HXn.out
   obtain ⟨hf1, hf2, xg, rfl⟩ := own_fits HO.out (by omega)
   have HFit : Hid (n + 64 ≤ xc ∧ xc ≤ 9223372036854775807) := ⟨hf1, hf2⟩
   have HOw : Hid (L.Ok wr B lb) := HOk.out.still (show Below w.heap.size w wr from HB.out)
   have c0 : wr.cell? ⟨lb, 0, none⟩ = some (.slice ra rn rc) := by have h1 := HOw.out.cell (c := 0) (by omega); rwa [HR.out] at h1
   have n0 : (0 : Int) ≤ (n : Int) := Int.natCast_nonneg _
   have n1 : (n : Int) ≤ (xc : Int) := by omega
   clear hf1 hf2
   go_wp2_with (first
    | (refine wl_bsl rfl 34 26 1 _ rfl Try.underlying34 #[.slice (some ⟨xg, 0, none⟩) (n + 64) xc] (bsl_eq (by kernel_rfl) (bsL1 _ _ _)) ?_; intro V kv bv sv; have hOV := HOw.out.still bv)
    | (refine app_g rfl _ _ 34 rfl B 26 l1 (.slice none 0 0) 1 24 Try.underlying34 l1h l1z0 l1z1 l1z2 rfl (by omega) (.slice ra rn rc) rn _ rfl (hOV.row' (by omega) HR.out) (some ⟨wr.heap.size, 0, none⟩) 1 1 [.slice (some ⟨xg, 0, none⟩) (n + 64) xc] rfl (fun h => by cases h) rfl (fun ad had j u hu => by cases had; rw [Addr.add_lit, Nat.zero_add, blk_cell kv]; simpa using hu) (oneV _ rfl) (by unfold maxLen; omega) (by omega) (Nat.le_trans HBw.out (Nat.le_trans HB.out.size bv.size)) ?_; intro v2 Y ho hk he; obtain ⟨a2, c2, rfl⟩ := own_sh ho.out; have hbk := hOV.hbk (by omega) HR.out hk.out)
    | (refine wl_stS rfl 34 _ _ rfl (g := lb) (p := 0) rfl rfl hbk (show 0 < 4 from by omega) oL1 rfl ?_; have HV : Hid (V.ownsRow w.heap.size 3 1 (.slice (some ⟨xg, 0, none⟩) (n + 64) xc) (n + 64) (ints who ++ tls 64)) := own_still HO.out bv; have HQ := hOV.add (x := ⟨some ⟨xg, 0, none⟩, n + 64, xc⟩) (by omega) HR.out (by have h1 := HLn.out; subst h1; exact tl_ints (by omega) (own_mono HV.out HBw.out)) ho.out hk.out he.out; have HQ2 : Hid ((L.add 0 ⟨a2, rn + 1, c2⟩ ⟨some ⟨xg, 0, none⟩, n + 64, xc⟩).Ok (Y.setCell ⟨lb, 0, none⟩ (.slice a2 (rn + 1) c2)) B lb ∧ Kept V (Y.setCell ⟨lb, 0, none⟩ (.slice a2 (rn + 1) c2)) (L.own lb) ∧ ∀ j, (L.add 0 ⟨a2, rn + 1, c2⟩ ⟨some ⟨xg, 0, none⟩, n + 64, xc⟩).own lb j → L.own lb j ∨ V.heap.size ≤ j ∨ (Value.slice (some ⟨xg, 0, none⟩) (n + 64) xc).ownBlock = some j) := HQ; clear HQ ho hk he hbk; generalize Y.setCell ⟨lb, 0, none⟩ (.slice a2 (rn + 1) c2) = Z at *)
    | fail)
   go_ret
   have hsz : w.heap.size ≤ V.heap.size := Nat.le_trans HB.out.size bv.size
   have HZ : Hid (Z.ownsRow w.heap.size 3 1 (.slice (some ⟨xg, 0, none⟩) (n + 64) xc) (n + 64) (ints who ++ tls 64)) := HQ2.out.2.1.owns HV.out (fun j hj hp => by
    have h1 := (HOk.out.lt hp).1
    have h2 := (World.ownsRow.lt HV.out _ hj).1
    omega)
   refine ⟨_, _, rfl, ?_, by have := HFit.out.1; omega, HFit.out.2, ⟨a2, rn + 1, c2⟩, ⟨some ⟨xg, 0, none⟩, n + 64, xc⟩, HQ2.out.1, rfl, ((Kept.ofBelow HB.out _).trans (Kept.ofBelow bv _)).trans HQ2.out.2.1, fun j hj => ?_⟩
   ·have h1 := HLn.out
    subst h1
    exact rd_ints HZ.out
   ·rcases HQ2.out.2.2 j hj with h1 | h1 | h1
    ·exact .inl h1
    ·exact .inr (by omega)
    ·exact .inr (World.ownsRow.lt HV.out _ h1).1
end
end Go.Proofs.Ytobaooebjgoaiaa.Hh
namespace Go.Proofs.Ytobaooebjgoaiaa.Hh
open Go.RowKit Go.Maps Mb
set_option linter.unusedVariables false
set_option linter.unusedSimpArgs false
set_option maxRecDepth 100000
open Go.Proofs.Ytobaooebjgoaiaa.Fm
section
variable {w w' w1 w2 w3 Z Y V : World} {B T s : Nat} {S S' : St} {hb : Nat} {f f' : Nat → Nat → Nat → Value} {P : Nat → Prop} {c : Nat}
theorem fndB_al : ∀ (a b : List Dx), Al a b → ∀ s, fndB a s = fndB b s
 | [], [], _, _ => rfl
 | [], y :: b, h, _ => by have := h.len; simp at this
 | x :: a, [], h, _ => by have := h.len; simp at this
 | x :: a, y :: b, h, s => by
  have h0 := h.el 0 (by simp)
  simp only [List.getD_cons_zero] at h0
  have ht : Al a b := ⟨by have := h.len; simpa using this, fun j hj => by
   have h1 := h.el (j + 1) (by simp; omega)
   simpa only [List.getD_cons_succ] using h1⟩
  have ih := fndB_al a b ht s
  unfold fndB at ih ⊢
  by_cases e : y.s = s
  ·simp [List.find?_cons, h0.1, e, h0.2.2]
  ·simpa [List.find?_cons, h0.1, e] using ih
theorem RsOk.by_al {a b : List Dx} (al : Al a b) {d : Int} {ss : List (Int × Int)} {l : List Dx} (h : RsOk a d ss l) : RsOk b d ss l := ⟨h.len, fun j hj => by
 have h1 := h.el j hj
 rw [fndB_al a b al] at h1
 exact h1⟩
theorem RsMiss.by_al {a b : List Dx} (al : Al a b) {ss : List (Int × Int)} (h : RsMiss a ss) : RsMiss b ss := by
 obtain ⟨j, hj, e⟩ := h
 rw [fndB_al a b al] at e
 exact ⟨j, hj, e⟩
theorem RsS.by_al {a b : List Dx} (al : Al a b) {cs : List Co} {d E : Int} {l : List Dx} (h : RsS cs a d E l) : RsS cs b d E l := by
 rcases h with h | h | h | ⟨h1, h2, h3, n, ss, h4, h5, ⟨h6, h7, h8⟩ | ⟨h6, h7⟩⟩
 ·exact .inl h
 ·exact .inr (.inl h)
 ·exact .inr (.inr (.inl h))
 ·exact .inr (.inr (.inr ⟨h1, h2, h3, n, ss, h4, h5, .inl ⟨RsMiss.by_al al h6, h7, h8⟩⟩))
 ·exact .inr (.inr (.inr ⟨h1, h2, h3, n, ss, h4, h5, .inr ⟨RsOk.by_al al h6, h7⟩⟩))
structure Hd (S S' : St) (hb base : Nat) (f f' : Nat → Nat → Nat → Value) (n c : Nat) (x : Sl) : Prop where
 e : S'.r = S.r ∧ S'.q = S.q ∧ S'.z = S.z
 old : ∀ d i, i < S.N d → S'.v d i = S.v d i ∧ f' d i = f d i
 own : ∀ j, S'.own hb j → S.own hb j ∨ base ≤ j
 new : S'.v c (S.N c) = x
theorem bs_own {base n : Nat} {v : Value} {bs : List Int} (h : w.ownsRow base 5 1 v n (byts bs)) (hB : B ≤ base) : ∃ g, w.ownsRow B (Ty 0) (Sz 0) v n (rv (n * Sz 0) g) := by
 have e := rv_get0 (byts bs)
 have e2 : (byts bs).length = n * 1 := h.1
 rw [e2] at e
 exact ⟨_, by
  show w.ownsRow B 5 1 v n (rv (n * 1) _)
  rw [← e]
  exact own_mono h hB⟩
theorem mot_in {out : List Dx} {a : Option Addr} {mc base : Nat} (h : S.Ok w B hb f) (hB : B ≤ base) (hlt : ∀ j, S.own hb j → j < base) (hm : MoT 97 base w (.slice a out.length mc) out) (hq0 : (S.q 0).n = 0) (hq5 : (S.q 5).n = 0) (hr0 : (S.r 0).n = S.N 0) (hr5 : (S.r 5).n = S.N 5) : ∃ S' f', S'.Ok w B hb f' ∧ Hd S S' hb base f f' out.length 5 ⟨a, out.length, mc⟩ ∧ S'.N 0 = S.N 0 + out.length ∧ S'.N 5 = S.N 5 + 1 ∧ (∀ d, d ≠ 0 → d ≠ 5 → S'.N d = S.N d) ∧ (∀ k, k < out.length → (S'.v 0 (S.N 0 + k)).v = (out.getD k dx0).v ∧ f' 5 (S.N 5) (k * 4 + 3) = (S'.v 0 (S.N 0 + k)).v) ∧ ∀ i, f' 5 (S.N 5) i = (msC out).getD i undef := by
 obtain ⟨L, hL⟩ : ∃ L : List Sl, L = out.map (fun x => ⟨x.ba, x.bs.length, x.bc⟩) := ⟨_, rfl⟩
 have hLl : L.length = out.length := by rw [hL, List.length_map]
 have hLg : ∀ i, i < out.length → L[i]? = some ⟨(out.getD i dx0).ba, (out.getD i dx0).bs.length, (out.getD i dx0).bc⟩ := fun i hi => by
  rw [hL, List.getElem?_map, List.getElem?_eq_getElem hi]
  simp [List.getD, hi]
 have hmem : ∀ x ∈ L, ∃ i, i < out.length ∧ x = ⟨(out.getD i dx0).ba, (out.getD i dx0).bs.length, (out.getD i dx0).bc⟩ := fun x hx => by
  obtain ⟨i, hi, e⟩ := List.mem_iff_getElem.1 hx
  have h1 := hLg i (by omega)
  rw [List.getElem?_eq_getElem hi] at h1
  simp only [Option.some.injEq] at h1
  exact ⟨i, by omega, e.symm.trans h1⟩
 obtain ⟨S1, f1, k1, e1⟩ := St.Ok.exts (c := 0) (by omega) L S f h hq0 (by omega) (fun x hx => by
  obtain ⟨i, hi, rfl⟩ := hmem x hx
  exact bs_own (hm.el i hi) hB) (fun x hx j hj hj2 => by
  obtain ⟨i, hi, rfl⟩ := hmem x hx
  have h1 := (World.ownsRow.lt (hm.el i hi) j hj).1
  have := hlt j hj2
  omega) (by
  rw [hL, List.pairwise_map, List.pairwise_iff_getElem]
  intro i j hi hj hij g h1 h2
  have h3 := hm.dis i j hij hj g
  simp only [List.getD, List.getElem?_eq_getElem hi, List.getElem?_eq_getElem hj, Option.getD_some] at h3
  exact h3 h1 h2)
 have hS5 : S1.N 5 = S.N 5 := by rw [e1.N, upc_ne _ _ (by omega)]
 have hr1 : S1.r = S.r := e1.e.1
 have hq1 : S1.q = S.q := e1.e.2.1
 have k2 := k1.ext (c := 5) (x := ⟨a, out.length, mc⟩) (g := fun i => (msC out).getD i undef) (by omega) (by rw [hq1]; exact hq5) (by rw [hr1, hS5]; omega) (by
  have e := rv_get0 (msC out)
  rw [msC_len] at e
  show w.ownsRow B 97 4 (.slice a out.length mc) out.length (rv (out.length * 4) _)
  rw [← e]
  exact own_mono hm.row hB) (fun j hj hj2 => by
  have hj : (Value.slice a out.length mc).ownBlock = some j := hj
  rcases e1.own j hj2 with h3 | ⟨x, hx, h3⟩
  ·have h4 := (World.ownsRow.lt hm.row j hj).1
   have := hlt j h3
   omega
  ·obtain ⟨i, hi, rfl⟩ := hmem x hx
   obtain ⟨c1, h4⟩ := row_ty hm.row hj
   obtain ⟨c2, h5⟩ := row_ty (hm.el i hi) h3
   rw [h4] at h5
   simp at h5)
 refine ⟨_, _, k2, ⟨⟨hr1, hq1, e1.e.2.2.2⟩, fun d i hi => ?_, fun j hj => ?_, ?_⟩, ?_, ?_, fun d h0 h5 => ?_, fun k hk => ?_, fun i => ?_⟩
 ·show upc S1.v 5 (updS (S1.v 5) (S1.N 5) _) d i = S.v d i ∧ upc f1 5 (updG (f1 5) (S1.N 5) _) d i = f d i
  by_cases e : d = 5
  ·subst e
   rw [upc_at, upc_at, hS5, updS_ne _ _ (by omega), updG_ne _ _ (by omega), e1.vv 5 (by omega), e1.ff 5 (by omega)]
   exact ⟨rfl, rfl⟩
  ·rw [upc_ne _ _ e, upc_ne _ _ e]
   by_cases e0 : d = 0
   ·subst e0
    rw [e1.lo i hi, e1.fo i hi]
    exact ⟨rfl, rfl⟩
   ·rw [e1.vv d e0, e1.ff d e0]
    exact ⟨rfl, rfl⟩
 ·rcases St.own_ext hj with h3 | h3
  ·rcases e1.own j h3 with h4 | ⟨x, hx, h4⟩
   ·exact .inl h4
   ·obtain ⟨i, hi, rfl⟩ := hmem x hx
    exact .inr (World.ownsRow.lt (hm.el i hi) j h4).1
  ·exact .inr (World.ownsRow.lt hm.row j h3).1
 ·show upc S1.v 5 (updS (S1.v 5) (S1.N 5) _) 5 (S.N 5) = _
  rw [upc_at, hS5, updS_same]
 ·show upc S1.N 5 (S1.N 5 + 1) 0 = _
  rw [upc_ne _ _ (by omega), e1.N, upc_at, hLl]
 ·show upc S1.N 5 (S1.N 5 + 1) 5 = _
  rw [upc_at, hS5]
 ·show upc S1.N 5 (S1.N 5 + 1) d = _
  rw [upc_ne _ _ h5, e1.N, upc_ne _ _ h0]
 ·have h3 := e1.hi k (by omega)
  rw [hLg k hk] at h3
  have h4 : (upc S1.v 5 (updS (S1.v 5) (S1.N 5) ⟨a, out.length, mc⟩) 0 (S.N 0 + k)).v = (out.getD k dx0).v := by
   rw [upc_ne _ _ (by omega)]
   simp only [Option.some.injEq] at h3
   rw [← h3]
   rfl
  refine ⟨h4, ?_⟩
  show upc f1 5 (updG (f1 5) (S1.N 5) _) 5 (S.N 5) (k * 4 + 3) = _
  rw [upc_at, hS5, updG_at]
  refine Eq.trans ?_ h4.symm
  show (msC out).getD (k * 4 + 3) undef = _
  rw [List.getD, msC_at out _ (by omega)]
  unfold dxC
  rw [show (k * 4 + 3) / 4 = k by omega, show (k * 4 + 3) % 4 = 3 by omega]
  rfl
 ·show upc f1 5 (updG (f1 5) (S1.N 5) _) 5 (S.N 5) i = _
  rw [upc_at, hS5, updG_at]
end
end Go.Proofs.Ytobaooebjgoaiaa.Hh
