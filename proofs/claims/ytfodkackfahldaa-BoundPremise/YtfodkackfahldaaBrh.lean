import Derived.Test.YtfodkackfahldaaBrg
namespace Go.Proofs.Ytfodkackfahldaa.Lo
open Go.RowKit
set_option linter.unusedVariables false
set_option linter.unusedSimpArgs false

theorem sd_take {ss : List Int} {p i : Nat} (hi : i < ss.length) : (if (p : Int) ∈ ss.take (i + 1) then (2 : Int) else 1) = if ss.getD i 0 = (p : Int) then 2 else if (p : Int) ∈ ss.take i then 2 else 1 := by
  rw [List.take_add_one, List.getElem?_eq_getElem hi, List.getD_eq_getElem?_getD, List.getElem?_eq_getElem hi]
  simp only [Option.toList_some, List.mem_append, List.mem_singleton, Option.getD_some]
  by_cases e : ss[i] = (p : Int)
  · rw [if_pos e, if_pos (.inr e.symm)]
  · rw [if_neg e]
    by_cases e2 : (p : Int) ∈ ss.take i
    · rw [if_pos e2, if_pos (.inl e2)]
    · rw [if_neg e2, if_neg (by rintro (h | h); exact e2 h; exact e h.symm)]
theorem lt_heap_of {w : World} {k : Nat} {o : Obj} (h : w.heap[k]? = some o) : k < w.heap.size := (Array.getElem?_eq_some_iff.1 h).1
structure AS (W wr : World) (tb : Nat) (N : Nat) (wi ba st ca ro fl : Int) (va : Option Addr) (vn vc : Nat) (vs : List Int) (ea : Option Addr) (n ec : Nat) (l : List Em) : Prop where
  t : wr.heap[tb]? = some (.cells #[.int .i64 (N : Int), .int .i64 wi, .int .i64 ba, .int .i64 st, .int .i64 ca, .int .i64 ro, .int .i64 fl, .slice va vn vc, .slice ea n ec] 27 (0, 0))
  v : OwI wr W.heap.size (.slice va vn vc) vs
  o : OwE wr W.heap.size (.slice ea n ec) l
  s : Rws wr W.heap.size l
  m : l.length = n
  h : ∀ i, i < n → (l.getD i em0).sn ≤ 140737488355328
  b : Below W.heap.size W wr
  z : W.heap.size ≤ tb
theorem AS.on {W wr w' : World} {tb N : Nat} {wi ba st ca ro fl : Int} {va : Option Addr} {vn vc : Nat} {vs : List Int} {ea : Option Addr} {n ec : Nat} {l : List Em} (h : AS W wr tb N wi ba st ca ro fl va vn vc vs ea n ec l) (hb : Below wr.heap.size wr w') : AS W w' tb N wi ba st ca ro fl va vn vc vs ea n ec l :=
  ⟨blk_on hb h.t, Mb.own_still h.v hb, Mb.own_still h.o hb, h.s.keep (Mb.Kept.ofBelow hb (fun _ => False)) (fun j hj => hj.elim), h.m, h.h, h.b.trans (hb.mono h.b.size), h.z⟩
theorem AS.evr {W wr : World} {tb N : Nat} {wi ba st ca ro fl : Int} {va : Option Addr} {vn vc : Nat} {vs : List Int} {ea : Option Addr} {n ec : Nat} {l : List Em} (h : AS W wr tb N wi ba st ca ro fl va vn vc vs ea n ec l) : EvR wr ea n l := evr_of h.o h.s h.h
theorem AS.add {W wr X Y : World} {tb N : Nat} {wi ba st ca ro fl : Int} {va : Option Addr} {vn vc : Nat} {vs : List Int} {ea : Option Addr} {n ec : Nat} {l : List Em} (h : AS W wr tb N wi ba st ca ro fl va vn vc vs ea n ec l) {e : Em} {ea2 : Option Addr} {ec2 : Nat} (he1 : OwI wr W.heap.size (.slice e.sa e.sn e.sc) e.xs) (he2 : OwB wr W.heap.size (.slice e.ba e.bn e.bc) e.bs) (he3 : Ln.By e.bs) (he4 : e.sn ≤ 140737488355328)
    (ho : OwE X W.heap.size (.slice ea2 (n + 1) ec2) (l ++ [e])) (kk : Mb.Kept wr X (fun k => (Value.slice ea n ec).ownBlock = some k)) (hY : X.setCell ⟨tb, 8, none⟩ (.slice ea2 (n + 1) ec2) = Y) : AS W Y tb N wi ba st ca ro fl va vn vc vs ea2 (n + 1) ec2 (l ++ [e]) := by
  subst hY
  have kT := blk_app h.t h.o (by decide) kk
  have k8 : Mb.Kept X (X.setCell ⟨tb, 8, none⟩ (.slice ea2 (n + 1) ec2)) (fun q => q = tb) := Mb.kset X tb 8 _ rfl
  have hb : Below W.heap.size W X := h.b.trans (kk.below h.b.size (fun k hk e => by have := (World.ownsRow.lt h.o k e).1; omega))
  refine ⟨Mb.blk_set kT rfl, ow_ne (ow_app h.v h.o (by decide) kk) kT (by decide) k8, ow_ne ho kT (by decide) k8, ?_, by simp [h.m], fun i hi => ?_, hb.trans (kn k8 h.z hb.size), h.z⟩
  · exact (((h.s.add he1 he2 he3).keep kk (fun q hq C t hC => by have := ow_type h.o hq hC; subst this; exact ⟨by decide, by decide⟩))).keep k8 (fun q hq C t hC => by have hq' : q = tb := hq; subst hq'; rw [kT] at hC; simp at hC; rw [← hC.2]; exact ⟨by decide, by decide⟩)
  · by_cases e0 : i = n
    · subst e0
      rw [← h.m, getD_last]
      exact he4
    · rw [getD_app _ _ (by rw [h.m]; omega)]
      exact h.h i (by omega)
theorem ow_two {w w' : World} {B n n' : Nat} {v v' : Value} {l : List Value} (h : w.ownsRow B 3 1 v n l) (k : Mb.Kept w w' (fun j => v'.ownBlock = some j)) (hne : ∀ k, v'.ownBlock = some k → v.ownBlock ≠ some k) : w'.ownsRow B 3 1 v n l :=
  k.owns h (fun q hq e => hne q e hq)
set_option maxRecDepth 100000 in
set_option maxHeartbeats 8000000 in
theorem apart_any (no wi ba st ca ro fl : Int) (va : Option Addr) (vn vc : Nat) (vs : List Int) (r : Bool) (E : Int) (ea : Option Addr) (en ec : Nat) (es : List Em) (so : Option Addr) (sn sc : Nat) (ss : List Int) (w : World) (h : Cf w no wi ba st ca ro fl va vn vc vs r E) (hvn : vn * 8 ≤ 140737488351232) (hev : EvF w ea en es) (hss : Ri w so sn sc ss) (hsn : sn ≤ 140737488355328) : Calls Try.prog 3 #[.agg #[.int .i64 no, .int .i64 wi, .int .i64 ba, .int .i64 st, .int .i64 ca, .int .i64 ro, .int .i64 fl, .slice va vn vc, .slice ea en ec, .slice so sn sc]] w fun e w' => e = .returned (.bool true) ∧ Below w.heap.size w w' := by
  have HB : Hid (Below w.heap.size w (w.alloc (.cells #[.int .i64 no, .int .i64 wi, .int .i64 ba, .int .i64 st, .int .i64 ca, .int .i64 ro, .int .i64 fl, .slice va vn vc, .slice ea en ec, .slice so sn sc] 29))) := bsp _ _ _
  have hk := heap_new w #[.int .i64 no, .int .i64 wi, .int .i64 ba, .int .i64 st, .int .i64 ca, .int .i64 ro, .int .i64 fl, .slice va vn vc, .slice ea en ec, .slice so sn sc] 29
  have hWs : w.heap.size < (w.alloc (.cells #[.int .i64 no, .int .i64 wi, .int .i64 ba, .int .i64 st, .int .i64 ca, .int .i64 ro, .int .i64 fl, .slice va vn vc, .slice ea en ec, .slice so sn sc] 29)).heap.size := by simp
  generalize hW : w.alloc (.cells #[.int .i64 no, .int .i64 wi, .int .i64 ba, .int .i64 st, .int .i64 ca, .int .i64 ro, .int .i64 fl, .slice va vn vc, .slice ea en ec, .slice so sn sc] 29) = W at *
  have c0 : W.cell? ⟨w.heap.size, 0, none⟩ = some (.int .i64 no) := blk_cell hk 0
  have c1 : W.cell? ⟨w.heap.size, 1, none⟩ = some (.int .i64 wi) := blk_cell hk 1
  have c2 : W.cell? ⟨w.heap.size, 2, none⟩ = some (.int .i64 ba) := blk_cell hk 2
  have c3 : W.cell? ⟨w.heap.size, 3, none⟩ = some (.int .i64 st) := blk_cell hk 3
  have c4 : W.cell? ⟨w.heap.size, 4, none⟩ = some (.int .i64 ca) := blk_cell hk 4
  have c5 : W.cell? ⟨w.heap.size, 5, none⟩ = some (.int .i64 ro) := blk_cell hk 5
  have c6 : W.cell? ⟨w.heap.size, 6, none⟩ = some (.int .i64 fl) := blk_cell hk 6
  have c7 : W.cell? ⟨w.heap.size, 7, none⟩ = some (.slice va vn vc) := blk_cell hk 7
  have c8 : W.cell? ⟨w.heap.size, 8, none⟩ = some (.slice ea en ec) := blk_cell hk 8
  have c9 : W.cell? ⟨w.heap.size, 9, none⟩ = some (.slice so sn sc) := blk_cell hk 9
  have hCW := h.below HB.out
  have HCk : Hid (Calls Try.prog 7 #[.agg #[.int .i64 no, .int .i64 wi, .int .i64 ba, .int .i64 st, .int .i64 ca, .int .i64 ro, .int .i64 fl, .slice va vn vc]] W fun e w' => e = .returned (.int .i64 E) ∧ Below W.heap.size W w') := rcheck_eq no wi ba st ca ro fl va vn vc vs r E W hCW.rd hCW.le hCW.vt hCW.er
  rcases h.two with rfl | ⟨rfl, hg⟩
  · clear hk h hCW hev hss hvn
    go_enter Try.func3, Try.ntmps3
    go_wp2_with fail
    refine HCk.out.mono ?_
    rintro e w1 ⟨rfl, hb1⟩
    have d0 := below_at hb1 c0
    have d6 := below_at hb1 c6
    have d8 := below_at hb1 c8
    have HBx : Hid (Below w.heap.size w w1) := bst HB.out hb1
    clear hb1 HCk
    go_wp2_with fail
    go_ret
    exact ⟨rfl, HBx.out⟩
  · have hh := headC_true hg
    by_cases hfl : fl ≤ 2305843009213693952
    case neg =>
      have hf1 : (2305843009213693952 : Int) < fl := by omega
      clear hk h hCW hev hss hh hg hvn
      go_enter Try.func3, Try.ntmps3
      go_wp2_with fail
      refine HCk.out.mono ?_
      rintro e w1 ⟨rfl, hb1⟩
      have d0 := below_at hb1 c0
      have d6 := below_at hb1 c6
      have d8 := below_at hb1 c8
      have HBx : Hid (Below w.heap.size w w1) := bst HB.out hb1
      clear hb1 HCk
      go_wp2_with fail
      go_ret
      exact ⟨rfl, HBx.out⟩
    have hf1 : ¬ (2305843009213693952 : Int) < fl := by omega
    by_cases hen : en ≤ 3990
    case neg =>
      have hf2 : (3990 : Int) < (en : Int) := by omega
      clear hk h hCW hev hss hh hg hvn
      go_enter Try.func3, Try.ntmps3
      go_wp2_with fail
      refine HCk.out.mono ?_
      rintro e w1 ⟨rfl, hb1⟩
      have d0 := below_at hb1 c0
      have d6 := below_at hb1 c6
      have d8 := below_at hb1 c8
      have HBx : Hid (Below w.heap.size w w1) := bst HB.out hb1
      clear hb1 HCk
      go_wp2_with fail
      go_ret
      exact ⟨rfl, HBx.out⟩
    have hf2 : ¬ (3990 : Int) < (en : Int) := by omega
    by_cases hno : 2 ≤ no
    case neg =>
      have hf3 : no < 2 := by omega
      clear hk h hCW hev hss hh hg hvn
      go_enter Try.func3, Try.ntmps3
      go_wp2_with fail
      refine HCk.out.mono ?_
      rintro e w1 ⟨rfl, hb1⟩
      have d0 := below_at hb1 c0
      have d6 := below_at hb1 c6
      have d8 := below_at hb1 c8
      have HBx : Hid (Below w.heap.size w w1) := bst HB.out hb1
      clear hb1 HCk
      go_wp2_with fail
      go_ret
      exact ⟨rfl, HBx.out⟩
    have hf3 : ¬ no < 2 := by omega
    obtain ⟨N, rfl⟩ : ∃ N : Nat, no = (N : Int) := ⟨no.toNat, by omega⟩
    have n1 : 2 ≤ N := by omega
    have n2 : N ≤ 16 := by omega
    have HCf : Hid (Cf W (N : Int) wi ba st ca ro fl va vn vc vs r 0) := hCW
    have HEv : Hid (EvF W ea en es) := hev.on HB.out
    have HSs : Hid (Ri W so sn sc ss) := hss.below HB.out
    have hssl : ss.length = sn := hss.1
    clear hk h hCW hev hss hh hg
    go_enter Try.func3, Try.ntmps3
    go_wp2_with fail
    refine HCk.out.mono ?_
    rintro e w1 ⟨rfl, hb1⟩
    have d0 := below_at hb1 c0
    have d1 := below_at hb1 c1
    have d2 := below_at hb1 c2
    have d3 := below_at hb1 c3
    have d4 := below_at hb1 c4
    have d5 := below_at hb1 c5
    have d6 := below_at hb1 c6
    have d7 := below_at hb1 c7
    have d8 := below_at hb1 c8
    have HB1 : Hid (Below W.heap.size W w1) := hb1
    have HC9 : Hid (W.cell? ⟨w.heap.size, 9, none⟩ = some (.slice so sn sc)) := c9
    have HCp : Hid (Calls Try.prog 8 #[.agg #[.int .i64 (N : Int), .int .i64 wi, .int .i64 ba, .int .i64 st, .int .i64 ca, .int .i64 ro, .int .i64 fl, .slice va vn vc, .slice ea en ec]] w1 fun r w' => ∃ (va' : Option Addr) (vc' : Nat) (ea' : Option Addr) (ec' : Nat) (es' : List Em), r = .returned (.agg #[.int .i64 (N : Int), .int .i64 wi, .int .i64 ba, .int .i64 st, .int .i64 ca, .int .i64 ro, .int .i64 fl, .slice va' vn vc', .slice ea' en ec']) ∧ OwI w' w1.heap.size (.slice va' vn vc') vs ∧ OwE w' w1.heap.size (.slice ea' en ec') es' ∧ Rws w' w1.heap.size es' ∧ Sms en es es' ∧ Below w1.heap.size w1 w') := copied_any (N : Int) wi ba st ca ro fl va vn vc vs ea en ec es w1 (HCf.out.rd.below hb1) hvn (HEv.out.on hb1)
    clear hb1 HCk c0 c1 c2 c3 c4 c5 c6 c7 c8 c9
    go_wp2_with fail
    refine HCp.out.mono ?_
    rintro e w2 ⟨va1, vc1, ea1, ec1, es1, rfl, o1, o2, o3, o4, hb2⟩
    clear d0 d1 d2 d3 d4 d5 d6 d7 d8 HCp
    go_wp2_with (first | (refine wl_allocZ rfl 27 rfl zScr ?_) | fail)
    intro W2 k2 b2 s2
    go_wp2_with (first | (refine Ln.at_store 27 _ _ rfl ?_; refine wl_storeZ rfl 27 _ _ rfl (L := [.int .i64 (N : Int), .int .i64 wi, .int .i64 ba, .int .i64 st, .int .i64 ca, .int .i64 ro, .int .i64 fl, .slice va1 vn vc1, .slice ea1 en ec1]) rfl rfl k2 iScr rfl (one9 _ _ _ _ _ _ _ _ _ _ _ _ _) ?_) | fail)
    intro W3 k3 kk3
    have hsw1 : W.heap.size ≤ w1.heap.size := HB1.out.size
    have hz2 : W.heap.size ≤ w2.heap.size := Nat.le_trans hsw1 hb2.size
    have hbb : Below W.heap.size W W3 := ((HB1.out.trans (hb2.mono hsw1)).trans (b2.mono hz2)).trans (kn kk3 hz2 (by have := b2.size; omega))
    have hk2 : Below w2.heap.size w2 W3 := b2.trans (kn kk3 (Nat.le_refl _) b2.size)
    have HA3 : Hid (AS W W3 w2.heap.size N wi ba st ca ro fl va1 vn vc1 vs ea1 en ec1 es1) := (show AS _ _ _ _ _ _ _ _ _ _ _ _ _ _ _ _ _ _ from
      ⟨k3, Mb.own_lower (Mb.own_still o1 hk2) hsw1, Mb.own_lower (Mb.own_still o2 hk2) hsw1, (o3.keep (Mb.Kept.ofBelow hk2 (fun _ => False)) (fun j hj => hj.elim)).lower hsw1, o4.1, fun i hi => (by
        have h1 := (o3.sd _ (getD_mem (by rw [o4.1]; exact hi))).len
        have h2 := (o4.2 i hi).xs
        have h3 := (HEv.out.r.sd i hi)
        rw [← h1, h2, h3.1.1]
        exact h3.2), hbb, hz2⟩)
    have HSm : Hid (Sms en es es1) := o4
    have htbW : w2.heap.size < W3.heap.size := lt_heap_of k3
    clear hk2 hbb hz2 hsw1 o1 o2 o3 o4 hb2 k2 b2 s2 k3 kk3 HB1
    generalize w2.heap.size = tb at *
    go_wp2_with fail
    have hlen3 : W.heap.size ≤ W3.heap.size := HA3.out.b.size
    go_loopw [6, 7, 8] (fun v6 v7 x wr => ∃ (j : Nat) (a6 : Option Addr) (c6 : Nat) (a7 : Option Addr) (c7 : Nat), j ≤ N ∧ x = .int .i64 j ∧ v6 = .slice a6 j c6 ∧ v7 = .slice a7 j c7 ∧ Hid (OwI wr W3.heap.size (.slice a6 j c6) (List.replicate j 3)) ∧ Hid (OwI wr W3.heap.size (.slice a7 j c7) (tw ss j)) ∧ Hid (∀ k, (Value.slice a6 j c6).ownBlock = some k → (Value.slice a7 j c7).ownBlock ≠ some k) ∧ Hid (Below W3.heap.size W3 wr)) (fun _ _ x _ => N - (intOf x).toNat)
    case atStart => exact ⟨0, none, 0, none, 0, Nat.zero_le _, rfl, rfl, rfl, (show OwI _ _ _ _ from ow_nil _ _ _ _), (show OwI _ _ _ _ from ow_nil _ _ _ _), (show ∀ k, _ from fun k hk => (by simp [Value.ownBlock] at hk)), Below.refl _ _⟩
    case round =>
      obtain ⟨j, a6, c6, a7, c7, hj, rfl, rfl, rfl, o6, o7, hap, hb⟩ := hrel
      have HSw : Hid (Ri wr so sn sc ss) := (show Ri _ _ _ _ _ from (HSs.out.below (HA3.out.b.trans (hb.out.mono hlen3))))
      have d9 : wr.cell? ⟨w.heap.size, 9, none⟩ = some (.slice so sn sc) := belowB_at (HA3.out.b.trans (hb.out.mono hlen3)) hWs HC9.out
      by_cases hjn : j < N
      · have j3 : (j : Int) < (N : Int) := by omega
        have hs : W3.heap.size ≤ wr.heap.size := hb.out.size
        obtain ⟨wj, hwj⟩ : ∃ wj, wj = wr := ⟨_, rfl⟩
        go_wp2_with fail
        go_loopw [9, 10] (fun y x wr2 => ∃ (i : Nat), i ≤ sn ∧ x = .int .i64 i ∧ y = .int .i64 (if (j : Int) ∈ ss.take i then 2 else 1) ∧ wj = wr2) (fun _ x _ => sn - (intOf x).toNat)
        case atStart => exact ⟨0, Nat.zero_le _, rfl, (by simp), hwj⟩
        case round =>
          obtain ⟨i, hi, rfl, rfl, rfl⟩ := hrel
          rw [← hwj] at d9 HSw o6 o7 hb hs
          clear hwj
          by_cases hin : i < sn
          · have i1 : (0 : Int) ≤ (i : Int) := Int.natCast_nonneg _
            have i2 : (i : Int) < (sn : Int) := by omega
            rcases HSw.out.2.2 with h0 | ⟨sb, sof, rfl, hsc⟩
            · omega
            have cs := hsc i hin
            have hst := sd_take (ss := ss) (p := j) (i := i) (by omega)
            have HST : Hid ((if (j : Int) ∈ ss.take (i + 1) then (2 : Int) else 1) = if ss.getD i 0 = (j : Int) then 2 else if (j : Int) ∈ ss.take i then 2 else 1) := hst
            clear hst hsc
            generalize (if (j : Int) ∈ ss.take i then (2 : Int) else 1) = y0 at *
            generalize ss.getD i 0 = s0 at *
            by_cases es0 : s0 = (j : Int)
            · have HS2 : Hid ((if (j : Int) ∈ ss.take (i + 1) then (2 : Int) else 1) = 2) := (show _ = _ from by rw [HST.out, if_pos es0])
              subst es0
              clear HST
              go_wp2_with fail
              go_roundw
              case rel => exact ⟨i + 1, by omega, by go_num, by rw [HS2.out], (by trivial)⟩
              case measure => simp [intOf]; omega
            · have HS2 : Hid ((if (j : Int) ∈ ss.take (i + 1) then (2 : Int) else 1) = y0) := (show _ = _ from by rw [HST.out, if_neg es0])
              have es1 : (s0 == (j : Int)) = false := by rw [beq_eq_false_iff_ne]; exact es0
              clear HST es0
              go_wp2_with fail
              go_roundw
              case rel => exact ⟨i + 1, by omega, by go_num, by rw [HS2.out], (by trivial)⟩
              case measure => simp [intOf]; omega
          · have hiN : i = sn := by omega
            subst hiN
            have HS2 : Hid ((if (j : Int) ∈ ss.take i then (2 : Int) else 1) = sd ss j) := (show _ = _ from by rw [List.take_of_length_le (by omega)]; rfl)
            rw [HS2.out]
            clear HSw
            go_wp2_with (first | (at_builtin; refine app_I1 rfl _ _ rfl rfl o6.out 3 rfl rfl (by rw [List.length_replicate]; omega) hs ?_) | fail)
            intro v6 Y1 p6 kk6 pl6
            have p6' : OwI Y1 W3.heap.size v6 (List.replicate (j + 1) 3) := by rw [List.replicate_succ']; exact p6.out
            obtain ⟨a6', c6', hv⟩ := ow_shape p6'
            rw [List.length_replicate] at hv
            subst hv
            have q7 : OwI Y1 W3.heap.size (.slice a7 j c7) (tw ss j) := ow_two (n' := 0) o7.out kk6.out hap.out
            have hby : Below W3.heap.size W3 Y1 := hb.out.trans (kk6.out.below hs (fun k hk e => by have := (World.ownsRow.lt o6.out k e).1; omega))
            have hap1 : ∀ k, (Value.slice a6' (j + 1) c6').ownBlock = some k → (Value.slice a7 j c7).ownBlock ≠ some k := by
              intro k hk hk7
              rcases pl6.out with h4 | ⟨k', h4, h5⟩
              · rw [h4] at hk; exact hap.out k hk hk7
              · rw [h4] at hk
                cases hk
                have := (World.ownsRow.lt o7.out _ hk7).2
                omega
            have hs1 : W3.heap.size ≤ Y1.heap.size := hby.size
            have P6 : Hid (OwI Y1 W3.heap.size (.slice a6' (j + 1) c6') (List.replicate (j + 1) 3)) := p6'
            have Q7 : Hid (OwI Y1 W3.heap.size (.slice a7 j c7) (tw ss j)) := q7
            have HAP1 : Hid (∀ k, (Value.slice a6' (j + 1) c6').ownBlock = some k → (Value.slice a7 j c7).ownBlock ≠ some k) := hap1
            have HBY : Hid (Below W3.heap.size W3 Y1) := hby
            clear p6 kk6 pl6 p6' q7 hby hap1 o6 o7 hap hb d9
            go_wp2_with (first | (at_builtin; refine app_I1 rfl _ _ rfl rfl Q7.out (sd ss j) rfl rfl (by rw [tw_len]; omega) hs1 ?_) | fail)
            intro v7 Y2 p7 kk7 pl7
            have p7' : OwI Y2 W3.heap.size v7 (tw ss (j + 1)) := by rw [tw_succ]; exact p7.out
            obtain ⟨a7', c7', hv⟩ := ow_shape p7'
            rw [tw_len] at hv
            subst hv
            have R6 : Hid (OwI Y2 W3.heap.size (.slice a6' (j + 1) c6') (List.replicate (j + 1) 3)) := (show OwI _ _ _ _ from ow_two (n' := 0) P6.out kk7.out (fun k h7 h6 => HAP1.out k h6 h7))
            have R7 : Hid (OwI Y2 W3.heap.size (.slice a7' (j + 1) c7') (tw ss (j + 1))) := p7'
            have RB : Hid (Below W3.heap.size W3 Y2) := (show Below _ _ _ from HBY.out.trans (kk7.out.below hs1 (fun k hk e => by have := (World.ownsRow.lt Q7.out k e).1; omega)))
            have RA : Hid (∀ k, (Value.slice a6' (j + 1) c6').ownBlock = some k → (Value.slice a7' (j + 1) c7').ownBlock ≠ some k) := (show ∀ k, _ from by
              intro k hk hk7
              rcases pl7.out with h4 | ⟨k', h4, h5⟩
              · rw [h4] at hk7; exact HAP1.out k hk hk7
              · rw [h4] at hk7
                cases hk7
                have := (World.ownsRow.lt P6.out _ hk).2
                omega)
            clear p7 kk7 pl7 p7' P6 Q7 HAP1 HBY
            go_wp2_with fail
            go_roundw
            case rel => exact ⟨j + 1, a6', c6', a7', c7', by omega, by go_num, rfl, rfl, R6, R7, RA, RB⟩
            case measure => simp [intOf]; omega
      · obtain rfl : N = j := by omega
        have HA : Hid (AS W wr tb N wi ba st ca ro fl va1 vn vc1 vs ea1 en ec1 es1) := (show AS _ _ _ _ _ _ _ _ _ _ _ _ _ _ _ _ _ _  from HA3.out.on hb.out)
        have t8 : wr.cell? ⟨tb, 8, none⟩ = some (.slice ea1 en ec1) := blk_cell HA.out.t 8
        have hml : es1.length = en := HA.out.m
        have hzz : W.heap.size ≤ wr.heap.size := HA.out.b.size
        clear d9 HSw
        go_wp2_with (first
    | (refine wl_buildZ rfl 36 _ rfl (built_eq (by kernel_rfl) (bEvS 11 a6 N c6 (List.replicate N 3))) ?_)
    | (refine Go.Great.wpList_buildSliceTo rfl 25 36 1 _ rfl wr.heap.size rfl _ rfl Try.underlying25 (evS 11 a6 N c6 (List.replicate N 3)).cs.toArray (bsl_eq (by kernel_rfl) (builtSl _)) ?_)
    | (at_builtin; refine app_E rfl _ _ rfl rfl HA.out.o (evS 11 a6 N c6 (List.replicate N 3)) rfl rfl (by rw [hml]; omega) hzz ?_)
    | fail)
        intro v8 X1 o8 kk8 _
        obtain ⟨ea2, ec2, hv8⟩ := ow_shape o8.out
        rw [List.length_append, hml] at hv8
        have hv8' : v8 = .slice ea2 (en + 1) ec2 := hv8
        clear hv8
        subst hv8'
        have kT1 := blk_app HA.out.t HA.out.o (by decide) kk8.out
        have t8b : X1.cell? ⟨tb, 8, none⟩ = some (.slice ea1 en ec1) := blk_cell kT1 8
        have z8 : X1.frozen? ⟨tb, 8, none⟩ = false := frozen_of_row X1 tb 8 _ _ kT1
        have kk2 : Mb.Kept X1 (X1.setCell ⟨tb, 8, none⟩ (.slice ea2 (en + 1) ec2)) (fun q => q = tb) := Mb.kset X1 tb 8 _ rfl
        have o7b : OwI (X1.setCell ⟨tb, 8, none⟩ (.slice ea2 (en + 1) ec2)) W.heap.size (.slice a7 N c7) (tw ss N) := ow_ne (ow_app (Mb.own_lower o7.out hlen3) HA.out.o (by decide) kk8.out) kT1 (by decide) kk2
        obtain ⟨X2, hX2⟩ : ∃ X2, X1.setCell ⟨tb, 8, none⟩ (.slice ea2 (en + 1) ec2) = X2 := ⟨_, rfl⟩
        have hA2 : AS W X2 tb N wi ba st ca ro fl va1 vn vc1 vs ea2 (en + 1) ec2 (es1 ++ [evS 11 a6 N c6 (List.replicate N 3)]) := HA.out.add (e := evS 11 a6 N c6 (List.replicate N 3)) (Mb.own_lower o6.out hlen3) (ow_nil _ _ _ _) Ln.By.nil (show N ≤ 140737488355328 by omega) o8.out kk8.out hX2
        rw [hX2] at o7b
        obtain ⟨l1, hl1⟩ : ∃ l1, es1 ++ [evS 11 a6 N c6 (List.replicate N 3)] = l1 := ⟨_, rfl⟩
        rw [hl1] at hA2
        have HA2 : Hid (AS W X2 tb N wi ba st ca ro fl va1 vn vc1 vs ea2 (en + 1) ec2 l1) := hA2
        have O7 : Hid (OwI X2 W.heap.size (.slice a7 N c7) (tw ss N)) := o7b
        have HCf2 : Hid (Cf X2 (N : Int) wi ba st ca ro fl va1 vn vc1 vs r 0) := (show Cf _ _ _ _ _ _ _ _ _ _ _ _ _ _  from ⟨hA2.v.ri, HCf.out.le, HCf.out.vt, HCf.out.er⟩)
        have HEv2 : Hid (EvR X2 ea2 (en + 1) l1) := (show EvR _ _ _ _ from hA2.evr)
        have t0 : X2.cell? ⟨tb, 0, none⟩ = some (.int .i64 (N : Int)) := blk_cell hA2.t 0
        have t1 : X2.cell? ⟨tb, 1, none⟩ = some (.int .i64 wi) := blk_cell hA2.t 1
        have t2 : X2.cell? ⟨tb, 2, none⟩ = some (.int .i64 ba) := blk_cell hA2.t 2
        have t3 : X2.cell? ⟨tb, 3, none⟩ = some (.int .i64 st) := blk_cell hA2.t 3
        have t4 : X2.cell? ⟨tb, 4, none⟩ = some (.int .i64 ca) := blk_cell hA2.t 4
        have t5 : X2.cell? ⟨tb, 5, none⟩ = some (.int .i64 ro) := blk_cell hA2.t 5
        have t6 : X2.cell? ⟨tb, 6, none⟩ = some (.int .i64 fl) := blk_cell hA2.t 6
        have t7 : X2.cell? ⟨tb, 7, none⟩ = some (.slice va1 vn vc1) := blk_cell hA2.t 7
        have t8 : X2.cell? ⟨tb, 8, none⟩ = some (.slice ea2 (en + 1) ec2) := blk_cell hA2.t 8
        obtain ⟨⟨tq, dq, xq⟩, hq1⟩ : ∃ q : Int × Int × Int, pm 0 (en + 1) (N : Int) ba fl l1 (rg N) = q := ⟨_, rfl⟩
        clear hl1 hA2 o7b kk2 kT1 kk8 o8 o6 o7 hap hb HA hml hzz hj hjn
        go_wp2_with fail
        clear t8b z8 hX2
        refine wp_region_held_drew (S := (fun w' => w'.cell? ⟨tb, 0, none⟩ = some (.int .i64 (N : Int)) ∧ w'.cell? ⟨tb, 1, none⟩ = some (.int .i64 wi) ∧ w'.cell? ⟨tb, 2, none⟩ = some (.int .i64 ba) ∧ w'.cell? ⟨tb, 3, none⟩ = some (.int .i64 st) ∧ w'.cell? ⟨tb, 4, none⟩ = some (.int .i64 ca) ∧ w'.cell? ⟨tb, 5, none⟩ = some (.int .i64 ro) ∧ w'.cell? ⟨tb, 6, none⟩ = some (.int .i64 fl) ∧ w'.cell? ⟨tb, 7, none⟩ = some (.slice va1 vn vc1) ∧ w'.cell? ⟨tb, 8, none⟩ = some (.slice ea2 (en + 1) ec2))) (by kernel_rfl) ⟨(below_at (drew_bel _) t0), (below_at (drew_bel _) t1), (below_at (drew_bel _) t2), (below_at (drew_bel _) t3), (below_at (drew_bel _) t4), (below_at (drew_bel _) t5), (below_at (drew_bel _) t6), (below_at (drew_bel _) t7), (below_at (drew_bel _) t8)⟩ (fun hHeld => ?_)
        simp only [Act.put, List.size_toArray, List.length_cons, List.length_nil, Nat.zero_add]
        refine takeD (i := 0) (d := 85) (v := .agg #[.int .i64 (N : Int), .int .i64 wi, .int .i64 ba, .int .i64 st, .int .i64 ca, .int .i64 ro, .int .i64 fl, .slice va1 vn vc1, .slice ea2 (en + 1) ec2]) rfl (by kernel_rfl) (by kernel_rfl) (by kernel_rfl) (by kernel_rfl) (fun _ _ _ h => h) (Or.inl ⟨by rfl, fun w' hS => by (obtain ⟨s0, s1, s2, s3, s4, s5, s6, s7, s8⟩ := hS; go_simp)⟩) hHeld ?_
        simp only [Act.put, List.setIfInBounds_toArray, List.set_cons_zero, List.set_cons_succ]
        refine takeD (i := 1) (d := 86) (v := .int .i64 (N : Int)) rfl (by kernel_rfl) (by kernel_rfl) (by kernel_rfl) (by kernel_rfl) (fun _ _ _ h => h) (Or.inl ⟨by rfl, fun w' hS => by go_simp⟩) hHeld ?_
        simp only [Act.put, List.setIfInBounds_toArray, List.set_cons_zero, List.set_cons_succ]
        have hbD1 : Below X2.heap.size X2 X2.drew := drew_bel _
        have q0 := below_at hbD1 t0
        have q1 := below_at hbD1 t1
        have q2 := below_at hbD1 t2
        have q3 := below_at hbD1 t3
        have q4 := below_at hbD1 t4
        have q5 := below_at hbD1 t5
        have q6 := below_at hbD1 t6
        have q7 := below_at hbD1 t7
        have q8 := below_at hbD1 t8
        generalize X2.drew = D1 at *
        refine wpAnyH_ready (rs := [2]) (by kernel_rfl) (by simp) ?_
        refine AllReadyH.cons rfl (fun K hK => ?_) AllReadyH.nil
        go_simp
        refine (everybody_any N _ n2).mono ?_
        rintro r5 w5 ⟨ya, yc, rfl, oy5, hb5⟩
        refine hK.out _ _ ⟨(below_at hb5 q0), (below_at hb5 q1), (below_at hb5 q2), (below_at hb5 q3), (below_at hb5 q4), (below_at hb5 q5), (below_at hb5 q6), (below_at hb5 q7), (below_at hb5 q8)⟩ (fun hHeld => ?_)
        clear hK K
        refine wpAnyH_ready (rs := [3]) (by kernel_rfl) (by simp) ?_
        refine AllReadyH.cons rfl (fun K hK => ?_) AllReadyH.nil
        go_simp
        refine (premise_any (N : Int) wi ba st ca ro fl va1 vn vc1 vs r 0 ea2 (en + 1) ec2 l1 ya N yc (rg N) _ (HCf2.out.below (bstep hbD1 hb5)) (HEv2.out.on (bstep hbD1 hb5)) oy5.ri (by omega)).mono ?_
        rintro r6 w6 ⟨rfl, hb6⟩
        rw [hq1]
        refine hK.out _ _ ⟨(below_at hb6 (below_at hb5 q0)), (below_at hb6 (below_at hb5 q1)), (below_at hb6 (below_at hb5 q2)), (below_at hb6 (below_at hb5 q3)), (below_at hb6 (below_at hb5 q4)), (below_at hb6 (below_at hb5 q5)), (below_at hb6 (below_at hb5 q6)), (below_at hb6 (below_at hb5 q7)), (below_at hb6 (below_at hb5 q8))⟩ (fun hHeld => ?_)
        clear hK K
        refine takeD (i := 4) (d := 84) (v := .tuple #[.int .i64 tq, .int .i64 dq, .int .i64 xq]) rfl (by kernel_rfl) (by kernel_rfl) (by kernel_rfl) (by kernel_rfl) (fun _ _ _ h => h) (Or.inl ⟨by rfl, fun w' hS => by go_simp⟩) hHeld ?_
        simp only [Act.put, List.setIfInBounds_toArray, List.set_cons_zero, List.set_cons_succ]
        refine takeD (i := 5) (d := 89) (v := .int .i64 tq) rfl (by kernel_rfl) (by kernel_rfl) (by kernel_rfl) (by kernel_rfl) (fun _ _ _ h => h) (Or.inl ⟨by rfl, fun w' hS => by go_simp⟩) hHeld ?_
        simp only [Act.put, List.setIfInBounds_toArray, List.set_cons_zero, List.set_cons_succ]
        refine takeD (i := 6) (d := 90) (v := .int .i64 dq) rfl (by kernel_rfl) (by kernel_rfl) (by kernel_rfl) (by kernel_rfl) (fun _ _ _ h => h) (Or.inl ⟨by rfl, fun w' hS => by go_simp⟩) hHeld ?_
        simp only [Act.put, List.setIfInBounds_toArray, List.set_cons_zero, List.set_cons_succ]
        refine takeD (i := 7) (d := 91) (v := .int .i64 xq) rfl (by kernel_rfl) (by kernel_rfl) (by kernel_rfl) (by kernel_rfl) (fun _ _ _ h => h) (Or.inl ⟨by rfl, fun w' hS => by go_simp⟩) hHeld ?_
        simp only [Act.put, List.setIfInBounds_toArray, List.set_cons_zero, List.set_cons_succ]
        refine takeD (i := 8) (d := 11) (v := .int .i64 tq) rfl (by kernel_rfl) (by kernel_rfl) (by kernel_rfl) (by kernel_rfl) (fun _ _ _ h => h) (Or.inl ⟨by rfl, fun w' hS => by go_simp⟩) hHeld ?_
        simp only [Act.put, List.setIfInBounds_toArray, List.set_cons_zero, List.set_cons_succ]
        refine takeD (i := 9) (d := 12) (v := .int .i64 dq) rfl (by kernel_rfl) (by kernel_rfl) (by kernel_rfl) (by kernel_rfl) (fun _ _ _ h => h) (Or.inl ⟨by rfl, fun w' hS => by go_simp⟩) hHeld ?_
        simp only [Act.put, List.setIfInBounds_toArray, List.set_cons_zero, List.set_cons_succ]
        refine takeD (i := 10) (d := 13) (v := .int .i64 xq) rfl (by kernel_rfl) (by kernel_rfl) (by kernel_rfl) (by kernel_rfl) (fun _ _ _ h => h) (Or.inl ⟨by rfl, fun w' hS => by go_simp⟩) hHeld ?_
        simp only [Act.put, List.setIfInBounds_toArray, List.set_cons_zero, List.set_cons_succ]
        refine wpAnyH_done (by kernel_rfl) ?_ _
        clear hHeld
        have HB6 : Hid (Below X2.heap.size X2 w6) := (show Below _ _ _ from bstep (bstep hbD1 hb5) hb6)
        clear hbD1 hb5 oy5 hb6
        clear t0 t1 t2 t3 t4 t5 t6 t7 t8
        try clear q0 q1 q2 q3 q4 q5 q6 q7 q8
        have hx180 : xq = 0 ∨ xq = 180 := by
          rw [pm_ok (by omega) (setB_all (by omega)) hfl] at hq1
          by_cases hF : prK N (inF (wtF N ba) (rg N)) l1 (en + 1) 290 = -1
          · rw [if_pos hF] at hq1; cases hq1; exact .inr rfl
          · rw [if_neg hF] at hq1; cases hq1; exact .inl rfl
        rcases hx180 with rfl | rfl
        case inr =>
          have HBz : Hid (Below w.heap.size w w6) := bst HB.out (HA2.out.b.trans (HB6.out.mono HA2.out.b.size))
          clear hq1
          go_wp2_with fail
          go_ret
          exact ⟨rfl, HBz.out⟩
        have HA6 : Hid (AS W w6 tb N wi ba st ca ro fl va1 vn vc1 vs ea2 (en + 1) ec2 l1) := (show AS _ _ _ _ _ _ _ _ _ _ _ _ _ _ _ _ _ _  from HA2.out.on HB6.out)
        have O76 : Hid (OwI w6 W.heap.size (.slice a7 N c7) (tw ss N)) := (show OwI _ _ _ _ from Mb.own_still O7.out HB6.out)
        have t8 : w6.cell? ⟨tb, 8, none⟩ = some (.slice ea2 (en + 1) ec2) := blk_cell HA6.out.t 8
        have hml : l1.length = en + 1 := HA6.out.m
        have hzz : W.heap.size ≤ w6.heap.size := HA6.out.b.size
        have HQ1 : Hid (pm 0 (en + 1) (N : Int) ba fl l1 (rg N) = (tq, dq, 0)) := hq1
        clear hq1 HA2 O7 HCf2 HEv2 HB6
        go_wp2_with (first
    | (refine wl_buildZ rfl 36 _ rfl (built_eq (by kernel_rfl) (bEvS 11 a7 N c7 (tw ss N))) ?_)
    | (refine Go.Great.wpList_buildSliceTo rfl 25 36 1 _ rfl w6.heap.size rfl _ rfl Try.underlying25 (evS 11 a7 N c7 (tw ss N)).cs.toArray (bsl_eq (by kernel_rfl) (builtSl _)) ?_)
    | (at_builtin; refine app_E rfl _ _ rfl rfl HA6.out.o (evS 11 a7 N c7 (tw ss N)) rfl rfl (by rw [hml]; omega) hzz ?_)
    | fail)
        intro v9 X3 o9 kk9 _
        obtain ⟨ea3, ec3, hv9⟩ := ow_shape o9.out
        rw [List.length_append, hml] at hv9
        have hv9' : v9 = .slice ea3 (en + 1 + 1) ec3 := hv9
        clear hv9
        subst hv9'
        have kT3 := blk_app HA6.out.t HA6.out.o (by decide) kk9.out
        have t8b : X3.cell? ⟨tb, 8, none⟩ = some (.slice ea2 (en + 1) ec2) := blk_cell kT3 8
        have z8 : X3.frozen? ⟨tb, 8, none⟩ = false := frozen_of_row X3 tb 8 _ _ kT3
        have kk4 : Mb.Kept X3 (X3.setCell ⟨tb, 8, none⟩ (.slice ea3 (en + 1 + 1) ec3)) (fun q => q = tb) := Mb.kset X3 tb 8 _ rfl
        have o7c : OwI (X3.setCell ⟨tb, 8, none⟩ (.slice ea3 (en + 1 + 1) ec3)) W.heap.size (.slice a7 N c7) (tw ss N) := ow_ne (ow_app O76.out HA6.out.o (by decide) kk9.out) kT3 (by decide) kk4
        obtain ⟨X4, hX4⟩ : ∃ X4, X3.setCell ⟨tb, 8, none⟩ (.slice ea3 (en + 1 + 1) ec3) = X4 := ⟨_, rfl⟩
        have hA4 : AS W X4 tb N wi ba st ca ro fl va1 vn vc1 vs ea3 (en + 1 + 1) ec3 (l1 ++ [evS 11 a7 N c7 (tw ss N)]) := HA6.out.add (e := evS 11 a7 N c7 (tw ss N)) O76.out (ow_nil _ _ _ _) Ln.By.nil (show N ≤ 140737488355328 by omega) o9.out kk9.out hX4
        rw [hX4] at o7c
        have HA4 : Hid (AS W X4 tb N wi ba st ca ro fl va1 vn vc1 vs ea3 (en + 1 + 1) ec3 (l1 ++ [evS 11 a7 N c7 (tw ss N)])) := hA4
        have HFin : Hid (∀ k : Int, sdl ss k N ≠ [] → (pm 0 (en + 1 + 1) N ba fl (l1 ++ [evS 11 a7 N c7 (tw ss N)]) (sdl ss k N)).2.2 = 0 ∧ ((sdl ss k N).length < N → (pm 0 (en + 1 + 1) N ba fl (l1 ++ [evS 11 a7 N c7 (tw ss N)]) (sdl ss k N)).1 = ((en + 1 : Nat) : Int) + 1 ∧ 1 ≤ (pm 0 (en + 1 + 1) N ba fl (l1 ++ [evS 11 a7 N c7 (tw ss N)]) (sdl ss k N)).2.1 ∧ (pm 0 (en + 1 + 1) N ba fl (l1 ++ [evS 11 a7 N c7 (tw ss N)]) (sdl ss k N)).2.1 ≤ dq) ∧ ((sdl ss k N).length = N → (pm 0 (en + 1 + 1) N ba fl (l1 ++ [evS 11 a7 N c7 (tw ss N)]) (sdl ss k N)).1 = tq ∧ (pm 0 (en + 1 + 1) N ba fl (l1 ++ [evS 11 a7 N c7 (tw ss N)]) (sdl ss k N)).2.1 = dq)) := (show ∀ k : Int, _ from fun k hne => by
          have h1 := apart_fin n1 n2 (ba := ba) (l := l1) (en := en + 1) hml (by omega) (by omega) hfl (ss := ss) (a := a7) (c := c7) k (by rw [HQ1.out]) hne
          rw [HQ1.out] at h1
          exact h1)
        obtain ⟨l2, hl2⟩ : ∃ l2, l1 ++ [evS 11 a7 N c7 (tw ss N)] = l2 := ⟨_, rfl⟩
        rw [hl2] at HA4 HFin
        rcases o7c.ri.2.2 with h0 | ⟨b7, f7, ha7, hc7⟩
        · omega
        have hb7 : b7 < X4.heap.size := World.block_lt_of_cell? X4 _ (hc7 0 (by omega))
        have HC7 : Hid (∀ i, i < N → X4.cell? ⟨b7, f7 + i, none⟩ = some (.int .i64 (sd ss i))) := (show ∀ i, _ from fun i hi => by rw [hc7 i hi, tw_at _ hi])
        clear hl2 hA4 o7c kk4 kT3 kk9 o9 HA6 O76 HQ1 hml hzz hc7
        go_wp2_with fail
        clear t8 t8b z8 hX4
        subst ha7
        go_loopw [14] (fun x wr => ∃ (k : Nat), 1 ≤ k ∧ k ≤ 3 ∧ x = .int .i64 k ∧ Hid (Below X4.heap.size X4 wr)) (fun x _ => 3 - (intOf x).toNat)
        case atStart => exact ⟨1, by omega, by omega, rfl, Below.refl _ _⟩
        case round =>
          obtain ⟨k, hk1, hk3, rfl, hbk⟩ := hrel
          by_cases hk2 : k ≤ 2
          · have k2 : (k : Int) ≤ 2 := by omega
            go_wp2_with fail
            go_loopw [15, 16] (fun v x wr => ∃ (j : Nat) (a : Option Addr) (c : Nat), j ≤ N ∧ x = .int .i64 j ∧ v = .slice a (sdl ss k j).length c ∧ Hid (OwI wr X4.heap.size (.slice a (sdl ss k j).length c) (sdl ss k j)) ∧ Hid (Below X4.heap.size X4 wr)) (fun _ x _ => N - (intOf x).toNat)
            case atStart => exact ⟨0, none, 0, Nat.zero_le _, rfl, rfl, (show OwI _ _ _ _ from ow_nil _ _ _ _), hbk⟩
            case round =>
              obtain ⟨j, a, c, hj, rfl, rfl, ho, hb⟩ := hrel
              by_cases hjn : j < N
              · have j1 : (0 : Int) ≤ (j : Int) := Int.natCast_nonneg _
                have j3 : (j : Int) < (N : Int) := by omega
                have cw := belowB_at hb.out hb7 (HC7.out j hjn)
                have hs : X4.heap.size ≤ wr.heap.size := hb.out.size
                have hsl := sdl_le ss k j
                by_cases hsd : sd ss j = (k : Int)
                · have HSu : Hid (sdl ss k (j + 1) = sdl ss k j ++ [(j : Int)]) := (show _ = _ from by rw [sdl_succ, if_pos hsd])
                  rw [hsd] at cw
                  clear hsd
                  go_wp2_with (first | (at_builtin; refine app_I1 rfl _ _ rfl rfl ho.out (j : Int) rfl rfl (by omega) hs ?_) | fail)
                  intro v5 Y1 p5 kk5 _
                  have p5' : OwI Y1 X4.heap.size v5 (sdl ss k (j + 1)) := by rw [HSu.out]; exact p5.out
                  obtain ⟨a5, c5, hv⟩ := ow_shape p5'
                  subst hv
                  have P5 : Hid (OwI Y1 X4.heap.size (.slice a5 (sdl ss k (j + 1)).length c5) (sdl ss k (j + 1))) := p5'
                  have PB : Hid (Below X4.heap.size X4 Y1) := (show Below _ _ _ from hb.out.trans (kk5.out.below hs (fun q hq e => by have := (World.ownsRow.lt ho.out q e).1; omega)))
                  clear p5 kk5 p5' ho hb HSu cw
                  go_wp2_with fail
                  go_roundw
                  case rel => exact ⟨j + 1, a5, c5, by omega, by go_num, rfl, P5, PB⟩
                  case measure => simp [intOf]; omega
                · have HSu : Hid (sdl ss k (j + 1) = sdl ss k j) := (show _ = _ from by rw [sdl_succ, if_neg hsd])
                  have hsd' : (sd ss j == (k : Int)) = false := by rw [beq_eq_false_iff_ne]; exact hsd
                  clear hsd
                  go_wp2_with fail
                  go_roundw
                  case rel => exact ⟨j + 1, a, c, by omega, by go_num, by rw [HSu.out], by rw [HSu.out]; exact ho, hb⟩
                  case measure => simp [intOf]; omega
              · obtain rfl : N = j := by omega
                by_cases hem : sdl ss k N = []
                · have hl0 : (sdl ss k N).length = 0 := by rw [hem]; rfl
                  rw [hl0]
                  clear ho
                  go_wp2_with fail
                  go_roundw
                  case rel => exact ⟨k + 1, by omega, by omega, by go_num, hb⟩
                  case measure => simp [intOf]; omega
                · have hf := HFin.out k hem
                  have hA7 := HA4.out.on hb.out
                  have HPr : Hid (Calls Try.prog 9 #[.agg #[.int .i64 (N : Int), .int .i64 wi, .int .i64 ba, .int .i64 st, .int .i64 ca, .int .i64 ro, .int .i64 fl, .slice va1 vn vc1, .slice ea3 (en + 1 + 1) ec3], .slice a (sdl ss k N).length c] wr fun e w' => e = .returned (.tuple #[.int .i64 (pm 0 (en + 1 + 1) N ba fl l2 (sdl ss k N)).1, .int .i64 (pm 0 (en + 1 + 1) N ba fl l2 (sdl ss k N)).2.1, .int .i64 (pm 0 (en + 1 + 1) N ba fl l2 (sdl ss k N)).2.2]) ∧ Below wr.heap.size wr w') := premise_any (N : Int) wi ba st ca ro fl va1 vn vc1 vs r 0 ea3 (en + 1 + 1) ec3 l2 a (sdl ss k N).length c (sdl ss k N) wr ⟨hA7.v.ri, HCf.out.le, HCf.out.vt, HCf.out.er⟩ hA7.evr ho.out.ri (by have := sdl_le ss k N; omega)
                  have t0 : wr.cell? ⟨tb, 0, none⟩ = some (.int .i64 (N : Int)) := blk_cell hA7.t 0
                  have t1 : wr.cell? ⟨tb, 1, none⟩ = some (.int .i64 wi) := blk_cell hA7.t 1
                  have t2 : wr.cell? ⟨tb, 2, none⟩ = some (.int .i64 ba) := blk_cell hA7.t 2
                  have t3 : wr.cell? ⟨tb, 3, none⟩ = some (.int .i64 st) := blk_cell hA7.t 3
                  have t4 : wr.cell? ⟨tb, 4, none⟩ = some (.int .i64 ca) := blk_cell hA7.t 4
                  have t5 : wr.cell? ⟨tb, 5, none⟩ = some (.int .i64 ro) := blk_cell hA7.t 5
                  have t6 : wr.cell? ⟨tb, 6, none⟩ = some (.int .i64 fl) := blk_cell hA7.t 6
                  have t7 : wr.cell? ⟨tb, 7, none⟩ = some (.slice va1 vn vc1) := blk_cell hA7.t 7
                  have t8 : wr.cell? ⟨tb, 8, none⟩ = some (.slice ea3 (en + 1 + 1) ec3) := blk_cell hA7.t 8
                  have hlN := sdl_le ss k N
                  have hl0 : ¬ (sdl ss k N).length = 0 := fun h => hem (List.eq_nil_of_length_eq_zero h)
                  obtain ⟨⟨t2q, d2q, x2q⟩, hq2⟩ : ∃ q : Int × Int × Int, pm 0 (en + 1 + 1) N ba fl l2 (sdl ss k N) = q := ⟨_, rfl⟩
                  rw [hq2] at hf HPr
                  have HRest : Hid (Below X4.heap.size X4 wr) := hb
                  have HT8 : Hid (∀ w', Below wr.heap.size wr w' → w'.cell? ⟨tb, 8, none⟩ = some (.slice ea3 (en + 1 + 1) ec3)) := (show ∀ w', _ from fun w' hbw => below_at hbw t8)
                  have hx2 : x2q = 0 := hf.1
                  subst hx2
                  have hf2 : ((sdl ss k N).length < N → t2q = ((en + 1 : Nat) : Int) + 1 ∧ 1 ≤ d2q ∧ d2q ≤ dq) ∧ ((sdl ss k N).length = N → t2q = tq ∧ d2q = dq) := hf.2
                  clear hf hq2 hA7 hem ho hb HFin HA4
                  generalize hmm : (sdl ss k N).length = mm at *
                  have hm0 : ((mm : Int) == 0) = false := by rw [beq_eq_false_iff_ne]; omega
                  clear hl0
                  go_wp2_with fail
                  refine HPr.out.mono ?_
                  rintro r7 w7 ⟨rfl, hb7w⟩
                  have t8w := HT8.out w7 hb7w
                  have HBn : Hid (Below X4.heap.size X4 w7) := (show Below _ _ _ from HRest.out.trans (hb7w.mono HRest.out.size))
                  clear hb7w HPr t0 t1 t2 t3 t4 t5 t6 t7 t8 HT8 HRest
                  by_cases hmN : mm = N
                  · have h3 := hf2.2 hmN
                    clear hf2 hmm
                    obtain ⟨rfl, rfl⟩ := h3
                    subst hmN
                    go_wp2_with fail
                    go_roundw
                    case rel => exact ⟨k + 1, by omega, by omega, by go_num, HBn⟩
                    case measure => simp [intOf]; omega
                  · have h3 := hf2.1 (by omega)
                    clear hf2 hmm
                    obtain ⟨h4, h5, h6⟩ := h3
                    have h7 : t2q = ((en + 1 + 1 : Nat) : Int) := by omega
                    subst h7
                    have g1 : (mm : Int) < (N : Int) := by omega
                    have g2 : ¬ d2q < 1 := by omega
                    have g3 : ¬ dq < d2q := by omega
                    have g4 : ((mm : Int) == (N : Int)) = false := by rw [beq_eq_false_iff_ne]; omega
                    clear h4 hmN h5 h6
                    go_wp2_with fail
                    go_roundw
                    case rel => exact ⟨k + 1, by omega, by omega, by go_num, HBn⟩
                    case measure => simp [intOf]; omega
          · have k2 : ¬ (k : Int) ≤ 2 := by omega
            have HBz : Hid (Below w.heap.size w wr) := bst HB.out (HA4.out.b.trans (hbk.out.mono HA4.out.b.size))
            go_wp2_with fail
            go_ret
            exact ⟨rfl, HBz.out⟩

end Go.Proofs.Ytfodkackfahldaa.Lo
