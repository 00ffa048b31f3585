import Derived.Test.YtfodkackfahldaaBrb
namespace Go.Proofs.Ytfodkackfahldaa.Lo
open Go.RowKit
set_option linter.unusedVariables false
set_option linter.unusedSimpArgs false

theorem one9 (no wi ba st ca ro fl : Int) (va : Option Addr) (vn vc : Nat) (ea : Option Addr) (en ec : Nat) : ∀ u ∈ ([.int .i64 no, .int .i64 wi, .int .i64 ba, .int .i64 st, .int .i64 ca, .int .i64 ro, .int .i64 fl, .slice va vn vc, .slice ea en ec] : List Value), u.oneCell' = true := by
  intro u hu
  simp only [List.mem_cons, List.not_mem_nil, or_false] at hu
  rcases hu with rfl | rfl | rfl | rfl | rfl | rfl | rfl | rfl | rfl <;> rfl
structure LSc (W wr : World) (tb : Nat) (no wi ba st ca ro fl : Int) (va : Option Addr) (vn vc : Nat) (vs : List Int) (es : List Em) (ea : Option Addr) (j ec : Nat) (es' : List Em) : Prop where
  t : wr.heap[tb]? = some (.cells #[.int .i64 no, .int .i64 wi, .int .i64 ba, .int .i64 st, .int .i64 ca, .int .i64 ro, .int .i64 fl, .slice va vn vc, .slice ea j ec] 27 (0, 0))
  r : wr.heap[W.heap.size]? = some (.cells #[.int .i64 0, .int .i64 0, .int .i64 0, .int .i64 0, .int .i64 0, .int .i64 0, .int .i64 0, .slice none 0 0, .slice none 0 0] 27 (0, 0))
  v : OwI wr W.heap.size (.slice va vn vc) vs
  o : OwE wr W.heap.size (.slice ea j ec) es'
  s : Rws wr W.heap.size es'
  m : Sms j es es'
  b : Below W.heap.size W wr
theorem LSc.on {W wr w' : World} {tb : Nat} {no wi ba st ca ro fl : Int} {va : Option Addr} {vn vc : Nat} {vs : List Int} {es : List Em} {ea : Option Addr} {j ec : Nat} {es' : List Em} (h : LSc W wr tb no wi ba st ca ro fl va vn vc vs es ea j ec es') (hb : Below wr.heap.size wr w') : LSc W w' tb no wi ba st ca ro fl va vn vc vs es ea j ec es' :=
  ⟨blk_on hb h.t, blk_on hb h.r, Mb.own_still h.v hb, Mb.own_still h.o hb, h.s.keep (Mb.Kept.ofBelow hb (fun _ => False)) (fun j hj => hj.elim), h.m, h.b.trans (hb.mono h.b.size)⟩
theorem kb {a b : World} (h : Mb.Kept a b (fun k => (Value.slice none 0 0).ownBlock = some k)) : Below a.heap.size a b := h.below (Nat.le_refl _) (fun k _ e => by simp [Value.ownBlock] at e)
theorem kn {a b : World} {g : Nat} (h : Mb.Kept a b (fun k => k = g)) {x : Nat} (hx : x ≤ g) (hxa : x ≤ a.heap.size) : Below x a b := h.below hxa (fun k hk e => by have e' : k = g := e; omega)
theorem ow_ne {w w' : World} {B t s n g t' : Nat} {v : Value} {l : List Value} {C : Array Value} (h : w.ownsRow B t s v n l) (hk : w.heap[g]? = some (.cells C t' (0, 0))) (ht : t' ≠ t) (k : Mb.Kept w w' (fun j => j = g)) : w'.ownsRow B t s v n l :=
  k.owns h (fun q hq e => by
    have e' : q = g := e
    subst e'
    exact ht (ow_type h hq hk))
theorem ow_app {w w' : World} {B t s n n' s' t' : Nat} {v v' : Value} {l l' : List Value} (h : w.ownsRow B t s v n l) (hk : w.ownsRow B t' s' v' n' l') (ht : t' ≠ t) (k : Mb.Kept w w' (fun j => v'.ownBlock = some j)) : w'.ownsRow B t s v n l :=
  k.owns h (fun q hq e => by
    obtain ⟨C, hC⟩ := Ln.own_ty hk e
    exact ht (ow_type h hq hC))
theorem blk_app {w w' : World} {B n' s' t' g t : Nat} {v' : Value} {l' : List Value} {C : Array Value} (h : w.heap[g]? = some (.cells C t (0, 0))) (hk : w.ownsRow B t' s' v' n' l') (ht : t ≠ t') (k : Mb.Kept w w' (fun j => v'.ownBlock = some j)) : w'.heap[g]? = some (.cells C t (0, 0)) :=
  k.obj h (fun e => ht (ow_type hk e h))
theorem bsl_eq {t : TypeId} {n : Nat} {l l' : List (Nat × Value)} {c : Array Value} (e : l = l') (h : Try.prog.builtSlice t n l' = some c) : Try.prog.builtSlice t n l = some c := e ▸ h
set_option maxRecDepth 100000 in
set_option maxHeartbeats 4000000 in
theorem copied_any (no wi ba st ca ro fl : Int) (va : Option Addr) (vn vc : Nat) (vs : List Int) (ea : Option Addr) (en ec : Nat) (es : List Em) (w : World) (hv : Ri w va vn vc vs) (hvn : vn * 8 ≤ 140737488351232) (he : EvF w ea en es) : Calls Try.prog 8 #[.agg #[.int .i64 no, .int .i64 wi, .int .i64 ba, .int .i64 st, .int .i64 ca, .int .i64 ro, .int .i64 fl, .slice va vn vc, .slice ea en ec]] w fun r w' => ∃ (va' : Option Addr) (vc' : Nat) (ea' : Option Addr) (ec' : Nat) (es' : List Em), r = .returned (.agg #[.int .i64 no, .int .i64 wi, .int .i64 ba, .int .i64 st, .int .i64 ca, .int .i64 ro, .int .i64 fl, .slice va' vn vc', .slice ea' en ec']) ∧ OwI w' w.heap.size (.slice va' vn vc') vs ∧ OwE w' w.heap.size (.slice ea' en ec') es' ∧ Rws w' w.heap.size es' ∧ Sms en es es' ∧ Below w.heap.size w w' := by
  have HB : Hid (Below w.heap.size w (w.alloc (.cells #[.int .i64 no, .int .i64 wi, .int .i64 ba, .int .i64 st, .int .i64 ca, .int .i64 ro, .int .i64 fl, .slice va vn vc, .slice ea en ec] 27))) := bsp _ _ _
  have hk := heap_new w #[.int .i64 no, .int .i64 wi, .int .i64 ba, .int .i64 st, .int .i64 ca, .int .i64 ro, .int .i64 fl, .slice va vn vc, .slice ea en ec] 27
  have hWs : w.heap.size < (w.alloc (.cells #[.int .i64 no, .int .i64 wi, .int .i64 ba, .int .i64 st, .int .i64 ca, .int .i64 ro, .int .i64 fl, .slice va vn vc, .slice ea en ec] 27)).heap.size := by simp
  generalize hW : w.alloc (.cells #[.int .i64 no, .int .i64 wi, .int .i64 ba, .int .i64 st, .int .i64 ca, .int .i64 ro, .int .i64 fl, .slice va vn vc, .slice ea en ec] 27) = W at *
  have c0 : W.cell? ⟨w.heap.size, 0, none⟩ = some (.int .i64 no) := blk_cell hk 0
  have c1 : W.cell? ⟨w.heap.size, 1, none⟩ = some (.int .i64 wi) := blk_cell hk 1
  have c2 : W.cell? ⟨w.heap.size, 2, none⟩ = some (.int .i64 ba) := blk_cell hk 2
  have c3 : W.cell? ⟨w.heap.size, 3, none⟩ = some (.int .i64 st) := blk_cell hk 3
  have c4 : W.cell? ⟨w.heap.size, 4, none⟩ = some (.int .i64 ca) := blk_cell hk 4
  have c5 : W.cell? ⟨w.heap.size, 5, none⟩ = some (.int .i64 ro) := blk_cell hk 5
  have c6 : W.cell? ⟨w.heap.size, 6, none⟩ = some (.int .i64 fl) := blk_cell hk 6
  have c7 : W.cell? ⟨w.heap.size, 7, none⟩ = some (.slice va vn vc) := blk_cell hk 7
  have c8 : W.cell? ⟨w.heap.size, 8, none⟩ = some (.slice ea en ec) := blk_cell hk 8
  have HE : Hid (EvF W ea en es) := he.on HB.out
  have HV : Hid (Ri W va vn vc vs) := hv.below HB.out
  have hvl : vs.length = vn := hv.1
  clear hk he hv
  go_enter Try.func8, Try.ntmps8
  go_wp2_with (first | (refine wl_allocZ rfl 27 rfl zScr ?_) | fail)
  intro W1 k1 b1 s1
  have d0 := below_at b1 c0
  have d1 := below_at b1 c1
  have d2 := below_at b1 c2
  have d3 := below_at b1 c3
  have d4 := below_at b1 c4
  have d5 := below_at b1 c5
  have d6 := below_at b1 c6
  have d7 := below_at b1 c7
  have d8 := below_at b1 c8
  go_wp2_with (first | (refine wl_allocZ rfl 27 rfl zScr ?_) | fail)
  intro W2 k2 b2 s2
  go_wp2_with (first | (refine Ln.at_store 27 _ _ rfl ?_; refine wl_storeZ rfl 27 _ _ rfl (L := [.int .i64 no, .int .i64 wi, .int .i64 ba, .int .i64 st, .int .i64 ca, .int .i64 ro, .int .i64 fl, .slice va vn vc, .slice none 0 0]) rfl rfl k2 iScr rfl (one9 _ _ _ _ _ _ _ _ _ _ _ _ _) ?_) | fail)
  intro W3 k3 kk3
  have hb3 : Below W.heap.size W W3 := (bst b1 b2).trans (kn kk3 (Nat.le_of_lt s1) (by have := b2.size; omega))
  have kR3 : W3.heap[W.heap.size]? = some (.cells #[.int .i64 0, .int .i64 0, .int .i64 0, .int .i64 0, .int .i64 0, .int .i64 0, .int .i64 0, .slice none 0 0, .slice none 0 0] 27 (0, 0)) := kk3.obj (blk_on b2 k1) (fun e => by have e' : W.heap.size = W1.heap.size := e; omega)
  have e7 := belowB_at hb3 hWs c7
  have HC8 : Hid (W.cell? ⟨w.heap.size, 8, none⟩ = some (.slice ea en ec)) := c8
  have HV3 : Hid (Ri W3 va vn vc vs) := HV.out.below hb3
  have hsz3 : W.heap.size ≤ W3.heap.size := hb3.size
  clear d0 d1 d2 d3 d4 d5 d6 d7 d8 k1 b1 k2 b2 s2 kk3 c0 c1 c2 c3 c4 c5 c6 c7 c8 HV
  generalize W1.heap.size = tb at *
  go_wp2_with (first | (at_builtin; refine app_I rfl _ _ rfl rfl (show OwI W3 W.heap.size (.slice none 0 0) [] from ow_nil _ _ _ _) rfl HV3.out (by simp only [List.length_nil]; omega) hsz3 ?_) | fail)
  intro v7 W4 o7 kk4 _
  have o7' : OwI W4 W.heap.size v7 vs := o7.out
  obtain ⟨va', vc', hv7⟩ := ow_shape o7'
  rw [hvl] at hv7
  subst hv7
  have hb34 := kb kk4.out
  have kT4 := blk_on hb34 k3
  have kR4 := blk_on hb34 kR3
  have hb4 : Below W.heap.size W W4 := hb3.trans (hb34.mono hsz3)
  have t7 : W4.cell? ⟨tb, 7, none⟩ = some (.slice va vn vc) := blk_cell kT4 7
  have z7 : W4.frozen? ⟨tb, 7, none⟩ = false := frozen_of_row W4 tb 7 _ _ kT4
  have kk5 : Mb.Kept W4 (W4.setCell ⟨tb, 7, none⟩ (.slice va' vn vc')) (fun q => q = tb) := Mb.kset W4 tb 7 _ rfl
  have HL : Hid (LSc W (W4.setCell ⟨tb, 7, none⟩ (.slice va' vn vc')) tb no wi ba st ca ro fl va' vn vc' vs es none 0 0 []) := (show LSc _ _ _ _ _ _ _ _ _ _ _ _ _ _ _ _ _ _ _ from
    ⟨Mb.blk_set kT4 rfl, kk5.obj kR4 (fun e => by have e' : W.heap.size = tb := e; omega), ow_ne o7' kT4 (by decide) kk5, ow_nil _ _ _ _, Rws.nil _ _, ⟨rfl, fun i hi => by omega⟩, hb4.trans (kn kk5 (Nat.le_of_lt s1) hb4.size)⟩)
  clear hb3 kR3 e7 HV3 hsz3 k3 o7 kk4 o7' hb34 kT4 kR4 hb4 kk5
  go_wp2_with fail
  clear t7 z7
  generalize W4.setCell ⟨tb, 7, none⟩ (.slice va' vn vc') = W5 at *
  go_loopw [4] (fun x wr => ∃ (j : Nat) (es' : List Em) (ea' : Option Addr) (ec' : Nat), j ≤ en ∧ x = .int .i64 j ∧ Hid (LSc W wr tb no wi ba st ca ro fl va' vn vc' vs es ea' j ec' es')) (fun x _ => en - (intOf x).toNat)
  case atStart => exact ⟨0, [], none, 0, Nat.zero_le _, rfl, HL⟩
  case round =>
    obtain ⟨j, es', ea', ec', hj, rfl, hL⟩ := hrel
    have d8 := belowB_at hL.out.b hWs HC8.out
    by_cases hjn : j < en
    · have j1 : (0 : Int) ≤ (j : Int) := Int.natCast_nonneg _
      have j2 : (j : Int) < (en : Int) := by omega
      have hsz := HE.out.sz
      rcases HE.out.r.row with h0 | ⟨eb, eo, rfl, hrow⟩
      · omega
      have HEVW : Hid (W.rangeAt eb (eo + j * 13) (es.getD j em0).cs) := hrow j hjn
      have HBd := HE.out.bd j hjn
      have HSd := (HE.out.r.sd j hjn).1
      have HSl := HE.out.sl j hjn
      have Hej : Hid (∃ e, es.getD j em0 = e) := (show ∃ e, _ from ⟨_, rfl⟩)
      obtain ⟨e, he⟩ := Hej.out
      rw [he] at HEVW HBd HSd HSl
      have He : Hid (es.getD j em0 = e) := he
      have HBdW : Hid (Ln.Rd W e.ba e.bn e.bc e.bs) := HBd.1
      have HBn : Hid (e.ba = none → e.bn = 0 ∧ e.bc = 0) := HBd.2.1
      have hbn : e.bn ≤ 140737488351232 := HBd.2.2
      have HSdW : Hid (Ri W e.sa e.sn e.sc e.xs) := HSd
      have hBl : e.bs.length = e.bn := HBd.1.len
      have hSl : e.xs.length = e.sn := HSd.1
      clear he Hej HBd HSd hrow
      have hebB : eb < W.heap.size := World.block_lt_of_cell? W _ (HEVW.out 0 _ rfl)
      have HEV : Hid (wr.rangeAt eb (eo + j * 13) e.cs) := (show wr.rangeAt _ _ _ from belowB_range hL.out.b hebB HEVW.out)
      have hBx : W.heap.size ≤ wr.heap.size := hL.out.b.size
      go_wp2_with (first | (refine Ln.at_load 36 _ rfl ?_; refine Ln.load_mid 36 _ HEV.out _ Try.underlying36 rfl (iEv e) rfl rfl rfl ?_) | (refine wl_allocZ rfl 36 rfl zEvt ?_) | fail)
      intro X1 kx1 bx1 sx1
      go_wp2_with (first | (refine Ln.at_store 36 _ _ rfl ?_; refine wl_storeZ rfl 36 _ _ rfl (L := e.cs) rfl rfl kx1 iEvt rfl (cs_one e) ?_) | fail)
      intro X2 kx2 kkx2
      have bb2 : Below wr.heap.size wr X2 := bx1.trans (kn kkx2 (Nat.le_refl _) bx1.size)
      have hbW2 : Below W.heap.size W X2 := hL.out.b.trans (bb2.mono hBx)
      have HB2 : Hid (Below wr.heap.size wr X2) := bb2
      have HX2 : Hid (X2.heap[wr.heap.size]? = some (.cells e.cs.toArray 36 (0, 0))) := kx2
      have c4 : X2.cell? ⟨wr.heap.size, 4, none⟩ = some (.slice e.ba e.bn e.bc) := blk_cell kx2 4
      have HRd : Hid (Ln.Rd X2 e.ba e.bn e.bc e.bs) := HBdW.out.still hbW2
      have hs2 : W.heap.size ≤ X2.heap.size := hbW2.size
      clear kx1 bx1 sx1 kkx2 bb2 hbW2 kx2 d8
      go_wp2_with (first | (at_builtin; refine app_B rfl _ _ rfl rfl (show OwB X2 W.heap.size (.slice none 0 0) [] from ow_nil _ _ _ _) rfl HRd.out HBn.out (by simp only [List.length_nil]; omega) hs2 ?_) | fail)
      intro v4 X3 o4 kk3 _
      have o4' : OwB X3 W.heap.size v4 e.bs := o4.out
      obtain ⟨ba', bc', hv4⟩ := ow_shape o4'
      rw [hBl] at hv4
      subst hv4
      have hb23 := kb kk3.out
      have kx3 := blk_on hb23 HX2.out
      have bb3 : Below wr.heap.size wr X3 := HB2.out.trans (hb23.mono HB2.out.size)
      have c4b : X3.cell? ⟨wr.heap.size, 4, none⟩ = some (.slice e.ba e.bn e.bc) := blk_cell kx3 4
      have z4 : X3.frozen? ⟨wr.heap.size, 4, none⟩ = false := frozen_of_row X3 _ 4 _ _ kx3
      have kk4 : Mb.Kept X3 (X3.setCell ⟨wr.heap.size, 4, none⟩ (.slice ba' e.bn bc')) (fun q => q = wr.heap.size) := Mb.kset X3 _ 4 _ rfl
      have kx4 : (X3.setCell ⟨wr.heap.size, 4, none⟩ (.slice ba' e.bn bc')).heap[wr.heap.size]? = some (.cells ({ e with ba := ba', bc := bc' } : Em).cs.toArray 36 (0, 0)) := Mb.blk_set kx3 rfl
      have bb4 : Below wr.heap.size wr (X3.setCell ⟨wr.heap.size, 4, none⟩ (.slice ba' e.bn bc')) := bb3.trans (kn kk4 (Nat.le_refl _) bb3.size)
      have o4x := ow_ne o4' kx3 (by decide) kk4
      obtain ⟨X4, hX4⟩ : ∃ X4, X3.setCell ⟨wr.heap.size, 4, none⟩ (.slice ba' e.bn bc') = X4 := ⟨_, rfl⟩
      rw [hX4] at kx4 bb4 o4x
      have HB4 : Hid (Below wr.heap.size wr X4) := bb4
      have HX4 : Hid (X4.heap[wr.heap.size]? = some (.cells ({ e with ba := ba', bc := bc' } : Em).cs.toArray 36 (0, 0))) := kx4
      have HO4 : Hid (OwB X4 W.heap.size (.slice ba' e.bn bc') e.bs) := o4x
      have c12 : X4.cell? ⟨wr.heap.size, 12, none⟩ = some (.slice e.sa e.sn e.sc) := blk_cell kx4 12
      have hbW4 : Below W.heap.size W X4 := hL.out.b.trans (bb4.mono hBx)
      have HRi : Hid (Ri X4 e.sa e.sn e.sc e.xs) := HSdW.out.below hbW4
      have hs4 : W.heap.size ≤ X4.heap.size := hbW4.size
      clear c4 HRd hs2 o4 kk3 o4' hb23 kx3 bb3 kk4 kx4 bb4 o4x hbW4 HB2 HX2
      go_wp2_with (first | (at_builtin; refine app_I rfl _ _ rfl rfl (show OwI X4 W.heap.size (.slice none 0 0) [] from ow_nil _ _ _ _) rfl HRi.out (by simp only [List.length_nil]; omega) hs4 ?_) | fail)
      intro v12 X5 o12 kk5 _
      have o12' : OwI X5 W.heap.size v12 e.xs := o12.out
      obtain ⟨sa', sc', hv12⟩ := ow_shape o12'
      rw [hSl] at hv12
      subst hv12
      have hb45 := kb kk5.out
      have kx5 := blk_on hb45 HX4.out
      have bb5 : Below wr.heap.size wr X5 := HB4.out.trans (hb45.mono HB4.out.size)
      have o4y := Mb.own_still HO4.out hb45
      have c12b : X5.cell? ⟨wr.heap.size, 12, none⟩ = some (.slice e.sa e.sn e.sc) := blk_cell kx5 12
      have z12 : X5.frozen? ⟨wr.heap.size, 12, none⟩ = false := frozen_of_row X5 _ 12 _ _ kx5
      have kk6 : Mb.Kept X5 (X5.setCell ⟨wr.heap.size, 12, none⟩ (.slice sa' e.sn sc')) (fun q => q = wr.heap.size) := Mb.kset X5 _ 12 _ rfl
      obtain ⟨e6, he6⟩ : ∃ e6 : Em, ({ e with ba := ba', bc := bc', sa := sa', sc := sc' } : Em) = e6 := ⟨_, rfl⟩
      have kx6 : (X5.setCell ⟨wr.heap.size, 12, none⟩ (.slice sa' e.sn sc')).heap[wr.heap.size]? = some (.cells e6.cs.toArray 36 (0, 0)) := by rw [← he6]; exact Mb.blk_set kx5 rfl
      have bb6 : Below wr.heap.size wr (X5.setCell ⟨wr.heap.size, 12, none⟩ (.slice sa' e.sn sc')) := bb5.trans (kn kk6 (Nat.le_refl _) bb5.size)
      have o4z := ow_ne o4y kx5 (by decide) kk6
      have o12z := ow_ne o12' kx5 (by decide) kk6
      obtain ⟨X6, hX6⟩ : ∃ X6, X5.setCell ⟨wr.heap.size, 12, none⟩ (.slice sa' e.sn sc') = X6 := ⟨_, rfl⟩
      rw [hX6] at kx6 bb6 o4z o12z
      have hL6 := hL.out.on bb6
      have HL6 : Hid (LSc W X6 tb no wi ba st ca ro fl va' vn vc' vs es ea' j ec' es') := hL6
      have HSm : Hid (Sm (es.getD j em0) e6) := (show Sm _ _ from by rw [He.out, ← he6]; exact ⟨rfl, rfl, rfl, rfl, rfl, rfl, rfl, rfl, rfl, rfl, rfl, rfl, rfl⟩)
      have HO12 : Hid (OwI X6 W.heap.size (.slice e6.sa e6.sn e6.sc) e6.xs) := (show OwI _ _ _ _ from by rw [← he6]; exact o12z)
      have HOb : Hid (OwB X6 W.heap.size (.slice e6.ba e6.bn e6.bc) e6.bs ∧ Ln.By e6.bs) := (show _ ∧ _ from by rw [← he6]; exact ⟨o4z, HBdW.out.by_⟩)
      have HXR : Hid (X6.rangeAt wr.heap.size 0 e6.cs) := (show X6.rangeAt _ _ _ from Ln.blk_range kx6)
      have t8 : X6.cell? ⟨tb, 8, none⟩ = some (.slice ea' j ec') := blk_cell hL6.t 8
      have hml : es'.length = j := hL6.m.1
      have hs6 : W.heap.size ≤ X6.heap.size := hL6.b.size
      have HBS : Hid (Try.prog.builtSlice 36 1 [(0, .agg e6.cs.toArray)] = some e6.cs.toArray) := (show _ = _ from builtSl e6)
      clear c12 HRi hs4 o12 kk5 o12' hb45 kx5 bb5 o4y kk6 he6 kx6 bb6 o4z o12z hL6 HB4 HX4 HO4 hL He HBdW HSdW HEVW HEV
      go_wp2_with (first
        | (refine Ln.at_load 36 (.tmp 5) rfl ?_; refine Ln.load_mid 36 (.tmp 5) HXR.out _ Try.underlying36 rfl (iEv e6) rfl rfl rfl ?_)
        | (refine Go.Great.wpList_buildSliceTo rfl 25 36 1 _ rfl X6.heap.size rfl _ rfl Try.underlying25 e6.cs.toArray (bsl_eq (by kernel_rfl) HBS.out) ?_)
        | (at_builtin; refine app_E rfl _ _ rfl rfl HL6.out.o e6 rfl rfl (by rw [hml]; omega) hs6 ?_)
        | fail)
      intro v8 X7 o8 kk7 _
      obtain ⟨ea9, ec9, hv8⟩ := ow_shape o8.out
      rw [List.length_append, hml] at hv8
      have hv8' : v8 = .slice ea9 (j + 1) ec9 := hv8
      clear hv8
      subst hv8'
      have kT7 := blk_app HL6.out.t HL6.out.o (by decide) kk7.out
      have kR7 := blk_app HL6.out.r HL6.out.o (by decide) kk7.out
      have oV7 := ow_app HL6.out.v HL6.out.o (by decide) kk7.out
      have hR7 : Rws X7 W.heap.size (es' ++ [e6]) := ((HL6.out.s.add HO12.out HOb.out.1 HOb.out.2).keep kk7.out (fun q hq C t hC => by have := ow_type HL6.out.o hq hC; subst this; exact ⟨by decide, by decide⟩))
      have hb7 : Below W.heap.size W X7 := HL6.out.b.trans (kk7.out.below hs6 (fun k hk e => by have := (World.ownsRow.lt HL6.out.o k e).1; omega))
      have t8b : X7.cell? ⟨tb, 8, none⟩ = some (.slice ea' j ec') := blk_cell kT7 8
      have z8 : X7.frozen? ⟨tb, 8, none⟩ = false := frozen_of_row X7 tb 8 _ _ kT7
      have kk8 : Mb.Kept X7 (X7.setCell ⟨tb, 8, none⟩ (.slice ea9 (j + 1) ec9)) (fun q => q = tb) := Mb.kset X7 tb 8 _ rfl
      have HLn : Hid (LSc W (X7.setCell ⟨tb, 8, none⟩ (.slice ea9 (j + 1) ec9)) tb no wi ba st ca ro fl va' vn vc' vs es ea9 (j + 1) ec9 (es' ++ [e6])) := (show LSc _ _ _ _ _ _ _ _ _ _ _ _ _ _ _ _ _ _ _ from
        ⟨Mb.blk_set kT7 rfl, kk8.obj kR7 (fun e => by have e' : W.heap.size = tb := e; omega), ow_ne oV7 kT7 (by decide) kk8, ow_ne o8.out kT7 (by decide) kk8, hR7.keep kk8 (fun q hq C t hC => by have hq' : q = tb := hq; subst hq'; rw [kT7] at hC; simp at hC; rw [← hC.2]; exact ⟨by decide, by decide⟩), HL6.out.m.add HSm.out, hb7.trans (kn kk8 (Nat.le_of_lt s1) hb7.size)⟩)
      clear kT7 kR7 oV7 hR7 hb7 kk8 o8 kk7 HL6 HSm HO12 HOb HXR HBS t8
      go_wp2_with fail
      go_roundw
      case rel => exact ⟨j + 1, es' ++ [e6], ea9, ec9, by omega, by go_num, HLn⟩
      case measure => simp [intOf]; omega
    · have hjN : j = en := by omega
      subst hjN
      have HTR : Hid (wr.rangeAt tb 0 [.int .i64 no, .int .i64 wi, .int .i64 ba, .int .i64 st, .int .i64 ca, .int .i64 ro, .int .i64 fl, .slice va' vn vc', .slice ea' j ec']) := (show wr.rangeAt _ _ _ from Ln.blk_range hL.out.t)
      go_wp2_with (first | (refine Ln.at_load 27 (.tmp 3) rfl ?_; refine Ln.load_mid 27 (.tmp 3) HTR.out _ Try.underlying27 rfl iScr rfl rfl rfl ?_) | (refine Ln.at_store 27 _ _ rfl ?_; refine wl_storeZ rfl 27 _ _ rfl (L := [.int .i64 no, .int .i64 wi, .int .i64 ba, .int .i64 st, .int .i64 ca, .int .i64 ro, .int .i64 fl, .slice va' vn vc', .slice ea' j ec']) rfl rfl hL.out.r iScr rfl (one9 _ _ _ _ _ _ _ _ _ _ _ _ _) ?_) | fail)
      intro X9 k9 kk9
      have hsw : w.heap.size ≤ W.heap.size := Nat.le_of_lt hWs
      have HK9 : Hid (X9.heap[W.heap.size]? = some (.cells [.int .i64 no, .int .i64 wi, .int .i64 ba, .int .i64 st, .int .i64 ca, .int .i64 ro, .int .i64 fl, .slice va' vn vc', .slice ea' j ec'].toArray 27 (0, 0))) := k9
      have HF : Hid (OwI X9 w.heap.size (.slice va' vn vc') vs ∧ OwE X9 w.heap.size (.slice ea' j ec') es' ∧ Rws X9 w.heap.size es' ∧ Sms j es es' ∧ Below w.heap.size w X9) := (show _ ∧ _ from
        ⟨Mb.own_lower (ow_ne hL.out.v hL.out.r (by decide) kk9) hsw, Mb.own_lower (ow_ne hL.out.o hL.out.r (by decide) kk9) hsw, (hL.out.s.keep kk9 (fun q hq C t hC => by have hq' : q = W.heap.size := hq; subst hq'; rw [hL.out.r] at hC; simp at hC; rw [← hC.2]; exact ⟨by decide, by decide⟩)).lower hsw, hL.out.m, bst HB.out (hL.out.b.trans (kn kk9 (Nat.le_refl _) hL.out.b.size))⟩)
      clear k9 kk9 HTR hL
      go_wp2_with fail
      (try simp only [Exit.inBlock, Exit.then])
      refine bodyPost_ret (v := .agg #[.int .i64 no, .int .i64 wi, .int .i64 ba, .int .i64 st, .int .i64 ca, .int .i64 ro, .int .i64 fl, .slice va' vn vc', .slice ea' j ec']) ?_ rfl ⟨va', vc', ea', ec', es', rfl, HF.out.1, HF.out.2.1, HF.out.2.2.1, HF.out.2.2.2.1, HF.out.2.2.2.2⟩
      exact results_cell_row rfl _ _ W.heap.size 27 _ (0, 0) _ rfl HK9.out Try.underlying27 rfl iScr
end Go.Proofs.Ytfodkackfahldaa.Lo
