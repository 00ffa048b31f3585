import Derived.Test.YthogcanfinjfdaaMm
namespace Go.Proofs.Ythogcanfinjfdaa.Et
open Go.RowKit Go.Maps
set_option linter.unusedVariables false
set_option linter.unusedSimpArgs false
set_option maxRecDepth 100000
section
variable {E E' : En} {R R' : Rn} {w w' w1 w2 w3 : World} {B K m : Nat}

set_option maxHeartbeats 2000000 in
theorem does_any (h : Duo E R w B K) (hK : K ≤ 2199023255551) (o : Opx) (bs xs : List Int) (hbb : ∀ w', Below B w w' → Rd w' o.ba o.bn o.bc bs) (hss : ∀ w', Below B w w' → RdI w' o.sa o.sn o.sc xs) (hbn : o.bn ≤ 140737488351232) (hsn : o.sn ≤ 17592186043904) (h63 : o.n ≤ 9223372036854775807) (h1 : 20 < o.k) (h2 : o.k ≤ 60) : Calls Try.prog 58 #[.pointer (some ⟨E.b, 0, none⟩), .pointer (some ⟨R.b, 0, none⟩), .agg o.cs] w fun e w' => e = .returned (.bool true) ∧ ∃ E' R', Dtep w w' E E' R R' B K := by
  generalize hW : w.alloc (.cells o.cs 33) = W
  have hbW : Below w.heap.size w W := by rw [← hW]; exact balloc (Below.refl _ w)
  have hblk : W.heap[w.heap.size]? = some (.cells o.cs 33 (0, 0)) := by rw [← hW]; exact heap_alloc_new w _
  have hWs : w.heap.size < W.heap.size := lt_heap hblk
  obtain ⟨d0, d1, d2, d3, d4, d5⟩ := op_cells hblk
  have Hb : Hid (Below w.heap.size w W) := hbW
  have Hblk : Hid (W.heap[w.heap.size]? = some (.cells o.cs 33 (0, 0))) := hblk
  have Hd : Hid (Duo E R w B K) := h
  have HnE : Hid (¬ E.own w.heap.size) := fun e => by have := h.e.ltOwn e; omega
  have HnR : Hid (¬ R.own w.heap.size) := fun e => by have := h.r.ltOwn e; omega
  have hr0 := hbb w (Below.refl _ _)
  have hx0 := hss w (Below.refl _ _)
  have hbl := hr0.1
  have hxl := hx0.1
  have HEv : Hid (∀ w', Below B w w' → Calls Try.prog 36 #[.agg #[.int .i64 o.k, .int .i64 o.p, .int .i64 o.q, .int .i64 o.n, .slice o.ba o.bn o.bc, .slice o.sa o.sn o.sc]] w' fun e w2 => ∃ gb cb gs cs, e = .returned (.agg #[.int .i64 (o.k - 20), .int .i64 o.p, .int .i64 o.q, .int .i64 o.n, .slice (some ⟨gb, 0, none⟩) o.bn cb, .int .i64 0, .int .i64 0, .int .i64 0, .int .i64 0, .string ByteArray.empty, .string ByteArray.empty, .string ByteArray.empty, .slice (some ⟨gs, 0, none⟩) o.sn cs]) ∧ Marked w2 w'.heap.size gb o.bn cb bs ∧ MarkedI w2 w'.heap.size gs o.sn cs xs ∧ Below w'.heap.size w' w2) := fun w' hl => event_any o bs xs (hbb w' hl) (hss w' hl) hbn hsn h1 h2
  have HDo : Hid (∀ w1 gb cb gs cs, Below W.heap.size W w1 → Marked w1 W.heap.size gb o.bn cb bs → MarkedI w1 W.heap.size gs o.sn cs xs → ∃ x : Int, ∀ w', Below w1.heap.size w1 w' → Calls Try.prog 13 #[.pointer (some ⟨E.b, 0, none⟩), .agg #[.int .i64 (o.k - 20), .int .i64 o.p, .int .i64 o.q, .int .i64 o.n, .slice (some ⟨gb, 0, none⟩) o.bn cb, .int .i64 0, .int .i64 0, .int .i64 0, .int .i64 0, .string ByteArray.empty, .string ByteArray.empty, .string ByteArray.empty, .slice (some ⟨gs, 0, none⟩) o.sn cs]] w' fun e w2 => e = .returned (.int .i64 x) ∧ Kept w' w2 E.own ∧ ∀ w3 gb2 cb2 gs2 cs2, Below w2.heap.size w2 w3 → Marked w3 w2.heap.size gb2 o.bn cb2 bs → MarkedI w3 w2.heap.size gs2 o.sn cs2 xs → Calls Try.prog 86 #[.pointer (some ⟨R.b, 0, none⟩), .agg #[.int .i64 (o.k - 20), .int .i64 o.p, .int .i64 o.q, .int .i64 o.n, .slice (some ⟨gb2, 0, none⟩) o.bn cb2, .int .i64 0, .int .i64 0, .int .i64 0, .int .i64 0, .string ByteArray.empty, .string ByteArray.empty, .string ByteArray.empty, .slice (some ⟨gs2, 0, none⟩) o.sn cs2]] w3 fun e w4 => e = .returned (.int .i64 x) ∧ Kept w3 w4 R.own ∧ ∃ E' R', Dtep w' w4 E E' R R' B K) := fun w1 gb cb gs cs hb1 hm hmi => does_pair h hK o bs xs hbl hr0.2.2.2 hxl h63 hbW w1 gb cb gs cs hb1 hm hmi
  have HRd : Hid (∀ w', Below B w w' → Rd w' o.ba o.bn o.bc bs) := hbb
  have HRi : Hid (∀ w', Below B w w' → RdI w' o.sa o.sn o.sc xs) := hss
  have HlR : Hid (∀ j, R.own j → j < w.heap.size) := fun j hj => h.r.ltOwn hj
  have HlE : Hid (∀ j, E.own j → j < w.heap.size) := fun j hj => h.e.ltOwn hj
  have HgE : Hid (∀ j, E.own j → B ≤ j) := fun j hj => h.e.geOwn hj
  have HgR : Hid (∀ j, R.own j → B ≤ j) := fun j hj => h.r.geOwn hj
  have hBw := h.hB
  unfold Opx.cs at hW ⊢
  clear h hbW hblk hbb hss hr0 hx0
  go_enter Try.func58, Try.ntmps58
  go_wp2_with (fail)
  refine (HEv.out W (Hb.out.mono hBw)).mono ?_
  rintro e w1 ⟨gb, cb, gs, cs, rfl, hm, hmi, hb1⟩
  obtain ⟨x, hp⟩ := HDo.out w1 gb cb gs cs hb1 hm hmi
  have HP : Hid (∀ w', Below w1.heap.size w1 w' → Calls Try.prog 13 #[.pointer (some ⟨E.b, 0, none⟩), .agg #[.int .i64 (o.k - 20), .int .i64 o.p, .int .i64 o.q, .int .i64 o.n, .slice (some ⟨gb, 0, none⟩) o.bn cb, .int .i64 0, .int .i64 0, .int .i64 0, .int .i64 0, .string ByteArray.empty, .string ByteArray.empty, .string ByteArray.empty, .slice (some ⟨gs, 0, none⟩) o.sn cs]] w' fun e w2 => e = .returned (.int .i64 x) ∧ Kept w' w2 E.own ∧ ∀ w3 gb2 cb2 gs2 cs2, Below w2.heap.size w2 w3 → Marked w3 w2.heap.size gb2 o.bn cb2 bs → MarkedI w3 w2.heap.size gs2 o.sn cs2 xs → Calls Try.prog 86 #[.pointer (some ⟨R.b, 0, none⟩), .agg #[.int .i64 (o.k - 20), .int .i64 o.p, .int .i64 o.q, .int .i64 o.n, .slice (some ⟨gb2, 0, none⟩) o.bn cb2, .int .i64 0, .int .i64 0, .int .i64 0, .int .i64 0, .string ByteArray.empty, .string ByteArray.empty, .string ByteArray.empty, .slice (some ⟨gs2, 0, none⟩) o.sn cs2]] w3 fun e w4 => e = .returned (.int .i64 x) ∧ Kept w3 w4 R.own ∧ ∃ E' R', Dtep w' w4 E E' R R' B K) := hp
  have HM1 : Hid (Marked w1 W.heap.size gb o.bn cb bs) := hm
  have HMI1 : Hid (MarkedI w1 W.heap.size gs o.sn cs xs) := hmi
  have HB1 : Hid (Below W.heap.size W w1) := hb1
  have hg1 := World.ownsRow.lt hm gb rfl
  have hg2 := World.ownsRow.lt hmi gs rfl
  have hw1 := hb1.size
  generalize hV : w1.alloc (.cells #[.int .i64 (o.k - 20), .int .i64 o.p, .int .i64 o.q, .int .i64 o.n, .slice (some ⟨gb, 0, none⟩) o.bn cb, .int .i64 0, .int .i64 0, .int .i64 0, .int .i64 0, .string ByteArray.empty, .string ByteArray.empty, .string ByteArray.empty, .slice (some ⟨gs, 0, none⟩) o.sn cs] 41) = V1
  have HVb : Hid (Below w1.heap.size w1 V1) := by rw [← hV]; exact balloc (Below.refl _ w1)
  have HV1 : Hid (V1.heap[w1.heap.size]? = some (.cells #[.int .i64 (o.k - 20), .int .i64 o.p, .int .i64 o.q, .int .i64 o.n, .slice (some ⟨gb, 0, none⟩) o.bn cb, .int .i64 0, .int .i64 0, .int .i64 0, .int .i64 0, .string ByteArray.empty, .string ByteArray.empty, .string ByteArray.empty, .slice (some ⟨gs, 0, none⟩) o.sn cs] 41 (0, 0))) := by rw [← hV]; exact heap_alloc_new w1 _
  obtain ⟨e0, e1, e2, e3, e4, e5⟩ := ev_cells (v := evC o gb cb gs cs) HV1.out
  obtain ⟨r0, r1, r2, r3, r4, r5, r6⟩ := ev_rest (v := evC o gb cb gs cs) HV1.out
  simp only [evC] at e0 e1 e2 e3 e4 e5
  have s0 := below_at HVb.out (below_at hb1 d0)
  have s1 := below_at HVb.out (below_at hb1 d1)
  have s2 := below_at HVb.out (below_at hb1 d2)
  have s3 := below_at HVb.out (below_at hb1 d3)
  have s4 := below_at HVb.out (below_at hb1 d4)
  have s5 := below_at HVb.out (below_at hb1 d5)
  have hvs : w1.heap.size < V1.heap.size := lt_heap HV1.out
  clear hp hm hmi hb1 HDo d0 d1 d2 d3 d4 d5
  go_wp2_with (fail)
  refine (HP.out V1 HVb.out).mono ?_
  rintro e w2 ⟨rfl, hk2, hr2⟩
  have HK2 : Hid (Kept V1 w2 E.own) := hk2
  have HR : Hid (∀ w3 gb2 cb2 gs2 cs2, Below w2.heap.size w2 w3 → Marked w3 w2.heap.size gb2 o.bn cb2 bs → MarkedI w3 w2.heap.size gs2 o.sn cs2 xs → Calls Try.prog 86 #[.pointer (some ⟨R.b, 0, none⟩), .agg #[.int .i64 (o.k - 20), .int .i64 o.p, .int .i64 o.q, .int .i64 o.n, .slice (some ⟨gb2, 0, none⟩) o.bn cb2, .int .i64 0, .int .i64 0, .int .i64 0, .int .i64 0, .string ByteArray.empty, .string ByteArray.empty, .string ByteArray.empty, .slice (some ⟨gs2, 0, none⟩) o.sn cs2]] w3 fun e w4 => e = .returned (.int .i64 x) ∧ Kept w3 w4 R.own ∧ ∃ E' R', Dtep V1 w4 E E' R R' B K) := hr2
  have d0 := kcell hk2 s0 HnE.out
  have d1 := kcell hk2 s1 HnE.out
  have d2 := kcell hk2 s2 HnE.out
  have d3 := kcell hk2 s3 HnE.out
  have d4 := kcell hk2 s4 HnE.out
  have d5 := kcell hk2 s5 HnE.out
  have HnEv : Hid (¬ E.own w1.heap.size) := fun e => by have := HlE.out _ e; omega
  have hB2 := hk2.obj HV1.out HnEv.out
  have HL2 : Hid (Below B w w2) := ((bstep Hb.out HB1.out).mono hBw).trans ((HVb.out.mono (by omega)).trans (hk2.below (by omega) (fun k hk e => by have := HgE.out k e; omega)))
  have hw2 := hk2.size
  clear hr2 hk2 s0 s1 s2 s3 s4 s5 e0 e1 e2 e3 e4 e5 r0 r1 r2 r3 r4 r5 r6
  go_wp2_with (fail)
  refine (HEv.out w2 HL2.out).mono ?_
  rintro e w3 ⟨gb2, cb2, gs2, cs2, rfl, hm2, hmi2, hb3⟩
  have HB3 : Hid (Below w2.heap.size w2 w3) := hb3
  have s4 := below_at hb3 d4
  have s5 := below_at hb3 d5
  have hB3 := (hb3.block _ (lt_heap hB2)).trans hB2
  have HRC := HR.out w3 gb2 cb2 gs2 cs2 hb3 hm2 hmi2
  have HRC2 : Hid (Calls Try.prog 86 #[.pointer (some ⟨R.b, 0, none⟩), .agg #[.int .i64 (o.k - 20), .int .i64 o.p, .int .i64 o.q, .int .i64 o.n, .slice (some ⟨gb2, 0, none⟩) o.bn cb2, .int .i64 0, .int .i64 0, .int .i64 0, .int .i64 0, .string ByteArray.empty, .string ByteArray.empty, .string ByteArray.empty, .slice (some ⟨gs2, 0, none⟩) o.sn cs2]] w3 fun e w4 => e = .returned (.int .i64 x) ∧ Kept w3 w4 R.own ∧ ∃ E' R', Dtep V1 w4 E E' R R' B K) := HRC
  have HM3 : Hid (Marked w3 W.heap.size gb o.bn cb bs) := own_still (HK2.out.owns (own_still HM1.out HVb.out) (fun j hj e => by have := (World.ownsRow.lt HM1.out j hj).1; have := HlE.out j e; omega)) hb3
  have HMI3 : Hid (MarkedI w3 W.heap.size gs o.sn cs xs) := own_still (HK2.out.owns (own_still HMI1.out HVb.out) (fun j hj e => by have := (World.ownsRow.lt HMI1.out j hj).1; have := HlE.out j e; omega)) hb3
  clear HRC HR hm2 hmi2 hb3 hB2 d0 d1 d2 d3 d4 d5
  go_wp2_with (fail)
  refine HRC2.out.mono ?_
  rintro e w4 ⟨rfl, hk4, E2, R2, hd⟩
  have HD : Hid (Dtep V1 w4 E E2 R R2 B K) := hd
  have HnRv : Hid (¬ R.own w1.heap.size) := fun e => by have := HlR.out _ e; omega
  have HM4 : Hid (Marked w4 W.heap.size gb o.bn cb bs) := hk4.owns HM3.out (fun j hj e => by have := (World.ownsRow.lt HM3.out j hj).1; have := HlR.out j e; omega)
  have HMI4 : Hid (MarkedI w4 W.heap.size gs o.sn cs xs) := hk4.owns HMI3.out (fun j hj e => by have := (World.ownsRow.lt HMI3.out j hj).1; have := HlR.out j e; omega)
  have HB4 : Hid (w4.heap[w1.heap.size]? = some (.cells #[.int .i64 (o.k - 20), .int .i64 o.p, .int .i64 o.q, .int .i64 o.n, .slice (some ⟨gb, 0, none⟩) o.bn cb, .int .i64 0, .int .i64 0, .int .i64 0, .int .i64 0, .string ByteArray.empty, .string ByteArray.empty, .string ByteArray.empty, .slice (some ⟨gs, 0, none⟩) o.sn cs] 41 (0, 0))) := hk4.obj hB3 HnRv.out
  have o4 := kcell hk4 s4 HnR.out
  have o5 := kcell hk4 s5 HnR.out
  obtain ⟨e0, e1, e2, e3, e4, e5⟩ := ev_cells (v := evC o gb cb gs cs) HB4.out
  simp only [evC] at e4 e5
  have HL4 : Hid (Below B w w4) := HL2.out.trans ((HB3.out.mono (by omega)).trans (hk4.below (by have := HB3.out.size; omega) (fun k hk e => by have := HgR.out k e; omega)))
  have HKp : Hid (Calls Try.prog 82 #[.slice (some ⟨gb, 0, none⟩) o.bn cb, .slice o.ba o.bn o.bc] w4 fun e w' => e = .returned (.bool true) ∧ w4 = w') := kept_any HM4.out (HRd.out _ HL4.out) hbn
  have hcs := HMI4.out.cap
  have i1 : (0 : Int) ≤ (o.sn : Int) := Int.natCast_nonneg _
  have i2 : (o.sn : Int) + 64 ≤ (cs : Int) := by omega
  have i3 : (o.sn : Int) ≤ (cs : Int) := by omega
  clear hd hk4 hB3 s4 s5 e0 e1 e2 e3
  go_wp2_with (first | (go_at_call 82; refine HKp.out.mono ?_; rintro e w5 ⟨rfl, rfl⟩) | fail)
  have HMa : Hid (∀ k, k < 64 → w4.cell? ⟨gs, o.sn + k, none⟩ = some (.int .i64 (700 + (k : Int)))) := fun k hk => HMI4.out.at hxl hk
  obtain ⟨cs0, hs0, hs1⟩ : ∃ cs, w4.heap[gs]? = some (.cells cs 3 (0, 0)) ∧ o.sn ≤ cs.size ∧ ∀ i, i < o.sn → cs[i]? = some (.int .i64 (xs.getD i 0)) := by
    rcases HMI4.out.2 with ⟨z1, z2⟩ | ⟨g', cap', cur, hv, y1, y2, hnc, hcm, hcs', htk⟩
    · omega
    · simp at hv
      obtain ⟨rfl, rfl⟩ := hv
      refine ⟨cur, y2, by omega, fun i hi => ?_⟩
      have := HMI4.out.cells hxl hi
      rw [Nat.zero_add] at this
      exact (blk_cell y2 i).symm.trans this
  obtain ⟨cb0, hb0, hb1⟩ : ∃ cs, w4.heap[gb]? = some (.cells cs 5 (0, 0)) ∧ o.bn ≤ cs.size := by
    rcases HM4.out.2 with ⟨z1, z2⟩ | ⟨g', cap', cur, hv, y1, y2, hnc, hcm, hcs', htk⟩
    · omega
    · simp at hv
      obtain ⟨rfl, rfl⟩ := hv
      exact ⟨cur, y2, by omega⟩
  have hgg : gb ≠ gs := fun e => by
    rw [e, hs0] at hb0
    simp at hb0
  have HS0 : Hid (w4.heap[gs]? = some (.cells cs0 3 (0, 0))) := hs0
  have HS1 : Hid (o.sn ≤ cs0.size ∧ ∀ i, i < o.sn → cs0[i]? = some (.int .i64 (xs.getD i 0))) := hs1
  have HB0 : Hid (w4.heap[gb]? = some (.cells cb0 5 (0, 0))) := hb0
  have HFin : Hid (∀ wF, Kept w4 wF (fun j => j = gs ∨ j = gb) → ∃ E' R', Dtep w wF E E' R R' B K) := by
    intro wF hk
    refine ⟨E2, R2, (HD.out.pre (bstep (bstep Hb.out HB1.out) HVb.out)).after hk (fun j e => ?_)⟩
    have hj : W.heap.size ≤ j ∧ j < w1.heap.size := by rcases e with rfl | rfl; exact hg2; exact hg1
    refine ⟨by omega, fun e => ?_, fun e => ?_⟩
    · rcases HD.out.own j (.inl e) with (h1 | h1) | h1
      · have := HlE.out j h1; omega
      · have := HlR.out j h1; omega
      · omega
    · rcases HD.out.own j (.inr e) with (h1 | h1) | h1
      · have := HlE.out j h1; omega
      · have := HlR.out j h1; omega
      · omega
  clear hs0 hs1 hb0
  go_loopw [10, 12] (fun okv i wr => ∃ k : Nat, k ≤ 64 ∧ i = .int .i64 k ∧ okv = .bool true ∧ w4 = wr) (fun _ i _ => 64 - (intOf i).toNat)
  case atStart => exact ⟨0, Nat.zero_le _, rfl, by simp, rfl⟩
  case round =>
    obtain ⟨k, hkk, rfl, rfl, rfl⟩ := hrel
    by_cases hlt : k < 64
    · have hcell := HMa.out k hlt
      have j1 : (0 : Int) ≤ (k : Int) := Int.natCast_nonneg _
      have j2 : (k : Int) < 64 := by omega
      have j3 : (0 : Int) ≤ (o.sn : Int) + (k : Int) := by omega
      have j4 : (o.sn : Int) + (k : Int) < (o.sn : Int) + 64 := by omega
      have j5 : ((o.sn : Int) + (k : Int)).toNat = o.sn + k := by omega
      go_wp2
      exact ⟨⟨k + 1, by omega, by go_num, by simp, by first | trivial | rfl⟩, by simp [intOf]; omega⟩
    · obtain rfl : k = 64 := by omega
      go_wp2
      go_loopw [10, 13] (fun okv i wx => ∃ k : Nat, k ≤ o.sn ∧ i = .int .i64 k ∧ okv = .bool true ∧ Kept w4 wx (fun j => j = gs) ∧ ∃ cs2, wx.heap[gs]? = some (.cells cs2 3 (0, 0)) ∧ o.sn ≤ cs2.size ∧ ∀ i, k ≤ i → i < o.sn → cs2[i]? = some (.int .i64 (xs.getD i 0))) (fun _ i _ => o.sn - (intOf i).toNat)
      case atStart => exact ⟨0, Nat.zero_le _, rfl, by first | rfl | simp, Kept.refl _ _, cs0, HS0.out, HS1.out.1, fun i _ hi => HS1.out.2 i hi⟩
      case round =>
        obtain ⟨k, hkk, rfl, rfl, hkp, cs2, hc2, hz2, hv2⟩ := hrel
        have f4 := kcell hkp e4 (by omega)
        have f5 := kcell hkp e5 (by omega)
        have p5 := kcell hkp o5 (by omega)
        by_cases hlt : k < o.sn
        · have hgc : wr.cell? ⟨gs, k, none⟩ = some (.int .i64 (xs.getD k 0)) := (blk_cell hc2 k).trans (hv2 k (Nat.le_refl _) hlt)
          have hgz : wr.frozen? ⟨gs, k, none⟩ = false := frozen_of_row wr _ k _ _ hc2
          obtain ⟨sb, off, hsa, hsc⟩ : ∃ sb off, o.sa = some ⟨sb, off, none⟩ ∧ wr.cell? ⟨sb, off + k, none⟩ = some (.int .i64 (xs.getD k 0)) := by
            have hl : Below B w wr := HL4.out.trans (hkp.below (by have := HL4.out.size; omega) (fun q hq e => by omega))
            rcases (HRi.out wr hl).2.2 with hq | ⟨b, off, hao, hc⟩
            · omega
            · exact ⟨b, off, hao, hc k hlt⟩
          rw [hsa] at p5
          have j1 : (0 : Int) ≤ (k : Int) := Int.natCast_nonneg _
          have j2 : (k : Int) < (o.sn : Int) := by omega
          have HKp2 : Hid (Kept w4 wr (fun j => j = gs)) := hkp
          have HC2 : Hid (wr.heap[gs]? = some (.cells cs2 3 (0, 0))) := hc2
          have HV2 : Hid (∀ i, k ≤ i → i < o.sn → cs2[i]? = some (.int .i64 (xs.getD i 0))) := hv2
          generalize xs.getD k 0 = xk at hgc hsc
          clear hkp hc2 hv2 hsa
          go_wp2
          go_quiet (fail)
          go_wp2
          refine ⟨⟨k + 1, by omega, by go_num, by simp, (HKp2.out.trans (Kept.ofBelow (below_drewN (Below.refl _ wr) nq) _)).trans (kset _ _ _ _ rfl), _, heap_setCell_same (wr.drewN nq) gs k cs2 3 _ HC2.out, by simpa using hz2, ?_⟩, by simp [intOf]; omega⟩
          intro i hi1 hi2
          rw [Array.getElem?_setIfInBounds, if_neg (by omega)]
          exact HV2.out i (by omega) hi2
        · obtain rfl : k = o.sn := by omega
          have hgb : wr.heap[gb]? = some (.cells cb0 5 (0, 0)) := hkp.obj HB0.out hgg
          have HGB : Hid (wr.heap[gb]? = some (.cells cb0 5 (0, 0))) := hgb
          have HK5 : Hid (Kept w4 wr (fun j => j = gs ∨ j = gb)) := hkp.mono (fun j _ e => Or.inl e)
          clear hgb hkp hc2 hv2
          go_wp2
          go_loopw [14] (fun i wx => ∃ k : Nat, k ≤ o.bn ∧ i = .int .i64 k ∧ Kept w4 wx (fun j => j = gs ∨ j = gb) ∧ ∃ cs3, wx.heap[gb]? = some (.cells cs3 5 (0, 0)) ∧ o.bn ≤ cs3.size) (fun i _ => o.bn - (intOf i).toNat)
          case atStart => exact ⟨0, Nat.zero_le _, rfl, HK5.out, cb0, HGB.out, hb1⟩
          case round =>
            obtain ⟨k, hkk, rfl, hkp, cs3, hc3, hz3⟩ := hrel
            have f4 := kcell hkp e4 (by omega)
            by_cases hlt : k < o.bn
            · have hc : wr.cell? ⟨gb, k, none⟩ = some cs3[k] := (blk_cell hc3 k).trans (Array.getElem?_eq_getElem (by omega))
              generalize cs3[k] = u at hc
              have hz : wr.frozen? ⟨gb, k, none⟩ = false := frozen_of_row wr _ k _ _ hc3
              have j1 : (0 : Int) ≤ (k : Int) := Int.natCast_nonneg _
              have j2 : (k : Int) < (o.bn : Int) := by omega
              have HKp2 : Hid (Kept w4 wr (fun j => j = gs ∨ j = gb)) := hkp
              have HCs : Hid (wr.heap[gb]? = some (.cells cs3 5 (0, 0))) := hc3
              clear hkp hc3
              go_wp2
              exact ⟨⟨k + 1, by omega, by go_num, HKp2.out.trans (kset _ _ _ _ (Or.inr rfl)), _, heap_setCell_same wr gb k cs3 5 _ HCs.out, by simpa using hz3⟩, by simp [intOf]; omega⟩
            · obtain rfl : k = o.bn := by omega
              go_wp2_with (first | (go_at_call 32; refine (num_any _).mono ?_; rintro e w5 ⟨rfl, rfl⟩) | fail)
              all_goals
                go_ret
                exact ⟨by simp, HFin.out _ hkp⟩
end
end Go.Proofs.Ythogcanfinjfdaa.Et
namespace Go.Proofs.Ythogcanfinjfdaa.Et
open Go.RowKit Go.Maps
set_option linter.unusedVariables false
set_option linter.unusedSimpArgs false
set_option maxRecDepth 100000
section
variable {E E' : En} {R R' : Rn} {w w' w1 w2 w3 : World} {B K m : Nat}

set_option maxHeartbeats 400000 in
theorem plays_nodes (h : Duo E R w B K) (hK : K ≤ 2199023255551) (o : Opx) (bs xs : List Int) (hbb : ∀ w', Below B w w' → Rd w' o.ba o.bn o.bc bs) (hss : ∀ w', Below B w w' → RdI w' o.sa o.sn o.sc xs) (hbn : o.bn ≤ 140737488351232) (hsn : o.sn ≤ 17592186043904) (h63 : o.n ≤ 9223372036854775807) (h1 : 1 ≤ o.k) (h2 : o.k ≤ 7) : Calls Try.prog 33 #[.pointer (some ⟨E.b, 0, none⟩), .pointer (some ⟨R.b, 0, none⟩), .agg o.cs] w fun e w' => e = .returned (.bool true) ∧ ∃ E' R', Dtep w w' E E' R R' B K := by
  generalize hW : w.alloc (.cells o.cs 33) = W
  have hbW : Below w.heap.size w W := by rw [← hW]; exact balloc (Below.refl _ w)
  have hblk : W.heap[w.heap.size]? = some (.cells o.cs 33 (0, 0)) := by rw [← hW]; exact heap_alloc_new w _
  have hWs : w.heap.size < W.heap.size := lt_heap hblk
  obtain ⟨d0, d1, d2, d3, d4, d5⟩ := op_cells hblk
  have Hb : Hid (Below w.heap.size w W) := hbW
  have Hblk : Hid (W.heap[w.heap.size]? = some (.cells o.cs 33 (0, 0))) := hblk
  have Hd : Hid (Duo E R w B K) := h
  have HnE : Hid (¬ E.own w.heap.size) := fun e => by have := h.e.ltOwn e; omega
  have HnR : Hid (¬ R.own w.heap.size) := fun e => by have := h.r.ltOwn e; omega
  have hlow : Below B w W := hbW.mono h.hB
  have HC : Hid (Calls Try.prog 56 #[.pointer (some ⟨E.b, 0, none⟩), .pointer (some ⟨R.b, 0, none⟩), .agg #[.int .i64 o.k, .int .i64 o.p, .int .i64 o.q, .int .i64 o.n, .slice o.ba o.bn o.bc, .slice o.sa o.sn o.sc]] W fun e w' => e = .returned (.bool true) ∧ ∃ E' R', Dtep W w' E E' R R' B K) := nodes_any (h.still hbW) o h1 h2
  unfold Opx.cs at hW ⊢
  clear h hbW hblk hbb hss
  go_enter Try.func33, Try.ntmps33
  go_wp2_with (first | (go_at_call 56; refine HC.out.mono ?_; rintro e w1 ⟨rfl, E2, R2, hd⟩) | fail)
  all_goals first | (exfalso; omega) | (go_ret; exact ⟨rfl, E2, R2, hd.pre Hb.out⟩)

set_option maxHeartbeats 400000 in
theorem plays_packets (h : Duo E R w B K) (hK : K ≤ 2199023255551) (o : Opx) (bs xs : List Int) (hbb : ∀ w', Below B w w' → Rd w' o.ba o.bn o.bc bs) (hss : ∀ w', Below B w w' → RdI w' o.sa o.sn o.sc xs) (hbn : o.bn ≤ 140737488351232) (hsn : o.sn ≤ 17592186043904) (h63 : o.n ≤ 9223372036854775807) (h1 : 8 ≤ o.k) (h2 : o.k ≤ 13) : Calls Try.prog 33 #[.pointer (some ⟨E.b, 0, none⟩), .pointer (some ⟨R.b, 0, none⟩), .agg o.cs] w fun e w' => e = .returned (.bool true) ∧ ∃ E' R', Dtep w w' E E' R R' B K := by
  generalize hW : w.alloc (.cells o.cs 33) = W
  have hbW : Below w.heap.size w W := by rw [← hW]; exact balloc (Below.refl _ w)
  have hblk : W.heap[w.heap.size]? = some (.cells o.cs 33 (0, 0)) := by rw [← hW]; exact heap_alloc_new w _
  have hWs : w.heap.size < W.heap.size := lt_heap hblk
  obtain ⟨d0, d1, d2, d3, d4, d5⟩ := op_cells hblk
  have Hb : Hid (Below w.heap.size w W) := hbW
  have Hblk : Hid (W.heap[w.heap.size]? = some (.cells o.cs 33 (0, 0))) := hblk
  have Hd : Hid (Duo E R w B K) := h
  have HnE : Hid (¬ E.own w.heap.size) := fun e => by have := h.e.ltOwn e; omega
  have HnR : Hid (¬ R.own w.heap.size) := fun e => by have := h.r.ltOwn e; omega
  have hlow : Below B w W := hbW.mono h.hB
  have HC : Hid (Calls Try.prog 57 #[.pointer (some ⟨E.b, 0, none⟩), .pointer (some ⟨R.b, 0, none⟩), .agg #[.int .i64 o.k, .int .i64 o.p, .int .i64 o.q, .int .i64 o.n, .slice o.ba o.bn o.bc, .slice o.sa o.sn o.sc]] W fun e w' => e = .returned (.bool true) ∧ ∃ E' R', Dtep W w' E E' R R' B K) := packets_any (h.still hbW) hK o bs (fun w' hl => hbb w' (hlow.trans hl)) hbn h1 h2
  unfold Opx.cs at hW ⊢
  clear h hbW hblk hbb hss
  go_enter Try.func33, Try.ntmps33
  go_wp2_with (first | (go_at_call 57; refine HC.out.mono ?_; rintro e w1 ⟨rfl, E2, R2, hd⟩) | fail)
  all_goals first | (exfalso; omega) | (go_ret; exact ⟨rfl, E2, R2, hd.pre Hb.out⟩)

set_option maxHeartbeats 400000 in
theorem plays_does (h : Duo E R w B K) (hK : K ≤ 2199023255551) (o : Opx) (bs xs : List Int) (hbb : ∀ w', Below B w w' → Rd w' o.ba o.bn o.bc bs) (hss : ∀ w', Below B w w' → RdI w' o.sa o.sn o.sc xs) (hbn : o.bn ≤ 140737488351232) (hsn : o.sn ≤ 17592186043904) (h63 : o.n ≤ 9223372036854775807) (h1 : 20 < o.k) (h2 : o.k ≤ 60) : Calls Try.prog 33 #[.pointer (some ⟨E.b, 0, none⟩), .pointer (some ⟨R.b, 0, none⟩), .agg o.cs] w fun e w' => e = .returned (.bool true) ∧ ∃ E' R', Dtep w w' E E' R R' B K := by
  generalize hW : w.alloc (.cells o.cs 33) = W
  have hbW : Below w.heap.size w W := by rw [← hW]; exact balloc (Below.refl _ w)
  have hblk : W.heap[w.heap.size]? = some (.cells o.cs 33 (0, 0)) := by rw [← hW]; exact heap_alloc_new w _
  have hWs : w.heap.size < W.heap.size := lt_heap hblk
  obtain ⟨d0, d1, d2, d3, d4, d5⟩ := op_cells hblk
  have Hb : Hid (Below w.heap.size w W) := hbW
  have Hblk : Hid (W.heap[w.heap.size]? = some (.cells o.cs 33 (0, 0))) := hblk
  have Hd : Hid (Duo E R w B K) := h
  have HnE : Hid (¬ E.own w.heap.size) := fun e => by have := h.e.ltOwn e; omega
  have HnR : Hid (¬ R.own w.heap.size) := fun e => by have := h.r.ltOwn e; omega
  have hlow : Below B w W := hbW.mono h.hB
  have HC : Hid (Calls Try.prog 58 #[.pointer (some ⟨E.b, 0, none⟩), .pointer (some ⟨R.b, 0, none⟩), .agg #[.int .i64 o.k, .int .i64 o.p, .int .i64 o.q, .int .i64 o.n, .slice o.ba o.bn o.bc, .slice o.sa o.sn o.sc]] W fun e w' => e = .returned (.bool true) ∧ ∃ E' R', Dtep W w' E E' R R' B K) := does_any (h.still hbW) hK o bs xs (fun w' hl => hbb w' (hlow.trans hl)) (fun w' hl => hss w' (hlow.trans hl)) hbn hsn h63 h1 h2
  unfold Opx.cs at hW ⊢
  clear h hbW hblk hbb hss
  go_enter Try.func33, Try.ntmps33
  go_wp2_with (first | (go_at_call 58; refine HC.out.mono ?_; rintro e w1 ⟨rfl, E2, R2, hd⟩) | fail)
  all_goals first | (exfalso; omega) | (go_ret; exact ⟨rfl, E2, R2, hd.pre Hb.out⟩)

set_option maxHeartbeats 400000 in
theorem plays_else (h : Duo E R w B K) (o : Opx) (h1 : ¬ (1 ≤ o.k ∧ o.k ≤ 7)) (h2 : ¬ (8 ≤ o.k ∧ o.k ≤ 13)) (h3 : ¬ (20 < o.k ∧ o.k ≤ 60)) : Calls Try.prog 33 #[.pointer (some ⟨E.b, 0, none⟩), .pointer (some ⟨R.b, 0, none⟩), .agg o.cs] w fun e w' => e = .returned (.bool true) ∧ ∃ E' R', Dtep w w' E E' R R' B K := by
  generalize hW : w.alloc (.cells o.cs 33) = W
  have hbW : Below w.heap.size w W := by rw [← hW]; exact balloc (Below.refl _ w)
  have hblk : W.heap[w.heap.size]? = some (.cells o.cs 33 (0, 0)) := by rw [← hW]; exact heap_alloc_new w _
  have hWs : w.heap.size < W.heap.size := lt_heap hblk
  obtain ⟨d0, d1, d2, d3, d4, d5⟩ := op_cells hblk
  have Hb : Hid (Below w.heap.size w W) := hbW
  have Hblk : Hid (W.heap[w.heap.size]? = some (.cells o.cs 33 (0, 0))) := hblk
  have Hd : Hid (Duo E R w B K) := h
  have HnE : Hid (¬ E.own w.heap.size) := fun e => by have := h.e.ltOwn e; omega
  have HnR : Hid (¬ R.own w.heap.size) := fun e => by have := h.r.ltOwn e; omega
  unfold Opx.cs at hW ⊢
  clear h hbW hblk
  go_enter Try.func33, Try.ntmps33
  go_wp2
  all_goals first | (exfalso; omega) | (go_ret; exact ⟨rfl, _, _, Hd.out.none Hb.out⟩)
theorem plays_any (h : Duo E R w B K) (hK : K ≤ 2199023255551) (o : Opx) (bs xs : List Int) (hbb : ∀ w', Below B w w' → Rd w' o.ba o.bn o.bc bs) (hss : ∀ w', Below B w w' → RdI w' o.sa o.sn o.sc xs) (hbn : o.bn ≤ 140737488351232) (hsn : o.sn ≤ 17592186043904) (h63 : o.n ≤ 9223372036854775807) : Calls Try.prog 33 #[.pointer (some ⟨E.b, 0, none⟩), .pointer (some ⟨R.b, 0, none⟩), .agg o.cs] w fun e w' => e = .returned (.bool true) ∧ ∃ E' R', Dtep w w' E E' R R' B K := by
  by_cases h1 : 1 ≤ o.k ∧ o.k ≤ 7
  · exact plays_nodes h hK o bs xs hbb hss hbn hsn h63 h1.1 h1.2
  by_cases h2 : 8 ≤ o.k ∧ o.k ≤ 13
  · exact plays_packets h hK o bs xs hbb hss hbn hsn h63 h2.1 h2.2
  by_cases h3 : 20 < o.k ∧ o.k ≤ 60
  · exact plays_does h hK o bs xs hbb hss hbn hsn h63 h3.1 h3.2
  exact plays_else h o h1 h2 h3
end
end Go.Proofs.Ythogcanfinjfdaa.Et
