import Derived.Test.YtobaooebjgoaiaaV42
import Derived.Test.YtobaooebjgoaiaaV43
import Derived.Test.YtobaooebjgoaiaaV45
import Derived.Test.YtobaooebjgoaiaaV28
namespace Go.Proofs.Ytobaooebjgoaiaa.Hh
open Go.RowKit Go.Maps Mb
set_option linter.unusedVariables false
set_option linter.unusedSimpArgs false
set_option maxRecDepth 100000
open Go.Proofs.Ytobaooebjgoaiaa.Fm
section
variable {w w' w0 w1 w2 w3 Z Y V V4 : World} {B : Nat} {S S' : St} {hb : Nat} {f f' : Nat → Nat → Nat → Value}
theorem bLent : Try.prog.built 48 [] = some #[.slice none 0 0, .slice none 0 0, .slice none 0 0, .slice none 0 0] := by kernel_rfl
theorem bsl2 (a b : Option Addr) (n m c d : Nat) : Try.prog.builtSlice 25 2 [(0, .slice a n c), (1, .slice b m d)] = some #[.slice a n c, .slice b m d] := by kernel_rfl
theorem oneV2 (a b : Option Addr) (n m c d : Nat) : ∀ u ∈ ([.slice a n c, .slice b m d] : List Value), u.oneCell' = true := by
 intro u hu
 simp only [List.mem_cons, List.not_mem_nil, or_false] at hu
 rcases hu with rfl | rfl <;> rfl
theorem Tq.still {X : Nat} {ta ia : Option Addr} {tc ic : Nat} {xs fs : List Fl} (h : Tq w X ta tc ia ic xs fs) (hb : Below w.heap.size w w') : Tq w' X ta tc ia ic xs fs := h.keep (Kept.ofBelow hb (fun _ => False)) (fun _ _ => id)
set_option maxHeartbeats 16000000 in
theorem asked_any {k : Ca} {who : List Int} {ds : List Dx} {m : Nat} (h : Bt S w B hb f) (h0 : Cs w0 k who ds) (hB : w0.heap.size ≤ B) (hw0 : Below w0.heap.size w0 w) (hm : m ≤ 10) (hN2 : S.N 2 = 2 * m) (hN5 : S.N 5 = m) (hN : ∀ d, d < 6 → S.N d ≤ 200 * m) : Calls Try.prog 4 #[.pointer (some ⟨hb, 0, none⟩), .agg k.cs.toArray] w fun e w' => e = .returned (.bool true) ∧ AsO w S B hb f k who ds m w' := by
 obtain ⟨l2i, l2h, l2z0, l2z1, l2z2⟩ := tL2
 have hsz : w0.heap.size ≤ w.heap.size := hw0.size
 have hbl : hb < w.heap.size ∧ B ≤ hb := h.ok.lt (.inl rfl)
 have HCw : Hid (∀ X, Below w.heap.size w X → Cs X k who ds) := fun X hX => h0.still (hw0.trans (hX.mono hsz))
 have HBt : Hid (Bt S w B hb f) := h
 have HC0 : Hid (Cs w0 k who ds) := h0
 have HW0 : Hid (∀ X, Below w.heap.size w X → Below w0.heap.size w0 X) := fun X hX => hw0.trans (hX.mono hsz)
 have HN2 : Hid (S.N 2 = 2 * m ∧ S.N 5 = m ∧ ∀ d, d < 6 → S.N d ≤ 200 * m) := ⟨hN2, hN5, hN⟩
 have Hm : Hid (m ≤ 10) := hm
 have HBs : Hid (w0.heap.size ≤ w.heap.size ∧ B ≤ hb ∧ hb < w.heap.size ∧ w0.heap.size ≤ B) := ⟨hsz, hbl.2, hbl.1, hB⟩
 have HCs : Hid (∀ (X : World) (cb : Nat), X.heap[cb]? = some (.cells k.cs.toArray 31 (0, 0)) → X.cell? ⟨cb, 0, none⟩ = some (.slice k.ao k.fs.length k.cp) ∧ X.rangeAt cb 1 k.own.cs ∧ X.cell? ⟨cb, 8, none⟩ = some (.int .i64 k.d) ∧ X.cell? ⟨cb, 9, none⟩ = some (.slice k.wa k.wn k.wc) ∧ X.cell? ⟨cb, 10, none⟩ = some (.int .i64 k.self) ∧ X.cell? ⟨cb, 11, none⟩ = some (.int .i64 k.q) ∧ X.cell? ⟨cb, 12, none⟩ = some (.slice k.ma k.mn k.mc)) := fun X cb h => ⟨blk_cell h 0, Ca.own_at h, blk_cell h 8, blk_cell h 9, blk_cell h 10, blk_cell h 11, blk_cell h 12⟩
 generalize hW1 : w.alloc (.cells k.cs.toArray 31) = W1
 have b1 : Below w.heap.size w W1 := hW1 ▸ balloc (Below.refl _ _)
 have k1 : W1.heap[w.heap.size]? = some (.cells k.cs.toArray 31 (0, 0)) := by rw [← hW1]; exact heap_alloc_new w _
 have s1 : W1.heap.size = w.heap.size + 1 := by rw [← hW1]; simp
 generalize hW2 : W1.alloc (.cells #[.slice none 0 0, .slice none 0 0, .slice none 0 0, .slice none 0 0] 48) = W2
 have b2 : Below W1.heap.size W1 W2 := hW2 ▸ balloc (Below.refl _ _)
 have k2 : W2.heap[W1.heap.size]? = some (.cells #[.slice none 0 0, .slice none 0 0, .slice none 0 0, .slice none 0 0] 48 (0, 0)) := by rw [← hW2]; exact heap_alloc_new W1 _
 have s2 : W2.heap.size = W1.heap.size + 1 := by rw [← hW2]; simp
 have HB2 : Hid (Below w.heap.size w W2) := bstep b1 b2
 have HK2 : Hid (W2.heap[w.heap.size]? = some (.cells k.cs.toArray 31 (0, 0))) := blk_on b2 k1
 have HL2 : Hid (W2.heap[W1.heap.size]? = some (.cells #[.slice none 0 0, .slice none 0 0, .slice none 0 0, .slice none 0 0] 48 (0, 0))) := k2
 have Hs : Hid (W1.heap.size = w.heap.size + 1 ∧ W2.heap.size = w.heap.size + 2) := ⟨s1, by omega⟩
 have HcC := HCw.out _ HB2.out
 have HTw := twins_all (w := W2) (cp := k.cp) HcC.fs HcC.fi HcC.fn
 have q0 := (HCs.out _ _ HK2.out).1
 have Hc7 : Hid (k.own.cs.length = 7) := rfl
 have HbL : Hid (Try.prog.built 48 [] = some #[.slice none 0 0, .slice none 0 0, .slice none 0 0, .slice none 0 0]) := bLent
 clear h h0 hB hw0 hm hN2 hN5 hN hsz hbl b1 k1 s1 b2 k2 s2 HcC
 generalize k.cs.toArray = ca at hW1 ⊢
 go_enter Try.func4, Try.ntmps4
 go_upto_region 2 with (first
  | (refine wl_buildZ rfl 48 _ rfl (cs := #[.slice none 0 0, .slice none 0 0, .slice none 0 0, .slice none 0 0]) (built_eq (by kernel_rfl) HbL.out) ?_)
  | fail)
 go_upto_region 3 with (first
  | (go_at_call 7; refine HTw.mono ?_; rintro e V1 ⟨ta, tc, ia, ic, xs, rfl, hT, hl, hcap, hcm⟩; have Hl1 : Hid (xs.length = k.fs.length) := hl; clear hl)
  | fail)
 have BV1 : Hid (Below W2.heap.size W2 V1) := hT.b
 have HT1 : Hid (Tq V1 (w.heap.size + 2) ta tc ia ic xs k.fs) := Tq.of hT Hl1.out (by have := Hs.out.2; omega)
 have Bw1 : Hid (Below w.heap.size w V1) := bstep HB2.out BV1.out
 have HTn := twin_any (HCw.out _ Bw1.out).own
 have Hld1 : Hid (V1.rangeAt w.heap.size 1 k.own.cs) := (HCs.out _ _ (blk_on BV1.out HK2.out)).2.1
 clear q0 HTw hW1 hW2 hT
 go_upto_region 4 with (first
  | (refine load_mid 28 (.tmp 29) Hld1.out _ Try.underlying28 rfl (by rw [Hc7.out]; exact info_flush) rfl rfl rfl ?_)
  | (go_at_call 8; refine HTn.mono ?_; rintro e V2 ⟨x, rfl, hx, hv2⟩; have HX2 : Hid (TwOk V2 V1.heap.size x k.own.c) := hx; have BV2 : Hid (Below V1.heap.size V1 V2) := hv2; clear hx hv2)
  | (refine wl_allocZ rfl 53 rfl zTwin ?_; intro V3 k3 b3 s3; have K3 : Hid _ := k3; have BV3 : Hid _ := b3; clear k3 b3 s3)
  | (refine wl_storeZ rfl 53 _ _ rfl (L := x.tw) rfl rfl K3.out info_twin rfl (tw_one _) ?_; intro V4 k4 hk4; have K4 : Hid _ := k4; have KK4 : Hid _ := hk4; clear k4 hk4)
  | fail)
 have BV4 : Hid (Below V2.heap.size V2 V4) := BV3.out.trans (KK4.out.below BV3.out.size (fun q hq e => by omega))
 have B14 : Hid (Below V1.heap.size V1 V4) := bstep BV2.out BV4.out
 have B24 : Hid (Below W2.heap.size W2 V4) := bstep BV1.out B14.out
 have Bw4 : Hid (Below w.heap.size w V4) := bstep Bw1.out B14.out
 have HM4 : Hid (Mt V4 (w.heap.size + 2) w.heap.size V2.heap.size k ta tc ia ic xs x) := ⟨HT1.out.still B14.out, ⟨HX2.out.ce, own_lower (own_still HX2.out.s BV4.out) (by have := Hs.out.2; have := BV1.out.size; omega), own_lower (own_still HX2.out.h BV4.out) (by have := Hs.out.2; have := BV1.out.size; omega)⟩, K4.out, blk_on B24.out HK2.out, by have := Hs.out.2; have := BV1.out.size; have := BV2.out.size; omega⟩
 have HA4 : Hid (Ad w V4 W1.heap.size L0 V4) := ⟨Bw4.out, Kept.refl _ _, L0.ok (blk_on B24.out HL2.out), fun j hj => .inl (L0.only hj), by have := Hs.out.1; omega⟩
 have HC4 : Hid (Cs V4 k who ds) := HCw.out _ Bw4.out
 have HLa := lacks_any (w := V4) (cp := ic) (fs := xs) (own := x) (HM4.out.ft.tws.rd HC4.out.fs) (HM4.out.fx.rd HC4.out.own.rd) hcap hcm (by rw [Hl1.out]; exact HC4.out.fn) k.d
 rw [HM4.out.ft.tws.cos, HM4.out.fx.ce] at HLa
 have Hld2 : Hid (V4.rangeAt V2.heap.size 0 x.cs) := tw_pre K4.out
 have Hx7 : Hid (x.cs.length = 7) := rfl
 have q8 := (HCs.out _ _ HM4.out.fc).2.2.1
 generalize hvb : V2.heap.size = vb at *
 have Hvb : Hid (V2.heap.size = vb) := hvb
 clear HTn Hld1 HT1 K3 BV3 K4 KK4 BV4 BV2 HX2 hvb hcap hcm B14 Bw1 HK2 HL2
 go_upto_region 5 with (first
  | (refine load_mid 28 (.tmp 35) Hld2.out _ Try.underlying28 rfl (by rw [Hx7.out]; exact info_flush) rfl rfl rfl ?_)
  | (go_at_call 9; refine HLa.mono ?_; rintro e V5 ⟨la, lc, l, E, rfl, hS, hlo, hv5⟩; have HS5 : Hid (LkS (cos k.fs) k.own.c k.d E l) := hS; have HO5 : Hid (V5.ownsRow V4.heap.size 76 2 (.slice la l.length lc) l.length (slCells l)) := hlo; have BV5 : Hid (Below V4.heap.size V4 V5) := hv5; clear hS hlo hv5)
  | fail)
 have HA5 : Hid (Ad w V4 W1.heap.size L0 V5) := HA4.out.still BV5.out
 have HM5 : Hid (Mt V5 (w.heap.size + 2) w.heap.size vb k ta tc ia ic xs x) := HM4.out.still BV5.out
 have HIn : Hid (∀ X, Below V5.heap.size V5 X → Calls Try.prog 11 #[.pointer (some ⟨W1.heap.size, 0, none⟩), .slice k.wa k.wn k.wc] X fun e w' => ∃ a c, e = .returned (.slice a k.wn c) ∧ RdI w' a who ∧ ∃ L', AdI w V4 W1.heap.size X 1 X.heap.size L' w') := fun X hX => ad_ints (HA5.out.still hX) (HCw.out X (HA5.out.still hX).b)
 have HX : Hid (∀ j, w.heap.size + 2 ≤ j ∨ j = w.heap.size → ¬ j = W1.heap.size) := fun j hj e => by have := Hs.out.1; omega
 have HOa : Hid (∀ j, (Value.slice la l.length lc).ownBlock = some j → V4.heap.size ≤ j ∧ j < V5.heap.size) := fun j hj => World.ownsRow.lt HO5.out j hj
 have H4w : Hid (w.heap.size + 2 ≤ V4.heap.size) := by have h1 := B24.out.size; rw [Hs.out.2] at h1; exact h1
 have Hwl : Hid (who.length = k.wn ∧ ds.length = k.mn) := ⟨HC4.out.wl, HC4.out.ml⟩
 have q10 := (HCs.out _ _ HM5.out.fc).2.2.2.2.1
 have q11 := (HCs.out _ _ HM5.out.fc).2.2.2.2.2.1
 have q9 := (HCs.out _ _ HM5.out.fc).2.2.2.1
 clear HLa Hld2 q8 Bw4 B24
 refine wp_region_held_drew (S := (fun w' => w'.cell? ⟨w.heap.size, 10, none⟩ = some (.int .i64 k.self) ∧ w'.cell? ⟨w.heap.size, 11, none⟩ = some (.int .i64 k.q) ∧ w'.cell? ⟨w.heap.size, 9, none⟩ = some (.slice k.wa k.wn k.wc))) (by kernel_rfl) ⟨(below_at (drew_bel _) q10), (below_at (drew_bel _) q11), (below_at (drew_bel _) q9)⟩ (fun hHeld => ?_)
 simp only [Act.put, List.size_toArray, List.length_cons, List.length_nil, Nat.zero_add]
 refine tG9 0 42 (.pointer (some ⟨w.heap.size, 10, none⟩)) rfl hHeld ?_
 simp only [Act.put,sA9,sZ9,sC9]
 refine tX9 1 43 (.int .i64 k.self) rfl (Or.inl ⟨by rfl, fun w' hS => by (obtain ⟨s0, s1, s2⟩ := hS; go_simp)⟩) hHeld ?_
 simp only [Act.put,sA9,sZ9,sC9]
 refine tG9 2 44 (.pointer (some ⟨w.heap.size, 11, none⟩)) rfl hHeld ?_
 simp only [Act.put,sA9,sZ9,sC9]
 refine tX9 3 45 (.int .i64 k.q) rfl (Or.inl ⟨by rfl, fun w' hS => by (obtain ⟨s0, s1, s2⟩ := hS; go_simp)⟩) hHeld ?_
 simp only [Act.put,sA9,sZ9,sC9]
 refine tG9 4 46 (.pointer (some ⟨W1.heap.size, 0, none⟩)) rfl hHeld ?_
 simp only [Act.put,sA9,sZ9,sC9]
 refine tG9 5 47 (.pointer (some ⟨w.heap.size, 9, none⟩)) rfl hHeld ?_
 simp only [Act.put,sA9,sZ9,sC9]
 refine tX9 6 48 (.slice k.wa k.wn k.wc) rfl (Or.inl ⟨by rfl, fun w' hS => by (obtain ⟨s0, s1, s2⟩ := hS; go_simp)⟩) hHeld ?_
 simp only [Act.put,sA9,sZ9,sC9]
 refine tG9 8 50 (.slice ia xs.length ic) rfl hHeld ?_
 simp only [Act.put,sA9,sZ9,sC9]
 have hbD5 : Below V5.heap.size V5 V5.drew := drew_bel _
 have q0 := below_at hbD5 q10
 have q1 := below_at hbD5 q11
 have q2 := below_at hbD5 q9
 generalize V5.drew = D5 at *
 refine wpAnyH_ready (rs := [7]) (by kernel_rfl) (by simp) ?_
 refine AllReadyH.cons rfl (fun K hK => ?_) AllReadyH.nil
 go_simp
 refine (HIn.out D5 hbD5).mono ?_
 rintro e V6 ⟨a2, c2, rfl, hw2, L2, hA2⟩
 have HW6 : Hid (RdI V6 a2 who) := hw2
 have HA6 : Hid (AdI w V4 W1.heap.size D5 1 D5.heap.size L2 V6) := hA2
 have HD5 : Hid (Below V5.heap.size V5 D5) := hbD5
 have HM6 : Hid (Mt V6 (w.heap.size + 2) w.heap.size vb k ta tc ia ic xs x) := HM4.out.keep HA6.out.ad.k HX.out
 have HC6 : Hid (Cs V6 k who ds) := HCw.out _ HA6.out.ad.b
 have HDu := duty_any (w := V6) (wcp := c2) (cp := ic) (who := who) (fs := xs) HW6.out HC6.out.wn (HM6.out.ft.tws.rd HC6.out.fs) (by rw [Hl1.out]; exact HC6.out.fn) k.self k.q
 rw [HM6.out.ft.tws.cos, Hwl.out.1] at HDu
 have p10 := (HCs.out _ _ HM6.out.fc).2.2.2.2.1
 have p11 := (HCs.out _ _ HM6.out.fc).2.2.2.2.2.1
 have p9 := (HCs.out _ _ HM6.out.fc).2.2.2.1
 clear hw2 hA2
 refine hK.out _ _ ⟨p10, p11, p9⟩ (fun hHeld => ?_)
 clear hK K
 refine wpAnyH_ready (rs := [9]) (by kernel_rfl) (by simp) ?_
 refine AllReadyH.cons rfl (fun K hK => ?_) AllReadyH.nil
 go_simp
 refine (HDu).mono ?_
 rintro e V7 ⟨ba, bc, l2, E2, rfl, hS, hlo, hv7⟩
 refine hK.out _ _ ⟨(below_at hv7 p10), (below_at hv7 p11), (below_at hv7 p9)⟩ (fun hHeld => ?_)
 clear hK K
 refine tG9 10 41 (.tuple #[.slice ba l2.length bc, .int .i64 E2]) rfl hHeld ?_
 simp only [Act.put,sA9,sZ9,sC9]
 refine tG9 11 52 (.slice ba l2.length bc) rfl hHeld ?_
 simp only [Act.put,sA9,sZ9,sC9]
 refine tG9 12 53 (.int .i64 E2) rfl hHeld ?_
 simp only [Act.put,sA9,sZ9,sC9]
 refine tG9 13 11 (.slice ba l2.length bc) rfl hHeld ?_
 simp only [Act.put,sA9,sZ9,sC9]
 refine tG9 14 12 (.int .i64 E2) rfl hHeld ?_
 simp only [Act.put,sA9,sZ9,sC9]
 refine wpAnyH_done (by kernel_rfl) ?_ _
 clear hHeld
 have HS7 : Hid (DuS (cos k.fs) who k.self k.q E2 l2) := hS
 have HO7 : Hid (V7.ownsRow V6.heap.size 76 2 (.slice ba l2.length bc) l2.length (slCells l2)) := hlo
 have BV7 : Hid (Below V6.heap.size V6 V7) := hv7
 have HA7 : Hid (Ad w V4 W1.heap.size L2 V7) := HA6.out.ad.still hv7
 have HM7 : Hid (Mt V7 (w.heap.size + 2) w.heap.size vb k ta tc ia ic xs x) := HM6.out.still hv7
 have HO57 : Hid (V7.ownsRow V4.heap.size 76 2 (.slice la l.length lc) l.length (slCells l)) := own_still (HA6.out.kk.owns (own_still HO5.out HD5.out) (fun j hj e => by have h1 := (HOa.out j hj).1; have h2 := H4w.out; have h3 := Hs.out.1; omega)) hv7
 have HOb : Hid (∀ j, (Value.slice ba l2.length bc).ownBlock = some j → V6.heap.size ≤ j ∧ j < V7.heap.size) := fun j hj => World.ownsRow.lt HO7.out j hj
 have HIv : Hid (∀ j, L2.own W1.heap.size j → j = W1.heap.size ∨ (D5.heap.size ≤ j ∧ j < V6.heap.size)) := HA6.out.o
 have H45 : Hid (V4.heap.size ≤ V5.heap.size ∧ V5.heap.size ≤ D5.heap.size ∧ D5.heap.size ≤ V6.heap.size ∧ V6.heap.size ≤ V7.heap.size) := ⟨BV5.out.size, HD5.out.size, HA6.out.kk.size, hv7.size⟩
 have HDt : Hid (∀ X, Below V7.heap.size V7 X → Calls Try.prog 13 #[.pointer (some ⟨W1.heap.size, 0, none⟩), .slice k.ma k.mn k.mc] X fun e w' => ∃ a c, e = .returned (.slice a k.mn c) ∧ ∃ L' ys, AdD w V4 W1.heap.size D5.heap.size V6.heap.size X ds a ys L' w') := fun X hX => ad_datas (HA7.out.still hX) HC0.out (HW0.out X (HA7.out.still hX).b) (by have h1 := HBs.out.1; have h2 := Hs.out.1; omega) HA6.out.n HIv.out
 have r8 := (HCs.out _ _ HM7.out.fc).2.2.1
 have r12 := (HCs.out _ _ HM7.out.fc).2.2.2.2.2.2
 clear hS hlo hv7 HDu p10 p11 p9 HIn HM6 HM5 HW6 HC6 HO5
 go_upto_region 6 with fail
 refine wp_region_held_drew (S := (fun w' => w'.cell? ⟨w.heap.size, 8, none⟩ = some (.int .i64 k.d) ∧ w'.cell? ⟨w.heap.size, 12, none⟩ = some (.slice k.ma k.mn k.mc))) (by kernel_rfl) ⟨(below_at (drew_bel _) r8), (below_at (drew_bel _) r12)⟩ (fun hHeld => ?_)
 simp only [Act.put, List.size_toArray, List.length_cons, List.length_nil, Nat.zero_add]
 refine tG9 0 55 (.pointer (some ⟨w.heap.size, 8, none⟩)) rfl hHeld ?_
 simp only [Act.put,sA9,sZ9,sC9]
 refine tX9 1 56 (.int .i64 k.d) rfl (Or.inl ⟨by rfl, fun w' hS => by (obtain ⟨s0, s1⟩ := hS; go_simp)⟩) hHeld ?_
 simp only [Act.put,sA9,sZ9,sC9]
 refine tG9 2 57 (.slice ia xs.length ic) rfl hHeld ?_
 simp only [Act.put,sA9,sZ9,sC9]
 refine tG9 3 58 (.pointer (some ⟨W1.heap.size, 0, none⟩)) rfl hHeld ?_
 simp only [Act.put,sA9,sZ9,sC9]
 refine tG9 4 59 (.pointer (some ⟨w.heap.size, 12, none⟩)) rfl hHeld ?_
 simp only [Act.put,sA9,sZ9,sC9]
 refine tX9 5 60 (.slice k.ma k.mn k.mc) rfl (Or.inl ⟨by rfl, fun w' hS => by (obtain ⟨s0, s1⟩ := hS; go_simp)⟩) hHeld ?_
 simp only [Act.put,sA9,sZ9,sC9]
 have hbD7 : Below V7.heap.size V7 V7.drew := drew_bel _
 have q0 := below_at hbD7 r8
 have q1 := below_at hbD7 r12
 generalize V7.drew = D7 at *
 refine wpAnyH_ready (rs := [6]) (by kernel_rfl) (by simp) ?_
 refine AllReadyH.cons rfl (fun K hK => ?_) AllReadyH.nil
 go_simp
 refine (HDt.out D7 hbD7).mono ?_
 rintro e V8 ⟨a3, c3, rfl, L3, ys, hA3⟩
 have HA8 : Hid (AdD w V4 W1.heap.size D5.heap.size V6.heap.size D7 ds a3 ys L3 V8) := hA3
 have HD7 : Hid (Below V7.heap.size V7 D7) := hbD7
 have HM8 : Hid (Mt V8 (w.heap.size + 2) w.heap.size vb k ta tc ia ic xs x) := HM4.out.keep HA8.out.ad.k HX.out
 have HC8 : Hid (Cs V8 k who ds) := HCw.out _ HA8.out.ad.b
 have HRe := rest_any (w := V8) (cp := ic) (mc := c3) (fs := xs) (ds := ys) (HM8.out.ft.tws.rd HC8.out.fs) (by rw [Hl1.out]; exact HC8.out.fn) HA8.out.rd (by rw [HA8.out.len]; exact HC8.out.mn) (fun i hi => ⟨fun e => absurd e (HA8.out.nil i (by rw [← HA8.out.len]; exact hi)), by rw [(HA8.out.al.el i (by rw [← HA8.out.len]; exact hi)).2.2]; exact (HC8.out.mz i (by rw [← HA8.out.len]; exact hi)).2⟩) k.d
 rw [HM8.out.ft.tws.cos, HA8.out.len, Hwl.out.2] at HRe
 have s8 := (HCs.out _ _ HM8.out.fc).2.2.1
 have s12 := (HCs.out _ _ HM8.out.fc).2.2.2.2.2.2
 clear hA3
 refine hK.out _ _ ⟨s8, s12⟩ (fun hHeld => ?_)
 clear hK K
 refine wpAnyH_ready (rs := [7]) (by kernel_rfl) (by simp) ?_
 refine AllReadyH.cons rfl (fun K hK => ?_) AllReadyH.nil
 go_simp
 refine (HRe).mono ?_
 rintro e V9 ⟨ma, mc, out, E3, rfl, hS, hmo, hv9⟩
 refine hK.out _ _ ⟨(below_at hv9 s8), (below_at hv9 s12)⟩ (fun hHeld => ?_)
 clear hK K
 refine tG9 8 54 (.tuple #[.slice ma out.length mc, .int .i64 E3]) rfl hHeld ?_
 simp only [Act.put,sA9,sZ9,sC9]
 refine tG9 9 63 (.slice ma out.length mc) rfl hHeld ?_
 simp only [Act.put,sA9,sZ9,sC9]
 refine tG9 10 64 (.int .i64 E3) rfl hHeld ?_
 simp only [Act.put,sA9,sZ9,sC9]
 refine tG9 11 13 (.slice ma out.length mc) rfl hHeld ?_
 simp only [Act.put,sA9,sZ9,sC9]
 refine tG9 12 14 (.int .i64 E3) rfl hHeld ?_
 simp only [Act.put,sA9,sZ9,sC9]
 refine wpAnyH_done (by kernel_rfl) ?_ _
 clear hHeld
 have HS9 : Hid (RsS (cos k.fs) ds k.d E3 out) := RsS.by_al HA8.out.al hS
 have HO9 : Hid (MoT 97 V8.heap.size V9 (.slice ma out.length mc) out) := hmo
 have BV9 : Hid (Below V8.heap.size V8 V9) := hv9
 have HM9 : Hid (Mt V9 (w.heap.size + 2) w.heap.size vb k ta tc ia ic xs x) := HM8.out.still hv9
 have HO59 : Hid (V9.ownsRow V4.heap.size 76 2 (.slice la l.length lc) l.length (slCells l)) := own_still (HA8.out.kk.owns (own_still HO57.out HD7.out) (fun j hj e => by have h1 := HOa.out j hj; have h2 := H4w.out; have h3 := Hs.out.1; have h4 := H45.out; omega)) hv9
 have HO79 : Hid (V9.ownsRow V6.heap.size 76 2 (.slice ba l2.length bc) l2.length (slCells l2)) := own_still (HA8.out.kk.owns (own_still HO7.out HD7.out) (fun j hj e => by have h1 := HOb.out j hj; have h2 := H4w.out; have h3 := Hs.out.1; have h4 := H45.out; omega)) hv9
 have HA9 : Hid (Ad w V4 W1.heap.size L3 V9) := HA8.out.ad.still hv9
 have H78 : Hid (V7.heap.size ≤ D7.heap.size ∧ D7.heap.size ≤ V8.heap.size ∧ V8.heap.size ≤ V9.heap.size) := ⟨HD7.out.size, HA8.out.kk.size, hv9.size⟩
 have HLv : Hid ((∀ c, c < 3 → (L3.r c).n ≤ 1048600) ∧ ∀ j, L3.own W1.heap.size j → j < V8.heap.size ∧ (j = W1.heap.size ∨ (D5.heap.size ≤ j ∧ j < V6.heap.size) ∨ D7.heap.size ≤ j)) := ⟨HA8.out.n, fun j hj => ⟨(HA8.out.ad.l.lt hj).1, HA8.out.o j hj⟩⟩
 have HC9 : Hid (Cs V9 k who ds) := HCw.out _ HA9.out.b
 have HQa := qlacks_any (w := V9) (cp := k.cp) HC9.out.fs HC9.out.own.rd HC9.out.fn k.d
 have q0 := (HCs.out _ _ HM9.out.fc).1
 have q8 := (HCs.out _ _ HM9.out.fc).2.2.1
 have Hld3 : Hid (V9.rangeAt w.heap.size 1 k.own.cs) := (HCs.out _ _ HM9.out.fc).2.1
 clear hS hmo hv9 HRe s8 s12 r8 r12 HDt HM8 HC8 HM7 HO57 HO7
 go_upto_region 8 with (first
  | (refine load_mid 28 (.tmp 68) Hld3.out _ Try.underlying28 rfl (by rw [Hc7.out]; exact info_flush) rfl rfl rfl ?_)
  | (go_at_call 14; refine HQa.mono ?_; rintro e V10 ⟨ka, kc, l', E', rfl, hS, hko, hv10⟩; have HS10 : Hid (LkS (cos k.fs) k.own.c k.d E' l') := hS; have HO10 : Hid (V10.ownsRow V9.heap.size 76 2 (.slice ka l'.length kc) l'.length (slCells l')) := hko; have BV10 : Hid (Below V9.heap.size V9 V10) := hv10; clear hS hko hv10)
  | fail)
 obtain ⟨rfl, rfl⟩ := HS5.out.eq HS10.out
 have HM10 : Hid (Mt V10 (w.heap.size + 2) w.heap.size vb k ta tc ia ic xs x) := HM9.out.still BV10.out
 have HC10 : Hid (Cs V10 k who ds) := HCw.out _ (HA9.out.still BV10.out).b
 have HQb := qduty_any (w := V10) (wcp := k.wc) (cp := k.cp) HC10.out.wh HC10.out.wn HC10.out.fs HC10.out.fn k.self k.q
 rw [Hwl.out.1] at HQb
 have p0 := (HCs.out _ _ HM10.out.fc).1
 have p9 := (HCs.out _ _ HM10.out.fc).2.2.2.1
 have p10 := (HCs.out _ _ HM10.out.fc).2.2.2.2.1
 have p11 := (HCs.out _ _ HM10.out.fc).2.2.2.2.2.1
 clear HQa q0 q8 Hld3 HS10
 go_upto_region 9 with (first
  | (go_at_call 15; refine HQb.mono ?_; rintro e V11 ⟨ya, yc, l2', E2', rfl, hS, hko, hv11⟩; have HS11 : Hid (DuS (cos k.fs) who k.self k.q E2' l2') := hS; have HO11 : Hid (V11.ownsRow V10.heap.size 76 2 (.slice ya l2'.length yc) l2'.length (slCells l2')) := hko; have BV11 : Hid (Below V10.heap.size V10 V11) := hv11; clear hS hko hv11)
  | fail)
 obtain ⟨rfl, rfl⟩ := HS7.out.eq HS11.out
 have HM11 : Hid (Mt V11 (w.heap.size + 2) w.heap.size vb k ta tc ia ic xs x) := HM10.out.still BV11.out
 have B911 : Hid (Below V9.heap.size V9 V11) := bstep BV10.out BV11.out
 have HC11 : Hid (Cs V11 k who ds) := HCw.out _ (HA9.out.still B911.out).b
 have HQc := qrest_any (w := V11) (cp := k.cp) (mc := k.mc) HC11.out.fs HC11.out.fn HC11.out.ms HC11.out.mn HC11.out.mz k.d
 rw [Hwl.out.2] at HQc
 have s0 := (HCs.out _ _ HM11.out.fc).1
 have s8 := (HCs.out _ _ HM11.out.fc).2.2.1
 have s12 := (HCs.out _ _ HM11.out.fc).2.2.2.2.2.2
 clear HQb p0 p9 p10 p11 HS11
 go_upto_region 10 with (first
  | (go_at_call 16; refine HQc.mono ?_; rintro e V12 ⟨za, zc, out', E3', rfl, hS, hko, hv12⟩; have HS12 : Hid (RsS (cos k.fs) ds k.d E3' out') := hS; have HO12 : Hid (MoT 97 V11.heap.size V12 (.slice za out'.length zc) out') := hko; have BV12 : Hid (Below V11.heap.size V11 V12) := hv12; clear hS hko hv12)
  | fail)
 obtain ⟨rfl, hal⟩ := HS9.out.eq HS12.out
 have HAl : Hid (Al out out') := hal
 have B912 : Hid (Below V9.heap.size V9 V12) := bstep B911.out BV12.out
 have HA12 : Hid (Ad w V4 W1.heap.size L3 V12) := HA9.out.still B912.out
 have HM12 : Hid (Mt V12 (w.heap.size + 2) w.heap.size vb k ta tc ia ic xs x) := HM9.out.still B912.out
 have HO12a : Hid (V12.ownsRow V9.heap.size 76 2 (.slice ka l.length kc) l.length (slCells l)) := own_still HO10.out (bstep BV11.out BV12.out)
 have HO12b : Hid (V12.ownsRow V9.heap.size 76 2 (.slice ya l2.length yc) l2.length (slCells l2)) := own_lower (own_still HO11.out BV12.out) BV10.out.size
 have HO12c : Hid (MoT 97 V9.heap.size V12 (.slice za out'.length zc) out') := HO12.out.lower B911.out.size
 have HO12m : Hid (MoT 97 V8.heap.size V12 (.slice ma out.length mc) out) := HO9.out.still B912.out
 obtain ⟨S3, f3, hk9, he3⟩ := fin_in (V := V9) HBt.out HA9.out.b HO59.out (fun j hj => (HOa.out j hj).2) HO79.out (fun j hj => (HOb.out j hj).2) HO9.out (by have := H4w.out; omega) H45.out.1 (by have := H45.out; omega) H45.out.2.2.2 (by have := H78.out; omega)
 have hk3 := hk9.still B912.out
 have HK3 : Hid (S3.Ok V12 B hb f3) := hk3
 have HF3 : Hid (Fi S S3 hb f f3 ⟨la, l.length, lc⟩ ⟨ba, l2.length, bc⟩ ⟨ma, out.length, mc⟩ l l2 out V4.heap.size V5.heap.size V6.heap.size V7.heap.size V8.heap.size) := he3
 have HOw : Hid (∀ j, S3.own hb j → j < w.heap.size ∨ (V4.heap.size ≤ j ∧ j < V5.heap.size) ∨ (V6.heap.size ≤ j ∧ j < V7.heap.size) ∨ (V8.heap.size ≤ j ∧ j < V9.heap.size)) := fun j hj => by
  rcases he3.own j hj with h1 | h1 | h1 | h1
  ·exact .inl (HBt.out.ok.lt h1).1
  ·exact .inr (.inl h1)
  ·exact .inr (.inr (.inl h1))
  ·exact .inr (.inr (.inr ⟨h1, (hk9.lt hj).1⟩))
 obtain ⟨⟨ra, rn, rc⟩, hR⟩ : ∃ x, S.r 2 = x := ⟨_, rfl⟩
 have HR : Hid (S.r 2 = ⟨ra, rn, rc⟩) := hR
 have HRn : Hid (rn = 2 * m) := by have h1 := HBt.out.fit.rn 2 (by omega); rw [hR, HN2.out.1] at h1; exact h1
 have hrn2 : rn ≤ 20 := by have h1 := HRn.out; have h2 := Hm.out; omega
 have HRow : Hid (V12.ownsRow B 25 1 (.slice ra rn rc) rn (rv rn fun i => (S3.v 2 i).v)) := by
  have h1 := hk3.row 2 (by omega)
  rw [he3.e.1, hR] at h1
  exact h1
 have q20 : V12.cell? ⟨hb, 4, none⟩ = some (.slice ra rn rc) := by
  have h1 := hk3.cr (d := 2) (by omega)
  rw [he3.e.1, hR] at h1
  exact h1
 have HB12 : Hid (B ≤ V12.heap.size) := (show B ≤ V12.heap.size from by have h1 := HBs.out; have h2 := HA12.out.b.size; omega)
 clear HQc s0 s8 s12 hal hR hk3 hk9 he3 HM9 HM10 HM11 HC9 HC10 HC11 HO10 HO11 HO12
 go_upto_region 11 with (first
  | (refine wl_bsl rfl 35 25 2 _ rfl Try.underlying35 #[.slice la l.length lc, .slice ba l2.length bc] (bsl_eq (by kernel_rfl) (bsl2 la ba l.length l2.length lc bc)) ?_; intro V13 kv bv sv; have BV13 : Hid (Below V12.heap.size V12 V13) := bv)
  | (refine app_g rfl _ _ 35 rfl B 25 l2i (.slice none 0 0) 1 24 Try.underlying35 l2h l2z0 l2z1 l2z2 rfl (by omega) (.slice ra rn rc) rn _ rfl (own_still HRow.out BV13.out) (some ⟨V12.heap.size, 0, none⟩) 2 2 [.slice la l.length lc, .slice ba l2.length bc] rfl (fun h => by cases h) rfl (fun ad had j u hu => by cases had; rw [Addr.add_lit, Nat.zero_add, blk_cell kv]; simpa using hu) (oneV2 _ _ _ _ _ _) (by unfold maxLen; omega) (by omega) (Nat.le_trans HB12.out BV13.out.size) ?_; intro v1 Y13 ho hk he; obtain ⟨a1, c1, rfl⟩ := own_sh ho.out; have hbk : Y13.heap[hb]? = some (.cells S3.cs 40 (0, 0)) := hk.out.obj (blk_on BV13.out HK3.out.blk) (own_hb (own_still HRow.out BV13.out) (blk_on BV13.out HK3.out.blk) (ty_h (c := 2) (by omega)).2))
  | (refine wl_stS rfl 35 _ _ rfl (g := hb) (p := 4) rfl rfl hbk (show 4 < 16 from by omega) oL2 rfl ?_; have HTp : Hid (Tp B hb V13 (Y13.setCell ⟨hb, 4, none⟩ (.slice a1 (rn + 2) c1)) S3 { S3 with r := upc S3.r 2 ⟨a1, rn + 2, c1⟩ } f3) := rows_in HBt.out (HK3.out.still BV13.out) HF3.out HR.out ho.out hk.out he.out; clear ho hk he hbk kv bv sv; generalize Y13.setCell ⟨hb, 4, none⟩ (.slice a1 (rn + 2) c1) = Z14 at *)
  | fail)
 obtain ⟨S4, hS4⟩ : ∃ x : St, x = { S3 with r := upc S3.r 2 ⟨a1, rn + 2, c1⟩ } := ⟨_, rfl⟩
 have HS4 : Hid (S4 = { S3 with r := upc S3.r 2 ⟨a1, rn + 2, c1⟩ }) := hS4
 rw [← hS4] at HTp
 have HM14 := msgs_any (M0 := m) (m := out.length) (lc := mc) (la := ma) (PsM.start HTp.out.ok) (Nat.le_trans HB12.out (Nat.le_trans BV13.out.size HTp.out.k.size)) (by rw [hS4]; show (upc S3.r 2 ⟨a1, rn + 2, c1⟩ 5).n = m; rw [upc_ne _ _ (by omega), HF3.out.e.1]; exact (HBt.out.fit.rn 5 (by omega)).trans HN2.out.2.1) (by rw [hS4]; show m < S3.N 5; rw [HF3.out.N5, HN2.out.2.1]; omega) (by rw [hS4]; show S3.v 5 m = _; have h1 := HF3.out.vm; rw [HN2.out.2.1] at h1; exact h1) (fun q hq => by
  rw [hS4]
  show f3 5 m (q * 4 + 3) = (S3.v 0 ((upc S3.r 2 ⟨a1, rn + 2, c1⟩ 0).n + q)).v
  rw [upc_ne _ _ (by omega), HF3.out.e.1, HBt.out.fit.rn 0 (by omega)]
  have h1 := HF3.out.p q hq
  rw [HN2.out.2.1] at h1
  exact h1) (by
  rw [hS4]
  show (upc S3.r 2 ⟨a1, rn + 2, c1⟩ 0).n + out.length ≤ 100000000
  rw [upc_ne _ _ (by omega), HF3.out.e.1, HBt.out.fit.rn 0 (by omega)]
  have h1 := HN2.out.2.2 0 (by omega)
  have h2 := HS9.out.len
  have h3 := Hm.out
  omega) (by have := Hm.out; omega)
 clear hS4 q20
 go_upto_region 12 with (first
  | (go_at_call 17; refine HM14.mono ?_; rintro e V15 ⟨rfl, R', hP15, hr0, hr5, hrd⟩)
  | fail)
 have HFo : Hid (FiO w V12 S S3 B hb f3 (S4.rr R') V15 m) := by
  have e4 := HS4.out
  rw [HRn.out] at e4
  rw [e4] at hr0 hrd hP15 ⊢
  have t4 := HTp.out
  rw [e4] at t4
  exact fin_out (rn := 0) (rc := 0) HBt.out HF3.out HN2.out Hm.out ⟨rfl, LkS.len2 HS5.out⟩ ⟨rfl, DuS.len2 HS7.out⟩ ⟨rfl, HS9.out.len⟩ (RsS.bl HS9.out fun q hq => ((HCw.out _ HA12.out.b).mz q hq).2) BV13.out t4 hP15 (by
   have h1 : (R' 0).n = (upc S3.r 2 ⟨a1, 2 * m + 2, c1⟩ 0).n + out.length := hr0
   rw [upc_ne _ _ (by omega), HF3.out.e.1] at h1
   exact h1) hr5 hrd
 have HK15 : Hid (Kept V12 V15 (fun j => j < w.heap.size ∨ (V4.heap.size ≤ j ∧ j < V5.heap.size) ∨ (V6.heap.size ≤ j ∧ j < V7.heap.size) ∨ (V8.heap.size ≤ j ∧ j < V9.heap.size))) := HFo.out.k.mono fun j _ hj => HOw.out j hj
 clear HM14 hP15 hr0 hr5 hrd
 have HOld : Hid (Old S3 (S4.rr R') f3 f3) := ⟨fun d => by rw [HFo.out.v.2]; exact Nat.le_refl _, fun d i _ => ⟨by rw [HFo.out.v.1], rfl⟩⟩
 have HK4 : Hid (Kept V4 V15 (fun j => j = W1.heap.size ∨ j < w.heap.size)) := (HA12.out.k.mono fun j _ e => Or.inl e).step HK15.out (fun j hj => by
  have h2 := H45.out
  have h3 := H78.out
  rcases hj with h1 | h1 | h1 | h1
  ·exact .inl (.inr h1)
  ·exact .inr h1.1
  ·exact .inr (by omega)
  ·exact .inr (by omega))
 have HM15 : Hid (Mt V15 (w.heap.size + 2) w.heap.size vb k ta tc ia ic xs x) := HM4.out.keep HK4.out (fun j hj hp => by have h1 := Hs.out.1; omega)
 have HL15 : Hid (L3.Ok V15 W1.heap.size W1.heap.size) := HA12.out.l.keep HK15.out (fun j hj hp => by have h1 := HLv.out.2 j hj; have h2 := Hs.out.1; have h3 := H45.out; have h4 := H78.out; have h5 := H4w.out; omega)
 have HO15a : Hid (V15.ownsRow V9.heap.size 76 2 (.slice ka l.length kc) l.length (slCells l)) := HK15.out.owns HO12a.out (fun j hj hp => by have h1 := World.ownsRow.lt HO12a.out j hj; have h2 := Hs.out.1; have h3 := H45.out; have h4 := H78.out; have h5 := H4w.out; omega)
 have HO15b : Hid (V15.ownsRow V9.heap.size 76 2 (.slice ya l2.length yc) l2.length (slCells l2)) := HK15.out.owns HO12b.out (fun j hj hp => by have h1 := World.ownsRow.lt HO12b.out j hj; have h2 := Hs.out.1; have h3 := H45.out; have h4 := H78.out; have h5 := H4w.out; omega)
 have HO15c : Hid (MoT 97 V9.heap.size V15 (.slice za out'.length zc) out') := MoT.keep HO12c.out HK15.out (fun j hj hp => by have h2 := Hs.out.1; have h3 := H45.out; have h4 := H78.out; have h5 := H4w.out; omega)
 have HC15 : Hid (Cs V15 k who ds) := HC0.out.still ((HW0.out V12 HA12.out.b).trans (HFo.out.k.below (by have h1 := HBs.out; have h2 := HA12.out.b.size; omega) (fun j hj hp => by have h1 := (HK3.out.lt hp).2; have h2 := HBs.out.2.2.2; omega)))
 have HN : Hid (∀ E : Int, Calls Try.prog 18 #[.int .i64 E] V15 fun e w' => e = .returned (.int .i64 E) ∧ V15 = w') := fun E => (num_any (w := V15) E).mono fun _ _ h => ⟨h.1, h.2.symm⟩
 have HSs1 : Hid (∀ X, Below V15.heap.size V15 X → Calls Try.prog 19 #[.slice la l.length lc, .slice ka l.length kc] X fun e w' => e = .returned (.bool true) ∧ Below X.heap.size X w') := fun X hX => by
  have h1 := ((HF3.out.a.old HOld.out).rd (HFo.out.bt.ok.still hX)).2
  rw [HFo.out.v.1, HF3.out.va] at h1
  exact sameSlots_any (ca := lc) (cb := kc) h1 (own_rdS (own_still HO15a.out hX) rfl) (by have := LkS.len2 HS5.out; omega)
 have HSs2 : Hid (∀ X, Below V15.heap.size V15 X → Calls Try.prog 19 #[.slice ba l2.length bc, .slice ya l2.length yc] X fun e w' => e = .returned (.bool true) ∧ Below X.heap.size X w') := fun X hX => by
  have h1 := ((HF3.out.b.old HOld.out).rd (HFo.out.bt.ok.still hX)).2
  rw [HFo.out.v.1, HF3.out.vb] at h1
  exact sameSlots_any (ca := bc) (cb := yc) h1 (own_rdS (own_still HO15b.out hX) rfl) (by have := DuS.len2 HS7.out; omega)
 have HSm : Hid (∀ X, Below V15.heap.size V15 X → Calls Try.prog 20 #[.slice ma out.length mc, .slice za out'.length zc] X fun e w' => e = .returned (.bool true) ∧ Below X.heap.size X w') := fun X hX => by
  have h1 := ((HF3.out.m.old HOld.out).rd (HFo.out.bt.ok.still hX) (RsS.r64 HS9.out)).2
  rw [HFo.out.v.1, HF3.out.vm] at h1
  exact sameMsgs_any (ca := mc) (cb := zc) h1 ((HO15c.out.still hX).rd rfl (RsS.r64 HS12.out)) HAl.out (by have := HS12.out.len; omega)
 have HAU : Hid (∀ X, Below V15.heap.size V15 X → Calls Try.prog 21 #[.slice ta xs.length tc, .slice ia xs.length ic, .slice k.ao k.fs.length k.cp] X fun e w' => e = .returned (.bool true) ∧ Below X.heap.size X w') := fun X hX => allUn_any (HM15.out.still hX).ft.tws (HC15.out.still hX).fs HC15.out.fn (fun i hi => ⟨(HC15.out.fi i hi).sn, (HC15.out.fi i hi).hn⟩)
 have HUn : Hid (∀ X, Below V15.heap.size V15 X → Calls Try.prog 22 #[.agg x.tw.toArray, .agg k.own.cs.toArray] X fun e w' => e = .returned (.bool true) ∧ Below X.heap.size X w') := fun X hX => untouched_any (HM15.out.still hX).fx (HC15.out.still hX).own.rd HC15.out.own.sn HC15.out.own.hn
 have HKe : Hid (∀ X, Below V15.heap.size V15 X → Calls Try.prog 23 #[.pointer (some ⟨W1.heap.size, 0, none⟩)] X fun e w' => e = .returned (.bool true) ∧ Below X.heap.size X w') := fun X hX => kept_any (HL15.out.still hX) (fun c hc => by have := HLv.out.1 c hc; omega)
 have HqX : Hid (∀ X, Below V15.heap.size V15 X → X.cell? ⟨w.heap.size, 0, none⟩ = some (.slice k.ao k.fs.length k.cp) ∧ X.rangeAt w.heap.size 1 k.own.cs ∧ X.rangeAt vb 0 x.tw) := fun X hX => ⟨(HCs.out _ _ (HM15.out.still hX).fc).1, (HCs.out _ _ (HM15.out.still hX).fc).2.1, blk_range (HM15.out.still hX).fv⟩
 have Hx9 : Hid (x.tw.length = 9) := rfl
 go_wp2_with (first
  | (go_at_call 18; refine (HN.out _).mono ?_; rintro e Vz ⟨rfl, rfl⟩)
  | (go_at_call 19; refine (HSs1.out _ (Below.refl _ _)).mono ?_; rintro e V16 ⟨rfl, hb16⟩; have BV16 : Hid (Below V15.heap.size V15 V16) := hb16; clear hb16 HSs1 HN)
  | (go_at_call 19; refine (HSs2.out _ BV16.out).mono ?_; rintro e V17 ⟨rfl, hb17⟩; have BV17 : Hid (Below V15.heap.size V15 V17) := bstep BV16.out hb17; clear hb17)
  | (go_at_call 20; refine (HSm.out _ BV17.out).mono ?_; rintro e V18 ⟨rfl, hb18⟩; have BV18 : Hid (Below V15.heap.size V15 V18) := bstep BV17.out hb18; clear hb18; have q18 := (HqX.out _ BV18.out).1)
  | (go_at_call 21; refine (HAU.out _ BV18.out).mono ?_; rintro e V19 ⟨rfl, hb19⟩; have BV19 : Hid (Below V15.heap.size V15 V19) := bstep BV18.out hb19; clear hb19 q18)
  | (refine load_mid 53 (.tmp 8) (HqX.out _ BV19.out).2.2 _ Try.underlying53 rfl (by rw [Hx9.out]; exact info_twin) rfl rfl rfl ?_)
  | (refine load_mid 28 (.tmp 151) (HqX.out _ BV19.out).2.1 _ Try.underlying28 rfl (by rw [Hc7.out]; exact info_flush) rfl rfl rfl ?_)
  | (go_at_call 22; refine (HUn.out _ BV19.out).mono ?_; rintro e V20 ⟨rfl, hb20⟩; have BV20 : Hid (Below V15.heap.size V15 V20) := bstep BV19.out hb20; clear hb20)
  | (go_at_call 23; refine (HKe.out _ BV20.out).mono ?_; rintro e V21 ⟨rfl, hb21⟩; have BV21 : Hid (Below V15.heap.size V15 V21) := bstep BV20.out hb21; clear hb21)
  | fail)
 go_ret
 refine ⟨rfl, ⟨⟨S4.rr R', f3, HFo.out.bt.still BV21.out, HF3.out.old.trans HOld.out, ⟨⟨E, l, HS5.out, ?_⟩, ⟨E2, l2, HS7.out, ?_⟩, ⟨E3, out, HS9.out, ?_⟩⟩, HFo.out.N2, HFo.out.N5, HFo.out.N, ?_, fun j hj => ?_⟩⟩⟩
 ·have h1 := HF3.out.a.old HOld.out
  rw [HN2.out.1] at h1
  exact h1
 ·have h1 := HF3.out.b.old HOld.out
  rw [HN2.out.1] at h1
  exact h1
 ·have h1 := HF3.out.m.old HOld.out
  rw [HN2.out.2.1] at h1
  exact h1
 ·have k1 : Kept w V15 (S.own hb) := (Kept.ofBelow HA12.out.b (S.own hb)).step HFo.out.k (fun j hj => by
   have h2 := H45.out
   have h3 := H78.out
   have h4 := H4w.out
   rcases HF3.out.own j hj with h1 | h1 | h1 | h1
   ·exact .inl h1
   ·exact .inr (by omega)
   ·exact .inr (by omega)
   ·exact .inr (by omega))
  exact k1.trans (Kept.ofBelow BV21.out _)
 ·have h2 := H45.out
  have h3 := H78.out
  have h4 := H4w.out
  rcases HFo.out.own j hj with h1 | h1
  ·rcases HF3.out.own j h1 with h1 | h1 | h1 | h1
   ·exact .inl h1
   ·exact .inr (by omega)
   ·exact .inr (by omega)
   ·exact .inr (by omega)
  ·have h5 := HA12.out.b.size
   exact .inr (by omega)
end
end Go.Proofs.Ytobaooebjgoaiaa.Hh
