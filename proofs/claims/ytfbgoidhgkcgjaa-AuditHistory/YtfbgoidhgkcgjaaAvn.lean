import Derived.Test.YtfbgoidhgkcgjaaAvn0
namespace Go.Proofs.Ytfbgoidhgkcgjaa.Lo
open Go.RowKit Go.Maps
set_option linter.unusedVariables false
set_option linter.unusedSimpArgs false
section
variable {w w' W : World} {B : Nat} {P : Nat → Prop}
theorem HK_ex (l : List Mk) : ∃ K, HK l K ∧ K ≤ l.length := by
  have : ∀ d k, pres l k → l.length + 1 - k ≤ d → ∃ K, HK l K := by
    intro d
    induction d with
    | zero => intro k hp hd; have := pres_le hp; omega
    | succ d ih =>
      intro k hp hd
      cases h : fnd l ((k : Int) + 1) with
      | none => exact ⟨k, hp, h⟩
      | some e => exact ih (k + 1) (pres_succ hp (by rw [h]; rfl)) (by omega)
  obtain ⟨K, hK⟩ := this (l.length + 1) 0 (fun i hi => by omega) (by omega)
  exact ⟨K, hK, pres_le hK.1⟩
set_option maxRecDepth 100000 in
set_option maxHeartbeats 16000000 in
theorem hlaw_any (la : Option Addr) (n lc : Nat) (l : List Mk) (va : Option Addr) (vn vc : Nat) (kk : Int) (w : World) (hF : MkF w la n l) (hok : ∀ e ∈ l, Okm e) (hcap : n ≤ lc) (hnil : la = none → n = 0 ∧ lc = 0) : Calls Try.prog 3 #[.agg #[.slice la n lc, .slice va vn vc, .int .i64 kk]] w fun r w' => r = .returned (.bool true) ∧ Below w.heap.size w w' := by
  have HB : Hid (Below w.heap.size w (w.alloc (.cells #[.slice la n lc, .slice va vn vc, .int .i64 kk] 25))) := bsp _ _ _
  have hk := heap_new w #[.slice la n lc, .slice va vn vc, .int .i64 kk] 25
  have hWs : w.heap.size < (w.alloc (.cells #[.slice la n lc, .slice va vn vc, .int .i64 kk] 25)).heap.size := by simp
  generalize hW : w.alloc (.cells #[.slice la n lc, .slice va vn vc, .int .i64 kk] 25) = W at *
  have c0 : W.cell? ⟨w.heap.size, 0, none⟩ = some (.slice la n lc) := blk_cell hk 0
  have HC0 : Hid (∀ D, Below W.heap.size W D → D.cell? ⟨w.heap.size, 0, none⟩ = some (.slice la n lc)) := (show ∀ D, _ from fun D hb => belowB_at hb hWs c0)
  have HF : Hid (MkF W la n l) := hF.on HB.out
  have HOk : Hid (∀ e ∈ l, Okm e) := hok
  have hln : l.length = n := hF.r.len
  have hz := hF.z
  obtain ⟨m, hmv, hm⟩ : ∃ m : Nat, m ≤ n ∧ (n : Int).tdiv 2 = (m : Int) := ⟨n / 2, by omega, by rw [Int.tdiv_eq_ediv_of_nonneg (by omega)]; omega⟩
  have m1 : (0 : Int) ≤ (m : Int) := Int.natCast_nonneg _
  have m2 : (m : Int) ≤ (lc : Int) := by omega
  have m3 : wrap64 (m : Int) = (m : Int) := by unfold wrap64; omega
  have HLo : Hid (Calls Try.prog 4 #[.slice la n lc] W fun r w' => ∃ xb, r = .returned (.pointer (some ⟨xb, 0, none⟩)) ∧ ∃ (La : Option Addr) (Lc : Nat) (Ma : Option Addr) (Mc : Nat) (Ta : Option Addr) (Tc : Nat) (Ba : Option Addr) (Bc : Nat) (l' : List Mk) (gm gt gb : Nat → Nat × Nat), Lz W w' W.heap.size xb l n n n n La Lc Ma Mc Ta Tc Ba Bc l' gm gt gb) := loose_any la n lc l W HF.out
  clear hk hF hok
  go_enter Try.func3, Try.ntmps3
  go_wp2_with fail
  refine HLo.out.mono ?_
  rintro r1 w1 ⟨xb, rfl, La, Lc, Ma, Mc, Ta, Tc, Ba, Bc, l', gm, gt, gb, hL1⟩
  have HL1 : Hid (Lz W w1 W.heap.size xb l n n n n La Lc Ma Mc Ta Tc Ba Bc l' gm gt gb) := hL1
  have HKy : Hid (l'.map kyM = l.map kyM) := hL1.key hln
  have HOk' : Hid (∀ e ∈ l', Okm e) := hL1.okm hln HOk.out
  have t0 : w1.cell? ⟨xb, 0, none⟩ = some (.slice La n Lc) := blk_cell hL1.t 0
  have HA1 : Hid (Calls Try.prog 5 #[.slice La n Lc] w1 fun r w' => ∃ (K : Nat) (ca : Option Addr) (cc : Nat), HK l K ∧ K ≤ l.length ∧ r = .returned (.slice ca K cc) ∧ OwC w' w1.heap.size (.slice ca K cc) (hsl l K) ∧ Below w1.heap.size w1 w') := hist_E La n Lc l' l w1 hL1.o.rd HOk'.out hz HKy.out
  clear HLo c0 hL1
  go_wp2_with fail
  refine HA1.out.mono ?_
  rintro r2 w2 ⟨K, h1, d1, hK, hKn, rfl, o2, hb2⟩
  have hW1 : W.heap.size ≤ w1.heap.size := hBs HL1.out
  have HL2 : Hid (Lz W w2 W.heap.size xb l n n n n La Lc Ma Mc Ta Tc Ba Bc l' gm gt gb) := (show Lz _ _ _ _ _ _ _ _ _ _ _ _ _ _ _ _ _ _ _ _ _ from HL1.out.on hb2)
  have HH2 : Hid (OwC w2 W.heap.size (.slice h1 K d1) (hsl l K)) := (show OwC _ _ _ _ from Mb.own_lower o2 hW1)
  have HHl : Hid (∀ q, (Value.slice h1 K d1).ownBlock = some q → q < w2.heap.size) := (show ∀ q, _ from fun q hq => (World.ownsRow.lt o2 q hq).2)
  have HHK : Hid (HK l K) := hK
  have hcL2 : w2.cell? ⟨w.heap.size, 0, none⟩ = some (.slice la n lc) := HC0.out w2 HL2.out.b
  have HCp : Hid (Calls Try.prog 6 #[.slice la m lc] w2 fun r w' => ∃ (oa : Option Addr) (oc : Nat) (l2 : List Mk), r = .returned (.slice oa m oc) ∧ OwM w' w2.heap.size (.slice oa m oc) l2 ∧ (∀ e ∈ l2, Okm e) ∧ Below w2.heap.size w2 w') := lcopied_any la m lc (l.take m) w2 ((HF.out.on HL2.out.b).take hmv) (fun e he => HOk.out e (List.mem_of_mem_take he))
  clear hK o2 hb2 HA1 HL1 t0 hW1
  go_wp2_with fail
  refine HCp.out.mono ?_
  rintro r3 w3 ⟨oa, oc, lx, rfl, o3, hox, hb3⟩
  have HA3 : Hid (Calls Try.prog 5 #[.slice oa m oc] w3 fun r w' => ∃ v, r = .returned v ∧ Below w3.heap.size w3 w') := (show Calls _ _ _ _ _ from (hist_any oa m oc lx w3 o3.rd hox (by omega)).mono fun r w' h => (by obtain ⟨k, ca, cc, h1, _, _, _, h5⟩ := h; exact ⟨_, h1, h5⟩))
  have HL3 : Hid (Lz W w3 W.heap.size xb l n n n n La Lc Ma Mc Ta Tc Ba Bc l' gm gt gb) := (show Lz _ _ _ _ _ _ _ _ _ _ _ _ _ _ _ _ _ _ _ _ _ from HL2.out.on hb3)
  have HH3 : Hid (OwC w3 W.heap.size (.slice h1 K d1) (hsl l K)) := (show OwC _ _ _ _ from Mb.own_still HH2.out hb3)
  have hs23 : w2.heap.size ≤ w3.heap.size := hb3.size
  clear HCp o3 hox hb3 HL2 HH2 hcL2
  go_wp2_with fail
  refine HA3.out.mono ?_
  rintro r4 w4 ⟨v4, rfl, hb4⟩
  have HL4 : Hid (Lz W w4 W.heap.size xb l n n n n La Lc Ma Mc Ta Tc Ba Bc l' gm gt gb) := (show Lz _ _ _ _ _ _ _ _ _ _ _ _ _ _ _ _ _ _ _ _ _ from HL3.out.on hb4)
  have HH4 : Hid (OwC w4 W.heap.size (.slice h1 K d1) (hsl l K)) := (show OwC _ _ _ _ from Mb.own_still HH3.out hb4)
  have hs24 : w2.heap.size ≤ w4.heap.size := Nat.le_trans hs23 hb4.size
  have t0 : w4.cell? ⟨xb, 0, none⟩ = some (.slice La n Lc) := blk_cell HL4.out.t 0
  have HA4 : Hid (Calls Try.prog 5 #[.slice La n Lc] w4 fun r w' => ∃ (ca : Option Addr) (cc : Nat), r = .returned (.slice ca K cc) ∧ OwC w' w4.heap.size (.slice ca K cc) (hsl l K) ∧ Below w4.heap.size w4 w') := hist_K La n Lc l' l K w4 HL4.out.o.rd HOk'.out hz HKy.out HHK.out
  clear HA3 HL3 HH3 hb4 hs23
  go_wp2_with fail
  refine HA4.out.mono ?_
  rintro r5 w5 ⟨h2, d2, rfl, o5, hb5⟩
  have HL5 : Hid (Lz W w5 W.heap.size xb l n n n n La Lc Ma Mc Ta Tc Ba Bc l' gm gt gb) := (show Lz _ _ _ _ _ _ _ _ _ _ _ _ _ _ _ _ _ _ _ _ _ from HL4.out.on hb5)
  have hW4 : W.heap.size ≤ w4.heap.size := hBs HL4.out
  have HH5 : Hid (OwC w5 W.heap.size (.slice h1 K d1) (hsl l K)) := (show OwC _ _ _ _ from Mb.own_still HH4.out hb5)
  have HG5 : Hid (OwC w5 W.heap.size (.slice h2 K d2) (hsl l K)) := (show OwC _ _ _ _ from Mb.own_lower o5 hW4)
  have HG5l : Hid (∀ q, (Value.slice h2 K d2).ownBlock = some q → w2.heap.size ≤ q) := (show ∀ q, _ from fun q hq => Nat.le_trans hs24 (World.ownsRow.lt o5 q hq).1)
  have c5 : w5.cell? ⟨w.heap.size, 0, none⟩ = some (.slice la n lc) := HC0.out w5 HL5.out.b
  have HR5 : Hid (Calls Try.prog 7 #[.slice la n lc] w5 fun r w' => ∃ (ca : Option Addr) (cc : Nat), r = .returned (.slice ca K cc) ∧ OwC w' w5.heap.size (.slice ca K cc) (hsl l K) ∧ Below w5.heap.size w5 w') := rhist_K la n lc l K w5 (HF.out.r.on HL5.out.b) hz HHK.out
  have hs25 : w2.heap.size ≤ w5.heap.size := Nat.le_trans hs24 hb5.size
  clear HA4 HL4 HH4 hb5 o5 t0 hs24 hW4
  go_wp2_with fail
  refine HR5.out.mono ?_
  rintro r6 w6 ⟨h3, d3, rfl, o6, hb6⟩
  have hW5 : W.heap.size ≤ w5.heap.size := hBs HL5.out
  have HL6 : Hid (Lz W w6 W.heap.size xb l n n n n La Lc Ma Mc Ta Tc Ba Bc l' gm gt gb) := (show Lz _ _ _ _ _ _ _ _ _ _ _ _ _ _ _ _ _ _ _ _ _ from HL5.out.on hb6)
  have HH6 : Hid (OwC w6 W.heap.size (.slice h1 K d1) (hsl l K)) := (show OwC _ _ _ _ from Mb.own_still HH5.out hb6)
  have HG6 : Hid (OwC w6 W.heap.size (.slice h2 K d2) (hsl l K)) := (show OwC _ _ _ _ from Mb.own_still HG5.out hb6)
  have HR6 : Hid (OwC w6 W.heap.size (.slice h3 K d3) (hsl l K)) := (show OwC _ _ _ _ from Mb.own_lower o6 hW5)
  have HAp : Hid (∀ q, (Value.slice h1 K d1).ownBlock = some q → (Value.slice h2 K d2).ownBlock ≠ some q ∧ (Value.slice h3 K d3).ownBlock ≠ some q) := (show ∀ q, _ from fun q hq => ⟨fun h => by have := HG5l.out q h; have := HHl.out q hq; omega, fun h => by have := (World.ownsRow.lt o6 q h).1; have := HHl.out q hq; omega⟩)
  have HS6 : Hid (∀ D, Below w6.heap.size w6 D → Calls Try.prog 8 #[.slice h1 K d1, .slice h3 K d3] D fun r w' => r = .returned (.bool true) ∧ Below D.heap.size D w') := (show ∀ D, _ from fun D hD => sameH_any h1 h3 K d1 d3 (hsl l K) D (HH6.out.rd.on hD) (HR6.out.rd.on hD) (by omega))
  have HS7 : Hid (∀ D, Below w6.heap.size w6 D → Calls Try.prog 8 #[.slice h2 K d2, .slice h3 K d3] D fun r w' => r = .returned (.bool true) ∧ Below D.heap.size D w') := (show ∀ D, _ from fun D hD => sameH_any h2 h3 K d2 d3 (hsl l K) D (HG6.out.rd.on hD) (HR6.out.rd.on hD) (by omega))
  have HC6 := HS6.out w6 (Below.refl _ _)
  clear HR5 HL5 HH5 HG5 HG5l HHl hb6 o6 c5 hW5 hs25 HS6
  go_wp2_with fail
  refine HC6.mono ?_
  rintro r7 w7 ⟨rfl, hb7⟩
  have HC7 := HS7.out w7 hb7
  clear HC6 HS7
  go_wp2_with fail
  refine HC7.mono ?_
  rintro r8 w8 ⟨rfl, hb8⟩
  have hb68 := bstep hb7 hb8
  have HZ8 : Hid (Lz W w8 W.heap.size xb l n n n n La Lc Ma Mc Ta Tc Ba Bc l' gm gt gb ∧ OwC w8 W.heap.size (.slice h1 K d1) (hsl l K) ∧ OwC w8 W.heap.size (.slice h2 K d2) (hsl l K) ∧ OwC w8 W.heap.size (.slice h3 K d3) (hsl l K)) := (show _ ∧ _ from ⟨HL6.out.on hb68, Mb.own_still HH6.out hb68, Mb.own_still HG6.out hb68, Mb.own_still HR6.out hb68⟩)
  clear HC7 hb7 hb8 hb68 HL6 HH6 HG6 HR6
  go_wp2_with fail
  go_loopw [9] (fun x wr => ∃ (j : Nat) (cs : List Cm), j ≤ K ∧ x = .int .i64 j ∧ Hid (Lz W wr W.heap.size xb l n n n n La Lc Ma Mc Ta Tc Ba Bc l' gm gt gb ∧ OwC wr W.heap.size (.slice h1 K d1) cs ∧ OwC wr W.heap.size (.slice h2 K d2) (hsl l K) ∧ OwC wr W.heap.size (.slice h3 K d3) (hsl l K))) (fun x _ => K - (intOf x).toNat)
  case atStart => exact ⟨0, hsl l K, Nat.zero_le _, rfl, HZ8⟩
  case round =>
    obtain ⟨j, cs, hj, rfl, hZ⟩ := hrel
    by_cases hjn : j < K
    · have j1 : (0 : Int) ≤ (j : Int) := Int.natCast_nonneg _
      have j3 : (j : Int) < (K : Int) := by omega
      obtain ⟨hb, hhb⟩ : ∃ g, h1 = some ⟨g, 0, none⟩ := by
        rcases hZ.out.2.1.rd.row with h0 | ⟨b, off, e, _⟩
        · omega
        · rcases hZ.out.2.1.2 with ⟨e, e0⟩ | ⟨g, cap, cur, e, _⟩
          · simp only [Value.slice.injEq] at e; omega
          · simp only [Value.slice.injEq] at e; exact ⟨g, e.1⟩
      subst hhb
      have HTh : Hid (wr.there hb (j * 7) (⟨0, 0, 0, -1 - (j : Int), ⟨#[]⟩, ⟨#[]⟩, ⟨#[]⟩⟩ : Cm).cs.length) := (show World.there _ _ _ _ from hZ.out.2.1.there hjn)
      obtain ⟨Y, hY⟩ : ∃ Y, wr.setCells hb (j * 7) (⟨0, 0, 0, -1 - (j : Int), ⟨#[]⟩, ⟨#[]⟩, ⟨#[]⟩⟩ : Cm).cs = Y := ⟨_, rfl⟩
      have kY : Mb.Kept wr Y (fun q => q = hb) := hY ▸ Mb.ksets (P := fun q => q = hb) rfl _ _ _
      have HZY : Hid (Lz W Y W.heap.size xb l n n n n La Lc Ma Mc Ta Tc Ba Bc l' gm gt gb ∧ OwC Y W.heap.size (.slice (some ⟨hb, 0, none⟩) K d1) (cs.set j ⟨0, 0, 0, -1 - (j : Int), ⟨#[]⟩, ⟨#[]⟩, ⟨#[]⟩⟩) ∧ OwC Y W.heap.size (.slice h2 K d2) (hsl l K) ∧ OwC Y W.heap.size (.slice h3 K d3) (hsl l K)) := (show _ ∧ _ from
        ⟨hZ.out.1.keep kY (fun q hq => by have hq' : q = hb := hq; subst hq'; obtain ⟨C, hC⟩ := Ln.own_ty hZ.out.2.1 (g := q) rfl; exact ⟨C, _, hC, by unfold okT; decide⟩) (fun q hq => by have hq' : q = hb := hq; subst hq'; exact (World.ownsRow.lt hZ.out.2.1 q rfl).1), hY ▸ hZ.out.2.1.put hjn _, kY.owns hZ.out.2.2.1 (fun q hq e => by have e' : q = hb := e; subst e'; exact (HAp.out q rfl).1 hq), kY.owns hZ.out.2.2.2 (fun q hq e => by have e' : q = hb := e; subst e'; exact (HAp.out q rfl).2 hq)⟩)
      clear kY hZ
      go_wp2_with (first | (refine wl_buildZ rfl 38 _ rfl (built_eq (by kernel_rfl) (bCmd (-1 - (j : Int)))) ?_) | (refine Ln.at_store 38 _ _ rfl ?_; refine Ln.wl_storeL rfl 38 _ _ rfl (L := (⟨0, 0, 0, -1 - (j : Int), ⟨#[]⟩, ⟨#[]⟩, ⟨#[]⟩⟩ : Cm).cs) rfl rfl HTh.out (iCm _) (Cm.one _) ?_; rw [hY]; clear hY HTh) | fail)
      go_roundw
      case rel => exact ⟨j + 1, _, by omega, by go_num, HZY⟩
      case measure => simp [intOf]; omega
    · obtain rfl : K = j := by omega
      go_wp2_with fail
      go_loopw [4, 10] (fun v4 x wr => ∃ (j : Nat) (a : Option Addr) (c : Nat) (cs : List Cm), j ≤ 64 ∧ x = .int .i64 j ∧ v4 = .slice a (K + j) c ∧ Hid (Lz W wr W.heap.size xb l n n n n La Lc Ma Mc Ta Tc Ba Bc l' gm gt gb ∧ OwC wr W.heap.size (.slice a (K + j) c) cs ∧ OwC wr W.heap.size (.slice h2 K d2) (hsl l K) ∧ OwC wr W.heap.size (.slice h3 K d3) (hsl l K)) ∧ Hid (∀ q, (Value.slice a (K + j) c).ownBlock = some q → (Value.slice h2 K d2).ownBlock ≠ some q ∧ (Value.slice h3 K d3).ownBlock ≠ some q)) (fun _ x _ => 64 - (intOf x).toNat)
      case atStart => exact ⟨0, h1, d1, cs, Nat.zero_le _, rfl, rfl, hZ, HAp⟩
      case round =>
        obtain ⟨j, a, c, cs, hj, rfl, rfl, hZ, hA⟩ := hrel
        by_cases hjn : j < 64
        · have j1 : (0 : Int) ≤ (j : Int) := Int.natCast_nonneg _
          have j3 : (j : Int) < 64 := by omega
          have hcl : cs.length = K + j := hZ.out.2.1.rd.len
          have hsW : W.heap.size ≤ wr.heap.size := hBs hZ.out.1
          obtain ⟨cj, hcj⟩ : ∃ x : Cm, (⟨0, 0, 0, 1000 + (j : Int), ⟨#[]⟩, ⟨#[]⟩, ⟨#[]⟩⟩ : Cm) = x := ⟨_, rfl⟩
          have hbj := bCmd (1000 + (j : Int))
          rw [hcj] at hbj
          go_wp2_with (first | (refine wl_buildZ rfl 38 _ rfl (built_eq (by kernel_rfl) hbj) ?_) | (refine Go.Great.wpList_buildSliceTo rfl 28 38 1 _ rfl wr.heap.size rfl _ rfl Try.underlying28 cj.cs.toArray (bsl_eq (by kernel_rfl) (builtCs _)) ?_) | (at_builtin; refine app_C rfl _ _ rfl rfl hZ.out.2.1 cj rfl rfl (by rw [hcl]; omega) hsW ?_) | fail)
          intro v4 Y o4 kk4 hob
          obtain ⟨a4, c4, hv4⟩ := ow_shape o4.out
          rw [List.length_append, hcl] at hv4
          have hv4' : v4 = .slice a4 (K + (j + 1)) c4 := hv4
          clear hv4
          subst hv4'
          have HZY : Hid (Lz W Y W.heap.size xb l n n n n La Lc Ma Mc Ta Tc Ba Bc l' gm gt gb ∧ OwC Y W.heap.size (.slice a4 (K + (j + 1)) c4) (cs ++ [cj]) ∧ OwC Y W.heap.size (.slice h2 K d2) (hsl l K) ∧ OwC Y W.heap.size (.slice h3 K d3) (hsl l K)) := (show _ ∧ _ from
            ⟨hZ.out.1.keep kk4.out (fun q hq => by obtain ⟨C, hC⟩ := Ln.own_ty hZ.out.2.1 hq; exact ⟨C, _, hC, by unfold okT; decide⟩) (fun q hq => (World.ownsRow.lt hZ.out.2.1 q hq).1), o4.out, kk4.out.owns hZ.out.2.2.1 (fun q hq e => (hA.out q e).1 hq), kk4.out.owns hZ.out.2.2.2 (fun q hq e => (hA.out q e).2 hq)⟩)
          have HAY : Hid (∀ q, (Value.slice a4 (K + (j + 1)) c4).ownBlock = some q → (Value.slice h2 K d2).ownBlock ≠ some q ∧ (Value.slice h3 K d3).ownBlock ≠ some q) := (show ∀ q, _ from fun q hq => by
            rcases hob.out with h | ⟨k, h, hk⟩
            · exact hA.out q (h ▸ hq)
            · have h' : some q = some k := hq.symm.trans h
              cases h'
              exact ⟨fun e => by have := (World.ownsRow.lt hZ.out.2.2.1 q e).2; omega, fun e => by have := (World.ownsRow.lt hZ.out.2.2.2 q e).2; omega⟩)
          clear o4 kk4 hob hZ hA hcl hsW hcj hbj
          go_wp2_with fail
          go_roundw
          case rel => exact ⟨j + 1, a4, c4, _, by omega, by go_num, rfl, HZY, HAY⟩
          case measure => simp [intOf]; omega
        · obtain rfl : 64 = j := by omega
          have HZ : Hid (Lz W wr W.heap.size xb l n n n n La Lc Ma Mc Ta Tc Ba Bc l' gm gt gb ∧ OwC wr W.heap.size (.slice h2 K d2) (hsl l K) ∧ OwC wr W.heap.size (.slice h3 K d3) (hsl l K)) := (show _ ∧ _ from ⟨hZ.out.1, hZ.out.2.2.1, hZ.out.2.2.2⟩)
          have HC1 : Hid (Calls Try.prog 8 #[.slice h2 K d2, .slice h3 K d3] wr fun r w' => r = .returned (.bool true) ∧ Below wr.heap.size wr w') := sameH_any h2 h3 K d2 d3 (hsl l K) wr HZ.out.2.1.rd HZ.out.2.2.rd (by omega)
          clear hZ hA HAp
          go_wp2_with fail
          refine HC1.out.mono ?_
          rintro s1 Y1 ⟨rfl, hy1⟩
          have HL1 : Hid (Lz W Y1 W.heap.size xb l n n n n La Lc Ma Mc Ta Tc Ba Bc l' gm gt gb ∧ OwC Y1 W.heap.size (.slice h3 K d3) (hsl l K)) := (show _ ∧ _ from ⟨HZ.out.1.on hy1, Mb.own_still HZ.out.2.2 hy1⟩)
          have t0 : Y1.cell? ⟨xb, 0, none⟩ = some (.slice La n Lc) := blk_cell HL1.out.1.t 0
          have HA1 : Hid (Calls Try.prog 5 #[.slice La n Lc] Y1 fun r w' => ∃ (ca : Option Addr) (cc : Nat), r = .returned (.slice ca K cc) ∧ OwC w' Y1.heap.size (.slice ca K cc) (hsl l K) ∧ Below Y1.heap.size Y1 w') := hist_K La n Lc l' l K Y1 HL1.out.1.o.rd HOk'.out hz HKy.out HHK.out
          clear HC1 hy1 HZ
          go_wp2_with fail
          refine HA1.out.mono ?_
          rintro s2 Y2 ⟨h4, d4, rfl, o2, hy2⟩
          have HC2 : Hid (Calls Try.prog 8 #[.slice h4 K d4, .slice h3 K d3] Y2 fun r w' => r = .returned (.bool true) ∧ Below Y2.heap.size Y2 w') := sameH_any h4 h3 K d4 d3 (hsl l K) Y2 o2.rd (HL1.out.2.rd.on hy2) (by omega)
          have HL2 : Hid (Lz W Y2 W.heap.size xb l n n n n La Lc Ma Mc Ta Tc Ba Bc l' gm gt gb) := (show Lz _ _ _ _ _ _ _ _ _ _ _ _ _ _ _ _ _ _ _ _ _ from HL1.out.1.on hy2)
          clear HA1 hy2 o2 HL1 t0
          go_wp2_with fail
          refine HC2.out.mono ?_
          rintro s3 Y3 ⟨rfl, hy3⟩
          have HL3 : Hid (Lz W Y3 W.heap.size xb l n n n n La Lc Ma Mc Ta Tc Ba Bc l' gm gt gb) := (show Lz _ _ _ _ _ _ _ _ _ _ _ _ _ _ _ _ _ _ _ _ _ from HL2.out.on hy3)
          have c3 : Y3.cell? ⟨w.heap.size, 0, none⟩ = some (.slice la n lc) := HC0.out Y3 HL3.out.b
          have HKe : Hid (Calls Try.prog 9 #[.pointer (some ⟨xb, 0, none⟩), .slice la n lc] Y3 fun r w' => r = .returned (.bool true) ∧ Below Y3.heap.size Y3 w') := kept_any la lc HL3.out (HF.out.on HL3.out.b)
          clear HC2 HL2 hy3
          go_wp2_with fail
          refine HKe.out.mono ?_
          rintro s4 Y4 ⟨rfl, hy4⟩
          have HL4 : Hid (Lz W Y4 W.heap.size xb l n n n n La Lc Ma Mc Ta Tc Ba Bc l' gm gt gb) := (show Lz _ _ _ _ _ _ _ _ _ _ _ _ _ _ _ _ _ _ _ _ _ from HL3.out.on hy4)
          have t0 : Y4.cell? ⟨xb, 0, none⟩ = some (.slice La n Lc) := blk_cell HL4.out.t 0
          have HTu : Hid (Calls Try.prog 10 #[.slice La n Lc] Y4 fun r w' => r = .returned (.tuple #[]) ∧ ∃ l2, OwM w' W.heap.size (.slice La n Lc) l2 ∧ (∀ e ∈ l2, Okm e) ∧ Mb.Kept Y4 w' (fun q => (Value.slice La n Lc).ownBlock = some q)) := turned_any La n Lc l' Y4 HL4.out.o (by omega) HOk'.out
          clear HKe HL3 hy4 c3
          go_wp2_with fail
          refine HTu.out.mono ?_
          rintro s5 Y5 ⟨rfl, l2, o5, hok5, kk5⟩
          have HB5 : Hid (Below W.heap.size W Y5) := (show Below _ _ _ from HL4.out.b.trans (kk5.below (hBs HL4.out) (fun q hq e => by have := (World.ownsRow.lt HL4.out.o q e).1; omega)))
          have hT5 := blk_app HL4.out.t HL4.out.o (by decide) kk5
          have hl2 : l2.length = n := o5.rd.len
          obtain ⟨K2, hK2, hK2n⟩ : ∃ K2, HK l2 K2 ∧ K2 ≤ l2.length := HK_ex l2
          have HA5 : Hid (∀ D, Below Y5.heap.size Y5 D → Calls Try.prog 5 #[.slice La n Lc] D fun r w' => ∃ (ca : Option Addr) (cc : Nat), r = .returned (.slice ca K2 cc) ∧ OwC w' D.heap.size (.slice ca K2 cc) (hsl l2 K2) ∧ Below D.heap.size D w') := (show ∀ D, _ from fun D hD => hist_K La n Lc l2 l2 K2 D (o5.rd.on hD) hok5 hz rfl hK2)
          have HG5 : Hid (∀ D, Below Y5.heap.size Y5 D → Calls Try.prog 7 #[.slice La n Lc] D fun r w' => ∃ (ca : Option Addr) (cc : Nat), r = .returned (.slice ca K2 cc) ∧ OwC w' D.heap.size (.slice ca K2 cc) (hsl l2 K2) ∧ Below D.heap.size D w') := (show ∀ D, _ from fun D hD => rhist_K La n Lc l2 K2 D (o5.rd.on hD) hz hK2)
          clear t0
          have t0 : Y5.cell? ⟨xb, 0, none⟩ = some (.slice La n Lc) := blk_cell hT5 0
          clear HTu o5 hok5 kk5 hT5 HL4 hK2
          go_wp2_with fail
          refine wp_region_held_drew (S := (fun w' => w'.cell? ⟨xb, 0, none⟩ = some (.slice La n Lc))) (by kernel_rfl) (below_at (drew_bel _) t0) (fun hHeld => ?_)
          simp only [Act.put, List.size_toArray, List.length_cons, List.length_nil, Nat.zero_add]
          refine takeD (i := 0) (d := 92) (v := .pointer (some ⟨xb, 0, none⟩)) rfl (by kernel_rfl) (by kernel_rfl) (by kernel_rfl) (by kernel_rfl) (fun _ _ _ h => h) (Or.inl ⟨by rfl, fun w' hS => by go_simp⟩) hHeld ?_
          simp only [Act.put, List.setIfInBounds_toArray, List.set_cons_zero, List.set_cons_succ]
          refine takeD (i := 1) (d := 93) (v := .pointer (some ⟨xb, 0, none⟩)) rfl (by kernel_rfl) (by kernel_rfl) (by kernel_rfl) (by kernel_rfl) (fun _ _ _ h => h) (Or.inl ⟨by rfl, fun w' hS => by go_simp⟩) hHeld ?_
          simp only [Act.put, List.setIfInBounds_toArray, List.set_cons_zero, List.set_cons_succ]
          refine takeD (i := 2) (d := 94) (v := .pointer (some ⟨xb, 0, none⟩)) rfl (by kernel_rfl) (by kernel_rfl) (by kernel_rfl) (by kernel_rfl) (fun _ _ _ h => h) (Or.inl ⟨by rfl, fun w' hS => by go_simp⟩) hHeld ?_
          simp only [Act.put, List.setIfInBounds_toArray, List.set_cons_zero, List.set_cons_succ]
          refine takeD (i := 3) (d := 95) (v := .slice La n Lc) rfl (by kernel_rfl) (by kernel_rfl) (by kernel_rfl) (by kernel_rfl) (fun _ _ _ h => h) (Or.inl ⟨by rfl, fun w' hS => by (obtain s0 := hS; go_simp)⟩) hHeld ?_
          simp only [Act.put, List.setIfInBounds_toArray, List.set_cons_zero, List.set_cons_succ]
          refine takeD (i := 5) (d := 97) (v := .pointer (some ⟨xb, 0, none⟩)) rfl (by kernel_rfl) (by kernel_rfl) (by kernel_rfl) (by kernel_rfl) (fun _ _ _ h => h) (Or.inl ⟨by rfl, fun w' hS => by go_simp⟩) hHeld ?_
          simp only [Act.put, List.setIfInBounds_toArray, List.set_cons_zero, List.set_cons_succ]
          refine takeD (i := 6) (d := 98) (v := .pointer (some ⟨xb, 0, none⟩)) rfl (by kernel_rfl) (by kernel_rfl) (by kernel_rfl) (by kernel_rfl) (fun _ _ _ h => h) (Or.inl ⟨by rfl, fun w' hS => by go_simp⟩) hHeld ?_
          simp only [Act.put, List.setIfInBounds_toArray, List.set_cons_zero, List.set_cons_succ]
          refine takeD (i := 7) (d := 99) (v := .pointer (some ⟨xb, 0, none⟩)) rfl (by kernel_rfl) (by kernel_rfl) (by kernel_rfl) (by kernel_rfl) (fun _ _ _ h => h) (Or.inl ⟨by rfl, fun w' hS => by go_simp⟩) hHeld ?_
          simp only [Act.put, List.setIfInBounds_toArray, List.set_cons_zero, List.set_cons_succ]
          refine takeD (i := 8) (d := 100) (v := .slice La n Lc) rfl (by kernel_rfl) (by kernel_rfl) (by kernel_rfl) (by kernel_rfl) (fun _ _ _ h => h) (Or.inl ⟨by rfl, fun w' hS => by (obtain s0 := hS; go_simp)⟩) hHeld ?_
          simp only [Act.put, List.setIfInBounds_toArray, List.set_cons_zero, List.set_cons_succ]
          have hbD : Below Y5.heap.size Y5 Y5.drew := drew_bel _
          have q0 := below_at hbD t0
          generalize Y5.drew = D1 at *
          refine wpAnyH_ready (rs := [4]) (by kernel_rfl) (by simp) ?_
          refine AllReadyH.cons rfl (fun K hK => ?_) AllReadyH.nil
          go_simp
          refine (HA5.out D1 hbD).mono ?_
          rintro r6 Y6 ⟨a6, d6, rfl, o6, hb6⟩
          refine hK.out _ _ (below_at hb6 q0) (fun hHeld => ?_)
          clear hK K
          refine wpAnyH_ready (rs := [9]) (by kernel_rfl) (by simp) ?_
          refine AllReadyH.cons rfl (fun K hK => ?_) AllReadyH.nil
          go_simp
          refine (HG5.out Y6 (bstep hbD hb6)).mono ?_
          rintro r7 Y7 ⟨a7, d7, rfl, o7, hb7⟩
          refine hK.out _ _ (below_at hb7 (below_at hb6 q0)) (fun hHeld => ?_)
          clear hK K
          refine wpAnyH_ready (rs := [10]) (by kernel_rfl) (by simp) ?_
          refine AllReadyH.cons rfl (fun K hK => ?_) AllReadyH.nil
          go_simp
          refine (sameH_any a6 a7 K2 d6 d7 (hsl l2 K2) Y7 (o6.rd.on hb7) o7.rd (by omega)).mono ?_
          rintro r8 Y8 ⟨rfl, hb8⟩
          refine hK.out _ _ (below_at hb8 (below_at hb7 (below_at hb6 q0))) (fun hHeld => ?_)
          clear hK K
          refine takeD (i := 11) (d := 13) (v := .bool true) rfl (by kernel_rfl) (by kernel_rfl) (by kernel_rfl) (by kernel_rfl) (fun _ _ _ h => h) (Or.inl ⟨by rfl, fun w' hS => by go_simp⟩) hHeld ?_
          simp only [Act.put, List.setIfInBounds_toArray, List.set_cons_zero, List.set_cons_succ]
          refine wpAnyH_done (by kernel_rfl) ?_ _
          clear hHeld
          have HBz : Hid (Below w.heap.size w Y8) := (show Below _ _ _ from bst HB.out (HB5.out.trans ((bstep (bstep (bstep hbD hb6) hb7) hb8).mono HB5.out.size)))
          clear hbD hb6 hb7 hb8 o6 o7 HA5 HG5 HB5 t0
          try clear q0
          go_wp2_with fail
          go_ret
          exact ⟨rfl, HBz.out⟩
end
end Go.Proofs.Ytfbgoidhgkcgjaa.Lo
