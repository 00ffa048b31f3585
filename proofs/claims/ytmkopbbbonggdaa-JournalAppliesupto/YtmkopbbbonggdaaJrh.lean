import Derived.Test.YtmkopbbbonggdaaJrg
namespace Go.Proofs.Ytmkopbbbonggdaa.Jn
open Go.RowKit Mb Fg
set_option linter.unusedVariables false
set_option maxRecDepth 100000
set_option linter.unusedSimpArgs false
section
variable {w w' W : World} {B : Nat}

set_option maxHeartbeats 32000000 in
theorem applies_law {aa : Option Addr} {an ac : Nat} {dA : List Int} (hA : Rd w aa an ac dA) {ba : Option Addr} {bn bc : Nat} {dB : List Int} (hB : Rd w ba bn bc dB) {wo : Option Addr} {m d : Nat} {l : List Wr} (hl : RdWs w wo m l) (K : Int) (hK0 : -9223372036854775808 ≤ K) (hK : K ≤ 9223372036854775807) (hS : dA.length + dB.length + tot l ≤ 4194304) (hm : m ≤ 4194304) : Calls Try.prog 3 #[.agg #[.slice aa an ac, .slice ba bn bc], .slice wo m d, .int .i64 K] w fun e w' => e = .returned (.bool true) ∧ Below w.heap.size w w' := by
  obtain rfl : dA.length = an := hA.len
  obtain rfl : dB.length = bn := hB.len
  generalize hW : w.alloc (.cells #[.slice aa dA.length ac, .slice ba dB.length bc] 24) = W
  have b1 : Below w.heap.size w W := by rw [← hW]; exact balloc (Below.refl _ _)
  have kb1 : W.heap[w.heap.size]? = some (.cells #[.slice aa dA.length ac, .slice ba dB.length bc] 24 (0, 0)) := by rw [← hW]; exact heap_alloc_new w _
  have q0 : W.cell? ⟨w.heap.size, 0, none⟩ = some (.slice aa dA.length ac) := blk_cell kb1 0
  have q1 : W.cell? ⟨w.heap.size, 1, none⟩ = some (.slice ba dB.length bc) := blk_cell kb1 1
  have HD : Hid (W.heap[w.heap.size]? = some (.cells #[.slice aa dA.length ac, .slice ba dB.length bc] 24 (0, 0))) := kb1
  have HBW : Hid (Below w.heap.size w W) := b1
  have HA : Hid (Rd W aa dA.length ac dA) := hA.still b1
  have HB : Hid (Rd W ba dB.length bc dB) := hB.still b1
  have HL : Hid (RdWs W wo m l) := hl.still b1
  have Hll : Hid (l.length = m) := hl.len
  have Hxl : Hid (∀ i, i < m → (l.getD i wr0).bs.length = (l.getD i wr0).n) := fun i hi => (hl.mem i hi).len
  have Hxt : Hid (∀ i, i < m → (l.getD i wr0).n ≤ 4194304) := fun i hi => by
    rw [← Hxl.out i hi]
    have := tot_app (l.take i) (l.drop i)
    rw [List.take_append_drop, drop_cons (by have := hl.len; omega)] at this
    simp only [tot] at this
    omega
  have hcl := cost_le l
  have hcl2 : cost l ≤ 8388608 := by have := hl.len; omega
  have HC1 : Hid (∀ V, Below W.drew.heap.size W.drew V → SpP dA aa ac V) := fun V hV => spare_sp ((HA.out.still (Below.refl _ _).drew).still hV) (by omega)
  have HC2 : Hid (∀ V, Below W.drew.heap.size W.drew V → SpP dB ba bc V) := fun V hV => spare_sp ((HB.out.still (Below.refl _ _).drew).still hV) (by omega)
  clear hA hB hl b1 kb1 hcl
  go_enter Try.func3, Try.ntmps3
  go_upto_region 1 with (fail)
  go_cut [7] (fun p wx => Hid (C0P W dA dB p wx))
  case first =>
    refine wp_region_held_drew (S := (fun w' => w'.cell? ⟨w.heap.size, 0, none⟩ = some (.slice aa dA.length ac) ∧ w'.cell? ⟨w.heap.size, 1, none⟩ = some (.slice ba dB.length bc))) (by kernel_rfl) ⟨below_at (Below.refl _ _).drew q0, below_at (Below.refl _ _).drew q1⟩ (fun hHeld => ?_)
    simp only [Act.put, List.size_toArray, List.length_cons, List.length_nil, Nat.zero_add]
    refine wpAnyH_take (i := 0) (v := .pointer (some ⟨w.heap.size, 0, none⟩)) rfl (by kernel_rfl) (by kernel_rfl) (by kernel_rfl) (fun _ _ _ h => h) (Or.inl ⟨by rfl, fun w' hS => by go_simp⟩) hHeld ?_
    simp only [Act.put, List.getElem_toArray, List.getElem_cons_zero, List.getElem_cons_succ, List.setIfInBounds_toArray, List.set_cons_zero, List.set_cons_succ]
    refine wpAnyH_take (i := 1) (v := .slice aa dA.length ac) rfl (by kernel_rfl) (by kernel_rfl) (by kernel_rfl) (fun _ _ _ h => h) (Or.inl ⟨by rfl, fun w' hS => by (obtain ⟨s0, s1⟩ := hS; go_simp)⟩) hHeld ?_
    simp only [Act.put, List.getElem_toArray, List.getElem_cons_zero, List.getElem_cons_succ, List.setIfInBounds_toArray, List.set_cons_zero, List.set_cons_succ]
    refine wpAnyH_take (i := 3) (v := .pointer (some ⟨w.heap.size, 1, none⟩)) rfl (by kernel_rfl) (by kernel_rfl) (by kernel_rfl) (fun _ _ _ h => h) (Or.inl ⟨by rfl, fun w' hS => by go_simp⟩) hHeld ?_
    simp only [Act.put, List.getElem_toArray, List.getElem_cons_zero, List.getElem_cons_succ, List.setIfInBounds_toArray, List.set_cons_zero, List.set_cons_succ]
    refine wpAnyH_take (i := 4) (v := .slice ba dB.length bc) rfl (by kernel_rfl) (by kernel_rfl) (by kernel_rfl) (fun _ _ _ h => h) (Or.inl ⟨by rfl, fun w' hS => by (obtain ⟨s0, s1⟩ := hS; go_simp)⟩) hHeld ?_
    simp only [Act.put, List.getElem_toArray, List.getElem_cons_zero, List.getElem_cons_succ, List.setIfInBounds_toArray, List.set_cons_zero, List.set_cons_succ]
    have HVX0 : Hid (Below W.drew.heap.size W.drew W.drew) := Below.refl _ _
    refine wpAnyH_ready (rs := [2, 7]) (by kernel_rfl) (by simp) ?_
    refine AllReadyH.cons rfl (fun K hK => ?_) (AllReadyH.cons rfl (fun K hK => ?_) AllReadyH.nil)
    · skip
      go_simp
      refine (HC1.out W.drew HVX0.out).mono ?_
      rintro e X1 ⟨g1, c1, rfl, ho1, hb1⟩
      have HVX1 : Hid (Below W.drew.heap.size W.drew X1) := bstep HVX0.out hb1
      have Hs1 : Hid (W.drew.heap.size ≤ X1.heap.size) := hb1.size
      have HO1 : Hid (Sp X1 W.drew.heap.size g1 dA.length c1 dA) := ho1
      refine hK.out _ _ ⟨below_at HVX1.out (below_at (Below.refl _ _).drew q0), below_at HVX1.out (below_at (Below.refl _ _).drew q1)⟩ (fun hHeld => ?_)
      clear hK K ho1
      refine wpAnyH_ready (rs := [5, 7]) (by kernel_rfl) (by simp) ?_
      refine AllReadyH.cons rfl (fun K hK => ?_) (AllReadyH.cons rfl (fun K hK => ?_) AllReadyH.nil)
      · skip
        go_simp
        refine (HC2.out X1 HVX1.out).mono ?_
        rintro e X2 ⟨g2, c2, rfl, ho2, hb2⟩
        have HVX2 : Hid (Below W.drew.heap.size W.drew X2) := bstep HVX1.out hb2
        have Hs2 : Hid (X1.heap.size ≤ X2.heap.size) := hb2.size
        have HO2 : Hid (Sp X2 X1.heap.size g2 dB.length c2 dB) := ho2
        refine hK.out _ _ ⟨below_at HVX2.out (below_at (Below.refl _ _).drew q0), below_at HVX2.out (below_at (Below.refl _ _).drew q1)⟩ (fun hHeld => ?_)
        clear hK K ho2
        refine wpAnyH_take (i := 6) (v := .agg #[.slice (some ⟨g1, 0, none⟩) dA.length c1, .slice (some ⟨g2, 0, none⟩) dB.length c2]) rfl (by kernel_rfl) (by kernel_rfl) (by kernel_rfl) (fun _ _ _ h => h) (Or.inl ⟨by rfl, fun w' hS => by exact run_buildop 24 _ rfl _ (by kernel_rfl)⟩) hHeld ?_
        simp only [Act.put, List.getElem_toArray, List.getElem_cons_zero, List.getElem_cons_succ, List.setIfInBounds_toArray, List.set_cons_zero, List.set_cons_succ]
        refine wpAnyH_ready (rs := [7]) (by kernel_rfl) (by simp) ?_
        refine AllReadyH.cons rfl (fun K hK => ?_) AllReadyH.nil
        obtain ⟨X3, hX3⟩ : ∃ x, X2.alloc (.cells #[.slice none 0 0, .slice none 0 0] 24) = x := ⟨_, rfl⟩
        have HVX3 : Hid (Below W.drew.heap.size W.drew X3) := by rw [← hX3]; exact balloc HVX2.out
        have HBl : Hid (X3.heap[X2.heap.size]? = some (.cells #[.slice none 0 0, .slice none 0 0] 24 (0, 0))) := by rw [← hX3]; exact heap_alloc_new _ _
        have HBs : Hid (Below X2.heap.size X2 X3) := by rw [← hX3]; exact balloc (Below.refl _ _)
        have Hbf : Hid (W.drew.heap.size ≤ X2.heap.size) := HVX2.out.size
        go_simp
        try rw [hX3]
        refine hK.out _ _ ⟨below_at HVX3.out (below_at (Below.refl _ _).drew q0), below_at HVX3.out (below_at (Below.refl _ _).drew q1)⟩ (fun hHeld => ?_)
        clear hK K
        refine wpAnyH_ready (rs := [8]) (by kernel_rfl) (by simp) ?_
        refine AllReadyH.cons rfl (fun K hK => ?_) AllReadyH.nil
        split
        · skip
          have HLb : Hid (X3.heap[X2.heap.size]? = some (.cells #[.slice none 0 0, .slice none 0 0] 24 (0, 0))) := HBl.out
          obtain ⟨Y, hY⟩ : ∃ Y, X3.setCells X2.heap.size 0 #[.slice (some ⟨g1, 0, none⟩) dA.length c1, .slice (some ⟨g2, 0, none⟩) dB.length c2].toList = Y := ⟨_, rfl⟩
          have HKY : Hid (Kept X3 Y (fun j => j = X2.heap.size)) := by rw [← hY]; exact ksets (P := fun j => j = X2.heap.size) rfl _ _ _
          have HYb : Hid (Y.heap[X2.heap.size]? = some (.cells #[.slice (some ⟨g1, 0, none⟩) dA.length c1, .slice (some ⟨g2, 0, none⟩) dB.length c2] 24 (0, 0))) := by rw [← hY]; exact sets_whole HLb.out rfl
          have HBY : Hid (Below W.drew.heap.size W.drew Y) := HVX3.out.trans (HKY.out.below HVX3.out.size (fun j hj e => by have := Hbf.out; omega))
          have HC0 : Hid (C0 Y W.heap.size (X2.heap.size) g1 c1 g2 c2 dA.length dB.length dA dB) := by
            have k1 : ∀ (g n c : Nat) (bs : List Int) (b0 : Nat), Sp X3 b0 g n c bs → W.heap.size ≤ b0 → Sp Y W.heap.size g n c bs := fun g n c bs b0 ho hb0 => by
              have h1 : Sp X3 W.heap.size g n c bs := ⟨ho.own.lower hb0, ho.cap, ho.len, ho.by_⟩
              refine h1.keep HKY.out (fun e => ?_)
              obtain ⟨cur, hc⟩ := ho.ty
              exact ty_ne hc HLb.out (by decide) e
            refine ⟨HYb.out, Hbf.out, k1 _ _ _ _ _ (HO1.out.still (bstep (bstep (Below.refl _ _) hb2) HBs.out)) ?_, k1 _ _ _ _ _ (HO2.out.still HBs.out) ?_, ?_⟩
            · first | exact HVX0.out.size | exact HVX3.out.size
            · first | exact HVX1.out.size | exact HVX3.out.size
            · have h1 := HO1.out.lo.2
              have h2 := (HO2.out.lo).1
              omega
          have HBW2 : Hid (Below W.heap.size W Y) := bstep (Below.refl _ _).drew HBY.out
          refine wp_store_mid 24 (.tmp 7) (.tmp 21) rfl X2.heap.size 0 _ rfl rfl (by exact blk_there HLb.out rfl) info_dk (two_one _ _ _ _ _ _) ?_
          rw [show X3.setCells X2.heap.size 0 #[.slice (some ⟨g1, 0, none⟩) dA.length c1, .slice (some ⟨g2, 0, none⟩) dB.length c2].toList = Y from hY]
          refine hK.out _ _ ⟨below_at HBY.out (below_at (Below.refl _ _).drew q0), below_at HBY.out (below_at (Below.refl _ _).drew q1)⟩ (fun hHeld => ?_)
          clear hK K
          refine wpAnyH_done (by kernel_rfl) ?_ _
          clear hHeld
          go_wp2_with (fail)
          go_meet
          exact ⟨_, _, _, _, _, rfl, HC0.out, HBW2.out⟩
        · rename_i hne2
          exact absurd rfl hne2
      · skip
        obtain ⟨X3, hX3⟩ : ∃ x, X1.alloc (.cells #[.slice none 0 0, .slice none 0 0] 24) = x := ⟨_, rfl⟩
        have HVX3 : Hid (Below W.drew.heap.size W.drew X3) := by rw [← hX3]; exact balloc HVX1.out
        have HBl : Hid (X3.heap[X1.heap.size]? = some (.cells #[.slice none 0 0, .slice none 0 0] 24 (0, 0))) := by rw [← hX3]; exact heap_alloc_new _ _
        have HBs : Hid (Below X1.heap.size X1 X3) := by rw [← hX3]; exact balloc (Below.refl _ _)
        have Hbf : Hid (W.drew.heap.size ≤ X1.heap.size) := HVX1.out.size
        go_simp
        try rw [hX3]
        refine hK.out _ _ ⟨below_at HVX3.out (below_at (Below.refl _ _).drew q0), below_at HVX3.out (below_at (Below.refl _ _).drew q1)⟩ (fun hHeld => ?_)
        clear hK K
        refine wpAnyH_ready (rs := [5]) (by kernel_rfl) (by simp) ?_
        refine AllReadyH.cons rfl (fun K hK => ?_) AllReadyH.nil
        go_simp
        refine (HC2.out X3 HVX3.out).mono ?_
        rintro e X2 ⟨g2, c2, rfl, ho2, hb2⟩
        have HVX2 : Hid (Below W.drew.heap.size W.drew X2) := bstep HVX3.out hb2
        have Hs2 : Hid (X3.heap.size ≤ X2.heap.size) := hb2.size
        have HO2 : Hid (Sp X2 X3.heap.size g2 dB.length c2 dB) := ho2
        refine hK.out _ _ ⟨below_at HVX2.out (below_at (Below.refl _ _).drew q0), below_at HVX2.out (below_at (Below.refl _ _).drew q1)⟩ (fun hHeld => ?_)
        clear hK K ho2
        refine wpAnyH_take (i := 6) (v := .agg #[.slice (some ⟨g1, 0, none⟩) dA.length c1, .slice (some ⟨g2, 0, none⟩) dB.length c2]) rfl (by kernel_rfl) (by kernel_rfl) (by kernel_rfl) (fun _ _ _ h => h) (Or.inl ⟨by rfl, fun w' hS => by exact run_buildop 24 _ rfl _ (by kernel_rfl)⟩) hHeld ?_
        simp only [Act.put, List.getElem_toArray, List.getElem_cons_zero, List.getElem_cons_succ, List.setIfInBounds_toArray, List.set_cons_zero, List.set_cons_succ]
        refine wpAnyH_ready (rs := [8]) (by kernel_rfl) (by simp) ?_
        refine AllReadyH.cons rfl (fun K hK => ?_) AllReadyH.nil
        split
        · skip
          have HLb : Hid (X2.heap[X1.heap.size]? = some (.cells #[.slice none 0 0, .slice none 0 0] 24 (0, 0))) := (hb2.block _ (lt_heap HBl.out)).trans HBl.out
          obtain ⟨Y, hY⟩ : ∃ Y, X2.setCells X1.heap.size 0 #[.slice (some ⟨g1, 0, none⟩) dA.length c1, .slice (some ⟨g2, 0, none⟩) dB.length c2].toList = Y := ⟨_, rfl⟩
          have HKY : Hid (Kept X2 Y (fun j => j = X1.heap.size)) := by rw [← hY]; exact ksets (P := fun j => j = X1.heap.size) rfl _ _ _
          have HYb : Hid (Y.heap[X1.heap.size]? = some (.cells #[.slice (some ⟨g1, 0, none⟩) dA.length c1, .slice (some ⟨g2, 0, none⟩) dB.length c2] 24 (0, 0))) := by rw [← hY]; exact sets_whole HLb.out rfl
          have HBY : Hid (Below W.drew.heap.size W.drew Y) := HVX2.out.trans (HKY.out.below HVX2.out.size (fun j hj e => by have := Hbf.out; omega))
          have HC0 : Hid (C0 Y W.heap.size (X1.heap.size) g1 c1 g2 c2 dA.length dB.length dA dB) := by
            have k1 : ∀ (g n c : Nat) (bs : List Int) (b0 : Nat), Sp X2 b0 g n c bs → W.heap.size ≤ b0 → Sp Y W.heap.size g n c bs := fun g n c bs b0 ho hb0 => by
              have h1 : Sp X2 W.heap.size g n c bs := ⟨ho.own.lower hb0, ho.cap, ho.len, ho.by_⟩
              refine h1.keep HKY.out (fun e => ?_)
              obtain ⟨cur, hc⟩ := ho.ty
              exact ty_ne hc HLb.out (by decide) e
            refine ⟨HYb.out, Hbf.out, k1 _ _ _ _ _ (HO1.out.still (bstep HBs.out hb2)) ?_, k1 _ _ _ _ _ HO2.out ?_, ?_⟩
            · first | exact HVX0.out.size | exact HVX3.out.size
            · first | exact HVX1.out.size | exact HVX3.out.size
            · have h1 := Nat.lt_of_lt_of_le HO1.out.lo.2 HBs.out.size
              have h2 := (HO2.out.lo).1
              omega
          have HBW2 : Hid (Below W.heap.size W Y) := bstep (Below.refl _ _).drew HBY.out
          refine wp_store_mid 24 (.tmp 7) (.tmp 21) rfl X1.heap.size 0 _ rfl rfl (by exact blk_there HLb.out rfl) info_dk (two_one _ _ _ _ _ _) ?_
          rw [show X2.setCells X1.heap.size 0 #[.slice (some ⟨g1, 0, none⟩) dA.length c1, .slice (some ⟨g2, 0, none⟩) dB.length c2].toList = Y from hY]
          refine hK.out _ _ ⟨below_at HBY.out (below_at (Below.refl _ _).drew q0), below_at HBY.out (below_at (Below.refl _ _).drew q1)⟩ (fun hHeld => ?_)
          clear hK K
          refine wpAnyH_done (by kernel_rfl) ?_ _
          clear hHeld
          go_wp2_with (fail)
          go_meet
          exact ⟨_, _, _, _, _, rfl, HC0.out, HBW2.out⟩
        · rename_i hne2
          exact absurd rfl hne2
    · skip
      obtain ⟨X3, hX3⟩ : ∃ x, W.drew.alloc (.cells #[.slice none 0 0, .slice none 0 0] 24) = x := ⟨_, rfl⟩
      have HVX3 : Hid (Below W.drew.heap.size W.drew X3) := by rw [← hX3]; exact balloc HVX0.out
      have HBl : Hid (X3.heap[W.drew.heap.size]? = some (.cells #[.slice none 0 0, .slice none 0 0] 24 (0, 0))) := by rw [← hX3]; exact heap_alloc_new _ _
      have HBs : Hid (Below W.drew.heap.size W.drew X3) := by rw [← hX3]; exact balloc (Below.refl _ _)
      have Hbf : Hid (W.drew.heap.size ≤ W.drew.heap.size) := HVX0.out.size
      go_simp
      try rw [hX3]
      refine hK.out _ _ ⟨below_at HVX3.out (below_at (Below.refl _ _).drew q0), below_at HVX3.out (below_at (Below.refl _ _).drew q1)⟩ (fun hHeld => ?_)
      clear hK K
      refine wpAnyH_ready (rs := [2]) (by kernel_rfl) (by simp) ?_
      refine AllReadyH.cons rfl (fun K hK => ?_) AllReadyH.nil
      go_simp
      refine (HC1.out X3 HVX3.out).mono ?_
      rintro e X1 ⟨g1, c1, rfl, ho1, hb1⟩
      have HVX1 : Hid (Below W.drew.heap.size W.drew X1) := bstep HVX3.out hb1
      have Hs1 : Hid (X3.heap.size ≤ X1.heap.size) := hb1.size
      have HO1 : Hid (Sp X1 X3.heap.size g1 dA.length c1 dA) := ho1
      refine hK.out _ _ ⟨below_at HVX1.out (below_at (Below.refl _ _).drew q0), below_at HVX1.out (below_at (Below.refl _ _).drew q1)⟩ (fun hHeld => ?_)
      clear hK K ho1
      refine wpAnyH_ready (rs := [5]) (by kernel_rfl) (by simp) ?_
      refine AllReadyH.cons rfl (fun K hK => ?_) AllReadyH.nil
      go_simp
      refine (HC2.out X1 HVX1.out).mono ?_
      rintro e X2 ⟨g2, c2, rfl, ho2, hb2⟩
      have HVX2 : Hid (Below W.drew.heap.size W.drew X2) := bstep HVX1.out hb2
      have Hs2 : Hid (X1.heap.size ≤ X2.heap.size) := hb2.size
      have HO2 : Hid (Sp X2 X1.heap.size g2 dB.length c2 dB) := ho2
      refine hK.out _ _ ⟨below_at HVX2.out (below_at (Below.refl _ _).drew q0), below_at HVX2.out (below_at (Below.refl _ _).drew q1)⟩ (fun hHeld => ?_)
      clear hK K ho2
      refine wpAnyH_take (i := 6) (v := .agg #[.slice (some ⟨g1, 0, none⟩) dA.length c1, .slice (some ⟨g2, 0, none⟩) dB.length c2]) rfl (by kernel_rfl) (by kernel_rfl) (by kernel_rfl) (fun _ _ _ h => h) (Or.inl ⟨by rfl, fun w' hS => by exact run_buildop 24 _ rfl _ (by kernel_rfl)⟩) hHeld ?_
      simp only [Act.put, List.getElem_toArray, List.getElem_cons_zero, List.getElem_cons_succ, List.setIfInBounds_toArray, List.set_cons_zero, List.set_cons_succ]
      refine wpAnyH_ready (rs := [8]) (by kernel_rfl) (by simp) ?_
      refine AllReadyH.cons rfl (fun K hK => ?_) AllReadyH.nil
      split
      · skip
        have HLb : Hid (X2.heap[W.drew.heap.size]? = some (.cells #[.slice none 0 0, .slice none 0 0] 24 (0, 0))) := ((bstep hb1 hb2).block _ (lt_heap HBl.out)).trans HBl.out
        obtain ⟨Y, hY⟩ : ∃ Y, X2.setCells W.drew.heap.size 0 #[.slice (some ⟨g1, 0, none⟩) dA.length c1, .slice (some ⟨g2, 0, none⟩) dB.length c2].toList = Y := ⟨_, rfl⟩
        have HKY : Hid (Kept X2 Y (fun j => j = W.drew.heap.size)) := by rw [← hY]; exact ksets (P := fun j => j = W.drew.heap.size) rfl _ _ _
        have HYb : Hid (Y.heap[W.drew.heap.size]? = some (.cells #[.slice (some ⟨g1, 0, none⟩) dA.length c1, .slice (some ⟨g2, 0, none⟩) dB.length c2] 24 (0, 0))) := by rw [← hY]; exact sets_whole HLb.out rfl
        have HBY : Hid (Below W.drew.heap.size W.drew Y) := HVX2.out.trans (HKY.out.below HVX2.out.size (fun j hj e => by have := Hbf.out; omega))
        have HC0 : Hid (C0 Y W.heap.size (W.drew.heap.size) g1 c1 g2 c2 dA.length dB.length dA dB) := by
          have k1 : ∀ (g n c : Nat) (bs : List Int) (b0 : Nat), Sp X2 b0 g n c bs → W.heap.size ≤ b0 → Sp Y W.heap.size g n c bs := fun g n c bs b0 ho hb0 => by
            have h1 : Sp X2 W.heap.size g n c bs := ⟨ho.own.lower hb0, ho.cap, ho.len, ho.by_⟩
            refine h1.keep HKY.out (fun e => ?_)
            obtain ⟨cur, hc⟩ := ho.ty
            exact ty_ne hc HLb.out (by decide) e
          refine ⟨HYb.out, Hbf.out, k1 _ _ _ _ _ (HO1.out.still hb2) ?_, k1 _ _ _ _ _ HO2.out ?_, ?_⟩
          · first | exact HVX0.out.size | exact HVX3.out.size
          · first | exact HVX1.out.size | exact HVX3.out.size
          · have h1 := HO1.out.lo.2
            have h2 := (HO2.out.lo).1
            omega
        have HBW2 : Hid (Below W.heap.size W Y) := bstep (Below.refl _ _).drew HBY.out
        refine wp_store_mid 24 (.tmp 7) (.tmp 21) rfl W.drew.heap.size 0 _ rfl rfl (by exact blk_there HLb.out rfl) info_dk (two_one _ _ _ _ _ _) ?_
        rw [show X2.setCells W.drew.heap.size 0 #[.slice (some ⟨g1, 0, none⟩) dA.length c1, .slice (some ⟨g2, 0, none⟩) dB.length c2].toList = Y from hY]
        refine hK.out _ _ ⟨below_at HBY.out (below_at (Below.refl _ _).drew q0), below_at HBY.out (below_at (Below.refl _ _).drew q1)⟩ (fun hHeld => ?_)
        clear hK K
        refine wpAnyH_done (by kernel_rfl) ?_ _
        clear hHeld
        go_wp2_with (fail)
        go_meet
        exact ⟨_, _, _, _, _, rfl, HC0.out, HBW2.out⟩
      · rename_i hne2
        exact absurd rfl hne2
  case rest =>
  obtain ⟨P, gA, cA, gB, cB, rfl, hC0, hbc⟩ := hcut.out
  have HCc : Hid (C0 wc W.heap.size P gA cA gB cB dA.length dB.length dA dB) := hC0
  have HBc : Hid (Below W.heap.size W wc) := hbc
  have HL0 : Hid (L1S W P gA cA gB cB dA dB l 0 (.slice none 0 0) wc) := ⟨[], rfl, ⟨⟨rfl, .inl ⟨rfl, rfl⟩⟩, fun i hi => by simp at hi, fun i hi => by simp at hi, fun i j _ hj => by simp at hj⟩, hC0, hbc⟩
  clear hC0 hbc hcut q0 q1 HC1 HC2 HCc HBc
  go_wp2_with (fail)
  go_loopw [8, 9] (fun v i wr => ∃ k : Nat, k ≤ m ∧ i = .int .i64 (k : Int) ∧ Hid (L1S W P gA cA gB cB dA dB l k v wr)) (fun _ i _ => m - (intOf i).toNat)
  case atStart => exact ⟨0, Nat.zero_le _, rfl, HL0.out⟩
  case round =>
  obtain ⟨k, hkm, rfl, HL1⟩ := hrel
  obtain ⟨gs, hgs, hC1, hC0, hbr⟩ := HL1.out
  obtain ⟨va, vc, hvs⟩ := own_shapeT hC1.row
  rw [hvs] at hC1
  have HC1r : Hid (C1 wr W.heap.size (.slice va gs.length vc) gA gB l gs (fun i => (l.getD i wr0).bs)) := hC1
  have HC0r : Hid (C0 wr W.heap.size P gA cA gB cB dA.length dB.length dA dB) := hC0
  have HBr : Hid (Below W.heap.size W wr) := hbr
  rw [hvs]
  subst hgs
  clear hC1 hC0 hbr HL1 hvs
  by_cases hlt : gs.length < m
  · obtain ⟨eb, eo, hwo, hrg⟩ := (HL.out.still HBr.out).at hlt
    have HRx : Hid (Rd W (l.getD gs.length wr0).ao (l.getD gs.length wr0).n (l.getD gs.length wr0).c (l.getD gs.length wr0).bs) := HL.out.mem _ hlt
    have hxl := Hxl.out _ hlt
    have hxt := Hxt.out _ hlt
    obtain ⟨x, hx⟩ : ∃ x, l.getD gs.length wr0 = x := ⟨_, rfl⟩
    have Hx : Hid (l.getD gs.length wr0 = x) := hx
    rw [hx] at hrg HRx hxl hxt
    have Hxl1 : Hid (x.bs.length = x.n) := hxl
    have r0 : wr.cell? ⟨eb, eo + gs.length * 3, none⟩ = some (.int .i64 x.f) := hrg 0 _ rfl
    have r1 : wr.cell? ⟨eb, eo + gs.length * 3 + 1, none⟩ = some (.bool x.st) := hrg 1 _ rfl
    have r2 : wr.cell? ⟨eb, eo + gs.length * 3 + 2, none⟩ = some (.slice x.ao x.n x.c) := hrg 2 _ rfl
    rw [← hxl] at r2 HRx hxt
    have HCs : Hid (∀ V, Below wr.drew.heap.size wr.drew V → SpP x.bs x.ao x.c V) := fun V hV => spare_sp (((HRx.out.still HBr.out).still (Below.refl _ _).drew).still hV) (by omega)
    have i1 : (0 : Int) ≤ (gs.length : Int) := Int.natCast_nonneg _
    have i2 : (gs.length : Int) < (m : Int) := by omega
    have d0 := below_at (Below.refl _ _).drew r0
    have d1 := below_at (Below.refl _ _).drew r1
    have d2 := below_at (Below.refl _ _).drew r2
    have Heb : Hid (∀ b off, wo = some ⟨b, off, none⟩ → eb = b) := fun b off e => by rw [hwo] at e; exact congrArg Addr.block (Option.some.inj e)
    rw [hwo]
    clear hwo hrg hx hxl r0 r1 r2
    obtain ⟨k, hk⟩ : ∃ k, gs.length = k := ⟨_, rfl⟩
    have Hk : Hid (gs.length = k) := hk
    rw [hk] at i1 i2 d0 d1 d2 hlt
    rw [hk]
    clear hk
    go_wp2_with (fail)
    refine wp_region_held_drew (S := (fun w' => w'.cell? ⟨eb, eo + k * 3, none⟩ = some (.int .i64 x.f) ∧ w'.cell? ⟨eb, eo + k * 3 + 1, none⟩ = some (.bool x.st) ∧ w'.cell? ⟨eb, eo + k * 3 + 2, none⟩ = some (.slice x.ao x.bs.length x.c))) (by kernel_rfl) ⟨d0, d1, d2⟩ (fun hHeld => ?_)
    simp only [Act.put, List.size_toArray, List.length_cons, List.length_nil, Nat.zero_add]
    refine wpAnyH_take (i := 0) (v := .slice va k vc) rfl (by kernel_rfl) (by kernel_rfl) (by kernel_rfl) (fun _ _ _ h => h) (Or.inl ⟨by rfl, fun w' hS => by go_simp⟩) hHeld ?_
    simp only [Act.put, List.getElem_toArray, List.getElem_cons_zero, List.getElem_cons_succ, List.setIfInBounds_toArray, List.set_cons_zero, List.set_cons_succ]
    refine wpAnyH_take (i := 1) (v := .slice (some ⟨eb, eo, none⟩) m d) rfl (by kernel_rfl) (by kernel_rfl) (by kernel_rfl) (fun _ _ _ h => h) (Or.inl ⟨by rfl, fun w' hS => by go_simp⟩) hHeld ?_
    simp only [Act.put, List.getElem_toArray, List.getElem_cons_zero, List.getElem_cons_succ, List.setIfInBounds_toArray, List.set_cons_zero, List.set_cons_succ]
    refine wpAnyH_take (i := 2) (v := .int .i64 (k : Int)) rfl (by kernel_rfl) (by kernel_rfl) (by kernel_rfl) (fun _ _ _ h => h) (Or.inl ⟨by rfl, fun w' hS => by go_simp⟩) hHeld ?_
    simp only [Act.put, List.getElem_toArray, List.getElem_cons_zero, List.getElem_cons_succ, List.setIfInBounds_toArray, List.set_cons_zero, List.set_cons_succ]
    refine wpAnyH_take (i := 3) (v := .pointer (some ⟨eb, eo + k * 3, none⟩)) rfl (by kernel_rfl) (by kernel_rfl) (by kernel_rfl) (fun _ _ _ h => h) (Or.inl ⟨by rfl, fun w' hS => by go_simp⟩) hHeld ?_
    simp only [Act.put, List.getElem_toArray, List.getElem_cons_zero, List.getElem_cons_succ, List.setIfInBounds_toArray, List.set_cons_zero, List.set_cons_succ]
    refine wpAnyH_take (i := 4) (v := .pointer (some ⟨eb, eo + k * 3, none⟩)) rfl (by kernel_rfl) (by kernel_rfl) (by kernel_rfl) (fun _ _ _ h => h) (Or.inl ⟨by rfl, fun w' hS => by go_simp⟩) hHeld ?_
    simp only [Act.put, List.getElem_toArray, List.getElem_cons_zero, List.getElem_cons_succ, List.setIfInBounds_toArray, List.set_cons_zero, List.set_cons_succ]
    refine wpAnyH_take (i := 5) (v := .int .i64 x.f) rfl (by kernel_rfl) (by kernel_rfl) (by kernel_rfl) (fun _ _ _ h => h) (Or.inl ⟨by rfl, fun w' hS => by (obtain ⟨s0, s1, s2⟩ := hS; go_simp)⟩) hHeld ?_
    simp only [Act.put, List.getElem_toArray, List.getElem_cons_zero, List.getElem_cons_succ, List.setIfInBounds_toArray, List.set_cons_zero, List.set_cons_succ]
    refine wpAnyH_take (i := 6) (v := .slice (some ⟨eb, eo, none⟩) m d) rfl (by kernel_rfl) (by kernel_rfl) (by kernel_rfl) (fun _ _ _ h => h) (Or.inl ⟨by rfl, fun w' hS => by go_simp⟩) hHeld ?_
    simp only [Act.put, List.getElem_toArray, List.getElem_cons_zero, List.getElem_cons_succ, List.setIfInBounds_toArray, List.set_cons_zero, List.set_cons_succ]
    refine wpAnyH_take (i := 7) (v := .int .i64 (k : Int)) rfl (by kernel_rfl) (by kernel_rfl) (by kernel_rfl) (fun _ _ _ h => h) (Or.inl ⟨by rfl, fun w' hS => by go_simp⟩) hHeld ?_
    simp only [Act.put, List.getElem_toArray, List.getElem_cons_zero, List.getElem_cons_succ, List.setIfInBounds_toArray, List.set_cons_zero, List.set_cons_succ]
    refine wpAnyH_take (i := 8) (v := .pointer (some ⟨eb, eo + k * 3, none⟩)) rfl (by kernel_rfl) (by kernel_rfl) (by kernel_rfl) (fun _ _ _ h => h) (Or.inl ⟨by rfl, fun w' hS => by go_simp⟩) hHeld ?_
    simp only [Act.put, List.getElem_toArray, List.getElem_cons_zero, List.getElem_cons_succ, List.setIfInBounds_toArray, List.set_cons_zero, List.set_cons_succ]
    refine wpAnyH_take (i := 9) (v := .pointer (some ⟨eb, eo + k * 3 + 1, none⟩)) rfl (by kernel_rfl) (by kernel_rfl) (by kernel_rfl) (fun _ _ _ h => h) (Or.inl ⟨by rfl, fun w' hS => by go_simp⟩) hHeld ?_
    simp only [Act.put, List.getElem_toArray, List.getElem_cons_zero, List.getElem_cons_succ, List.setIfInBounds_toArray, List.set_cons_zero, List.set_cons_succ]
    refine wpAnyH_take (i := 10) (v := .bool x.st) rfl (by kernel_rfl) (by kernel_rfl) (by kernel_rfl) (fun _ _ _ h => h) (Or.inl ⟨by rfl, fun w' hS => by (obtain ⟨s0, s1, s2⟩ := hS; go_simp)⟩) hHeld ?_
    simp only [Act.put, List.getElem_toArray, List.getElem_cons_zero, List.getElem_cons_succ, List.setIfInBounds_toArray, List.set_cons_zero, List.set_cons_succ]
    refine wpAnyH_take (i := 11) (v := .slice (some ⟨eb, eo, none⟩) m d) rfl (by kernel_rfl) (by kernel_rfl) (by kernel_rfl) (fun _ _ _ h => h) (Or.inl ⟨by rfl, fun w' hS => by go_simp⟩) hHeld ?_
    simp only [Act.put, List.getElem_toArray, List.getElem_cons_zero, List.getElem_cons_succ, List.setIfInBounds_toArray, List.set_cons_zero, List.set_cons_succ]
    refine wpAnyH_take (i := 12) (v := .int .i64 (k : Int)) rfl (by kernel_rfl) (by kernel_rfl) (by kernel_rfl) (fun _ _ _ h => h) (Or.inl ⟨by rfl, fun w' hS => by go_simp⟩) hHeld ?_
    simp only [Act.put, List.getElem_toArray, List.getElem_cons_zero, List.getElem_cons_succ, List.setIfInBounds_toArray, List.set_cons_zero, List.set_cons_succ]
    refine wpAnyH_take (i := 13) (v := .pointer (some ⟨eb, eo + k * 3, none⟩)) rfl (by kernel_rfl) (by kernel_rfl) (by kernel_rfl) (fun _ _ _ h => h) (Or.inl ⟨by rfl, fun w' hS => by go_simp⟩) hHeld ?_
    simp only [Act.put, List.getElem_toArray, List.getElem_cons_zero, List.getElem_cons_succ, List.setIfInBounds_toArray, List.set_cons_zero, List.set_cons_succ]
    refine wpAnyH_take (i := 14) (v := .pointer (some ⟨eb, eo + k * 3 + 2, none⟩)) rfl (by kernel_rfl) (by kernel_rfl) (by kernel_rfl) (fun _ _ _ h => h) (Or.inl ⟨by rfl, fun w' hS => by go_simp⟩) hHeld ?_
    simp only [Act.put, List.getElem_toArray, List.getElem_cons_zero, List.getElem_cons_succ, List.setIfInBounds_toArray, List.set_cons_zero, List.set_cons_succ]
    refine wpAnyH_take (i := 15) (v := .slice x.ao x.bs.length x.c) rfl (by kernel_rfl) (by kernel_rfl) (by kernel_rfl) (fun _ _ _ h => h) (Or.inl ⟨by rfl, fun w' hS => by (obtain ⟨s0, s1, s2⟩ := hS; go_simp)⟩) hHeld ?_
    simp only [Act.put, List.getElem_toArray, List.getElem_cons_zero, List.getElem_cons_succ, List.setIfInBounds_toArray, List.set_cons_zero, List.set_cons_succ]
    refine wpAnyH_ready (rs := [16]) (by kernel_rfl) (by simp) ?_
    refine AllReadyH.cons rfl (fun Kc hK => ?_) AllReadyH.nil
    go_simp
    refine (HCs.out wr.drew (Below.refl _ _)).mono ?_
    rintro e X1 ⟨g, c, rfl, hsp, hb1⟩
    have HX1 : Hid (Below wr.drew.heap.size wr.drew X1) := hb1
    have HSp : Hid (Sp X1 wr.drew.heap.size g x.bs.length c x.bs) := hsp
    refine hK.out _ _ ⟨below_at hb1 d0, below_at hb1 d1, below_at hb1 d2⟩ (fun hHeld => ?_)
    clear hK Kc hsp
    refine wpAnyH_take (i := 17) (v := .agg #[.int .i64 x.f, .bool x.st, .slice (some ⟨g, 0, none⟩) x.bs.length c]) rfl (by kernel_rfl) (by kernel_rfl) (by kernel_rfl) (fun _ _ _ h => h) (Or.inl ⟨by rfl, fun w' hS => by exact run_buildop 28 _ rfl _ (by kernel_rfl)⟩) hHeld ?_
    simp only [Act.put, List.getElem_toArray, List.getElem_cons_zero, List.getElem_cons_succ, List.setIfInBounds_toArray, List.set_cons_zero, List.set_cons_succ]
    refine wpAnyH_ready (rs := [18]) (by kernel_rfl) (by simp) ?_
    refine AllReadyH.cons rfl (fun Kc hK => ?_) AllReadyH.nil
    obtain ⟨F1, hF1⟩ : ∃ F, X1.alloc (.cells #[.int .i64 x.f, .bool x.st, .slice (some ⟨g, 0, none⟩) x.bs.length c] 28) = F := ⟨_, rfl⟩
    have HBF : Hid (Below X1.heap.size X1 F1) := by rw [← hF1]; exact balloc (Below.refl _ _)
    have HFb : Hid (F1.heap[X1.heap.size]? = some (.cells (mkW x (g, c) x.bs).cs.toArray 28 (0, 0))) := by
      have e : (mkW x (g, c) x.bs).cs.toArray = #[.int .i64 x.f, .bool x.st, .slice (some ⟨g, 0, none⟩) x.bs.length c] := by show (#[.int .i64 x.f, .bool x.st, .slice (some ⟨g, 0, none⟩) x.n c] : Array Value) = _; rw [← Hxl1.out]
      rw [e, ← hF1]
      exact heap_alloc_new _ _
    have HBX : Hid (Below wr.heap.size wr F1) := bstep (bstep (Below.refl _ _).drew HX1.out) HBF.out
    have HC1f : Hid (C1 F1 W.heap.size (.slice va gs.length vc) gA gB l gs (fun i => (l.getD i wr0).bs)) := HC1r.out.still HBX.out
    have HC0f : Hid (C0 F1 W.heap.size P gA cA gB cB dA.length dB.length dA dB) := HC0r.out.still HBX.out
    have HSf : Hid (Sp F1 W.heap.size g (l.getD gs.length wr0).n c (l.getD gs.length wr0).bs) := by
      rw [Hx.out, ← Hxl1.out]
      have h1 := HSp.out.still HBF.out
      exact ⟨h1.own.lower (Nat.le_trans HBr.out.size (Nat.le_refl _)), h1.cap, h1.len, h1.by_⟩
    have HBWf : Hid (Below W.heap.size W F1) := HBr.out.trans (HBX.out.mono HBr.out.size)
    have HRow : Hid (F1.ownsRow W.heap.size 28 3 (.slice va k vc) k (flW (Lk l gs (fun i => (l.getD i wr0).bs)))) := by have := HC1f.out.row; rw [Hk.out] at this; exact this
    have k0 := below_at HBF.out (below_at HX1.out d0)
    have k1 := below_at HBF.out (below_at HX1.out d1)
    have k2 := below_at HBF.out (below_at HX1.out d2)
    go_simp
    try rw [hF1]
    refine hK.out _ _ ⟨k0, k1, k2⟩ (fun hHeld => ?_)
    clear hK Kc hF1
    refine wpAnyH_ready (rs := [19]) (by kernel_rfl) (by simp) ?_
    refine AllReadyH.cons rfl (fun Kc hK => ?_) AllReadyH.nil
    split
    · skip
      refine wp_app_w (w0 := W) (.tmp 28) (.tmp 46) rfl (.slice va k vc) k _ rfl HRow.out HBWf.out X1.heap.size (mkW x (g, c) x.bs) rfl HFb.out (by omega) ?_
      intro v2 G HO HBg HG
      obtain ⟨a2, c2, rfl⟩ := own_shapeT HO.out
      have HKg : Hid (Kept F1 G (fun j => some j = (Value.slice va k vc).ownBlock)) := Kept.ofGrown HG.out
      have HNx : Hid (L1S W P gA cA gB cB dA dB l (k + 1) (.slice a2 (k + 1) c2) G) := by
        refine ⟨gs ++ [(g, c)], by rw [List.length_append, Hk.out]; rfl, ?_, ?_, HBg.out⟩
        · have hk2 := HKg.out
          have ho2 := HO.out
          rw [← Hk.out] at hk2 ho2 ⊢
          have hlo := HSp.out.lo.1
          have h3 : wr.heap.size ≤ g := hlo
          refine HC1f.out.push hk2 (by rw [Hx.out]; exact ho2) HSf.out ?_ ?_ (fun i hi => ?_)
          · have := HC0r.out.a.lo.2; omega
          · have := HC0r.out.b.lo.2; omega
          · have := (HC1r.out.sp i hi).lo.2; omega
        · refine HC0f.out.keepU HKg.out (fun j cur hj e => ?_) (fun e => ?_) (fun e => ?_)
          · obtain ⟨c3, h3⟩ := own_typeT HRow.out e.symm
            exact ty_ne hj h3 (by decide) rfl
          · obtain ⟨c3, h3⟩ := own_typeT HRow.out e.symm
            obtain ⟨c4, h4⟩ := HC0f.out.a.ty
            exact ty_ne h4 h3 (by decide) rfl
          · obtain ⟨c3, h3⟩ := own_typeT HRow.out e.symm
            obtain ⟨c4, h4⟩ := HC0f.out.b.ty
            exact ty_ne h4 h3 (by decide) rfl
      have Hne : Hid (¬ some eb = (Value.slice va k vc).ownBlock) := fun e => by
        have h1 := (World.ownsRow.lt HRow.out eb e.symm).1
        rcases HL.out.at_ with h0 | ⟨b, off, e2, hc⟩
        · omega
        · have h2 := World.block_lt_of_cell? W _ (hc k hlt 0 _ rfl)
          have h3 := Heb.out b off e2
          simp only at h2
          omega
      refine hK.out _ _ ⟨kept_cell HKg.out Hne.out k0, kept_cell HKg.out Hne.out k1, kept_cell HKg.out Hne.out k2⟩ (fun hHeld => ?_)
      clear hK Kc
      refine wpAnyH_take (i := 20) (v := .slice a2 (k + 1) c2) rfl (by kernel_rfl) (by kernel_rfl) (by kernel_rfl) (fun _ _ _ h => h) (Or.inl ⟨by rfl, fun w' hS => by go_simp⟩) hHeld ?_
      simp only [Act.put, List.getElem_toArray, List.getElem_cons_zero, List.getElem_cons_succ, List.setIfInBounds_toArray, List.set_cons_zero, List.set_cons_succ]
      refine wpAnyH_done (by kernel_rfl) ?_ _
      clear hHeld
      clear d0 d1 d2 k0 k1 k2
      go_wp2_with (fail)
      exact ⟨⟨k + 1, by omega, by go_num, HNx.out⟩, by simp [intOf]; omega⟩
    · rename_i hne2
      exact absurd rfl hne2
  · skip
    have hgm : gs.length = m := by omega
    have Hgm : Hid (gs.length = m) := hgm
    have Hgl : Hid (gs.length = l.length) := by show _ = _; rw [Hll.out]; exact hgm
    rw [hgm] at HC1r
    rw [hgm]
    obtain ⟨L1, hL1⟩ : ∃ L, Lk l gs (fun i => (l.getD i wr0).bs) = L := ⟨_, rfl⟩
    have HW1 : Hid (RdWs wr va m L1) := by rw [← hL1]; exact HC1r.out.rdws hgm
    have hcc := lk_un (l := l) (gs := gs) (ys := fun i => (l.getD i wr0).bs) Hgl.out (fun i _ => rfl)
    rw [hL1] at hcc
    have HAp : Hid (∀ d k, ap L1 d k = ap l d k) := fun d k => by rw [← hL1]; exact ap_lk Hgl.out d k
    have HL1n : Hid (∀ i, i < m → (L1.getD i wr0).n ≤ 1000000000000) := fun i hi => by
      rw [← hL1, Lk_at _ _ _ (by omega)]
      have := Hxt.out i hi
      show (l.getD i wr0).n ≤ _
      omega
    have HkN : Hid (kN L1 K = kN l K) := by show _ = _; unfold kN; rw [hcc.1]
    have HF1 : Hid (∀ V, Below wr.heap.size wr V → Calls Try.prog 5 #[.slice va m vc] V fun e w' => e = .returned (.int .i64 (cost l : Int)) ∧ Below V.heap.size V w') := fun V hV => by
      have := fcost_any (d := vc) (HW1.out.still hV) (by omega) (by rw [hcc.1]; omega) HL1n.out
      rw [hcc.1] at this
      exact this
    have HQ1 : Hid (∀ V, Below W.heap.size W V → Calls Try.prog 6 #[.slice wo m d] V fun e w' => e = .returned (.int .i64 (cost l : Int)) ∧ V = w') := fun V hV => qcost_any (HL.out.still hV) (by omega) (by omega) (fun i hi => by have := Hxt.out i hi; omega)
    have HAp1 : Hid (∀ V, Below wr.heap.size wr V → Calls Try.prog 7 #[.agg #[.slice (some ⟨gA, 0, none⟩) dA.length cA, .slice (some ⟨gB, 0, none⟩) dB.length cB], .slice va m vc, .int .i64 K] V fun e w' => ∃ a1 e1 a2 e2, e = .returned (.agg #[.slice a1 (ap l (dA, dB) (kN l K)).1.length e1, .slice a2 (ap l (dA, dB) (kN l K)).2.length e2]) ∧ Own w' V.heap.size (.slice a1 (ap l (dA, dB) (kN l K)).1.length e1) (ap l (dA, dB) (kN l K)).1 ∧ Own w' V.heap.size (.slice a2 (ap l (dA, dB) (kN l K)).2.length e2) (ap l (dA, dB) (kN l K)).2 ∧ Below V.heap.size V w') := fun V hV => by
      refine (apply_any (d := vc) (HC0r.out.a.rd.still hV) (HC0r.out.b.rd.still hV) (HW1.out.still hV) K hK (by rw [hcc.2]; exact hS) hm).mono ?_
      rintro e w' ⟨x, y, rfl, h1, h2, h3⟩
      rw [HAp.out, HkN.out] at h1 h2
      obtain ⟨a1, e1, rfl⟩ := own_shape h1
      obtain ⟨a2, e2, rfl⟩ := own_shape h2
      exact ⟨a1, e1, a2, e2, rfl, h1, h2, h3⟩
    have HAp2 : Hid (∀ V, Below W.heap.size W V → Calls Try.prog 8 #[.agg #[.slice aa dA.length ac, .slice ba dB.length bc], .slice wo m d, .int .i64 K] V fun e w' => ∃ a1 e1 a2 e2, e = .returned (.agg #[.slice a1 (ap l (dA, dB) (kN l K)).1.length e1, .slice a2 (ap l (dA, dB) (kN l K)).2.length e2]) ∧ Own w' V.heap.size (.slice a1 (ap l (dA, dB) (kN l K)).1.length e1) (ap l (dA, dB) (kN l K)).1 ∧ Own w' V.heap.size (.slice a2 (ap l (dA, dB) (kN l K)).2.length e2) (ap l (dA, dB) (kN l K)).2 ∧ Below V.heap.size V w') := fun V hV => by
      refine (qapply_any (d := d) (HA.out.still hV) (HB.out.still hV) (HL.out.still hV) K hK0 hK hS hm).mono ?_
      rintro e w' ⟨x, y, rfl, h1, h2, h3⟩
      obtain ⟨a1, e1, rfl⟩ := own_shape h1
      obtain ⟨a2, e2, rfl⟩ := own_shape h2
      exact ⟨a1, e1, a2, e2, rfl, h1, h2, h3⟩
    have HbyR : Hid (By (ap l (dA, dB) (kN l K)).1 ∧ By (ap l (dA, dB) (kN l K)).2) := ap_by l _ _ ⟨HA.out.by_, HB.out.by_⟩ (fun i hi => (HL.out.mem i (by rw [← Hll.out]; exact hi)).by_)
    generalize (ap l (dA, dB) (kN l K)).1 = rA at *
    generalize (ap l (dA, dB) (kN l K)).2 = rB at *
    have HRc : Hid (wr.rangeAt P 0 [.slice (some ⟨gA, 0, none⟩) dA.length cA, .slice (some ⟨gB, 0, none⟩) dB.length cB]) := blk_range HC0r.out.blk
    have HRd : Hid (W.rangeAt w.heap.size 0 [.slice aa dA.length ac, .slice ba dB.length bc]) := blk_range HD.out
    have z1 : ¬ ((m : Int) < (m : Int)) := by omega
    clear hgm hL1 hcc hlt hkm HAp HkN
    go_wp2_with (fail)
    refine (HF1.out wr (Below.refl _ _)).mono ?_
    rintro e X1 ⟨rfl, hb1⟩
    have HX1 : Hid (Below wr.heap.size wr X1) := hb1
    go_wp2_with (fail)
    refine (HQ1.out X1 (HBr.out.trans (hb1.mono HBr.out.size))).mono ?_
    rintro e X2 ⟨rfl, rfl⟩
    have HR1 : Hid (X1.rangeAt P 0 [.slice (some ⟨gA, 0, none⟩) dA.length cA, .slice (some ⟨gB, 0, none⟩) dB.length cB]) := below_range hb1 HRc.out
    clear hb1
    go_wp2_with (first
      | (refine at_load 24 (.tmp 7) rfl ?_; refine load_mid 24 (.tmp 7) HR1.out _ Try.underlying24 rfl info_dk rfl rfl rfl ?_)
      | fail)
    refine (HAp1.out X1 HX1.out).mono ?_
    rintro e X2 ⟨a1, e1, a2, e2, rfl, ho1, ho2, hb2⟩
    obtain ⟨A3, X3, hA3, HT3, hX3, HP10, HB3⟩ := newdk X2 a1 rA.length e1 a2 rB.length e2
    have HX3 : Hid (Below wr.heap.size wr X3) := bstep (bstep HX1.out hb2) HB3.out
    have HXa : Hid (Own X3 X1.heap.size (.slice a1 rA.length e1) rA) := ho1.still HB3.out
    have HXb : Hid (Own X3 X1.heap.size (.slice a2 rB.length e2) rB) := ho2.still HB3.out
    have HR3 : Hid (X3.rangeAt w.heap.size 0 [.slice aa dA.length ac, .slice ba dB.length bc]) := below_range (HBr.out.trans (HX3.out.mono HBr.out.size)) HRd.out
    have HBx : Hid (X1.heap.size ≤ X2.heap.size) := hb2.size
    clear ho1 ho2 hb2
    go_wp2_with (first
      | (refine at_store 24 (.tmp 10) (.tmp 56) rfl ?_; refine store_rowL 24 (.tmp 10) (.tmp 56) (L := [.slice a1 rA.length e1, .slice a2 rB.length e2]) HT3.out info_dk (one_dk _ _ _ _ _ _) rfl rfl rfl rfl ?_; rw [hX3])
      | (refine at_load 24 (.tmp 3) rfl ?_; refine load_mid 24 (.tmp 3) HR3.out _ Try.underlying24 rfl info_dk rfl rfl rfl ?_)
      | fail)
    refine (HAp2.out X3 (HBr.out.trans (HX3.out.mono HBr.out.size))).mono ?_
    rintro e X4 ⟨b1, f1, b2, f2, rfl, ho1, ho2, hb4⟩
    obtain ⟨A5, X5, hA5, HT5, hX5, HP11, HB5⟩ := newdk X4 b1 rA.length f1 b2 rB.length f2
    have HX5 : Hid (Below wr.heap.size wr X5) := bstep (bstep HX3.out hb4) HB5.out
    have HB35 : Hid (Below X3.heap.size X3 X5) := bstep hb4 HB5.out
    have Hx13 : Hid (X1.heap.size ≤ X3.heap.size) := Nat.le_trans HBx.out HB3.out.size
    have HXY5 : Hid (XY X5 X1.heap.size X2.heap.size X4.heap.size a1 e1 a2 e2 b1 f1 b2 f2 rA rB) := ⟨(HB35.out.block _ (lt_heap HP10.out)).trans HP10.out, HP11.out, HXa.out.still HB35.out, HXb.out.still HB35.out, (ho1.still HB5.out).lower Hx13.out, (ho2.still HB5.out).lower Hx13.out⟩
    have HR10 : Hid (X5.rangeAt X2.heap.size 0 [.slice a1 rA.length e1, .slice a2 rB.length e2]) := blk_range HXY5.out.k10
    have HR11 : Hid (X5.rangeAt X4.heap.size 0 [.slice b1 rA.length f1, .slice b2 rB.length f2]) := blk_range HXY5.out.k11
    have HC05 : Hid (C0 X5 W.heap.size P gA cA gB cB dA.length dB.length dA dB) := HC0r.out.still HX5.out
    have HC15 : Hid (C1 X5 W.heap.size (.slice va m vc) gA gB l gs (ysN l 0)) := by rw [ysN_zero]; exact HC1r.out.still HX5.out
    have HBW5 : Hid (Below W.heap.size W X5) := HBr.out.trans (HX5.out.mono HBr.out.size)
    have HDk : Hid (∀ V, Below X5.heap.size X5 V → Calls Try.prog 9 #[.agg #[.slice a1 rA.length e1, .slice a2 rB.length e2], .agg #[.slice b1 rA.length f1, .slice b2 rB.length f2]] V fun e w' => e = .returned (.bool true) ∧ Below V.heap.size V w') := fun V hV => disks_any ((HXY5.out.still hV).xa.rd HbyR.out.1) ((HXY5.out.still hV).xb.rd HbyR.out.2) ((HXY5.out.still hV).ya.rd HbyR.out.1) ((HXY5.out.still hV).yb.rd HbyR.out.2)
    have HI1 : Hid (∀ V, Below X5.heap.size X5 V → Calls Try.prog 10 #[.slice (some ⟨gA, 0, none⟩) dA.length cA, .slice aa dA.length ac] V fun e w' => e = .returned (.bool true) ∧ V = w') := fun V hV => intact_any (HC05.out.still hV).a.own HC05.out.a.cap ((HA.out.still HBW5.out).still hV) (by omega)
    have HI2 : Hid (∀ V, Below X5.heap.size X5 V → Calls Try.prog 10 #[.slice (some ⟨gB, 0, none⟩) dB.length cB, .slice ba dB.length bc] V fun e w' => e = .returned (.bool true) ∧ V = w') := fun V hV => intact_any (HC05.out.still hV).b.own HC05.out.b.cap ((HB.out.still HBW5.out).still hV) (by omega)
    have HbX : Hid (wr.heap.size ≤ X1.heap.size) := HX1.out.size
    have HgX : Hid (gA < X1.heap.size ∧ gB < X1.heap.size ∧ ∀ i, i < gs.length → (gs.getD i (0, 0)).1 < X1.heap.size) := ⟨Nat.lt_of_lt_of_le HC0r.out.a.lo.2 HbX.out, Nat.lt_of_lt_of_le HC0r.out.b.lo.2 HbX.out, fun i hi => Nat.lt_of_lt_of_le (HC1r.out.sp i hi).lo.2 HbX.out⟩
    clear ho1 ho2 hb4
    go_wp2_with (first
      | (refine at_store 24 (.tmp 11) (.tmp 60) rfl ?_; refine store_rowL 24 (.tmp 11) (.tmp 60) (L := [.slice b1 rA.length f1, .slice b2 rB.length f2]) HT5.out info_dk (one_dk _ _ _ _ _ _) rfl rfl rfl rfl ?_; rw [hX5])
      | (refine at_load 24 (.tmp 10) rfl ?_; refine load_mid 24 (.tmp 10) HR10.out _ Try.underlying24 rfl info_dk rfl rfl rfl ?_)
      | (refine at_load 24 (.tmp 11) rfl ?_; refine load_mid 24 (.tmp 11) HR11.out _ Try.underlying24 rfl info_dk rfl rfl rfl ?_)
      | fail)
    refine (HDk.out X5 (Below.refl _ _)).mono ?_
    rintro e X6 ⟨rfl, hb6⟩
    have HX6 : Hid (Below X5.heap.size X5 X6) := hb6
    have c0 : X6.cell? ⟨P, 0, none⟩ = some (.slice (some ⟨gA, 0, none⟩) dA.length cA) := blk_cell (HC05.out.still hb6).blk 0
    have c1 : X6.cell? ⟨P, 1, none⟩ = some (.slice (some ⟨gB, 0, none⟩) dB.length cB) := blk_cell (HC05.out.still hb6).blk 1
    have t0 : X6.cell? ⟨w.heap.size, 0, none⟩ = some (.slice aa dA.length ac) := below_at hb6 (below_at HBW5.out (blk_cell HD.out 0))
    have t1 : X6.cell? ⟨w.heap.size, 1, none⟩ = some (.slice ba dB.length bc) := below_at hb6 (below_at HBW5.out (blk_cell HD.out 1))
    clear hb6
    go_wp2_with (fail)
    refine (HI1.out X6 HX6.out).mono ?_
    rintro e X7 ⟨rfl, rfl⟩
    go_wp2_with (fail)
    refine (HI2.out X6 HX6.out).mono ?_
    rintro e X7 ⟨rfl, rfl⟩
    have HL20 : Hid (L2S W W.heap.size P gA cA gB cB dA dB (.slice va m vc) l gs 0 (fun V => XY V X1.heap.size X2.heap.size X4.heap.size a1 e1 a2 e2 b1 f1 b2 f2 rA rB) X6) := ⟨HC05.out.still HX6.out, HC15.out.still HX6.out, HXY5.out.still HX6.out, HBW5.out.trans (HX6.out.mono HBW5.out.size)⟩
    generalize X1.heap.size = bX at *
    generalize X2.heap.size = p10 at *
    generalize X4.heap.size = p11 at *
    clear c0 c1 t0 t1 HI1 HI2 HDk HR10 HR11 HC05 HC15 HXY5 HX5 HX6 HB35 HBW5 HAp1 HAp2 HR3 HR1 HX3 HXa HXb HT5 HT3 HP10 HP11 HB3 HB5 hX3 hX5 hA3 hA5 HF1 HQ1 HW1 HL1n HRc HRd HX1
    go_wp2_with (fail)
    go_loopw [12] (fun i wr => ∃ k : Nat, k ≤ m ∧ i = .int .i64 (k : Int) ∧ Hid (L2S W W.heap.size P gA cA gB cB dA dB (.slice va m vc) l gs k (fun V => XY V bX p10 p11 a1 e1 a2 e2 b1 f1 b2 f2 rA rB) wr)) (fun i _ => m - (intOf i).toNat)
    case atStart => exact ⟨0, Nat.zero_le _, rfl, HL20.out⟩
    case round =>
    clear HL20 HC0r HC1r HBr HbX
    obtain ⟨k, hkm, rfl, HL2⟩ := hrel
    by_cases hlt : k < m
    · obtain ⟨eb, eo, hwo, hrg⟩ := (HL.out.still HL2.out.bel).at hlt
      obtain ⟨ub, uo, hva, hru⟩ := (HL2.out.c1.rdws Hgm.out).at hlt
      rw [Lk_at _ _ _ (by rw [Hgm.out]; exact hlt)] at hru
      have HRx : Hid (Rd wr (l.getD k wr0).ao (l.getD k wr0).n (l.getD k wr0).c (l.getD k wr0).bs) := (HL.out.mem k hlt).still HL2.out.bel
      have hxl := Hxl.out _ hlt
      have hxt := Hxt.out _ hlt
      have hSp := HL2.out.c1.sp k (by rw [Hgm.out]; exact hlt)
      have hys : ysN l k k = (l.getD k wr0).bs := by unfold ysN; rw [if_neg (by omega)]
      rw [hys] at hSp
      obtain ⟨x, hx⟩ : ∃ x, l.getD k wr0 = x := ⟨_, rfl⟩
      obtain ⟨pq, hpq⟩ : ∃ x, gs.getD k (0, 0) = x := ⟨_, rfl⟩
      have Hx : Hid (l.getD k wr0 = x) := hx
      have Hpq : Hid (gs.getD k (0, 0) = pq) := hpq
      rw [hx] at hrg HRx hxl hxt hru hSp
      rw [hpq] at hru hSp
      have HSp : Hid (Sp wr W.heap.size pq.1 x.n pq.2 x.bs) := hSp
      have r2 : wr.cell? ⟨eb, eo + k * 3 + 2, none⟩ = some (.slice x.ao x.n x.c) := hrg 2 _ rfl
      have u2 : wr.cell? ⟨ub, uo + k * 3 + 2, none⟩ = some (.slice (some ⟨pq.1, 0, none⟩) x.n pq.2) := hru 2 _ rfl
      have HIn : Hid (∀ V, Below wr.heap.size wr V → Calls Try.prog 10 #[.slice (some ⟨pq.1, 0, none⟩) x.n pq.2, .slice x.ao x.n x.c] V fun e w' => e = .returned (.bool true) ∧ V = w') := fun V hV => intact_any (HSp.out.still hV).own HSp.out.cap (HRx.out.still hV) (by omega)
      have HFu : Hid (Calls Try.prog 11 #[.slice (some ⟨pq.1, 0, none⟩) x.n pq.2, .int .u8 238] wr.drew fun e w' => e = .returned (.tuple #[]) ∧ Sp w' W.heap.size pq.1 x.n pq.2 (List.replicate x.n 238) ∧ Kept wr.drew w' (fun k => k = pq.1)) := fulls_any (HSp.out.still (Below.refl _ _).drew) (by omega) (by decide)
      have i1 : (0 : Int) ≤ (k : Int) := Int.natCast_nonneg _
      have i2 : (k : Int) < (m : Int) := by omega
      have d2 := below_at (Below.refl _ _).drew r2
      have v2 := below_at (Below.refl _ _).drew u2
      have Hva : Hid (va = some ⟨ub, uo, none⟩) := hva
      rw [hwo, hva]
      clear hwo hva hrg hru hx hpq hxl hSp hys
      go_wp2_with (fail)
      refine wp_region_held_drew (S := (fun w' => w'.cell? ⟨eb, eo + k * 3 + 2, none⟩ = some (.slice x.ao x.n x.c) ∧ w'.cell? ⟨ub, uo + k * 3 + 2, none⟩ = some (.slice (some ⟨pq.1, 0, none⟩) x.n pq.2))) (by kernel_rfl) ⟨d2, v2⟩ (fun hHeld => ?_)
      simp only [Act.put, List.size_toArray, List.length_cons, List.length_nil, Nat.zero_add]
      refine wpAnyH_take (i := 0) (v := .slice (some ⟨ub, uo, none⟩) m vc) rfl (by kernel_rfl) (by kernel_rfl) (by kernel_rfl) (fun _ _ _ h => h) (Or.inl ⟨by rfl, fun w' hS => by go_simp⟩) hHeld ?_
      simp only [Act.put, List.getElem_toArray, List.getElem_cons_zero, List.getElem_cons_succ, List.setIfInBounds_toArray, List.set_cons_zero, List.set_cons_succ]
      refine wpAnyH_take (i := 1) (v := .int .i64 (k : Int)) rfl (by kernel_rfl) (by kernel_rfl) (by kernel_rfl) (fun _ _ _ h => h) (Or.inl ⟨by rfl, fun w' hS => by go_simp⟩) hHeld ?_
      simp only [Act.put, List.getElem_toArray, List.getElem_cons_zero, List.getElem_cons_succ, List.setIfInBounds_toArray, List.set_cons_zero, List.set_cons_succ]
      refine wpAnyH_take (i := 2) (v := .pointer (some ⟨ub, uo + k * 3, none⟩)) rfl (by kernel_rfl) (by kernel_rfl) (by kernel_rfl) (fun _ _ _ h => h) (Or.inl ⟨by rfl, fun w' hS => by go_simp⟩) hHeld ?_
      simp only [Act.put, List.getElem_toArray, List.getElem_cons_zero, List.getElem_cons_succ, List.setIfInBounds_toArray, List.set_cons_zero, List.set_cons_succ]
      refine wpAnyH_take (i := 3) (v := .pointer (some ⟨ub, uo + k * 3 + 2, none⟩)) rfl (by kernel_rfl) (by kernel_rfl) (by kernel_rfl) (fun _ _ _ h => h) (Or.inl ⟨by rfl, fun w' hS => by go_simp⟩) hHeld ?_
      simp only [Act.put, List.getElem_toArray, List.getElem_cons_zero, List.getElem_cons_succ, List.setIfInBounds_toArray, List.set_cons_zero, List.set_cons_succ]
      refine wpAnyH_take (i := 4) (v := .slice (some ⟨pq.1, 0, none⟩) x.n pq.2) rfl (by kernel_rfl) (by kernel_rfl) (by kernel_rfl) (fun _ _ _ h => h) (Or.inl ⟨by rfl, fun w' hS => by (obtain ⟨s0, s1⟩ := hS; go_simp)⟩) hHeld ?_
      simp only [Act.put, List.getElem_toArray, List.getElem_cons_zero, List.getElem_cons_succ, List.setIfInBounds_toArray, List.set_cons_zero, List.set_cons_succ]
      refine wpAnyH_take (i := 5) (v := .slice (some ⟨eb, eo, none⟩) m d) rfl (by kernel_rfl) (by kernel_rfl) (by kernel_rfl) (fun _ _ _ h => h) (Or.inl ⟨by rfl, fun w' hS => by go_simp⟩) hHeld ?_
      simp only [Act.put, List.getElem_toArray, List.getElem_cons_zero, List.getElem_cons_succ, List.setIfInBounds_toArray, List.set_cons_zero, List.set_cons_succ]
      refine wpAnyH_take (i := 6) (v := .int .i64 (k : Int)) rfl (by kernel_rfl) (by kernel_rfl) (by kernel_rfl) (fun _ _ _ h => h) (Or.inl ⟨by rfl, fun w' hS => by go_simp⟩) hHeld ?_
      simp only [Act.put, List.getElem_toArray, List.getElem_cons_zero, List.getElem_cons_succ, List.setIfInBounds_toArray, List.set_cons_zero, List.set_cons_succ]
      refine wpAnyH_take (i := 7) (v := .pointer (some ⟨eb, eo + k * 3, none⟩)) rfl (by kernel_rfl) (by kernel_rfl) (by kernel_rfl) (fun _ _ _ h => h) (Or.inl ⟨by rfl, fun w' hS => by go_simp⟩) hHeld ?_
      simp only [Act.put, List.getElem_toArray, List.getElem_cons_zero, List.getElem_cons_succ, List.setIfInBounds_toArray, List.set_cons_zero, List.set_cons_succ]
      refine wpAnyH_take (i := 8) (v := .pointer (some ⟨eb, eo + k * 3 + 2, none⟩)) rfl (by kernel_rfl) (by kernel_rfl) (by kernel_rfl) (fun _ _ _ h => h) (Or.inl ⟨by rfl, fun w' hS => by go_simp⟩) hHeld ?_
      simp only [Act.put, List.getElem_toArray, List.getElem_cons_zero, List.getElem_cons_succ, List.setIfInBounds_toArray, List.set_cons_zero, List.set_cons_succ]
      refine wpAnyH_take (i := 9) (v := .slice x.ao x.n x.c) rfl (by kernel_rfl) (by kernel_rfl) (by kernel_rfl) (fun _ _ _ h => h) (Or.inl ⟨by rfl, fun w' hS => by (obtain ⟨s0, s1⟩ := hS; go_simp)⟩) hHeld ?_
      simp only [Act.put, List.getElem_toArray, List.getElem_cons_zero, List.getElem_cons_succ, List.setIfInBounds_toArray, List.set_cons_zero, List.set_cons_succ]
      refine wpAnyH_ready (rs := [10]) (by kernel_rfl) (by simp) ?_
      refine AllReadyH.cons rfl (fun Kc hK => ?_) AllReadyH.nil
      go_simp
      refine (HIn.out wr.drew (Below.refl _ _).drew).mono ?_
      rintro e X9 ⟨rfl, rfl⟩
      refine hK.out _ _ ⟨d2, v2⟩ (fun hHeld => ?_)
      clear hK Kc
      refine wpAnyH_take (i := 11) (v := .bool false) rfl (by kernel_rfl) (by kernel_rfl) (by kernel_rfl) (fun _ _ _ h => h) (Or.inl ⟨by rfl, fun w' hS => by go_simp⟩) hHeld ?_
      simp only [Act.put, List.getElem_toArray, List.getElem_cons_zero, List.getElem_cons_succ, List.setIfInBounds_toArray, List.set_cons_zero, List.set_cons_succ]
      refine wpAnyH_done (by kernel_rfl) ?_ _
      clear hHeld
      go_wp2_with (fail)
      refine HFu.out.mono ?_
      rintro e Z1 ⟨rfl, hs1, hk1⟩
      have HNx : Hid (L2S W W.heap.size P gA cA gB cB dA dB (.slice va m vc) l gs (k + 1) (fun V => XY V bX p10 p11 a1 e1 a2 e2 b1 f1 b2 f2 rA rB) Z1) := by
        have hkg : k < gs.length := by rw [Hgm.out]; exact hlt
        have hd := HL2.out
        have b0 : Below wr.heap.size wr wr.drew := (Below.refl _ _).drew
        have hda := hd.c1.da k hkg
        rw [Hpq.out] at hda
        obtain ⟨cur, hcur⟩ := (HSp.out.still b0).ty
        refine ⟨(hd.c0.still b0).keepU hk1 (fun j c hj e => ty_ne hj hcur (by decide) e) (fun e => ?_) (fun e => ?_), ?_, ?_, ?_⟩
        · have e : gA = pq.1 := e
          omega
        · have e : gB = pq.1 := e
          omega
        · rw [ysN_succ]
          refine (hd.c1.still b0).full hkg ?_ ?_
          · rw [Hx.out, Hpq.out]; exact hs1
          · rw [Hpq.out]; exact hk1
        · have hg := HgX.out.2.2 k hkg
          rw [Hpq.out] at hg
          exact (hd.xy.still b0).full (HSp.out.still b0) hg hk1
        · have hlo := HSp.out.lo.1
          exact (hd.bel.trans (b0.mono hd.bel.size)).trans (hk1.below (Nat.le_trans hd.bel.size b0.size) (fun j hj e => by omega))
      clear hs1 hk1
      go_wp2_with (fail)
      exact ⟨⟨k + 1, by omega, by go_num, (by have := HNx.out; rw [Hva.out] at this; exact this)⟩, by simp [intOf]; omega⟩
    · skip
      have hk : k = m := by omega
      have z2 : ¬ ((k : Int) < (m : Int)) := by omega
      have HLm : Hid (L2S W W.heap.size P gA cA gB cB dA dB (.slice va m vc) l gs m (fun V => XY V bX p10 p11 a1 e1 a2 e2 b1 f1 b2 f2 rA rB) wr) := hk ▸ HL2.out
      have c0 : wr.cell? ⟨P, 0, none⟩ = some (.slice (some ⟨gA, 0, none⟩) dA.length cA) := blk_cell HLm.out.c0.blk 0
      have HFa : Hid (Calls Try.prog 11 #[.slice (some ⟨gA, 0, none⟩) dA.length cA, .int .u8 238] wr fun e w' => e = .returned (.tuple #[]) ∧ Sp w' W.heap.size gA dA.length cA (List.replicate dA.length 238) ∧ Kept wr w' (fun k => k = gA)) := fulls_any HLm.out.c0.a (by omega) (by decide)
      clear hk HL2 hlt
      go_wp2_with (fail)
      refine HFa.out.mono ?_
      rintro e Z1 ⟨rfl, hs1, hk1⟩
      have Hz1 : Hid (C0 Z1 W.heap.size P gA cA gB cB dA.length dB.length (List.replicate dA.length 238) dB ∧ C1 Z1 W.heap.size (.slice va m vc) gA gB l gs (ysN l m) ∧ XY Z1 bX p10 p11 a1 e1 a2 e2 b1 f1 b2 f2 rA rB ∧ Below W.heap.size W Z1) := by
        have hd := HLm.out
        obtain ⟨cur, hcur⟩ := hd.c0.a.ty
        refine ⟨hd.c0.fullA hs1 hk1, hd.c1.keepU hk1 (fun j c hj e => ty_ne hj hcur (by decide) e) (fun i hi e => ?_), hd.xy.full hd.c0.a HgX.out.1 hk1, hd.bel.trans (hk1.below hd.bel.size (fun j hj e => by have := hd.c0.a.lo.1; omega))⟩
        have := (hd.c1.da i hi).1
        have e : (gs.getD i (0, 0)).1 = gA := e
        omega
      have c1 : Z1.cell? ⟨P, 1, none⟩ = some (.slice (some ⟨gB, 0, none⟩) dB.length cB) := blk_cell Hz1.out.1.blk 1
      have HFb : Hid (Calls Try.prog 11 #[.slice (some ⟨gB, 0, none⟩) dB.length cB, .int .u8 238] Z1 fun e w' => e = .returned (.tuple #[]) ∧ Sp w' W.heap.size gB dB.length cB (List.replicate dB.length 238) ∧ Kept Z1 w' (fun k => k = gB)) := fulls_any Hz1.out.1.b (by omega) (by decide)
      clear hs1 hk1 c0
      go_wp2_with (fail)
      refine HFb.out.mono ?_
      rintro e Z2 ⟨rfl, hs2, hk2⟩
      have Hz2 : Hid (C0 Z2 W.heap.size P gA cA gB cB dA.length dB.length (List.replicate dA.length 238) (List.replicate dB.length 238) ∧ C1 Z2 W.heap.size (.slice va m vc) gA gB l gs (ysN l m) ∧ XY Z2 bX p10 p11 a1 e1 a2 e2 b1 f1 b2 f2 rA rB ∧ Below W.heap.size W Z2) := by
        obtain ⟨h0, h1, h2, h3⟩ := Hz1.out
        obtain ⟨cur, hcur⟩ := h0.b.ty
        refine ⟨h0.fullB hs2 hk2, h1.keepU hk2 (fun j c hj e => ty_ne hj hcur (by decide) e) (fun i hi e => ?_), h2.full h0.b HgX.out.2.1 hk2, h3.trans (hk2.below h3.size (fun j hj e => by have := h0.b.lo.1; omega))⟩
        have := (h1.da i hi).2
        have e : (gs.getD i (0, 0)).1 = gB := e
        omega
      obtain ⟨L2, hL2⟩ : ∃ L, Lk l gs (ysN l m) = L := ⟨_, rfl⟩
      have HW2 : Hid (RdWs Z2 va m L2) := by rw [← hL2]; exact Hz2.out.2.1.rdws Hgm.out
      have hcc := lk_un (l := l) (gs := gs) (ys := ysN l m) Hgl.out (fun i hi => by unfold ysN; rw [if_pos (by rw [← Hll.out]; exact hi), List.length_replicate]; exact (Hxl.out i (by rw [← Hll.out]; exact hi)).symm)
      rw [hL2] at hcc
      have HL2n : Hid (∀ i, i < m → (L2.getD i wr0).n ≤ 1000000000000) := fun i hi => by
        rw [← hL2, Lk_at _ _ _ (by rw [Hgm.out]; exact hi)]
        have := Hxt.out i hi
        show (l.getD i wr0).n ≤ _
        omega
      have hS2 : (List.replicate dA.length (238 : Int)).length + (List.replicate dB.length (238 : Int)).length + tot L2 ≤ 4194304 := by rw [List.length_replicate, List.length_replicate, hcc.2]; exact hS
      obtain ⟨RR, hRR⟩ : ∃ r, ap L2 (List.replicate dA.length 238, List.replicate dB.length 238) (kN L2 K) = r := ⟨_, rfl⟩
      have HbyS : Hid (By RR.1 ∧ By RR.2) := by
        rw [← hRR]
        exact ap_by L2 _ _ ⟨Hz2.out.1.a.by_, Hz2.out.1.b.by_⟩ (fun i hi => (HW2.out.mem i (by have := HW2.out.len; omega)).by_)
      have HAp3 : Hid (∀ V, Below Z2.heap.size Z2 V → Calls Try.prog 7 #[.agg #[.slice (some ⟨gA, 0, none⟩) dA.length cA, .slice (some ⟨gB, 0, none⟩) dB.length cB], .slice va m vc, .int .i64 K] V fun e w' => ∃ a1 e1 a2 e2, e = .returned (.agg #[.slice a1 RR.1.length e1, .slice a2 RR.2.length e2]) ∧ Own w' V.heap.size (.slice a1 RR.1.length e1) RR.1 ∧ Own w' V.heap.size (.slice a2 RR.2.length e2) RR.2 ∧ Below V.heap.size V w') := fun V hV => by
        refine (apply_any (d := vc) (Hz2.out.1.a.rd.still hV) (Hz2.out.1.b.rd.still hV) (HW2.out.still hV) K hK hS2 hm).mono ?_
        rintro e w' ⟨x, y, rfl, h1, h2, h3⟩
        rw [hRR] at h1 h2
        obtain ⟨a1, e1, rfl⟩ := own_shape h1
        obtain ⟨a2, e2, rfl⟩ := own_shape h2
        exact ⟨a1, e1, a2, e2, rfl, h1, h2, h3⟩
      have HAp4 : Hid (∀ V, Below Z2.heap.size Z2 V → Calls Try.prog 8 #[.agg #[.slice (some ⟨gA, 0, none⟩) dA.length cA, .slice (some ⟨gB, 0, none⟩) dB.length cB], .slice va m vc, .int .i64 K] V fun e w' => ∃ a1 e1 a2 e2, e = .returned (.agg #[.slice a1 RR.1.length e1, .slice a2 RR.2.length e2]) ∧ Own w' V.heap.size (.slice a1 RR.1.length e1) RR.1 ∧ Own w' V.heap.size (.slice a2 RR.2.length e2) RR.2 ∧ Below V.heap.size V w') := fun V hV => by
        refine (qapply_any (d := vc) (Hz2.out.1.a.rd.still hV) (Hz2.out.1.b.rd.still hV) (HW2.out.still hV) K hK0 hK hS2 hm).mono ?_
        rintro e w' ⟨x, y, rfl, h1, h2, h3⟩
        rw [hRR] at h1 h2
        obtain ⟨a1, e1, rfl⟩ := own_shape h1
        obtain ⟨a2, e2, rfl⟩ := own_shape h2
        exact ⟨a1, e1, a2, e2, rfl, h1, h2, h3⟩
      have HF2 : Hid (∀ V, Below Z2.heap.size Z2 V → Calls Try.prog 5 #[.slice va m vc] V fun e w' => e = .returned (.int .i64 (cost l : Int)) ∧ Below V.heap.size V w') := fun V hV => by
        have := fcost_any (d := vc) (HW2.out.still hV) (by omega) (by rw [hcc.1]; omega) HL2n.out
        rw [hcc.1] at this
        exact this
      have HQ2 : Hid (∀ V, Below Z2.heap.size Z2 V → Calls Try.prog 6 #[.slice va m vc] V fun e w' => e = .returned (.int .i64 (cost l : Int)) ∧ V = w') := fun V hV => by
        have := qcost_any (d := vc) (HW2.out.still hV) (by omega) (by rw [hcc.1]; omega) HL2n.out
        rw [hcc.1] at this
        exact this
      obtain ⟨sA, sB⟩ := RR
      have HRz : Hid (Z2.rangeAt P 0 [.slice (some ⟨gA, 0, none⟩) dA.length cA, .slice (some ⟨gB, 0, none⟩) dB.length cB]) := blk_range Hz2.out.1.blk
      have HXYz : Hid (XY Z2 bX p10 p11 a1 e1 a2 e2 b1 f1 b2 f2 rA rB) := Hz2.out.2.2.1
      have HBz : Hid (Below W.heap.size W Z2) := Hz2.out.2.2.2
      clear hs2 hk2 c1 hL2 hcc hS2 hRR Hz1 Hz2 HLm HFa HFb
      go_wp2_with (first
        | (refine at_load 24 (.tmp 7) rfl ?_; refine load_mid 24 (.tmp 7) HRz.out _ Try.underlying24 rfl info_dk rfl rfl rfl ?_)
        | fail)
      refine (HAp3.out Z2 (Below.refl _ _)).mono ?_
      rintro e Y2 ⟨i1, j1, i2, j2, rfl, ho1, ho2, hb2⟩
      obtain ⟨A3, Y3, hA3, HT3, hY3, HP13, HB3⟩ := newdk Y2 i1 sA.length j1 i2 sB.length j2
      have HY3 : Hid (Below Z2.heap.size Z2 Y3) := bstep hb2 HB3.out
      have HOa : Hid (Own Y3 Z2.heap.size (.slice i1 sA.length j1) sA) := ho1.still HB3.out
      have HOb : Hid (Own Y3 Z2.heap.size (.slice i2 sB.length j2) sB) := ho2.still HB3.out
      have HR3 : Hid (Y3.rangeAt P 0 [.slice (some ⟨gA, 0, none⟩) dA.length cA, .slice (some ⟨gB, 0, none⟩) dB.length cB]) := below_range HY3.out HRz.out
      clear ho1 ho2 hb2
      go_wp2_with (first
        | (refine at_store 24 (.tmp 13) (.tmp 114) rfl ?_; refine store_rowL 24 (.tmp 13) (.tmp 114) (L := [.slice i1 sA.length j1, .slice i2 sB.length j2]) HT3.out info_dk (one_dk _ _ _ _ _ _) rfl rfl rfl rfl ?_; rw [hY3])
        | (refine at_load 24 (.tmp 7) rfl ?_; refine load_mid 24 (.tmp 7) HR3.out _ Try.underlying24 rfl info_dk rfl rfl rfl ?_)
        | fail)
      refine (HAp4.out Y3 HY3.out).mono ?_
      rintro e Y4 ⟨m1, n1, m2, n2, rfl, ho1, ho2, hb4⟩
      obtain ⟨A5, Y5, hA5, HT5, hY5, HP14, HB5⟩ := newdk Y4 m1 sA.length n1 m2 sB.length n2
      have HB35 : Hid (Below Y3.heap.size Y3 Y5) := bstep hb4 HB5.out
      have HY5 : Hid (Below Z2.heap.size Z2 Y5) := bstep HY3.out HB35.out
      have HXY5 : Hid (XY Y5 bX p10 p11 a1 e1 a2 e2 b1 f1 b2 f2 rA rB) := HXYz.out.still HY5.out
      have HR10 : Hid (Y5.rangeAt p10 0 [.slice a1 rA.length e1, .slice a2 rB.length e2]) := blk_range HXY5.out.k10
      have HR11 : Hid (Y5.rangeAt p11 0 [.slice b1 rA.length f1, .slice b2 rB.length f2]) := blk_range HXY5.out.k11
      have HP13' : Hid (Y5.heap[Y2.heap.size]? = some (.cells #[.slice i1 sA.length j1, .slice i2 sB.length j2] 24 (0, 0))) := (HB35.out.block _ (lt_heap HP13.out)).trans HP13.out
      have HDk : Hid (∀ V, Below Y5.heap.size Y5 V → Calls Try.prog 9 #[.agg #[.slice a1 rA.length e1, .slice a2 rB.length e2], .agg #[.slice b1 rA.length f1, .slice b2 rB.length f2]] V fun e w' => e = .returned (.bool true) ∧ Below V.heap.size V w') := fun V hV => disks_any ((HXY5.out.still hV).xa.rd HbyR.out.1) ((HXY5.out.still hV).xb.rd HbyR.out.2) ((HXY5.out.still hV).ya.rd HbyR.out.1) ((HXY5.out.still hV).yb.rd HbyR.out.2)
      have HDk2 : Hid (∀ V, Below Y5.heap.size Y5 V → Calls Try.prog 9 #[.agg #[.slice i1 sA.length j1, .slice i2 sB.length j2], .agg #[.slice m1 sA.length n1, .slice m2 sB.length n2]] V fun e w' => e = .returned (.bool true) ∧ Below V.heap.size V w') := fun V hV => disks_any (((HOa.out.still HB35.out).still hV).rd HbyS.out.1) (((HOb.out.still HB35.out).still hV).rd HbyS.out.2) (((ho1.still HB5.out).still hV).rd HbyS.out.1) (((ho2.still HB5.out).still hV).rd HbyS.out.2)
      have HBf : Hid (Below w.heap.size w Y5) := bstep HBW.out (HBz.out.trans (HY5.out.mono HBz.out.size))
      clear hb4
      go_wp2_with (first
        | (refine at_store 24 (.tmp 14) (.tmp 118) rfl ?_; refine store_rowL 24 (.tmp 14) (.tmp 118) (L := [.slice m1 sA.length n1, .slice m2 sB.length n2]) HT5.out info_dk (one_dk _ _ _ _ _ _) rfl rfl rfl rfl ?_; rw [hY5])
        | (refine at_load 24 (.tmp 10) rfl ?_; refine load_mid 24 (.tmp 10) HR10.out _ Try.underlying24 rfl info_dk rfl rfl rfl ?_)
        | (refine at_load 24 (.tmp 11) rfl ?_; refine load_mid 24 (.tmp 11) HR11.out _ Try.underlying24 rfl info_dk rfl rfl rfl ?_)
        | fail)
      refine (HDk.out Y5 (Below.refl _ _)).mono ?_
      rintro e Y6 ⟨rfl, hb6⟩
      have HY6 : Hid (Below Y5.heap.size Y5 Y6) := hb6
      have HR13 : Hid (Y6.rangeAt Y2.heap.size 0 [.slice i1 sA.length j1, .slice i2 sB.length j2]) := below_range hb6 (blk_range HP13'.out)
      have HR14 : Hid (Y6.rangeAt Y4.heap.size 0 [.slice m1 sA.length n1, .slice m2 sB.length n2]) := below_range hb6 (blk_range HP14.out)
      clear hb6
      go_wp2_with (first
        | (refine at_load 24 (.tmp 13) rfl ?_; refine load_mid 24 (.tmp 13) HR13.out _ Try.underlying24 rfl info_dk rfl rfl rfl ?_)
        | (refine at_load 24 (.tmp 14) rfl ?_; refine load_mid 24 (.tmp 14) HR14.out _ Try.underlying24 rfl info_dk rfl rfl rfl ?_)
        | fail)
      refine (HDk2.out Y6 HY6.out).mono ?_
      rintro e Y7 ⟨rfl, hb7⟩
      have HY7 : Hid (Below Y5.heap.size Y5 Y7) := bstep HY6.out hb7
      clear hb7
      go_wp2_with (fail)
      refine (HF2.out Y7 (bstep HY5.out HY7.out)).mono ?_
      rintro e Y8 ⟨rfl, hb8⟩
      have HY8 : Hid (Below Y5.heap.size Y5 Y8) := bstep HY7.out hb8
      clear hb8
      go_wp2_with (fail)
      refine (HQ2.out Y8 (bstep HY5.out HY8.out)).mono ?_
      rintro e Y9 ⟨rfl, rfl⟩
      go_wp2
      go_ret
      exact ⟨by simp, bstep HBf.out HY8.out⟩
end
end Go.Proofs.Ytmkopbbbonggdaa.Jn
