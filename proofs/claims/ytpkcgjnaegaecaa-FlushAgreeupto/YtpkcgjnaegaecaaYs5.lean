import Derived.Test.YtpkcgjnaegaecaaYs4
import Derived.Test.YtpkcgjnaegaecaaZ2
namespace Go.Proofs.Ytpkcgjnaegaecaa.Fm
open Go.RowKit Go.Maps Mb
set_option linter.unusedVariables false
set_option maxRecDepth 100000
set_option linter.unusedSimpArgs false
section
variable {w w' W : World} {B : Nat}
set_option maxHeartbeats 16000000 in
theorem flushAgree_any {m : Mx} {ts : List Int} {ds : List Dx} (hr : RdFs w m.ao m.fs) (hi : ∀ k, k < m.fs.length → (m.fs.getD k fl0).In w) (hn : m.fs.length ≤ 1048576) (ht : RdI w m.ta ts) (htl : ts.length = m.tn) (htn : m.tn ≤ 1048576) (hd : RdDs w m.ma ds) (hdl : ds.length = m.mn) (hdn : m.mn ≤ 1048576) (hdi : ∀ i, i < ds.length → Of.DxIn (ds.getD i dx0) w) : Calls Try.prog 4 #[.agg m.cs.toArray] w fun e w' => e = .returned (.bool true) ∧ Below w.heap.size w w' := by
  generalize hW1 : w.alloc (.cells m.cs.toArray 46) = W1
  have b1 : Below w.heap.size w W1 := hW1 ▸ balloc (Below.refl _ _)
  have k1 : W1.heap[w.heap.size]? = some (.cells m.cs.toArray 46 (0, 0)) := by rw [← hW1]; exact heap_alloc_new w _
  have HB1 : Hid (Below w.heap.size w W1) := b1
  have HCs : Hid (∀ X : World, Below W1.heap.size W1 X → X.cell? ⟨w.heap.size, 0, none⟩ = some (.slice m.ao m.fs.length m.cp) ∧ X.cell? ⟨w.heap.size, 3, none⟩ = some (.int .i64 m.far) ∧ X.cell? ⟨w.heap.size, 4, none⟩ = some (.int .i64 m.more) ∧ X.cell? ⟨w.heap.size, 5, none⟩ = some (.slice m.ma m.mn m.mc) ∧ X.rangeAt w.heap.size 0 m.cs) := fun X hX => ⟨blk_cell (blk_on hX k1) 0, blk_cell (blk_on hX k1) 3, blk_cell (blk_on hX k1) 4, blk_cell (blk_on hX k1) 5, blk_range (blk_on hX k1)⟩
  have HMy : Hid (∀ X, Below W1.heap.size W1 X → Calls Try.prog 7 #[.slice m.ao m.fs.length m.cp] X fun e w' => ∃ a c xs, e = .returned (.slice a m.fs.length c) ∧ cos xs = cos m.fs ∧ RdFs w' a xs ∧ Below X.heap.size X w') := fun X hX => by
    refine (many_any (cp := m.cp) ((hr.still b1).still hX) (fun k hk => ((hi k hk).still b1).still hX) hn).mono ?_
    rintro e w' ⟨a, c, xs, rfl, h1, h2, h3, h4, h5⟩
    have hl : xs.length = m.fs.length := by rw [← cos_len xs, h1, cos_len]
    exact ⟨a, c, xs, by rw [hl], h1, h2, h5⟩
  have HTg : Hid (∀ X, Below W1.heap.size W1 X → Calls Try.prog 8 #[.slice m.ao m.fs.length m.cp] X fun e w' => e = .returned (.int .i64 (togE (cos m.fs))) ∧ Below X.heap.size X w') := fun X hX => qTog_any ((hr.still b1).still hX) (by omega)
  have HBa : Hid (∀ X, Below W1.heap.size W1 X → Calls Try.prog 9 #[.slice m.ao m.fs.length m.cp] X fun e w' => e = .returned (.int .i64 (baseOf (cos m.fs))) ∧ X = w') := fun X hX => (qBase_any (cp := m.cp) ((hr.still b1).still hX) (by omega)).mono fun _ _ h => ⟨h.1, h.2.symm⟩
  have HCu : Hid (∀ X a c xs, cos xs = cos m.fs → RdFs X a xs → Calls Try.prog 6 #[.slice a m.fs.length c] X (CutO (cos m.fs) X)) := fun X a c xs h1 h2 => by
    have hl : xs.length = m.fs.length := by rw [← cos_len xs, h1, cos_len]
    have := cut_any (cp := c) h2 (by omega)
    rw [hl, h1] at this
    exact this
  have HAt : Hid (∀ n ss, togE (cos m.fs) = 0 → SlOf (cos m.fs) n ss → ∀ X, Below W1.heap.size W1 X → ∀ c : Nat, c < n → Calls Try.prog 16 #[.slice m.ao m.fs.length m.cp, .int .i64 (baseOf (cos m.fs) + (c : Int) + 1)] X fun e w' => ∃ x y : Int, e = .returned (.agg #[.int .i64 x, .int .i64 y]) ∧ 1 ≤ y ∧ Below X.heap.size X w') := fun n ss hT hS X hX c hc => by
    have hT' := tog_of hT
    have hb0 : 0 ≤ baseOf (cos m.fs) := baseK_nn _ _
    have hbM : baseOf (cos m.fs) ≤ 4611686018427387904 := baseK_le _ hT'.snd _ (Nat.le_refl _)
    have h1 := tog_pair hT' ((atP_iff hT'.con _ _).1 (hS.2 c hc))
    have := qAt_any (cp := m.cp) ((hr.still b1).still hX) (by omega) (fun i hi => by
      have := tog_base hT' i (by simpa [cos] using hi)
      rwa [cos_at] at this) (baseOf (cos m.fs) + (c : Int) + 1) (by omega) (by have := h1.2.2.1; simp only at this; omega)
    rw [slOf_get hS hc] at this
    exact this.mono fun e w' ⟨e1, e2⟩ => ⟨_, _, e1, h1.2.2.2.2.2.1, e2⟩
  have HTu : Hid (1 ≤ m.fs.length → m.fs.length ≤ 16 → ∀ X, Below W1.heap.size W1 X → Calls Try.prog 17 #[.agg m.cs.toArray] X fun e w' => ∃ a c ys, e = .returned (.slice a (ys : List Fl).length c) ∧ (∀ f, f ∈ cos ys ↔ f ∈ cos m.fs) ∧ ys.length ≤ 16 ∧ RdFs w' a ys ∧ Below X.heap.size X w') := fun h1 h16 X hX => turned_any ((hr.still b1).still hX) (fun k hk => ((hi k hk).still b1).still hX) h1 h16 ((ht.still b1).still hX) htl htn
  have HDa : Hid (∀ X, Below W1.heap.size W1 X → Calls Try.prog 19 #[.slice m.ma m.mn m.mc] X fun e w' => ∃ a c out, e = .returned (.slice a (out : List Dx).length c) ∧ MoT 85 X.heap.size w' (.slice a out.length c) out ∧ Al out ds ∧ Below X.heap.size X w') := fun X hX => by
    have := datas_any (cp := m.mc) ((hd.still b1).still hX) (by rw [hdl]; exact hdn) (fun i hh => ⟨(hdi i hh).z, (hdi i hh).n⟩)
    rw [hdl] at this
    exact this
  have HD64 : Hid (∀ i, i < ds.length → (i64B (ds.getD i dx0).s.1 ∧ i64B (ds.getD i dx0).s.2) ∧ (ds.getD i dx0).bs.length ≤ 1048576) := fun i hh => ⟨(hdi i hh).rd.r, (hdi i hh).n⟩
  have HWh : Hid (∀ n ss i0 j0, togE (cos m.fs) = 0 → m.fs.length ≤ 16 → SlOf (cos m.fs) n ss → n ≤ 128 → i0 ≤ j0 → j0 < n → fndB ds (ss.getD j0 z2) = none → ∀ X, Below W1.heap.size W1 X → Calls Try.prog 21 #[.agg m.cs.toArray, .int .i64 (baseOf (cos m.fs) + (i0 : Int)), .int .i64 (baseOf (cos m.fs) + (n : Int))] X fun e w' => e = .returned (.bool false) ∧ Below X.heap.size X w') := fun n ss i0 j0 h1 h2 h3 h4 h5 h6 h7 X hX => whole_any ((hr.still b1).still hX) h2 ((hd.still b1).still hX) hdl hdn h1 h3 h4 j0 h5 h6 h7
  have HDl : Hid (ds.length ≤ 1048576) := (show ds.length ≤ 1048576 from by rw [hdl]; exact hdn)
  have Hcl : Hid ((cos m.fs).length = m.fs.length) := cos_len m.fs
  have Hcs6 : Hid (m.cs.length = 6) := rfl
  clear hr hi b1 k1 ht htl htn hd hdl hdi hdn
  generalize hpc : m.cs.toArray = pc at *
  have Hpc : Hid (m.cs.toArray = pc) := hpc
  have HTog : Hid (∀ n v E, CutS (cos m.fs) v E → Ends (cos m.fs) n → togE (cos m.fs) = 0 → 1 ≤ m.fs.length → m.fs.length ≤ 16 → E = 0 ∧ v = baseOf (cos m.fs) + (n : Int)) := fun n v E h1 h2 h3 h4 h5 => cut_same (fun f => Iff.rfl) h3 (by rw [cos_len]; exact h4) (by rw [cos_len]; exact h5) h2 h1
  generalize hfs : m.fs = fs at *
  generalize hL : fs.length = L at *
  have HLe : Hid (fs.length = L) := hL
  generalize m.ao = ao at *
  generalize m.cp = cp at *
  generalize m.far = far at *
  generalize m.more = more at *
  generalize m.ma = dma at *
  generalize m.mn = dn at *
  generalize m.mc = dmc at *
  clear hpc hfs hL
  go_enter Try.func4, Try.ntmps4
  obtain ⟨q0, -, -, -, -⟩ := HCs.out W1 (Below.refl _ _)
  go_upto_region 2 with (first
    | (go_at_call 7; refine (HMy.out W1 (Below.refl _ _)).mono ?_; rintro e V1 ⟨ma, mc, xs, rfl, hc1, hr1, hb1⟩; have HC1 : Hid _ := hc1; have HR1 : Hid (RdFs V1 ma xs) := hr1; have BV1 : Hid (Below W1.heap.size W1 V1) := hb1; clear hc1 hr1 hb1)
    | (go_at_call 6; refine (HCu.out V1 ma mc xs HC1.out HR1.out).mono ?_; rintro e V2 ⟨v, E, rfl, hS, hb2⟩; have HS : Hid (CutS (cos fs) v E) := hS; have BV2 : Hid (Below W1.heap.size W1 V2) := bstep BV1.out hb2; clear hS hb2)
    | fail)
  clear q0 hW1
  generalize hkb : w.heap.size = kb at HCs ⊢
  have Hkb : Hid (w.heap.size = kb) := hkb
  clear hkb
  obtain ⟨q0, -, -, -, -⟩ := HCs.out V2 BV2.out
  have hl0 : (0 : Int) ≤ (L : Int) := Int.natCast_nonneg _
  by_cases hb : L < 1 ∨ 16 < L
  · have hin : inR 1 16 ((cos fs).length : Int) = false := by
      rw [Hcl.out]
      simp [inR]
      omega
    obtain ⟨rfl, rfl⟩ : E = 1 ∧ v = 0 := by
      rcases HS.out with ⟨_, h2, h3⟩ | ⟨h1, _⟩ | ⟨h1, _⟩
      · exact ⟨h2, h3⟩
      · rw [hin] at h1; cases h1
      · rw [hin] at h1; cases h1
    rcases hb with hb | hb
    · have hb1 : (L : Int) < 1 := by omega
      clear hb hin
      go_wp2
      go_ret
      exact ⟨rfl, bstep HB1.out BV2.out⟩
    · have hb1 : ¬ (L : Int) < 1 := by omega
      have hb2 : (16 : Int) < (L : Int) := by omega
      clear hb hin
      go_wp2
      go_ret
      exact ⟨rfl, bstep HB1.out BV2.out⟩
  have H16 : Hid (L ≤ 16) := (show L ≤ 16 from by omega)
  have H1 : Hid (1 ≤ L) := (show 1 ≤ L from by omega)
  have hb1 : ¬ (L : Int) < 1 := by omega
  have hb2 : ¬ (16 : Int) < (L : Int) := by omega
  clear hb
  by_cases h0 : togE (cos fs) = 0
  rotate_left
  · have hin : inR 1 16 ((cos fs).length : Int) = true := by
      rw [Hcl.out]
      exact inR_t (by omega) (by omega)
    obtain ⟨rfl, rfl⟩ : E = togE (cos fs) ∧ v = 0 := by
      rcases HS.out with ⟨h1, _⟩ | ⟨_, _, h2, h3⟩ | ⟨_, h1, _⟩
      · rw [hin] at h1; cases h1
      · exact ⟨h2, h3⟩
      · exact absurd h1 h0
    generalize togE (cos fs) = E at *
    have hE : (E == 0) = false := by simpa using h0
    clear hin h0
    go_wp2_with (first | (go_at_call 8; refine (HTg.out V2 BV2.out).mono ?_; rintro e V3 ⟨rfl, hb3⟩; have BV3 : Hid (Below W1.heap.size W1 V3) := bstep BV2.out hb3; clear hb3) | fail)
    go_ret
    exact ⟨rfl, bstep HB1.out BV3.out⟩
  have HT : Hid (togE (cos fs) = 0) := h0
  obtain ⟨n, hEn⟩ : ∃ n, Ends (cos fs) n := by
    rcases HS.out with ⟨h1, _⟩ | ⟨_, h1, _⟩ | ⟨_, _, _, n, h1, _⟩
    · have : inR 1 16 ((cos fs).length : Int) = true := by
        rw [Hcl.out]
        exact inR_t (by omega) (by omega)
      rw [this] at h1; cases h1
    · exact absurd h0 h1
    · exact ⟨n, h1⟩
  obtain ⟨ss, hss⟩ := slOf_ex hEn
  have HEn : Hid (Ends (cos fs) n) := hEn
  have HSl : Hid (SlOf (cos fs) n ss) := hss
  have Hn128 : Hid (n ≤ 128) := Ends.le (tog_of h0) hEn.1
  have htop : baseOf (cos fs) + (n : Int) ≤ 4611686018427387904 := top_le h0 hss
  have hb0 : 0 ≤ baseOf (cos fs) := baseK_nn _ _
  obtain ⟨rfl, rfl⟩ := HTog.out n v E HS.out hEn h0 H1.out H16.out
  have HAt2 := HAt.out n ss h0 hss
  have HAtH : Hid (∀ X, Below W1.heap.size W1 X → ∀ c : Nat, c < n → Calls Try.prog 16 #[.slice ao L cp, .int .i64 (baseOf (cos fs) + (c : Int) + 1)] X fun e w' => ∃ x y : Int, e = .returned (.agg #[.int .i64 x, .int .i64 y]) ∧ 1 ≤ y ∧ Below X.heap.size X w') := HAt2
  rw [h0] at HTg
  have HCut2 : Hid (∀ X a c ys, (∀ f, f ∈ cos ys ↔ f ∈ cos fs) → ys.length ≤ 16 → RdFs X a ys → Calls Try.prog 6 #[.slice a ys.length c] X fun e w' => e = .returned (.tuple #[.int .i64 (baseOf (cos fs) + (n : Int)), .int .i64 0]) ∧ Below X.heap.size X w') := fun X a c ys hm h16 h2 => by
    refine (cut_any (cp := c) h2 (by omega)).mono ?_
    rintro e w' ⟨v, E, rfl, hS, hb⟩
    have h1 : 1 ≤ ys.length := by
      obtain ⟨i, hi, _⟩ := mem_cos.1 ((hm _).2 (mem_getD (fs := cos fs) (i := 0) (by rw [Hcl.out]; exact H1.out)))
      omega
    obtain ⟨rfl, rfl⟩ := cut_same hm HT.out (by rw [cos_len]; exact h1) (by rw [cos_len]; exact h16) HEn.out hS
    exact ⟨rfl, hb⟩
  have HRt : Hid (∀ X a c ys dma dmc dm (i : Nat) d, (∀ f, f ∈ cos ys ↔ f ∈ cos fs) → ys.length ≤ 16 → RdFs X a ys → RdDs X dma dm → Al dm ds → i ≤ n → d = baseOf (cos fs) + (i : Int) → (∀ i, i < dm.length → (dm.getD i dx0).ba = none → (dm.getD i dx0).bs.length = 0 ∧ (dm.getD i dx0).bc = 0) → Calls Try.prog 20 #[.int .i64 d, .slice a ys.length c, .slice dma dm.length dmc] X fun e w' => ∃ a c out E, e = .returned (.tuple #[.slice a (out : List Dx).length c, .int .i64 E]) ∧ ((E = 81 ∧ RsMiss ds (ss.drop i)) ∨ (E = 0 ∧ RsOk ds d (ss.drop i) out)) ∧ Rst ds X w' a c out) := fun X a c ys dma dmc dm i d hm h16 h2 h3 h4 h5 h6 h7 => by
    have h1 : 1 ≤ ys.length := by
      obtain ⟨i, hi, _⟩ := mem_cos.1 ((hm _).2 (mem_getD (fs := cos fs) (i := 0) (by rw [Hcl.out]; exact H1.out)))
      omega
    refine rest_two h2 hm h1 h16 h3 (by rw [h4.len]; exact HDl.out) (fun j hj => ⟨h7 j hj, ?_⟩) h4 HT.out HEn.out HSl.out h5 h6
    have hj' : j < ds.length := by rw [← h4.len]; exact hj
    rw [(h4.el j hj').2.2]
    exact (HD64.out j hj').2
  have HWh2 : Hid (∀ i0 : Nat, i0 ≤ n → RsMiss ds (ss.drop i0) → ∀ X, Below W1.heap.size W1 X → Calls Try.prog 21 #[.agg pc, .int .i64 (baseOf (cos fs) + (i0 : Int)), .int .i64 (baseOf (cos fs) + (n : Int))] X fun e w' => e = .returned (.bool false) ∧ Below X.heap.size X w') := fun i0 h1 h2 X hX => by
    obtain ⟨j0, h3, h4, h5⟩ := miss_at HSl.out.1 h2
    exact HWh.out n ss i0 j0 HT.out H16.out HSl.out Hn128.out h3 h4 h5 X hX
  have HSn : Hid (ss.length = n) := HSl.out.1
  clear hEn hss HAt HAt2 HTog h0 HS HWh HCu
  generalize hbs : baseOf (cos fs) = bs at *
  clear hbs
  go_upto_region 4 with (first | (go_at_call 8; refine (HTg.out V2 BV2.out).mono ?_; rintro e V3 ⟨rfl, hb3⟩; have BV3 : Hid (Below W1.heap.size W1 V3) := bstep BV2.out hb3; clear hb3) | fail)
  clear q0
  obtain ⟨q0, -, -, -, -⟩ := HCs.out V3 BV3.out
  have hn0 : (0 : Int) ≤ (n : Int) := Int.natCast_nonneg _
  have hcb : ¬ bs + (n : Int) < bs := by omega
  go_wp2_with (first | (go_at_call 9; refine (HBa.out V3 BV3.out).mono ?_; rintro e Vz ⟨rfl, rfl⟩) | fail)
  go_loopw [6] (fun i wr => ∃ c : Nat, c ≤ n ∧ i = .int .i64 (bs + (c : Int)) ∧ Below W1.heap.size W1 wr) (fun i _ => n - (intOf i - bs).toNat)
  case atStart => exact ⟨0, Nat.zero_le _, by simp, BV3.out⟩
  case round =>
    obtain ⟨c, hc, rfl, hb⟩ := hrel
    have HB : Hid (Below W1.heap.size W1 wr) := hb
    clear hb q0
    have i1 : (0 : Int) ≤ (c : Int) := Int.natCast_nonneg _
    obtain ⟨q0, q3, q4, q5, qr⟩ := HCs.out wr HB.out
    by_cases hlt : c < n
    · have i2 : bs + (c : Int) < bs + (n : Int) := by omega
      have HAc := HAtH.out wr HB.out c hlt
      clear qr
      go_wp2_with (first
        | (go_at_call 16; refine HAc.mono ?_; rintro e Y1 ⟨x, y, rfl, hy, hy1⟩; have BY1 : Hid (Below wr.heap.size wr Y1) := hy1; have hy0 : (y == 0) = false := (by simp; omega); clear hy1 hy)
        | (refine wl_at 67 rfl ?_)
        | fail)
      refine wl_take (v := .int .i64 y) (by kernel_rfl) (by go_simp; exact rfl) ?_
      simp only [Act.put, List.getElem_toArray, List.getElem_cons_zero, List.getElem_cons_succ, List.setIfInBounds_toArray, List.set_cons_zero, List.set_cons_succ]
      refine wl_take (v := .bool false) (by kernel_rfl) (by go_simp) ?_
      simp only [Act.put, List.getElem_toArray, List.getElem_cons_zero, List.getElem_cons_succ, List.setIfInBounds_toArray, List.set_cons_zero, List.set_cons_succ]
      refine ⟨?_⟩
      go_wp2
      exact ⟨⟨c + 1, by omega, by go_num, bstep HB.out BY1.out⟩, by simp [intOf]; omega⟩
    · obtain rfl : c = n := by omega
      have hni : ¬ bs + (c : Int) < bs + (c : Int) := by omega
      have HTu2 := HTu.out H1.out H16.out wr HB.out
      have HQr : Hid (wr.rangeAt kb 0 m.cs) := qr
      clear qr hlt
      go_upto_region 14 with (first
        | (refine load_mid 46 (.tmp 1) HQr.out _ Try.underlying46 rfl (by rw [Hcs6.out]; exact info_mix) rfl rfl rfl ?_; rw [Hpc.out])
        | (go_at_call 17; refine HTu2.mono ?_; rintro e Y1 ⟨oa, oc, ys, rfl, hm1, hm2, hm3, hy1⟩; have HM1 : Hid (∀ f, f ∈ cos ys ↔ f ∈ cos fs) := hm1; have HM2 : Hid (ys.length ≤ 16) := hm2; have HM3 : Hid (RdFs Y1 oa ys) := hm3; have BY1 : Hid (Below W1.heap.size W1 Y1) := bstep HB.out hy1; clear hm1 hm2 hm3 hy1)
        | (go_at_call 6; refine (HCut2.out Y1 oa oc ys HM1.out HM2.out HM3.out).mono ?_; rintro e Y2 ⟨rfl, hy2⟩; have BY12 : Hid (Below Y1.heap.size Y1 Y2) := hy2; have BY2 : Hid (Below W1.heap.size W1 Y2) := bstep BY1.out hy2; clear hy2)
        | fail)
      clear q0 q3 q4 q5
      obtain ⟨q0, q3, q4, q5, qr⟩ := HCs.out Y2 BY2.out
      have hneq : ((bs + (c : Int)) == (bs + (c : Int))) = true := by simp
      have Hc128 : Hid (c ≤ 128) := Hn128.out
      have HAt1 : Hid (∀ v d X, d = (c : Int) + 1 → Calls Try.prog 18 #[.int .i64 v, .int .i64 d] X fun e w' => ∃ r : Nat, r ≤ c ∧ e = .returned (.int .i64 (r : Int)) ∧ X = w') := fun v d X hd => by
        subst hd
        refine (at_any (w := X) v (c + 1) (by omega) (by have := Hc128.out; omega)).mono ?_
        rintro e w' ⟨r, h1, h2, h3⟩
        exact ⟨r, by omega, h2, h3⟩
      have HQr2 : Hid (Y2.rangeAt kb 0 m.cs) := qr
      clear qr HTu2 HQr HCut2 HTu
      go_upto_region 17 with (first
        | (go_at_call 18; refine (HAt1.out _ _ _ (by first | omega | (unfold wrap64; omega))).mono ?_; rintro e Ya ⟨r1, hr1, rfl, rfl⟩; have HR1' : Hid (r1 ≤ c) := hr1; have r10 : (0 : Int) ≤ (r1 : Int) := Int.natCast_nonneg _; have r11 : (r1 : Int) ≤ (c : Int) := (by omega); clear hr1)
        | fail)
      have HAt3 : Hid (∀ v d X, d = (((c - r1 : Nat) : Int)) + 1 → Calls Try.prog 18 #[.int .i64 v, .int .i64 d] X fun e w' => ∃ r : Nat, r ≤ c - r1 ∧ e = .returned (.int .i64 (r : Int)) ∧ X = w') := fun v d X hd => by
        subst hd
        refine (at_any (w := X) v (c - r1 + 1) (by omega) (by have := Hc128.out; omega)).mono ?_
        rintro e w' ⟨r, h1, h2, h3⟩
        exact ⟨r, by omega, h2, h3⟩
      go_upto_region 18 with (first
        | (go_at_call 18; refine (HAt3.out _ _ _ (by first | omega | (unfold wrap64; omega))).mono ?_; rintro e Ya ⟨r2, hr2, rfl, rfl⟩; have HR2' : Hid (r2 ≤ c - r1) := hr2; have r20 : (0 : Int) ≤ (r2 : Int) := Int.natCast_nonneg _; have r21 : (r1 : Int) + (r2 : Int) ≤ (c : Int) := (by have := HR1'.out; omega); clear hr2)
        | fail)
      have HDa2 : Hid (Calls Try.prog 19 #[.slice dma dn dmc] Y2 fun e w' => ∃ a c out, e = .returned (.slice a (out : List Dx).length c) ∧ MoT 85 Y2.heap.size w' (.slice a out.length c) out ∧ Al out ds ∧ Below Y2.heap.size Y2 w') := HDa.out Y2 BY2.out
      go_upto_region 19 with (first
        | (go_at_call 19; refine HDa2.out.mono ?_; rintro e Y3 ⟨da, dc, dm, rfl, hmo, hal, hy3⟩; have HMo : Hid (MoT 85 Y2.heap.size Y3 (.slice da dm.length dc) dm) := hmo; have HAl : Hid (Al dm ds) := hal; have BY23 : Hid (Below Y2.heap.size Y2 Y3) := hy3; clear hmo hal hy3)
        | fail)
      have BY3 : Hid (Below W1.heap.size W1 Y3) := bstep BY2.out BY23.out
      have HDm : Hid (∀ X, Below Y3.heap.size Y3 X → RdDs X da dm) := fun X hX => (HMo.out.still hX).rd rfl (HAl.out.in64 (fun i hh => (HD64.out i hh).1))
      have HDz : Hid (∀ i, i < dm.length → (dm.getD i dx0).ba = none → (dm.getD i dx0).bs.length = 0 ∧ (dm.getD i dx0).bc = 0) := fun i hh => own_nil2 (HMo.out.el i hh)
      clear HDa2 q0 q3 q4 q5
      obtain ⟨q0, -, -, -, -⟩ := HCs.out Y3 BY3.out
      have HMR : Hid (Calls Try.prog 7 #[.slice ao L cp] Y3 fun e w' => ∃ a cc, e = .returned (.slice a L cc) ∧ Below Y3.heap.size Y3 w' ∧ Hid (Calls Try.prog 20 #[.int .i64 (bs + (r1 : Int)), .slice a L cc, .slice da dm.length dc] w' fun e w2 => ∃ a c out E, e = .returned (.tuple #[.slice a (out : List Dx).length c, .int .i64 E]) ∧ ((E = 81 ∧ RsMiss ds (ss.drop r1)) ∨ (E = 0 ∧ RsOk ds (bs + (r1 : Int)) (ss.drop r1) out)) ∧ Rst ds w' w2 a c out)) := by
        refine (HMy.out Y3 BY3.out).mono ?_
        rintro e Y4 ⟨na, nc, xs2, rfl, hc1, hr1, hb1⟩
        have hxl : xs2.length = L := by
          have := cos_len xs2
          rw [hc1, Hcl.out] at this
          omega
        refine ⟨na, nc, rfl, hb1, ?_⟩
        have HRn := HRt.out Y4 na nc xs2 da dc dm r1 (bs + (r1 : Int)) (fun f => by rw [hc1]) (by have := H16.out; omega) hr1 (HDm.out Y4 hb1) HAl.out HR1'.out rfl HDz.out
        rw [hxl] at HRn
        exact HRn
      go_upto_region 20 with (first
        | (go_at_call 7; refine HMR.out.mono ?_; rintro e Y4 ⟨na, nc, rfl, hb1, HRs⟩; have BY34 : Hid (Below Y3.heap.size Y3 Y4) := hb1; clear hb1)
        | (go_at_call 20; refine HRs.out.mono ?_; rintro e Y5 ⟨ra, rc, o1, E1, rfl, hs1, hrs1⟩; have HS1 : Hid ((E1 = 81 ∧ RsMiss ds (ss.drop r1)) ∨ (E1 = 0 ∧ RsOk ds (bs + (r1 : Int)) (ss.drop r1) o1)) := hs1; have HRs1 : Hid (Rst ds Y4 Y5 ra rc o1) := hrs1; clear hs1 hrs1)
        | fail)
      have BY35 : Hid (Below Y3.heap.size Y3 Y5) := bstep BY34.out HRs1.out.b
      have BY5 : Hid (Below W1.heap.size W1 Y5) := bstep BY3.out BY35.out
      have HRt2 : Hid (Calls Try.prog 20 #[.int .i64 (bs + (r1 : Int) + (r2 : Int)), .slice oa ys.length oc, .slice da dm.length dc] Y5 fun e w' => ∃ a c out E, e = .returned (.tuple #[.slice a (out : List Dx).length c, .int .i64 E]) ∧ ((E = 81 ∧ RsMiss ds (ss.drop (r1 + r2))) ∨ (E = 0 ∧ RsOk ds (bs + (r1 : Int) + (r2 : Int)) (ss.drop (r1 + r2)) out)) ∧ Rst ds Y5 w' a c out) := HRt.out Y5 oa oc ys da dc dm (r1 + r2) (bs + (r1 : Int) + (r2 : Int)) HM1.out HM2.out (((HM3.out.still BY12.out).still BY23.out).still BY35.out) (HDm.out Y5 BY35.out) HAl.out (by have := HR1'.out; have := HR2'.out; omega) (by omega) HDz.out
      clear q0
      go_upto_region 21 with (first
        | (go_at_call 20; refine HRt2.out.mono ?_; rintro e Y6 ⟨rb, rd, o2, E2, rfl, hs2, hrs2⟩; have HS2 : Hid ((E2 = 81 ∧ RsMiss ds (ss.drop (r1 + r2))) ∨ (E2 = 0 ∧ RsOk ds (bs + (r1 : Int) + (r2 : Int)) (ss.drop (r1 + r2)) o2)) := hs2; have HRs2 : Hid (Rst ds Y5 Y6 rb rd o2) := hrs2; clear hs2 hrs2)
        | fail)
      have BY6 : Hid (Below W1.heap.size W1 Y6) := bstep BY5.out HRs2.out.b
      clear HRt2
      rcases HS1.out with ⟨rfl, hmiss⟩ | ⟨rfl, hok1⟩
      · have HMi : Hid (RsMiss ds (ss.drop r1)) := hmiss
        have HQr6 : Hid (Y6.rangeAt kb 0 m.cs) := (HCs.out Y6 BY6.out).2.2.2.2
        have HWf := HWh2.out r1 HR1'.out hmiss Y6 BY6.out
        clear hmiss
        go_wp2_with (first
          | (refine load_mid 46 (.tmp 1) HQr6.out _ Try.underlying46 rfl (by rw [Hcs6.out]; exact info_mix) rfl rfl rfl ?_; rw [Hpc.out])
          | (go_at_call 21; refine HWf.mono ?_; rintro e Y7 ⟨rfl, hy7⟩; have BY7 : Hid (Below Y6.heap.size Y6 Y7) := hy7; clear hy7)
          | fail)
        go_ret
        exact ⟨rfl, bstep HB1.out (bstep BY6.out BY7.out)⟩
      · have HO1 : Hid (RsOk ds (bs + (r1 : Int)) (ss.drop r1) o1) := hok1
        obtain ⟨rfl, hok2⟩ : E2 = 0 ∧ RsOk ds (bs + (r1 : Int) + (r2 : Int)) (ss.drop (r1 + r2)) o2 := by
          rcases HS2.out with ⟨_, h2⟩ | h2
          · exact (nomiss_far hok1 h2).elim
          · exact h2
        have HAl2 : Hid (Al (o1.drop r2) o2) := by
          have := hok1.dropk r2
          rw [List.drop_drop] at this
          exact this.al hok2
        have Hl1 : Hid (o1.length = c - r1) := (show o1.length = c - r1 from by rw [hok1.len, List.length_drop, HSn.out])
        have Hl2 : Hid (o2.length = c - (r1 + r2)) := (show o2.length = c - (r1 + r2) from by rw [hok2.len, List.length_drop, HSn.out])
        have e1 : ((o1.length : Int) == bs + (c : Int) - (bs + (r1 : Int))) = true := by have := Hl1.out; have := HR1'.out; simp; omega
        have e2 : ((o2.length : Int) == bs + (c : Int) - (bs + (r1 : Int) + (r2 : Int))) = true := by have := Hl2.out; have := HR1'.out; have := HR2'.out; simp; omega
        clear hok1 hok2
        have e3 : ((o1.length : Int) != bs + (c : Int) - (bs + (r1 : Int))) = false := by rw [bne, e1]; rfl
        have e4 : ((o2.length : Int) != bs + (c : Int) - (bs + (r1 : Int) + (r2 : Int))) = false := by rw [bne, e2]; rfl
        have HRo1 : Hid (RdDs Y6 ra o1) := (HRs1.out.m.still HRs2.out.b).rd rfl HRs1.out.r
        have HRo2 : Hid (RdDs Y6 rb o2) := HRs2.out.m.rd rfl HRs2.out.r
        have Hk : Hid (r2 ≤ o1.length) := (show r2 ≤ o1.length from by rw [Hl1.out]; exact HR2'.out)
        have Ho2 : Hid (o2.length ≤ 1000000000000000000) := (show o2.length ≤ 1000000000000000000 from by rw [Hl2.out]; have := Hn128.out; omega)
        rcases own_two HRs1.out.m.row with ⟨ev, hn0⟩ | ⟨g, cc, ev, hgB⟩
        · simp only [Value.slice.injEq] at ev
          obtain ⟨rfl, -, rfl⟩ := ev
          obtain rfl : r2 = 0 := by have := Hk.out; omega
          have ho1 : o1 = [] := List.length_eq_zero_iff.1 hn0
          have ho2 : o2 = [] := List.length_eq_zero_iff.1 (by have h1 := Hl1.out; have h2 := Hl2.out; rw [ho1] at h1; simp only [List.length_nil] at h1; omega)
          obtain rfl : c = r1 := by have h1 := Hl1.out; have h3 := HR1'.out; rw [ho1] at h1; simp only [List.length_nil] at h1; omega
          subst ho1 ho2
          have HSm : Hid (Calls Try.prog 22 #[.slice none 0 0, .slice rb 0 rd] Y6 fun e w' => e = .returned (.bool true) ∧ Below Y6.heap.size Y6 w') := by
            have := sameMsgs_any (w := Y6) (ao := none) (ca := 0) (cb := rd) (xs := []) (ys := []) HRo1.out HRo2.out HAl2.out Ho2.out
            exact this
          have hz : bs + (c : Int) - (bs + (c : Int)) = 0 := by omega
          clear e1 e2 e3 e4 hn0
          simp only [List.length_nil]
          go_wp2_with (first | (refine wl_at 152 rfl ?_) | fail)
          refine wl_take (v := .int .i64 0) (by kernel_rfl) (by go_simp; first | rfl | (congr 1; omega) | (rw [wrap_id (by omega) (by omega)]; omega) | (unfold wrap64; omega) | omega) ?_
          simp only [Act.put, List.getElem_toArray, List.getElem_cons_zero, List.getElem_cons_succ, List.setIfInBounds_toArray, List.set_cons_zero, List.set_cons_succ]
          refine wl_take (v := .slice none 0 0) (by kernel_rfl) (by go_simp) ?_
          simp only [Act.put, List.getElem_toArray, List.getElem_cons_zero, List.getElem_cons_succ, List.setIfInBounds_toArray, List.set_cons_zero, List.set_cons_succ]
          refine ⟨?_⟩
          go_wp2_with (first
            | (go_at_call 22; refine HSm.out.mono ?_; rintro e Y7 ⟨rfl, hy7⟩; have BY7 : Hid (Below Y6.heap.size Y6 Y7) := hy7; clear hy7)
            | fail)
          go_ret
          exact ⟨rfl, bstep HB1.out (bstep BY6.out BY7.out)⟩
        · simp only [Value.slice.injEq] at ev
          obtain ⟨rfl, -, rfl⟩ := ev
          obtain ⟨hcap, hcm⟩ := own_cap HRs1.out.m.row
          have HSm0 := sameMsgs_any (w := Y6) (ca := rc - r2) (cb := rd) (rdDs_drop (k := r2) HRo1.out rfl hcap Hk.out) HRo2.out HAl2.out Ho2.out
          rw [List.length_drop] at HSm0
          obtain ⟨o, ho⟩ : ∃ o, o = if rc = r2 then 0 else r2 * 4 := ⟨_, rfl⟩
          have HSm : Hid (Calls Try.prog 22 #[.slice (some ⟨g, o, none⟩) (o1.length - r2) (rc - r2), .slice rb o2.length rd] Y6 fun e w' => e = .returned (.bool true) ∧ Below Y6.heap.size Y6 w') := by
            rw [ho]
            exact HSm0
          have Ho : Hid (o = if rc = r2 then 0 else r2 * 4) := ho
          have hk := Hk.out
          clear HSm0 ho
          generalize o1.length = n1 at *
          generalize o2.length = n2 at *
          have k1 : (r2 : Int) ≤ (n1 : Int) := by omega
          have k2 : (n1 : Int) ≤ (rc : Int) := by omega
          go_wp2_with (first | (refine wl_at 152 rfl ?_) | fail)
          refine wl_take (v := .int .i64 (r2 : Int)) (by kernel_rfl) (by go_simp; first | rfl | (congr 1; omega) | (rw [wrap_id (by omega) (by omega)]; omega) | (unfold wrap64; omega) | omega) ?_
          simp only [Act.put, List.getElem_toArray, List.getElem_cons_zero, List.getElem_cons_succ, List.setIfInBounds_toArray, List.set_cons_zero, List.set_cons_succ]
          refine wl_take (v := .slice (some ⟨g, o, none⟩) (n1 - r2) (rc - r2)) (by kernel_rfl) (by rw [Ho.out]; go_simp; split <;> first | rfl | (simp_all; done) | omega) ?_
          simp only [Act.put, List.getElem_toArray, List.getElem_cons_zero, List.getElem_cons_succ, List.setIfInBounds_toArray, List.set_cons_zero, List.set_cons_succ]
          refine ⟨?_⟩
          go_wp2_with (first
            | (go_at_call 22; refine HSm.out.mono ?_; rintro e Y7 ⟨rfl, hy7⟩; have BY7 : Hid (Below Y6.heap.size Y6 Y7) := hy7; clear hy7)
            | fail)
          go_ret
          exact ⟨rfl, bstep HB1.out (bstep BY6.out BY7.out)⟩
end
end Go.Proofs.Ytpkcgjnaegaecaa.Fm
