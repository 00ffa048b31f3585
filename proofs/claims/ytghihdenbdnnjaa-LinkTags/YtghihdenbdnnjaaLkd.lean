import Derived.Test.YtghihdenbdnnjaaLkc
namespace Go.Proofs.Ytghihdenbdnnjaa.Ln
open Go.RowKit Mb
set_option linter.unusedVariables false
set_option maxRecDepth 100000
set_option linter.unusedSimpArgs false
section
variable {w w' W : World} {B : Nat} {S S' : St}
theorem ring_ra (S : St) : ∃ ra, S.ring = .slice ra S.L S.L ∧ (0 < S.L → ra = some ⟨S.rb, 0, none⟩) := ⟨_, rfl, fun h => if_neg (by omega)⟩
def St.wid (S : St) (M g i : Nat) : St := { p := S.p, L := M, rb := g, f := fun n => if S.p < n ∧ n ≤ S.p + S.L ∧ n % S.L < i then S.f n else none }
theorem set_row2 (h : Fb w S.rb 91 (S.L * 2) S.rf) {n : Nat} (h1 : S.p < n) (h2 : n ≤ S.p + S.L) (b : Bd) : Fb (w.setCells S.rb (n % S.L * 2) [.int .i64 (n : Int), b.v]) S.rb 91 (S.L * 2) (S.set n b).rf := by
  refine (Fb.sets _ _ _ _ h).congr fun j hj => rf_ext rfl (fun i hi hl => ?_) ?_ hj
  · have : nm S.p S.L i ≠ n := by intro e; rw [← e, nm_res hl] at hi; exact hi rfl
    unfold St.cs St.set
    simp only
    rw [upd_ne _ _ this]
  · unfold St.cs St.set
    simp only
    rw [nm_mod h1 h2, upd_same]
    rfl
theorem wid_zero (M g : Nat) (j : Nat) : (S.wid M g 0).rf j = [Value.int .i64 0, .slice none 0 0].getD (j % 2) undef := by
  unfold St.rf St.cs St.wid
  simp only [Nat.not_lt_zero, and_false, if_false]
  rfl
theorem wid_none {M g i : Nat} (hi : i < S.L) (hn : S.f (nm S.p S.L i) = none) : S.wid M g (i + 1) = S.wid M g i := by
  unfold St.wid
  congr 1
  funext n
  by_cases h : S.p < n ∧ n ≤ S.p + S.L
  · by_cases e : n % S.L = i
    · have : S.f n = none := by rw [← e, nm_mod h.1 h.2] at hn; exact hn
      rw [this]; simp
    · simp only [show n % S.L < i + 1 ↔ n % S.L < i by omega]
  · rw [if_neg (by omega), if_neg (by omega)]
theorem wid_some {M g i : Nat} {b : Bd} (hi : i < S.L) (hn : S.f (nm S.p S.L i) = some b) : S.wid M g (i + 1) = (S.wid M g i).set (nm S.p S.L i) b := by
  unfold St.wid St.set
  congr 1
  funext n
  have g1 := nm_gt S.p S.L i
  have g2 := nm_le (p := S.p) i (show 0 < S.L by omega)
  have g3 := nm_res (p := S.p) hi
  by_cases e0 : n = nm S.p S.L i
  · rw [e0, upd_same, if_pos ⟨g1, g2, by omega⟩, hn]
  · rw [upd_ne _ _ e0]
    by_cases h : S.p < n ∧ n ≤ S.p + S.L
    · have : n % S.L ≠ i := by intro e; exact e0 (by rw [← nm_mod h.1 h.2, e])
      simp only [show n % S.L < i + 1 ↔ n % S.L < i by omega]
    · rw [if_neg (by omega)]; exact (if_neg (by omega)).symm
theorem wid_all (h : S.Ok w B) {M g : Nat} : S.wid M g S.L = { S with L := M, rb := g } := by
  unfold St.wid
  congr 1
  funext n
  by_cases hh : S.p < n ∧ n ≤ S.p + S.L
  · rw [if_pos ⟨hh.1, hh.2, Nat.mod_lt _ (by omega)⟩]
  · rw [if_neg (by omega)]
    by_cases e : n ≤ S.p
    · exact (h.none_le e).symm
    · exact (h.none_gt (by omega)).symm
theorem cs_one (n : Int) (o : Option Bd) : ∀ u ∈ [Value.int .i64 n, thV o], u.oneCell' = true := by
  intro u hu
  simp at hu
  rcases hu with rfl | rfl
  · rfl
  · cases o <;> rfl
structure WidO (w w' : World) (S : St) (q : Nat) (e : Ending) : Prop where
  out : ∃ M, q ≤ M ∧ M ≤ 40000 ∧ e = .returned (.slice (some ⟨w.heap.size, 0, none⟩) M M) ∧ Fb w' w.heap.size 91 (M * 2) ({ S with L := M, rb := w.heap.size } : St).rf ∧ Below w.heap.size w w'
set_option maxHeartbeats 1000000 in
theorem wid_any {q : Nat} (h : S.Ok w B) (hq : S.L < q) (hq2 : q ≤ 20000) (hp : S.p ≤ 4611686018427387904) : Calls Try.prog 47 #[S.ring, .int .i64 (q : Int)] w fun e w' => WidO w w' S q e := by
  obtain ⟨ra, hra, hra2⟩ := ring_ra S
  rw [hra]
  obtain ⟨M, hM⟩ : ∃ M, max q (2 * S.L) = M := ⟨_, rfl⟩
  have hM1 : q ≤ M := by omega
  have hM2 : M ≤ 40000 := by omega
  have hif : (if (q : Int) < 2 * (S.L : Int) then 2 * (S.L : Int) else (q : Int)) = (M : Int) := by omega
  have Hra : Hid (0 < S.L → ra = some ⟨S.rb, 0, none⟩) := hra2
  have Hh : Hid (S.Ok w B) := h
  clear h hra2 hra hM
  have HF : Hid (∀ w1, Below w.heap.size w w1 → Fb w1 w.heap.size 91 (M * 2) (fun j => [Value.int .i64 0, .slice none 0 0].getD (j % 2) undef) → Fb w1 w.heap.size 91 (M * 2) (S.wid M w.heap.size 0).rf) := fun w1 hb hf => hf.congr fun i hi => (wid_zero _ _ _).symm
  have hle := Hh.out.le
  generalize hL : S.L = L at *
  have HL : Hid (S.L = L) := hL
  clear hL
  go_enter Try.func47, Try.ntmps47
  go_wp2_with (first | (at_make; refine wl_makeC rfl _ _ rfl _ _ M rfl rfl rfl rfl (by omega) ?_) | fail)
  intro w1 hf1 hb1
  have HF1 : Hid (Fb w1 w.heap.size 91 (M * 2) (S.wid M w.heap.size 0).rf) := HF.out w1 hb1 hf1
  have HB1 : Hid (Below w.heap.size w w1) := hb1
  clear hf1 hb1 HF hif
  generalize hgw : w.heap.size = g at *
  have Hgw : Hid (w.heap.size = g) := hgw
  clear hgw
  go_wp2
  go_loopw [7, 16] (fun v7 v16 wr => ∃ i : Nat, i ≤ L ∧ v16 = .int .i64 (i : Int) ∧ Hid (Below g w wr) ∧ Hid (Fb wr g 91 (M * 2) (S.wid M g i).rf)) (fun _ v16 _ => L - (intOf v16).toNat)
  case atStart => exact ⟨0, Nat.zero_le _, rfl, HB1, HF1⟩
  case round =>
    obtain ⟨i, hi, rfl, hb, hf⟩ := hrel
    by_cases hlt : i < L
    · have hra := Hra.out (by omega)
      subst hra
      have hLp : 0 < S.L := by rw [HL.out]; omega
      have hn1 := nm_gt S.p L i
      have hn2 := nm_le (p := S.p) i (show 0 < L by omega)
      have hfr := (Hh.out.row hLp).1
      have hwr : Fb wr S.rb 91 (S.L * 2) S.rf := hfr.keep (Kept.ofBelow (hb.out.mono (by rw [← Hgw.out]; exact Nat.le_refl _)) (fun _ => False)) id
      have HB : Hid (Below g w wr) := hb
      have c0 := St.cell_no hwr (i := i) (by rw [HL.out]; exact hlt)
      have c1 := St.cell_th hwr (i := i) (by rw [HL.out]; exact hlt)
      rw [HL.out] at c0 c1
      have i1 : (0 : Int) ≤ (i : Int) := Int.natCast_nonneg _
      have i2 : (i : Int) < (L : Int) := by omega
      clear hb hwr hfr hLp
      cases hfm : S.f (nm S.p L i) with
      | none =>
        rw [hfm] at c0 c1
        have HN : Hid (Fb wr g 91 (M * 2) (S.wid M g (i + 1)).rf) := (show Fb _ _ _ _ _ from by rw [wid_none (by rw [HL.out]; exact hlt) (by rw [HL.out]; exact hfm)]; exact hf.out)
        have c0' : wr.cell? ⟨S.rb, i * 2, none⟩ = some (.int .i64 0) := c0
        have c1' : wr.cell? ⟨S.rb, i * 2 + 1, none⟩ = some (.slice none 0 0) := c1
        clear c0 c1 hfm hf
        go_wp2
        have hsz : g ≤ wr.heap.size := by have := HB.out.size; rw [Hgw.out] at this; exact this
        exact ⟨⟨i + 1, by omega, by go_num, HB.out.alloc hsz _, HN.out.keep (Kept.ofBelow (balloc (Below.refl _ _)) (fun _ => False)) id⟩, by simp [intOf]; omega⟩
      | some b =>
        rw [hfm] at c0 c1
        have Hfm : Hid (S.f (nm S.p L i) = some b) := hfm
        have HW2 : Hid (∀ w', Kept wr w' (fun j => j = g) → Fb w' g 91 (M * 2) ((S.wid M g i).set (nm S.p L i) b).rf → Fb w' g 91 (M * 2) (S.wid M g (i + 1)).rf) := fun w' _ hh => by rw [wid_some (by rw [HL.out]; exact hlt) (by rw [HL.out]; exact hfm), HL.out]; exact hh
        have hsz : Hid (g ≤ wr.heap.size) := (show g ≤ wr.heap.size from by have := HB.out.size; rw [Hgw.out] at this; exact this)
        have Hf : Hid (Fb wr g 91 (M * 2) (S.wid M g i).rf) := hf
        obtain ⟨m, hm⟩ : ∃ m, nm S.p L i = m := ⟨_, rfl⟩
        rw [hm] at c0 hn1 hn2 HW2
        obtain ⟨bk, hbk⟩ : ∃ bk, b.k = bk := ⟨_, rfl⟩
        obtain ⟨bl, hbl⟩ : ∃ bl, b.bs.length = bl := ⟨_, rfl⟩
        have Hbv : Hid (b.v = .slice (some ⟨bk, 0, none⟩) bl bl) := (show b.v = _ from by unfold Bd.v; rw [hbk, hbl])
        have c0' : wr.cell? ⟨S.rb, i * 2, none⟩ = some (.int .i64 (m : Int)) := c0
        have c1' : wr.cell? ⟨S.rb, i * 2 + 1, none⟩ = some (.slice (some ⟨bk, 0, none⟩) bl bl) := by rw [c1]; exact congrArg some Hbv.out
        clear c0 c1 hfm hf hm hbk hbl
        have m0 : (0 : Int) < (m : Int) := by omega
        generalize hV : wr.alloc (.cells #[.int .i64 (m : Int), .slice (some ⟨bk, 0, none⟩) bl bl] 91) = V
        have HBV : Hid (Below wr.heap.size wr V) := (show Below _ _ _ from by rw [← hV]; exact balloc (Below.refl _ _))
        have hkd : V.heap[wr.heap.size]? = some (.cells #[.int .i64 (m : Int), .slice (some ⟨bk, 0, none⟩) bl bl] 91 (0, 0)) := by rw [← hV]; exact heap_alloc_new _ _
        have x0 : V.cell? ⟨wr.heap.size, 0, none⟩ = some (.int .i64 (m : Int)) := blk_cell hkd 0
        have x1 : V.cell? ⟨wr.heap.size, 1, none⟩ = some (.slice (some ⟨bk, 0, none⟩) bl bl) := blk_cell hkd 1
        have HP : Hid (∀ w', Calls Try.prog 46 #[.slice (some ⟨g, 0, none⟩) M M, .int .i64 (m : Int)] w' fun e w2 => e = .returned (.pointer (some ⟨g, m % M * 2, none⟩)) ∧ w' = w2) := fun w' => place_any (by omega) (by omega) hM2
        have HfV : Hid (Fb V g 91 (M * 2) (S.wid M g i).rf) := (show Fb _ _ _ _ _ from Hf.out.keep (Kept.ofBelow HBV.out (fun _ => False)) id)
        have HfD : Hid (Fb V.drew g 91 (M * 2) (S.wid M g i).rf) := (show Fb _ _ _ _ _ from HfV.out.keep (Kept.ofBelow (Below.refl _ _).drew (fun _ => False)) id)
        have hmM : m % M < M := Nat.mod_lt _ (by omega)
        have HT : Hid (V.drew.there g (m % M * 2) 2) := HfD.out.there _ _ (by omega)
        have HO1 : Hid (∀ u ∈ [Value.int .i64 (m : Int), .slice (some ⟨bk, 0, none⟩) bl bl], u.oneCell' = true) := (show ∀ u ∈ [Value.int .i64 (m : Int), .slice (some ⟨bk, 0, none⟩) bl bl], u.oneCell' = true from by intro u hu; simp at hu; rcases hu with rfl | rfl <;> rfl)
        have hgkd : g ≠ wr.heap.size := by
          have := (show g < wr.heap.size from Hf.out.lt)
          omega
        have HX : Hid ((V.drew.setCells g (m % M * 2) [.int .i64 (m : Int), .slice (some ⟨bk, 0, none⟩) bl bl]).cell? ⟨wr.heap.size, 0, none⟩ = some (.int .i64 (m : Int)) ∧ (V.drew.setCells g (m % M * 2) [.int .i64 (m : Int), .slice (some ⟨bk, 0, none⟩) bl bl]).cell? ⟨wr.heap.size, 1, none⟩ = some (.slice (some ⟨bk, 0, none⟩) bl bl)) := (show _ ∧ _ from
          ⟨kept_cell (ksets (P := fun j => j = g) rfl _ _ _) (fun e => hgkd e.symm) (below_at (Below.refl _ _).drew x0), kept_cell (ksets (P := fun j => j = g) rfl _ _ _) (fun e => hgkd e.symm) (below_at (Below.refl _ _).drew x1)⟩)
        have HE : Hid (Below g w (V.drew.setCells g (m % M * 2) [.int .i64 (m : Int), .slice (some ⟨bk, 0, none⟩) bl bl]) ∧ Fb (V.drew.setCells g (m % M * 2) [.int .i64 (m : Int), .slice (some ⟨bk, 0, none⟩) bl bl]) g 91 (M * 2) (S.wid M g (i + 1)).rf) := (show _ ∧ _ from by
          have hb1 : Below w.heap.size w V := by
            have := HB.out
            rw [← Hgw.out] at this
            exact this.trans (HBV.out.mono (by have := HB.out.size; omega))
          have e1 : Below w.heap.size w (V.drew.setCells g (m % M * 2) [.int .i64 (m : Int), .slice (some ⟨bk, 0, none⟩) bl bl]) := bsets (by rw [Hgw.out]; exact Nat.le_refl _) _ _ (hb1.trans ((Below.refl _ _).drew.mono hb1.size))
          refine ⟨by rw [← Hgw.out]; rw [← Hgw.out] at e1; exact e1, ?_⟩
          have kk : Kept wr (V.drew.setCells g (m % M * 2) [.int .i64 (m : Int), .slice (some ⟨bk, 0, none⟩) bl bl]) (fun j => j = g) := ((Kept.ofBelow HBV.out _).trans (Kept.ofBelow (Below.refl _ _).drew _)).trans (ksets (P := fun j => j = g) rfl _ _ _)
          refine HW2.out _ kk ?_
          have e2 := set_row2 (S := S.wid M g i) HfD.out (n := m) hn1 (by show m ≤ S.p + M; omega) b
          rw [Hbv.out] at e2
          exact e2)
        clear hkd hn1 hn2
        go_wp2
        refine wp_region_held_drew (S := (fun w' => w'.cell? ⟨wr.heap.size, 0, none⟩ = some (.int .i64 (m : Int)) ∧ w'.cell? ⟨wr.heap.size, 1, none⟩ = some (.slice (some ⟨bk, 0, none⟩) bl bl))) (by kernel_rfl) ⟨below_at (Below.refl _ _).drew x0, below_at (Below.refl _ _).drew x1⟩ (fun hHeld => ?_)
        simp only [Act.put, List.size_toArray, List.length_cons, List.length_nil, Nat.zero_add]
        refine wpAnyH_take (i := 0) (v := .slice (some ⟨g, 0, none⟩) M M) rfl (by kernel_rfl) (by kernel_rfl) (by kernel_rfl) (fun _ _ _ h => h) (Or.inl ⟨by rfl, fun w' hS => by go_simp⟩) hHeld ?_
        simp only [Act.put, List.getElem_toArray, List.getElem_cons_zero, List.getElem_cons_succ, List.setIfInBounds_toArray, List.set_cons_zero, List.set_cons_succ]
        refine wpAnyH_take (i := 1) (v := .pointer (some ⟨wr.heap.size, 0, none⟩)) rfl (by kernel_rfl) (by kernel_rfl) (by kernel_rfl) (fun _ _ _ h => h) (Or.inl ⟨by rfl, fun w' hS => by go_simp⟩) hHeld ?_
        simp only [Act.put, List.getElem_toArray, List.getElem_cons_zero, List.getElem_cons_succ, List.setIfInBounds_toArray, List.set_cons_zero, List.set_cons_succ]
        refine wpAnyH_take (i := 2) (v := .int .i64 (m : Int)) rfl (by kernel_rfl) (by kernel_rfl) (by kernel_rfl) (fun _ _ _ h => h) (Or.inl ⟨by rfl, fun w' hS => by (obtain ⟨s0, s1⟩ := hS; go_simp)⟩) hHeld ?_
        simp only [Act.put, List.getElem_toArray, List.getElem_cons_zero, List.getElem_cons_succ, List.setIfInBounds_toArray, List.set_cons_zero, List.set_cons_succ]
        refine wpAnyH_take (i := 4) (v := .agg #[.int .i64 (m : Int), .slice (some ⟨bk, 0, none⟩) bl bl]) rfl (by kernel_rfl) (by kernel_rfl) (by kernel_rfl) (fun _ _ _ h => h) (Or.inl ⟨by rfl, fun w' hS => by (obtain ⟨s0, s1⟩ := hS; go_simp)⟩) hHeld ?_
        simp only [Act.put, List.getElem_toArray, List.getElem_cons_zero, List.getElem_cons_succ, List.setIfInBounds_toArray, List.set_cons_zero, List.set_cons_succ]
        refine wpAnyH_ready (rs := [3]) (by kernel_rfl) (by simp) ?_
        refine AllReadyH.cons rfl (fun K hK => ?_) AllReadyH.nil
        go_simp
        refine (HP.out _).mono ?_
        rintro e w2 ⟨rfl, rfl⟩
        refine hK.out _ _ ⟨below_at (Below.refl _ _).drew x0, below_at (Below.refl _ _).drew x1⟩ (fun hHeld => ?_)
        clear hK K
        refine wpAnyH_take (i := 5) (v := .pointer (some ⟨g, m % M * 2, none⟩)) rfl (by kernel_rfl) (by kernel_rfl) (by kernel_rfl) (fun _ _ _ h => h) (Or.inl ⟨by rfl, fun w' hS => by go_simp⟩) hHeld ?_
        simp only [Act.put, List.getElem_toArray, List.getElem_cons_zero, List.getElem_cons_succ, List.setIfInBounds_toArray, List.set_cons_zero, List.set_cons_succ]
        refine wpAnyH_ready (rs := [6]) (by kernel_rfl) (by simp) ?_
        refine AllReadyH.cons rfl (fun K hK => ?_) AllReadyH.nil
        refine step_storeL rfl 91 (.tmp 28) (.tmp 27) rfl (L := [.int .i64 (m : Int), .slice (some ⟨bk, 0, none⟩) bl bl]) rfl rfl HT.out info_cell HO1.out ?_
        refine hK.out _ _ (by exact HX.out) (fun hHeld => ?_)
        clear hK K
        refine wpAnyH_done (by kernel_rfl) ?_ _
        clear hHeld
        go_wp2
        exact ⟨⟨i + 1, by omega, by go_num, HE.out.1, HE.out.2⟩, by simp [intOf]; omega⟩
    · obtain rfl : i = L := by omega
      have HFE : Hid (Fb wr g 91 (M * 2) ({ S with L := M, rb := g } : St).rf) := (show Fb _ _ _ _ _ from by have := hf.out; rw [← HL.out, wid_all Hh.out] at this; exact this)
      have HB : Hid (Below g w wr) := hb
      clear hb hf
      go_wp2
      go_ret
      exact ⟨⟨M, hM1, hM2, (by simp [Hgw.out]), by rw [Hgw.out]; exact HFE.out, by rw [Hgw.out]; exact HB.out⟩⟩
end
end Go.Proofs.Ytghihdenbdnnjaa.Ln
