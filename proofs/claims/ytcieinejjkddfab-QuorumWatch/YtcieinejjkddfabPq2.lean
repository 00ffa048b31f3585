import Derived.Test.YtcieinejjkddfabPo2
namespace Go.Proofs.Ytcieinejjkddfab.Qm
open Go.RowKit Mb
set_option linter.unusedVariables false
set_option maxRecDepth 100000
set_option linter.unusedSimpArgs false
section
variable {w w' : World} {B : Nat} {A : Wa} {R R' : Rq} {v : Vw} {s : Nat}
theorem store_rowL {ops : Array Oper} {rest : List Oper} {o : Oper} {a : Act} {Q : Exit → Act → World → Prop} (ty : TypeId) (x y : Operand) {b off : Nat} {L : List Value} (ht : w.there b off L.length) (hi : (Try.prog.info? ty).map (·.size) = some L.length) (h1 : ∀ u ∈ L, u.oneCell' = true)
    (ho : o.op = .store ty x y) (hx : a.eval x = .pointer (some ⟨b, off, none⟩)) (hy : a.eval y = .agg L.toArray) (hw : Region.wanted o (yielded ops a.tmps) = true) (h : wpList Try.prog ops Q rest (a.put o.dst undef) (w.setCells b off L)) : wpList Try.prog ops Q (o :: rest) a w :=
  wpList_step fun K hK => by
    rw [if_pos hw]
    exact wp_store_mid ty x y ho b off _ hx hy (by simpa using ht) (by simpa using hi) (all_oneCell_toArray h1) (hK _ _ (by simpa using h))
theorem Rd3.keep0 {P : Nat → Prop} {ao : Option Addr} {n c : Nat} {ts : List St} (h : Rd3 w ao n c ts) (k : Kept w w' P) (hp : n ≠ 0 → ∀ b off, ao = some ⟨b, off, none⟩ → ¬ P b) : Rd3 w' ao n c ts := by
  by_cases h0 : n = 0
  · exact ⟨h.len, h.cap, h.nil, .inl h0⟩
  · exact h.keep k (hp h0)
theorem newvarV (w : World) (L : List Value) (h : L.length = 5) : ∃ A1 V, w.alloc (.cells #[.int .i64 0, .int .i64 0, .int .i64 0, .int .i64 0, .slice none 0 0] 52) = A1 ∧ Hid (A1.there w.heap.size 0 L.length) ∧ A1.setCells w.heap.size 0 L = V ∧ Hid (V.heap[w.heap.size]? = some (.cells L.toArray 52 (0, 0))) ∧ Hid (Below w.heap.size w V) := by
  refine ⟨_, _, rfl, ?_, rfl, ?_, ?_⟩
  · exact blk_there (heap_alloc_new w _) (by rw [h]; rfl)
  · exact sets_whole (heap_alloc_new w _) (by rw [h]; rfl)
  · exact bsets (Nat.le_refl _) _ _ (balloc (Below.refl _ _))
theorem Rq.Ok.keepB {P : Nat → Prop} (h : R.Ok w B) (k : Kept w w' P) (h1 : ¬ P R.b) (h2 : ∀ g cur, w.heap[g]? = some (.cells cur 3 (0, 0)) → ¬ P g) (h3 : ∀ g cur, w.heap[g]? = some (.cells cur 52 (0, 0)) → ¬ P g) (h4 : ∀ e ∈ R.es, ∀ g, (Value.slice e.mo e.mn e.mc).ownBlock = some g → ¬ P g) : R.Ok w' B :=
  ⟨k.obj h.blk h1, h.bB, own_keepT h.vot k h2, h.ok, own_keepT h.row k h3, fun e he => ⟨k.owns (h.mem e he).1 (h4 e he), (h.mem e he).2⟩⟩
set_option maxHeartbeats 8000000 in
theorem enters_any (hA : A.Ok w) (hAB : B ≤ A.b) (hR : R.Ok w B) (hBw : B ≤ w.heap.size) (hs : Sim A R) (hmax : R.es.length ≤ 2299999999999) {mo : Option Addr} {mn mc : Nat} (hr : Rd3 w mo mn mc v.ms) (hm : mn ≤ 5864062014634) (hmb : mn ≠ 0 → ∀ b off, mo = some ⟨b, off, none⟩ → b < B) : Calls Try.prog 45 #[.pointer (some ⟨A.b, 0, none⟩), .pointer (some ⟨R.b, 0, none⟩), .agg #[.int .i64 v.ep, .int .i64 v.ld, .int .i64 v.ic, .int .i64 v.cd, .slice mo mn mc]] w fun e w' => e = .returned (.bool true) ∧ ∃ (A' : Wa) (R' : Rq), A'.Ok w' ∧ A'.b = A.b ∧ R'.Ok w' B ∧ R'.b = R.b ∧ Sim A' R' ∧ R'.es.length ≤ R.es.length + 1 ∧ Below B w w' ∧ (∀ g, (Value.slice R'.wo R'.es.length R'.wc).ownBlock = some g → some g = (Value.slice R.wo R.es.length R.wc).ownBlock ∨ w.heap.size ≤ g) ∧ Kept w w' (fun j => j = A.b ∨ j = R.b ∨ some j = (Value.slice R.wo R.es.length R.wc).ownBlock) := by
  generalize hW : w.alloc (.cells #[.int .i64 v.ep, .int .i64 v.ld, .int .i64 v.ic, .int .i64 v.cd, .slice mo mn mc] 52) = W
  have hbW : Below w.heap.size w W := by rw [← hW]; exact balloc (Below.refl _ w)
  have hblk : W.heap[w.heap.size]? = some (.cells #[.int .i64 v.ep, .int .i64 v.ld, .int .i64 v.ic, .int .i64 v.cd, .slice mo mn mc] 52 (0, 0)) := by rw [← hW]; exact heap_alloc_new w _
  have hWs : W.heap.size = w.heap.size + 1 := by rw [← hW]; simp
  have hAb : A.b < w.heap.size := lt_heap hA.blk
  have hRb : R.b < w.heap.size := lt_heap hR.blk
  have HQ0 : Hid (W.rangeAt w.heap.size 0 [.int .i64 v.ep, .int .i64 v.ld, .int .i64 v.ic, .int .i64 v.cd, .slice mo mn mc]) := blk_range hblk
  have HR0 : Hid (Rd3 W mo mn mc v.ms) := hr.still hbW
  have HBW : Hid (Below w.heap.size w W) := hbW
  have HA : Hid (A.Ok W) := hA.still hbW
  have HRk : Hid (R.Ok W B) := hR.still hbW
  have HSi : Hid (Sim A R) := hs
  have HWs : Hid (W.heap.size = w.heap.size + 1) := hWs
  have hrowlt : Hid (∀ g, (Value.slice R.wo R.es.length R.wc).ownBlock = some g → g < w.heap.size) := fun g hg => (World.ownsRow.lt hR.row g hg).2
  have hmemlt : Hid (∀ e ∈ R.es, ∀ g, (Value.slice e.mo e.mn e.mc).ownBlock = some g → g < w.heap.size) := fun e he g hg => (World.ownsRow.lt (hR.mem e he).1 g hg).2
  have hrowB : Hid (∀ g, (Value.slice R.wo R.es.length R.wc).ownBlock = some g → B ≤ g) := fun g hg => (World.ownsRow.lt hR.row g hg).1
  have hRB : Hid (B ≤ R.b) := hR.bB
  have hen : A.en < 1000000000000000 := by rw [hs.en]; omega
  have hqu : A.qu < 1000000000000000 := by
    rw [hs.qu]
    have := cnt_le (qb R) R.es.length
    omega
  clear hA hR hr hbW hblk hWs hs
  go_enter Try.func45, Try.ntmps45
  go_wp2_with (first
    | (refine at_load 52 (.tmp 5) rfl ?_; refine load_mid 52 (.tmp 5) HQ0.out _ Try.underlying52 rfl info_view rfl rfl rfl ?_)
    | fail)
  refine (members_law HR0.out (by omega)).mono ?_
  rintro e w1 ⟨a1, c1, rfl, ho1, hb1⟩
  have HO1 : Hid (w1.ownsRow W.heap.size 115 3 (.slice a1 mn c1) mn (ints (fl3 v.ms))) := ho1
  have HB1 : Hid (Below W.heap.size W w1) := hb1
  clear ho1 hb1
  unfold Vw.cl
  obtain ⟨A1, V, hA1, HT1, hV, HVb, HBV⟩ := newvarV w1 [.int .i64 v.ep, .int .i64 v.ld, .int .i64 v.ic, .int .i64 v.cd, .slice a1 mn c1] rfl
  go_wp2_with (first
    | (rw [hA1])
    | (refine at_store 52 (.tmp 7) (.tmp 15) rfl ?_; refine store_rowL 52 (.tmp 7) (.tmp 15) (L := [.int .i64 v.ep, .int .i64 v.ld, .int .i64 v.ic, .int .i64 v.cd, .slice a1 mn c1]) HT1.out info_view (v.cl_one _ _ _) rfl rfl rfl rfl ?_; rw [hV])
    | (refine at_load 52 (.tmp 7) rfl ?_; refine load_mid 52 (.tmp 7) (blk_range HVb.out) _ Try.underlying52 rfl info_view rfl rfl rfl ?_)
    | fail)
  refine (enter_w ((HA.out.still HB1.out).still HBV.out) (own3_rd (own_still HO1.out HBV.out)) (by omega) hen hqu).mono ?_
  rintro e w4 ⟨rfl, hA4, hk4⟩
  have HA4 : Hid ((A.enA v).Ok w4) := hA4
  have HK4 : Hid (Kept V w4 (fun j => B ≤ j ∧ j < w.heap.size)) := hk4.mono (fun k _ e => by subst e; exact ⟨hAB, hAb⟩)
  have HWV : Hid (Below W.heap.size W V) := bstep HB1.out HBV.out
  have HR4 : Hid (R.Ok w4 B) := (HRk.out.still HWV.out).keepA (HA.out.still HWV.out) hk4
  have HKW4 : Hid (Kept W w4 (fun j => B ≤ j ∧ j < w.heap.size)) := (Kept.ofBelow HWV.out _).trans HK4.out
  have HQ4 : Hid (w4.rangeAt w.heap.size 0 [.int .i64 v.ep, .int .i64 v.ld, .int .i64 v.ic, .int .i64 v.cd, .slice mo mn mc]) := Kept.range HKW4.out HQ0.out (by omega)
  have HM4 : Hid (Rd3 w4 mo mn mc v.ms) := HR0.out.keep0 HKW4.out (fun h0 b off e => by have := hmb h0 b off e; omega)
  have HKf4 : Hid (Kept V w4 (fun j => j = A.b ∨ j = R.b ∨ some j = (Value.slice R.wo R.es.length R.wc).ownBlock)) := hk4.mono (fun k _ e => .inl e)
  clear hA4 hk4
  go_wp2_with (first
    | (refine at_load 52 (.tmp 5) rfl ?_; refine load_mid 52 (.tmp 5) HQ4.out _ Try.underlying52 rfl info_view rfl rfl rfl ?_)
    | fail)
  refine (members_law HM4.out (by omega)).mono ?_
  rintro e w5 ⟨a2, c2, rfl, ho2, hb2⟩
  unfold Vw.cl
  have HB2 : Hid (Below w4.heap.size w4 w5) := hb2
  have HO2 : Hid (w5.ownsRow w4.heap.size 115 3 (.slice a2 mn c2) mn (ints (fl3 v.ms))) := ho2
  have hz4 : w.heap.size < w4.heap.size := by
    have := HKW4.out.size
    rw [HWs.out] at this
    omega
  have HZ4 : Hid (w.heap.size < w4.heap.size) := hz4
  clear ho2 hb2 hz4
  go_wp2_with (fail)
  refine (rent_any (HR4.out.still HB2.out) (by have := HB2.out.size; have := HZ4.out; omega) HSi.out HO2.out hm (by omega) (fun g hg => by
    have h1 := (World.ownsRow.lt HO2.out g hg).1
    have h2 := HZ4.out
    exact ⟨by omega, fun e => by have := hrowlt.out g e.symm; omega⟩)).mono ?_
  rintro e w6 ⟨R', rfl, hok6, hb6, hsim, hlen, hfre, hrw6, hk6⟩
  have HRW : Hid (∀ g, (Value.slice R'.wo R'.es.length R'.wc).ownBlock = some g → some g = (Value.slice R.wo R.es.length R.wc).ownBlock ∨ w.heap.size ≤ g) := fun g hg => (hrw6 g hg).elim .inl (fun h => .inr (by have := HB2.out.size; have := HZ4.out; omega))
  have HKf6 : Hid (Kept w w6 (fun j => j = A.b ∨ j = R.b ∨ some j = (Value.slice R.wo R.es.length R.wc).ownBlock)) := (((Kept.ofBelow (bstep HBW.out HWV.out) _).trans HKf4.out).trans (Kept.ofBelow HB2.out _)).trans (hk6.mono (fun k _ e => .inr e))
  have HR6 : Hid (R'.Ok w6 B) := hok6
  have HS6 : Hid (Sim (A.enA v) R') := hsim
  have HL6 : Hid (R'.es.length ≤ R.es.length + 1) := hlen
  have Hb6 : Hid (R'.b = R.b) := hb6
  have HF6 : Hid (∀ e ∈ R'.es, e ∈ R.es ∨ ∀ g, (Value.slice e.mo e.mn e.mc).ownBlock = some g → w5.heap.size ≤ g) := hfre
  have HA6 : Hid ((A.enA v).Ok w6) := (HA4.out.still HB2.out).keep hk6 (fun e => e.elim (ty_ne (HA4.out.still HB2.out).blk (HR4.out.still HB2.out).blk (by decide)) (fun e => by
    obtain ⟨cur, hc⟩ := own_type (HR4.out.still HB2.out).row e.symm
    exact ty_ne (HA4.out.still HB2.out).blk hc (by decide) rfl))
  have HK6 : Hid (Kept V w6 (fun j => B ≤ j ∧ j < w.heap.size)) := (HK4.out.trans (Kept.ofBelow HB2.out _)).trans (hk6.mono (fun k _ e => e.elim (fun e => by subst e; exact ⟨hRB.out, hRb⟩) (fun e => ⟨hrowB.out k e.symm, hrowlt.out k e.symm⟩)))
  have HKW6 : Hid (Kept W w6 (fun j => B ≤ j ∧ j < w.heap.size)) := (Kept.ofBelow HWV.out _).trans HK6.out
  have HQ6 : Hid (w6.rangeAt w.heap.size 0 [.int .i64 v.ep, .int .i64 v.ld, .int .i64 v.ic, .int .i64 v.cd, .slice mo mn mc]) := Kept.range HKW6.out HQ0.out (by omega)
  have HM6 : Hid (Rd3 w6 mo mn mc v.ms) := HR0.out.keep0 HKW6.out (fun h0 b off e => by have := hmb h0 b off e; omega)
  have hn1 : w.heap.size < w1.heap.size := by
    have := HB1.out.size
    rw [HWs.out] at this
    omega
  have HN1 : Hid (w.heap.size < w1.heap.size) := hn1
  have HV6b : Hid (w6.heap[w1.heap.size]? = some (.cells [.int .i64 v.ep, .int .i64 v.ld, .int .i64 v.ic, .int .i64 v.cd, .slice a1 mn c1].toArray 52 (0, 0))) := HK6.out.obj HVb.out (by omega)
  have HV6 : Hid (w6.rangeAt w1.heap.size 0 [.int .i64 v.ep, .int .i64 v.ld, .int .i64 v.ic, .int .i64 v.cd, .slice a1 mn c1]) := blk_range HV6b.out
  have HO6 : Hid (w6.ownsRow W.heap.size 115 3 (.slice a1 mn c1) mn (ints (fl3 v.ms))) := HK6.out.owns (own_still HO1.out HBV.out) (fun k hk => by
    have := (World.ownsRow.lt HO1.out k hk).1
    rw [HWs.out] at this
    omega)
  have HZ5 : Hid (w1.heap.size ≤ w5.heap.size) := Nat.le_trans HBV.out.size (Nat.le_trans HK4.out.size HB2.out.size)
  clear hok6 hsim hlen hfre hrw6 hk6 hb6 hn1
  generalize A.enB v = eb at *
  generalize A.enE v = ee at *
  go_wp2_with (first
    | (refine at_load 52 (.tmp 7) rfl ?_; refine load_mid 52 (.tmp 7) HV6.out _ Try.underlying52 rfl info_view rfl rfl rfl ?_)
    | (refine at_load 52 (.tmp 5) rfl ?_; refine load_mid 52 (.tmp 5) HQ6.out _ Try.underlying52 rfl info_view rfl rfl rfl ?_)
    | fail)
  refine (sameView_yes (own3_rd HO6.out) HM6.out (by omega)).mono ?_
  rintro e w7 ⟨rfl, hb7⟩
  have HB7 : Hid (Below w6.heap.size w6 w7) := hb7
  have c4 : w7.cell? ⟨w1.heap.size, 4, none⟩ = some (.slice a1 mn c1) := below_at hb7 (blk_cell HV6b.out 4)
  have HO7 : Hid (w7.ownsRow W.heap.size 115 3 (.slice a1 mn c1) mn (ints (fl3 v.ms))) := own_still HO6.out hb7
  have HG1 : Hid (∀ g, (Value.slice a1 mn c1).ownBlock = some g → w.heap.size < g ∧ g < w1.heap.size) := fun g hg => by
    have := World.ownsRow.lt HO1.out g hg
    rw [HWs.out] at this
    exact ⟨by omega, this.2⟩
  clear hb7
  go_wp2_with (fail)
  go_loopw [13] (fun i wr => ∃ k : Nat, k ≤ mn ∧ i = .int .i64 (k : Int) ∧ Hid (Kept w7 wr (fun j => some j = (Value.slice a1 mn c1).ownBlock)) ∧ Hid (∀ g, (Value.slice a1 mn c1).ownBlock = some g → ∃ cur, wr.heap[g]? = some (.cells cur 115 (0, 0)) ∧ mn * 3 ≤ cur.size)) (fun i _ => mn - (intOf i).toNat)
  case atStart =>
    refine ⟨0, Nat.zero_le _, rfl, Kept.refl _ _, fun g hg => ?_⟩
    rcases HO7.out.2 with ⟨h1, h2⟩ | ⟨g', cap, cur, hv, hB, hh, hnc, hcm, hcs, htk⟩
    · rw [h1] at hg; cases hg
    · rw [hv] at hg
      simp only [Value.ownBlock, Option.some.injEq] at hg
      subst hg
      exact ⟨cur, hh, by rw [hcs]; exact Nat.mul_le_mul_right 3 hnc⟩
  case round =>
    obtain ⟨k, hk, rfl, HKk, HCk⟩ := hrel
    have d4 : wr.cell? ⟨w1.heap.size, 4, none⟩ = some (.slice a1 mn c1) := Kept.cell HKk.out c4 (fun e => by have := (HG1.out _ e.symm).2; omega)
    clear c4
    by_cases hlt : k < mn
    · obtain ⟨g, o, hg, Ho⟩ : ∃ g o, a1 = some ⟨g, o, none⟩ ∧ Hid (o = 0) := by
        rcases HO7.out.2 with ⟨h1, h2⟩ | ⟨g', cap, cur, hv, _⟩
        · omega
        · simp only [Value.slice.injEq] at hv
          exact ⟨g', 0, hv.1, rfl⟩
      have i1 : (0 : Int) ≤ (k : Int) := Int.natCast_nonneg _
      have i2 : (k : Int) < (mn : Int) := by omega
      have i3 : (mn : Int) ≤ 5864062014634 := by omega
      obtain ⟨cur, hcur, hsz⟩ := HCk.out g (by rw [hg]; rfl)
      have HTh : Hid (wr.there g (o + k * 3) [15 - (k : Int), 9, 9].length) := fun j hj => ⟨by
        have hj : j < 3 := hj
        rw [blk_cell hcur, Ho.out]
        simp [show 0 + k * 3 + j < cur.size by omega]
        omega, frozen_of_row wr _ _ _ _ hcur⟩
      have HKn : Hid (Kept wr (wr.setCells g (o + k * 3) (ints [15 - (k : Int), 9, 9])) (fun j => some j = (Value.slice a1 mn c1).ownBlock)) := ksets (P := fun j => some j = (Value.slice a1 mn c1).ownBlock) (by rw [hg]; rfl) _ _ _
      have HCn : Hid (∀ g', (Value.slice a1 mn c1).ownBlock = some g' → ∃ cur, (wr.setCells g (o + k * 3) (ints [15 - (k : Int), 9, 9])).heap[g']? = some (.cells cur 115 (0, 0)) ∧ mn * 3 ≤ cur.size) := fun g' hg' => by
        rw [hg] at hg'
        simp only [Value.ownBlock, Option.some.injEq] at hg'
        subst hg'
        refine ⟨_, sets_list (ints [15 - (k : Int), 9, 9]) (o + k * 3) wr cur.toList (by simpa using hcur) ?_, ?_⟩
        · rw [ints_len, Ho.out]
          simp
          omega
        · have := Ho.out
          simp [ints]
          omega
      have HD : Hid (wr.cell? ⟨w1.heap.size, 4, none⟩ = some (.slice a1 mn c1)) := d4
      rw [hg] at d4
      clear hcur hsz hg
      go_wp2_with (first
        | (refine build_step 115 _ rfl #[.int .i64 (15 - (k : Int)), .int .i64 9, .int .i64 9] (by kernel_rfl) rfl ?_)
        | (refine at_store 115 (.tmp 45) (.tmp 44) rfl ?_; refine store_mid 115 (.tmp 45) (.tmp 44) (xs := [15 - (k : Int), 9, 9]) HTh.out info_mb rfl rfl rfl rfl ?_)
        | fail)
      exact ⟨⟨k + 1, by omega, by go_num, HKk.out.trans HKn.out, HCn.out⟩, by simp [intOf]; omega⟩
    · obtain rfl : k = mn := by omega
      have hA9 : (A.enA v).Ok wr := (HA6.out.still HB7.out).keep HKk.out (fun e => by
        have := (HG1.out _ e.symm).1
        rw [Wa.enA_b] at this
        omega)
      have hty : ∀ g, some g = (Value.slice a1 k c1).ownBlock → ∃ cur, w7.heap[g]? = some (.cells cur 115 (0, 0)) := fun g hg => own_type HO7.out hg.symm
      have hR9 : R'.Ok wr B := (HR6.out.still HB7.out).keepB HKk.out (fun e => by
          have := (HG1.out _ e.symm).1
          rw [Hb6.out] at this
          omega)
        (fun g cur hg e => by
          obtain ⟨cur2, h2⟩ := hty g e
          exact ty_ne hg h2 (by decide) rfl)
        (fun g cur hg e => by
          obtain ⟨cur2, h2⟩ := hty g e
          exact ty_ne hg h2 (by decide) rfl)
        (fun e he g hg h1 => by
          have h2 := HG1.out g h1.symm
          rcases HF6.out e he with h3 | h3
          · have := hmemlt.out e h3 g hg
            omega
          · have h4 := h3 g hg
            have h5 := HZ5.out
            omega)
      have hBl : Below B w wr := by
        have k1 : Kept w w6 (fun j => B ≤ j) := (Kept.ofBelow HBW.out _).trans (HKW6.out.mono (fun _ _ e => e.1))
        have k2 : Kept w6 wr (fun j => B ≤ j) := (Kept.ofBelow HB7.out _).trans (HKk.out.mono (fun j _ e => by have := (HG1.out j e.symm).1; omega))
        exact (k1.trans k2).below hBw (fun k hk h => by omega)
      have hKf : Kept w wr (fun j => j = A.b ∨ j = R.b ∨ some j = (Value.slice R.wo R.es.length R.wc).ownBlock) := ((HKf6.out.trans (Kept.ofBelow HB7.out _))).step HKk.out (fun j e => .inr (by have := (HG1.out j e.symm).1; omega))
      have HE : Hid (∃ (A' : Wa) (R' : Rq), A'.Ok wr ∧ A'.b = A.b ∧ R'.Ok wr B ∧ R'.b = R.b ∧ Sim A' R' ∧ R'.es.length ≤ R.es.length + 1 ∧ Below B w wr ∧ (∀ g, (Value.slice R'.wo R'.es.length R'.wc).ownBlock = some g → some g = (Value.slice R.wo R.es.length R.wc).ownBlock ∨ w.heap.size ≤ g) ∧ Kept w wr (fun j => j = A.b ∨ j = R.b ∨ some j = (Value.slice R.wo R.es.length R.wc).ownBlock)) := ⟨_, R', hA9, A.enA_b v, hR9, Hb6.out, HS6.out, HL6.out, hBl, HRW.out, hKf⟩
      clear hA9 hR9 hBl hty hKf
      cases eb
      · go_wp2_with (first
          | (go_at_call 14; refine (num_any _).mono ?_; rintro e w8 ⟨rfl, rfl⟩)
          | fail)
        go_ret
        exact ⟨rfl, HE.out⟩
      · go_wp2_with (first
          | (go_at_call 14; refine (num_any _).mono ?_; rintro e w8 ⟨rfl, rfl⟩)
          | fail)
        go_ret
        exact ⟨rfl, HE.out⟩
end
end Go.Proofs.Ytcieinejjkddfab.Qm
