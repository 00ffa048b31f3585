import Derived.Test.YtfbollifegngjaaWn
namespace Go.Proofs.Ytfbollifegngjaa.Dt
open Go.RowKit
set_option linter.unusedVariables false
set_option maxRecDepth 100000
set_option linter.unusedSimpArgs false
section
variable {D D' : De} {R R' : Rf} {w w' W V : World} {B m : Nat}
theorem Dtep.own_iff {m' : Nat} (s : Dtep w w' D D' B m') (j : Nat) : D'.own j ↔ D.own j := s.own j
theorem after_b (D : De) (q i t : Int) (xs : List Int) : (D.after q i t xs).b = D.b := by unfold De.after; split <;> rfl
set_option maxHeartbeats 2000000 in
theorem does_heard (h : Du D R w B m) (hm : m ≤ 2513169434916) (o : Opx) (hk : o.k = 2) (hro : ∀ w', Below B w w' → RdI w' o.ha o.hn o.hs) (hn43 : o.hn ≤ 17592186043904) : Calls Try.prog 30 #[.pointer (some ⟨D.b, 0, none⟩), .pointer (some ⟨R.b, 0, none⟩), .agg o.cs] w fun e w' => e = .returned (.bool true) ∧ ∃ D' R', Dq w w' D D' R R' B (m + 1) := by
  obtain ⟨i0, hi, hz0, hz1, hz2⟩ := info_parts info_i
  generalize hW : w.alloc (.cells o.cs 58) = W
  have hbW : Below w.heap.size w W := by rw [← hW]; exact balloc (Below.refl _ w)
  have hblk : W.heap[w.heap.size]? = some (.cells o.cs 58 (0, 0)) := by rw [← hW]; exact heap_alloc_new w _
  have y0 : W.cell? ⟨w.heap.size, 0, none⟩ = some (.int .i64 o.k) := blk_cell hblk 0
  have y1 : W.cell? ⟨w.heap.size, 1, none⟩ = some (.int .i64 o.q) := blk_cell hblk 1
  have y2 : W.cell? ⟨w.heap.size, 2, none⟩ = some (.int .i64 o.inc) := blk_cell hblk 2
  have y3 : W.cell? ⟨w.heap.size, 3, none⟩ = some (.int .i64 o.t) := blk_cell hblk 3
  have y4 : W.cell? ⟨w.heap.size, 4, none⟩ = some (.slice o.ha o.hn o.hc) := blk_cell hblk 4
  have hwl := lt_heap hblk
  have hW2 := h.still hbW
  have Hb : Hid (Below w.heap.size w W) := hbW
  have hBw : B ≤ w.heap.size := h.hB
  have LW : Hid (Below B w W) := hbW.mono hBw
  have hxl := (hro w (Below.refl _ _)).1
  have HCo : Hid (∀ w', Below B w w' → Calls Try.prog 8 #[.slice o.ha o.hn o.hc] w' fun e w2 => ∃ u, e = .returned u ∧ IsI w' w2 o.hn o.hs u) := fun w' hb => copied_any (hro w' hb) (by omega)
  have Hro : Hid (∀ w', Below B w w' → RdI w' o.ha o.hn o.hs) := hro
  have Hh : Hid (Du D R W B m) := hW2
  have hwD : ¬ D.own w.heap.size := fun e => by have := h.d.ltOwn e; omega
  have hwR : ¬ R.own w.heap.size := fun e => by have := h.r.ltOwn e; omega
  have hBW : B ≤ W.heap.size := hW2.hB
  unfold Opx.cs at hW ⊢
  rw [hk] at hW y0 ⊢
  clear h hblk hbW hW2 hro
  go_enter Try.func30, Try.ntmps30
  go_wp2_with (fail)
  refine (HCo.out _ LW.out).mono ?_
  rintro e w1 ⟨u, rfl, g1, rfl, hg1, hB1, hb1⟩
  have HO1 : Hid (w1.ownsRow W.heap.size 3 1 (.slice (some ⟨g1, 0, none⟩) o.hn o.hn) o.hn (ints o.hs)) := hB1.own hg1 hxl (by unfold maxLen; omega)
  have BB1 : Hid (Below W.heap.size W w1) := hb1
  have hsz1 := hb1.size
  clear hB1 hb1 hg1
  generalize hI : ints o.hs = I at HO1
  go_wp2_with (first
    | (at_builtin; refine wpList_append_lies _ rfl _ _ 25 rfl W.heap.size 3 i0 (.int .i64 0) 1 8 Try.underlying25 hi hz0 hz1 hz2 rfl (by omega) (.slice (some ⟨g1, 0, none⟩) o.hn o.hn) o.hn I rfl (World.ownsRow.alloc HO1.out _) _ 2 2 _ rfl rfl (World.news_of_block (heap_alloc_new _ _)) (by simp [Value.oneCell']) (by omega) (by unfold maxLen; omega) (by omega) (by simp; omega) _ rfl ?_; intro g3 cap3 w3 hown3 hgrow3 hat3 hlt3; have BB3 : Hid (Below W.heap.size W w3) := ((balloc BB1.out).grown hgrow3 (by simp; omega) (fun q hq => (World.ownsRow.lt HO1.out q hq).1)); have HO3 : Hid (w3.ownsRow W.heap.size 3 1 (.slice (some ⟨g3, 0, none⟩) (o.hn + 2) cap3) (o.hn + 2) (I ++ [.int .i64 71, .int .i64 72])) := hown3; have z4 := below_at BB3.out y4; have z1 := below_at BB3.out y1; have z2 := below_at BB3.out y2; have z3 := below_at BB3.out y3; have hcap : o.hn + 2 ≤ cap3 := (by rcases hown3.2 with ⟨e1, e2⟩ | ⟨g', c', cur, hv, _, _, hc, _⟩; (omega); (simp at hv; omega)); clear hown3 hgrow3 hat3)
    | fail)
  obtain ⟨cur, hcur, hcs, hcl⟩ : ∃ cur : Array Value, w3.heap[g3]? = some (.cells cur 3 (0, 0)) ∧ o.hn + 2 ≤ cur.size ∧ ∀ i, i < o.hn + 2 → cur[i]? = some (.int .i64 ((o.hs ++ [71, 72]).getD i 0)) := by
    have hrd : RdI w3 (some ⟨g3, 0, none⟩) (o.hn + 2) (o.hs ++ [71, 72]) := own_rd (c := cap3) (by have := HO3.out; rw [← hI] at this; simpa [ints] using this)
    rcases HO3.out.2 with ⟨e1, e2⟩ | ⟨g', c', cur, hv, _, hg, hc, _, hs, _⟩
    · omega
    · simp at hv
      obtain ⟨rfl, rfl⟩ := hv
      refine ⟨cur, hg, by omega, fun i hi => ?_⟩
      obtain ⟨b, o', hb, hc'⟩ := hrd.at hi
      simp at hb
      obtain ⟨rfl, rfl⟩ := hb
      rw [Nat.zero_add, blk_cell hg i] at hc'
      exact hc'
  have hg3W : W.heap.size ≤ g3 := (World.ownsRow.lt HO3.out g3 rfl).1
  have hg3D : ¬ D.own g3 := fun e => by have := Hh.out.d.ltOwn e; omega
  have hg3R : ¬ R.own g3 := fun e => by have := Hh.out.r.ltOwn e; omega
  have hrdIn : ∀ wx, wx.heap[g3]? = some (.cells cur 3 (0, 0)) → RdI wx (some ⟨g3, 0, none⟩) o.hn o.hs := fun wx hx => ⟨hxl, .inr ⟨g3, 0, rfl, fun i hi => by
    rw [Nat.zero_add, blk_cell hx i, hcl i (by omega)]
    simp [List.getD, List.getElem?_append_left (show i < o.hs.length by omega)]⟩⟩
  have HIn : Hid (∀ wx, wx.heap[g3]? = some (.cells cur 3 (0, 0)) → RdI wx (some ⟨g3, 0, none⟩) o.hn o.hs) := hrdIn
  have hc71 : cur[o.hn]? = some (.int .i64 71) := by
    have := hcl o.hn (by omega)
    rw [this]
    simp [List.getD, List.getElem?_append_right (show o.hs.length ≤ o.hn by omega), hxl]
  have Hc71 : Hid (cur[o.hn]? = some (.int .i64 71)) := hc71
  clear hc71
  have hc72 : cur[o.hn + 1]? = some (.int .i64 72) := by
    have := hcl (o.hn + 1) (by omega)
    rw [this]
    simp [List.getD, List.getElem?_append_right (show o.hs.length ≤ o.hn + 1 by omega), hxl]
  have Hc72 : Hid (cur[o.hn + 1]? = some (.int .i64 72)) := hc72
  clear hc72
  have Hcur : Hid (w3.heap[g3]? = some (.cells cur 3 (0, 0))) := hcur
  have hDu3 := Hh.out.still BB3.out
  have HHd := heard_any (c := cap3) hDu3.d (by omega) o.q o.inc o.t (hrdIn w3 hcur) (fun g' ⟨o', e⟩ ho => by simp only [Option.some.injEq, Addr.mk.injEq] at e; exact hg3D (e.1 ▸ ho))
  have HDu3 : Hid (Du D R w3 B m) := hDu3
  have LW3 : Hid (Below B w w3) := LW.out.trans (BB3.out.mono hBW)
  clear hDu3 hrdIn hcl hcur HO1 HO3 hlt3 hI
  refine HHd.mono ?_
  rintro e w5 ⟨rfl, s5⟩
  have S5 : Hid (Dtep w3 w5 D (D.after o.q o.inc o.t o.hs) B (m + 1)) := s5
  have LW5 : Hid (Below B w w5) := LW3.out.trans (s5.low (HDu3.out.d.mono (Nat.le_succ _) (by omega)) HDu3.out.hB)
  have v1 := cell_keep s5.kept hwD z1
  have v2 := cell_keep s5.kept hwD z2
  have v3 := cell_keep s5.kept hwD z3
  have v4 := cell_keep s5.kept hwD z4
  have Hcur5 : Hid (w5.heap[g3]? = some (.cells cur 3 (0, 0))) := s5.kept.obj Hcur.out hg3D
  have hR5 : R.Ok w5 B := HDu3.out.r.keep s5.kept (fun j hj e => HDu3.out.ap j e hj)
  have HRh : Hid (∀ w', Below w5.heap.size w5 w' → ∀ g, w5.heap.size ≤ g → BlkI w' g o.hs → Calls Try.prog 42 #[.pointer (some ⟨R.b, 0, none⟩), .int .i64 o.q, .int .i64 o.inc, .agg #[.int .i64 o.t, .slice (some ⟨g, 0, none⟩) o.hn o.hn]] w' fun e w2 => e = .returned (.int .i64 (R.herr o.q o.inc o.t o.hs)) ∧ ∃ R', Rtep w' w2 R R' B ∧ ((R.herr o.q o.inc o.t o.hs ≠ 0 ∧ R' = R) ∨ (R.herr o.q o.inc o.t o.hs = 0 ∧ ∃ g cc, R' = R.push ⟨2, o.q, o.inc, o.t, decide (o.hs.getD R.s 0 = R.inc)⟩ g cc))) := fun w' hb g hg hk2 => rheard_any (hR5.still hb) (by have := HDu3.out.len; omega) o.q o.inc o.t (hk2.rd hxl) (fun g' ⟨o', e⟩ ho => by
    have := hR5.ltOwn ho
    simp only [Option.some.injEq, Addr.mk.injEq] at e
    omega)
  have hherr := HDu3.out.sim.herr o.q o.inc o.t o.hs
  rw [hherr]
  clear s5 hR5 HHd z1 z2 z3 z4
  go_wp2
  refine wp_region_held_drew (S := (fun w' => w'.cell? ⟨w.heap.size, 1, none⟩ = some (.int .i64 o.q) ∧ w'.cell? ⟨w.heap.size, 2, none⟩ = some (.int .i64 o.inc) ∧ w'.cell? ⟨w.heap.size, 3, none⟩ = some (.int .i64 o.t) ∧ w'.cell? ⟨w.heap.size, 4, none⟩ = some (.slice o.ha o.hn o.hc))) (by kernel_rfl) ⟨cell_drew v1, cell_drew v2, cell_drew v3, cell_drew v4⟩ (fun hHeld => ?_)
  simp only [Act.put, List.size_toArray, List.length_cons, List.length_nil, Nat.zero_add]
  refine wpAnyH_take (i := 0) (v := .pointer (some ⟨R.b, 0, none⟩)) rfl (by kernel_rfl) (by kernel_rfl) (by kernel_rfl) (fun _ _ _ h => h) (Or.inl ⟨by rfl, fun w' hS => by go_simp⟩) hHeld ?_
  simp only [Act.put, List.getElem_toArray, List.getElem_cons_zero, List.getElem_cons_succ, List.setIfInBounds_toArray, List.set_cons_zero, List.set_cons_succ]
  refine wpAnyH_take (i := 1) (v := .pointer (some ⟨w.heap.size, 1, none⟩)) rfl (by kernel_rfl) (by kernel_rfl) (by kernel_rfl) (fun _ _ _ h => h) (Or.inl ⟨by rfl, fun w' hS => by go_simp⟩) hHeld ?_
  simp only [Act.put, List.getElem_toArray, List.getElem_cons_zero, List.getElem_cons_succ, List.setIfInBounds_toArray, List.set_cons_zero, List.set_cons_succ]
  refine wpAnyH_take (i := 2) (v := .int .i64 o.q) rfl (by kernel_rfl) (by kernel_rfl) (by kernel_rfl) (fun _ _ _ h => h) (Or.inl ⟨by rfl, fun w' hS => by (obtain ⟨s0, s1, s2, s3⟩ := hS; go_simp)⟩) hHeld ?_
  simp only [Act.put, List.getElem_toArray, List.getElem_cons_zero, List.getElem_cons_succ, List.setIfInBounds_toArray, List.set_cons_zero, List.set_cons_succ]
  refine wpAnyH_take (i := 3) (v := .pointer (some ⟨w.heap.size, 2, none⟩)) rfl (by kernel_rfl) (by kernel_rfl) (by kernel_rfl) (fun _ _ _ h => h) (Or.inl ⟨by rfl, fun w' hS => by go_simp⟩) hHeld ?_
  simp only [Act.put, List.getElem_toArray, List.getElem_cons_zero, List.getElem_cons_succ, List.setIfInBounds_toArray, List.set_cons_zero, List.set_cons_succ]
  refine wpAnyH_take (i := 4) (v := .int .i64 o.inc) rfl (by kernel_rfl) (by kernel_rfl) (by kernel_rfl) (fun _ _ _ h => h) (Or.inl ⟨by rfl, fun w' hS => by (obtain ⟨s0, s1, s2, s3⟩ := hS; go_simp)⟩) hHeld ?_
  simp only [Act.put, List.getElem_toArray, List.getElem_cons_zero, List.getElem_cons_succ, List.setIfInBounds_toArray, List.set_cons_zero, List.set_cons_succ]
  refine wpAnyH_take (i := 5) (v := .pointer (some ⟨w.heap.size, 3, none⟩)) rfl (by kernel_rfl) (by kernel_rfl) (by kernel_rfl) (fun _ _ _ h => h) (Or.inl ⟨by rfl, fun w' hS => by go_simp⟩) hHeld ?_
  simp only [Act.put, List.getElem_toArray, List.getElem_cons_zero, List.getElem_cons_succ, List.setIfInBounds_toArray, List.set_cons_zero, List.set_cons_succ]
  refine wpAnyH_take (i := 6) (v := .int .i64 o.t) rfl (by kernel_rfl) (by kernel_rfl) (by kernel_rfl) (fun _ _ _ h => h) (Or.inl ⟨by rfl, fun w' hS => by (obtain ⟨s0, s1, s2, s3⟩ := hS; go_simp)⟩) hHeld ?_
  simp only [Act.put, List.getElem_toArray, List.getElem_cons_zero, List.getElem_cons_succ, List.setIfInBounds_toArray, List.set_cons_zero, List.set_cons_succ]
  refine wpAnyH_take (i := 7) (v := .pointer (some ⟨w.heap.size, 4, none⟩)) rfl (by kernel_rfl) (by kernel_rfl) (by kernel_rfl) (fun _ _ _ h => h) (Or.inl ⟨by rfl, fun w' hS => by go_simp⟩) hHeld ?_
  simp only [Act.put, List.getElem_toArray, List.getElem_cons_zero, List.getElem_cons_succ, List.setIfInBounds_toArray, List.set_cons_zero, List.set_cons_succ]
  refine wpAnyH_take (i := 8) (v := .slice o.ha o.hn o.hc) rfl (by kernel_rfl) (by kernel_rfl) (by kernel_rfl) (fun _ _ _ h => h) (Or.inl ⟨by rfl, fun w' hS => by (obtain ⟨s0, s1, s2, s3⟩ := hS; go_simp)⟩) hHeld ?_
  simp only [Act.put, List.getElem_toArray, List.getElem_cons_zero, List.getElem_cons_succ, List.setIfInBounds_toArray, List.set_cons_zero, List.set_cons_succ]
  refine wpAnyH_ready (rs := [9]) (by kernel_rfl) (by simp) ?_
  refine AllReadyH.cons rfl (fun K hK => ?_) AllReadyH.nil
  go_simp
  refine (HCo.out _ LW5.out.drew).mono ?_
  rintro e w6 ⟨u, rfl, g6, rfl, hg6, hB6, hb6⟩
  have B6 : Below w5.heap.size w5 w6 := bstep (Below.refl _ _).drew hb6
  refine hK.out _ _ ⟨below_at B6 v1, below_at B6 v2, below_at B6 v3, below_at B6 v4⟩ (fun hHeld => ?_)
  clear hK K
  refine wpAnyH_take (i := 10) (v := .agg #[.int .i64 o.t, .slice (some ⟨g6, 0, none⟩) o.hn o.hn]) rfl (by kernel_rfl) (by kernel_rfl) (by kernel_rfl) (fun _ _ _ h => h) (Or.inl ⟨by rfl, fun w' hS => by go_simp⟩) hHeld ?_
  simp only [Act.put, List.getElem_toArray, List.getElem_cons_zero, List.getElem_cons_succ, List.setIfInBounds_toArray, List.set_cons_zero, List.set_cons_succ]
  refine wpAnyH_ready (rs := [11]) (by kernel_rfl) (by simp) ?_
  refine AllReadyH.cons rfl (fun K hK => ?_) AllReadyH.nil
  go_simp
  refine (HRh.out w6 B6 g6 (Nat.le_trans (by simp) hg6) hB6).mono ?_
  rintro e w7 ⟨rfl, R2, hrt, hds⟩
  refine hK.out _ _ ⟨cell_keep hrt.kept hwR (below_at B6 v1), cell_keep hrt.kept hwR (below_at B6 v2), cell_keep hrt.kept hwR (below_at B6 v3), cell_keep hrt.kept hwR (below_at B6 v4)⟩ (fun hHeld => ?_)
  clear hK K
  refine wpAnyH_take (i := 12) (v := .int .i64 (R.herr o.q o.inc o.t o.hs)) rfl (by kernel_rfl) (by kernel_rfl) (by kernel_rfl) (fun _ _ _ h => h) (Or.inl ⟨by rfl, fun w' hS => by go_simp⟩) hHeld ?_
  simp only [Act.put, List.getElem_toArray, List.getElem_cons_zero, List.getElem_cons_succ, List.setIfInBounds_toArray, List.set_cons_zero, List.set_cons_succ]
  refine wpAnyH_done (by kernel_rfl) ?_ _
  clear hHeld
  have hQ : Dq w3 w7 D (D.after o.q o.inc o.t o.hs) R R2 B (m + 1) := by
    refine HDu3.out.go S5.out B6 hrt ?_ ?_ (after_b _ _ _ _ _) ?_
    · rcases hds with ⟨hne, rfl⟩ | ⟨he, g, cc, rfl⟩
      · have : D.after o.q o.inc o.t o.hs = D := by unfold De.after; rw [hherr, if_neg hne]
        rw [this]
        exact HDu3.out.sim
      · exact HDu3.out.sim.heard HDu3.out.d o.q o.inc o.t o.hs he g cc
    · rcases hds with ⟨hne, rfl⟩ | ⟨he, g, cc, rfl⟩
      · have := HDu3.out.len; omega
      · show (R.all ++ [_]).length ≤ m + 1; have := HDu3.out.len; simp; omega
    · rcases hds with ⟨hne, rfl⟩ | ⟨he, g, cc, rfl⟩ <;> rfl
  have HQ : Hid (Dq w3 w7 D (D.after o.q o.inc o.t o.hs) R R2 B (m + 1)) := hQ
  have Hcur7 : Hid (w7.heap[g3]? = some (.cells cur 3 (0, 0))) := hrt.kept.obj ((B6.block _ (lt_heap Hcur5.out)).trans Hcur5.out) hg3R
  have LW7 : Hid (Below B w w7) := LW3.out.trans (hQ.lowB HDu3.out)
  have n4 := cell_keep hrt.kept hwR (below_at B6 v4)
  have HSm := same_any (c1 := cap3) (c2 := o.hc) (HIn.out w7 Hcur7.out) (Hro.out w7 LW7.out) (by omega)
  have m71 : w7.cell? ⟨g3, o.hn, none⟩ = some (.int .i64 71) := (blk_cell Hcur7.out _).trans Hc71.out
  have m72 : w7.cell? ⟨g3, o.hn + 1, none⟩ = some (.int .i64 72) := (blk_cell Hcur7.out _).trans Hc72.out
  have hR2o : ¬ (D.after o.q o.inc o.t o.hs).own g3 ∧ ¬ R2.own g3 := ⟨fun e => hg3D ((S5.out.own g3).1 e), fun e => (hrt.own g3 e).elim hg3R (fun e2 => by have := lt_heap Hcur5.out; have := B6.size; omega)⟩
  generalize R.herr o.q o.inc o.t o.hs = er at *
  generalize D.after o.q o.inc o.t o.hs = D2 at *
  clear hQ hds hrt hb6 hB6 hg6 B6 v1 v2 v3 v4 HRh hherr
  have i1 : (0 : Int) ≤ (o.hn : Int) := Int.natCast_nonneg _
  have i2 : (o.hn : Int) < ((o.hn + 2 : Nat) : Int) := by omega
  have i3 : (o.hn : Int) + 1 < ((o.hn + 2 : Nat) : Int) := by omega
  have hwn : IntKind.i64.wrap ((o.hn : Int) + 1) = (o.hn : Int) + 1 := wrap_id (by omega) (by omega)
  go_wp2_with (fail)
  refine HSm.mono ?_
  rintro e w8 ⟨rfl, hb8⟩
  have p71 := below_at hb8 m71
  have p72 := below_at hb8 m72
  have p4 := below_at hb8 n4
  have Hcur8 : Hid (w8.heap[g3]? = some (.cells cur 3 (0, 0))) := (hb8.block _ (lt_heap Hcur7.out)).trans Hcur7.out
  have HQ8 : Hid (Dq w3 w8 D D2 R R2 B (m + 1)) := HQ.out.post hb8
  clear hb8 m71 m72 n4
  have hlp : ∃ cs : Array Value, w8.heap[g3]? = some (.cells cs 3 (0, 0)) ∧ o.hn ≤ cs.size := ⟨cur, Hcur8.out, by omega⟩
  have Hlp : Hid (∃ cs : Array Value, w8.heap[g3]? = some (.cells cs 3 (0, 0)) ∧ o.hn ≤ cs.size) := hlp
  clear hlp
  go_wp2
  go_loopw [12] (fun v12 wr => ∃ k : Nat, k ≤ o.hn ∧ v12 = .int .i64 (k : Int) ∧ (∃ cs : Array Value, wr.heap[g3]? = some (.cells cs 3 (0, 0)) ∧ o.hn ≤ cs.size) ∧ Kept w8 wr (fun j => j = g3)) (fun v12 _ => o.hn - (intOf v12).toNat)
  case atStart => exact ⟨0, Nat.zero_le _, rfl, Hlp.out, Kept.refl _ _⟩
  case round =>
    obtain ⟨k, hk2, rfl, ⟨cs, hcs2, hcz⟩, hkp⟩ := hrel
    by_cases hlt : k < o.hn
    · have j1 : (0 : Int) ≤ (k : Int) := Int.natCast_nonneg _
      have j2 : (k : Int) < (o.hn : Int) := by omega
      have c0 : wr.cell? ⟨g3, k, none⟩ = some cs[k] := by rw [blk_cell hcs2 k]; exact Array.getElem?_eq_getElem (by omega)
      have c1 := frozen_of_row wr _ k _ _ hcs2
      have Hn : Hid ((∃ cs' : Array Value, (wr.setCell ⟨g3, k, none⟩ (.int .i64 (-7))).heap[g3]? = some (.cells cs' 3 (0, 0)) ∧ o.hn ≤ cs'.size) ∧ Kept w8 (wr.setCell ⟨g3, k, none⟩ (.int .i64 (-7))) (fun j => j = g3)) := ⟨⟨_, blkset hcs2, by simpa using hcz⟩, hkp.trans (kset _ _ _ _ rfl)⟩
      generalize cs[k] = cv at c0
      clear hcs2 hkp
      go_wp2
      exact ⟨⟨k + 1, by omega, by go_num, Hn.out.1, Hn.out.2⟩, by simp [intOf]; omega⟩
    · have j2 : decide ((k : Int) < (o.hn : Int)) = false := decide_eq_false (by omega)
      have Hkp : Hid (Kept w8 wr (fun j => j = g3)) := hkp
      clear hkp hcs2
      go_wp2_with (first | (go_at_call 21; refine (num_any _).mono ?_; rintro e w9 ⟨rfl, rfl⟩) | fail)
      go_ret
      refine ⟨rfl, D2, R2, ?_⟩
      have q8 := Dq.pre (bstep Hb.out BB3.out) HQ8.out
      refine ⟨⟨q8.du.d.keep Hkp.out (fun j hj e => hR2o.1 (e ▸ hj)), q8.du.r.keep Hkp.out (fun j hj e => hR2o.2 (e ▸ hj)), q8.du.ap, q8.du.sim, q8.du.len⟩, q8.kept.step Hkp.out (fun j hj => .inr (by omega)), q8.own, q8.db, q8.rb⟩
theorem does_any (h : Du D R w B m) (hm : m ≤ 2513169434916) (o : Opx) (hro : ∀ w', Below B w w' → RdI w' o.ha o.hn o.hs) (hn43 : o.hn ≤ 17592186043904) : Calls Try.prog 30 #[.pointer (some ⟨D.b, 0, none⟩), .pointer (some ⟨R.b, 0, none⟩), .agg o.cs] w fun e w' => e = .returned (.bool true) ∧ ∃ D' R', Dq w w' D D' R R' B (m + 1) := by
  by_cases h1 : o.k = 1
  · exact does_tick h hm o h1
  · by_cases h2 : o.k = 2
    · exact does_heard h hm o h2 hro hn43
    · by_cases h3 : o.k = 3
      · exact does_leave h hm o h3
      · exact does_none h hm o h1 h2 h3
end
end Go.Proofs.Ytfbollifegngjaa.Dt
