import Derived.Test.YtfbollifegngjaaXw
namespace Go.Proofs.Ytfbollifegngjaa.Dt
open Go.RowKit
set_option linter.unusedVariables false
set_option maxRecDepth 100000
set_option linter.unusedSimpArgs false
section
variable {D D' : De} {R R' : Rf} {w w' W V : World} {B m : Nat}
section
variable {hb : Nat} {vg vw vr : Value} {E K : List El} {X : Nat → List Int}
structure Hz (w : World) (B hb m : Nat) (D : De) (R : Rf) (vg vw vr : Value) (E K : List El) (X : Nat → List Int) : Prop where
  h : Hs w B hb vg vw vr E K X
  du : Du D R w B m
  ap : ∀ j, hown hb vg vw vr E K j → ¬ (D.own j ∨ R.own j)
def Hzo (w w' : World) (B hb m : Nat) (D : De) (R : Rf) (vg vw vr : Value) (E K : List El) (N : Nat) : Prop := ∃ D' R' vg' vw' vr' E' K' X', Hz w' B hb m D' R' vg' vw' vr' E' K' X' ∧ Kept w w' (fun j => D.own j ∨ R.own j ∨ hown hb vg vw vr E K j) ∧ (∀ j, D'.own j ∨ R'.own j ∨ hown hb vg' vw' vr' E' K' j → D.own j ∨ R.own j ∨ hown hb vg vw vr E K j ∨ w.heap.size ≤ j) ∧ E'.length ≤ E.length + N ∧ D'.b = D.b ∧ R'.b = R.b
theorem rd_pre {g n N c : Nat} {xs ys : List Int} (h : w.ownsRow B 3 1 (.slice (some ⟨g, 0, none⟩) N c) N (ints (xs ++ ys))) (hx : xs.length = n) : RdI w (some ⟨g, 0, none⟩) n xs := by
  have hr := own_rd h
  have hl := hr.1
  rw [List.length_append] at hl
  refine ⟨hx, .inr ⟨g, 0, rfl, fun i hi => ?_⟩⟩
  obtain ⟨b, o', e, hc⟩ := hr.at (i := i) (by omega)
  simp only [Option.some.injEq, Addr.mk.injEq, and_true] at e
  obtain ⟨rfl, rfl⟩ := e
  rw [hc]
  simp [List.getD, List.getElem?_append_left (show i < xs.length by omega)]
theorem rd_post {g N c : Nat} {xs ys : List Int} (h : w.ownsRow B 3 1 (.slice (some ⟨g, 0, none⟩) N c) N (ints (xs ++ ys))) {k p : Nat} (hk : k < ys.length) (hp : xs.length + k = p) : w.cell? ⟨g, p, none⟩ = some (.int .i64 (ys.getD k 0)) := by
  subst hp
  have hr := own_rd h
  have hl := hr.1
  rw [List.length_append] at hl
  obtain ⟨b, o', e, hc⟩ := hr.at (i := xs.length + k) (by omega)
  simp only [Option.some.injEq, Addr.mk.injEq, and_true] at e
  obtain ⟨rfl, rfl⟩ := e
  rw [Nat.zero_add] at hc
  rw [hc]
  simp [List.getD, List.getElem?_append_right]
theorem mk7_get {k : Nat} (h : k < 64) : (mk7 64).getD k 0 = -700 - (k : Int) := by simp [mk7, List.getD, h]
set_option maxHeartbeats 8000000 in
theorem lends_h (z : Hz w B hb m D R vg vw vr E K X) (hm : m ≤ 2513169434916) (o : Opx) (hro : ∀ w', Below B w w' → RdI w' o.ha o.hn o.hs) (hn43 : o.hn ≤ 17592186043904) : Calls Try.prog 29 #[.pointer (some ⟨hb, 0, none⟩), .pointer (some ⟨D.b, 0, none⟩), .pointer (some ⟨R.b, 0, none⟩), .agg o.cs] w fun e w' => e = .returned (.bool true) ∧ Hzo w w' B hb (m + 1) D R vg vw vr E K 0 := by
  obtain ⟨i0, hi, hz0, hz1, hz2⟩ := info_parts info_i
  generalize hW : w.alloc (.cells o.cs 58) = W
  have hbW : Below w.heap.size w W := by rw [← hW]; exact balloc (Below.refl _ w)
  have hblk : W.heap[w.heap.size]? = some (.cells o.cs 58 (0, 0)) := by rw [← hW]; exact heap_alloc_new w _
  have y1 : W.cell? ⟨w.heap.size, 1, none⟩ = some (.int .i64 o.q) := blk_cell hblk 1
  have y2 : W.cell? ⟨w.heap.size, 2, none⟩ = some (.int .i64 o.inc) := blk_cell hblk 2
  have y3 : W.cell? ⟨w.heap.size, 3, none⟩ = some (.int .i64 o.t) := blk_cell hblk 3
  have y4 : W.cell? ⟨w.heap.size, 4, none⟩ = some (.slice o.ha o.hn o.hc) := blk_cell hblk 4
  have Y : Hid (W.cell? ⟨w.heap.size, 1, none⟩ = some (.int .i64 o.q) ∧ W.cell? ⟨w.heap.size, 2, none⟩ = some (.int .i64 o.inc) ∧ W.cell? ⟨w.heap.size, 3, none⟩ = some (.int .i64 o.t) ∧ W.cell? ⟨w.heap.size, 4, none⟩ = some (.slice o.ha o.hn o.hc)) := ⟨y1, y2, y3, y4⟩
  have hwl := lt_heap hblk
  have HZ : Hid (Hz w B hb m D R vg vw vr E K X) := z
  have Hb : Hid (Below w.heap.size w W) := hbW
  have hBw : B ≤ w.heap.size := z.du.hB
  have LW : Hid (Below B w W) := hbW.mono hBw
  have hxl := (hro w (Below.refl _ _)).1
  have HCo : Hid (∀ w', Below B w w' → Calls Try.prog 8 #[.slice o.ha o.hn o.hc] w' fun e w2 => ∃ u, e = .returned u ∧ IsI w' w2 o.hn o.hs u) := fun w' hb => copied_any (hro w' hb) (by omega)
  have Hro : Hid (∀ w', Below B w w' → RdI w' o.ha o.hn o.hs) := hro
  have hwD : ¬ D.own w.heap.size := fun e => by have := z.du.d.ltOwn e; omega
  have hwR : ¬ R.own w.heap.size := fun e => by have := z.du.r.ltOwn e; omega
  have HhW := z.h.still hbW
  have hsW := hbW.size
  obtain ⟨ra, rc', hvr⟩ := own_sliceD z.h.rr
  have Hra : Hid (ra = none ∧ rc' = 0 ∨ ∃ g, ra = some ⟨g, 0, none⟩) := by
    rcases z.h.rr.2 with ⟨h1, h2⟩ | ⟨g, cap, cur, h1, _⟩
    · rw [hvr] at h1; simp only [Value.slice.injEq] at h1; exact .inl ⟨h1.1, h1.2.2⟩
    · rw [hvr] at h1; simp only [Value.slice.injEq] at h1; exact .inr ⟨g, h1.1⟩
  subst hvr
  have q3 : W.cell? ⟨hb, 3, none⟩ = some (.slice ra 0 rc') := blk_cell HhW.blk 3
  have Hrr : Hid (W.ownsRow B 3 1 (.slice ra 0 rc') 0 []) := HhW.rr
  have HoB : Hid ((Value.slice ra 0 rc').ownBlock ≠ some w.heap.size) := fun e => by have := (World.ownsRow.lt z.h.rr _ e).2; omega
  have Hrb : Hid ((Value.slice ra 0 rc').ownBlock ≠ some hb) := fun e => by obtain ⟨c5, hc5⟩ := own_typeT z.h.rr e; exact ty_ne z.h.blk hc5 (by decide) rfl
  unfold Opx.cs at hW ⊢
  clear z hblk hbW HhW hro y1 y2 y3
  go_enter Try.func29, Try.ntmps29
  go_wp2_with (fail)
  refine wp_region_held_drew (S := (fun w' => w'.cell? ⟨hb, 3, none⟩ = some (.slice ra 0 rc') ∧ w'.cell? ⟨w.heap.size, 4, none⟩ = some (.slice o.ha o.hn o.hc))) (by kernel_rfl) ⟨cell_drew q3, cell_drew y4⟩ (fun hHeld => ?_)
  simp only [Act.put, List.size_toArray, List.length_cons, List.length_nil, Nat.zero_add]
  refine wpAnyH_take (i := 0) (v := .pointer (some ⟨hb, 0, none⟩)) rfl (by kernel_rfl) (by kernel_rfl) (by kernel_rfl) (fun _ _ _ h => h) (Or.inl ⟨by rfl, fun w' hS => by go_simp⟩) hHeld ?_
  simp only [Act.put, List.getElem_toArray, List.getElem_cons_zero, List.getElem_cons_succ, List.setIfInBounds_toArray, List.set_cons_zero, List.set_cons_succ]
  refine wpAnyH_take (i := 1) (v := .pointer (some ⟨hb, 0, none⟩)) rfl (by kernel_rfl) (by kernel_rfl) (by kernel_rfl) (fun _ _ _ h => h) (Or.inl ⟨by rfl, fun w' hS => by go_simp⟩) hHeld ?_
  simp only [Act.put, List.getElem_toArray, List.getElem_cons_zero, List.getElem_cons_succ, List.setIfInBounds_toArray, List.set_cons_zero, List.set_cons_succ]
  refine wpAnyH_take (i := 2) (v := .pointer (some ⟨hb, 3, none⟩)) rfl (by kernel_rfl) (by kernel_rfl) (by kernel_rfl) (fun _ _ _ h => h) (Or.inl ⟨by rfl, fun w' hS => by go_simp⟩) hHeld ?_
  simp only [Act.put, List.getElem_toArray, List.getElem_cons_zero, List.getElem_cons_succ, List.setIfInBounds_toArray, List.set_cons_zero, List.set_cons_succ]
  refine wpAnyH_take (i := 3) (v := .slice ra 0 rc') rfl (by kernel_rfl) (by kernel_rfl) (by kernel_rfl) (fun _ _ _ h => h) (Or.inl ⟨by rfl, fun w' hS => by (obtain ⟨s0, s1⟩ := hS; go_simp)⟩) hHeld ?_
  simp only [Act.put, List.getElem_toArray, List.getElem_cons_zero, List.getElem_cons_succ, List.setIfInBounds_toArray, List.set_cons_zero, List.set_cons_succ]
  refine wpAnyH_take (i := 4) (v := .slice ra 0 rc') rfl (by kernel_rfl) (by kernel_rfl) (by kernel_rfl) (fun _ _ _ h => h) (Or.inl ⟨by rfl, fun w' hS => by (rcases Hra.out with ⟨rfl, rfl⟩ | ⟨g, rfl⟩ <;> go_simp)⟩) hHeld ?_
  simp only [Act.put, List.getElem_toArray, List.getElem_cons_zero, List.getElem_cons_succ, List.setIfInBounds_toArray, List.set_cons_zero, List.set_cons_succ]
  refine wpAnyH_take (i := 5) (v := .pointer (some ⟨w.heap.size, 4, none⟩)) rfl (by kernel_rfl) (by kernel_rfl) (by kernel_rfl) (fun _ _ _ h => h) (Or.inl ⟨by rfl, fun w' hS => by go_simp⟩) hHeld ?_
  simp only [Act.put, List.getElem_toArray, List.getElem_cons_zero, List.getElem_cons_succ, List.setIfInBounds_toArray, List.set_cons_zero, List.set_cons_succ]
  refine wpAnyH_take (i := 6) (v := .slice o.ha o.hn o.hc) rfl (by kernel_rfl) (by kernel_rfl) (by kernel_rfl) (fun _ _ _ h => h) (Or.inl ⟨by rfl, fun w' hS => by (obtain ⟨s0, s1⟩ := hS; go_simp)⟩) hHeld ?_
  simp only [Act.put, List.getElem_toArray, List.getElem_cons_zero, List.getElem_cons_succ, List.setIfInBounds_toArray, List.set_cons_zero, List.set_cons_succ]
  refine wpAnyH_ready (rs := [7]) (by kernel_rfl) (by simp) ?_
  refine AllReadyH.cons rfl (fun K0 hK => ?_) AllReadyH.nil
  refine step_app_rd (by rfl) _ _ (by rfl) (.slice ra 0 rc') (by rfl) (World.ownsRow.drew Hrr.out) o.ha o.hn o.hc o.hs (by rfl) (Hro.out _ LW.out.drew) (by omega) (by show B ≤ W.drew.heap.size; simp; omega) ?_
  intro a1 c1 wA hRo
  have HRo : Hid (Ro W wA B (.slice ra 0 rc') (.slice a1 o.hn c1) (o.hs ++ mk7 0)) := by
    rw [show o.hs ++ mk7 0 = o.hs by simp [mk7]]
    exact ⟨hRo.row, (Kept.ofBelow (Below.refl _ _).drew _).trans hRo.kp, fun g hg => (hRo.pl g hg).imp id (fun e => by simpa using e)⟩
  have q3A : wA.cell? ⟨w.heap.size, 4, none⟩ = some (.slice o.ha o.hn o.hc) := cell_keepX HRo.out.kp HoB.out y4
  refine hK.out _ _ ⟨cell_keepX HRo.out.kp Hrb.out q3, q3A⟩ (fun hHeld => ?_)
  clear hK K0 hRo
  refine wpAnyH_take (i := 8) (v := .slice a1 o.hn c1) rfl (by kernel_rfl) (by kernel_rfl) (by kernel_rfl) (fun _ _ _ h => h) (Or.inl ⟨by rfl, fun w' hS => by go_simp⟩) hHeld ?_
  simp only [Act.put, List.getElem_toArray, List.getElem_cons_zero, List.getElem_cons_succ, List.setIfInBounds_toArray, List.set_cons_zero, List.set_cons_succ]
  refine wpAnyH_done (by kernel_rfl) ?_ _
  clear hHeld q3 y4 q3A
  go_wp2_with (fail)
  go_loopw [9, 10] (fun v9 v10 wr => ∃ k : Nat, k ≤ 64 ∧ v10 = .int .i64 (k : Int) ∧ Hid (Ro W wr B (.slice ra 0 rc') v9 (o.hs ++ mk7 k))) (fun _ v10 _ => 64 - (intOf v10).toNat)
  case atStart => exact ⟨0, Nat.zero_le _, rfl, HRo.out⟩
  case round =>
  rename_i v9 v10
  obtain ⟨k, hk, rfl, HI⟩ := hrel
  clear HRo
  by_cases hlt : k < 64
  · have j2 : (k : Int) < 64 := by omega
    have hwk : IntKind.i64.wrap (-700 - (k : Int)) = -700 - (k : Int) := wrap_id (by omega) (by omega)
    have hll : (o.hs ++ mk7 k).length = o.hn + k := by rw [List.length_append, mk7_len, hxl]
    have hBr : B ≤ wr.heap.size := by have := HI.out.kp.size; omega
    go_wp2_with (first
      | (at_builtin; refine wpList_append_lies _ rfl _ _ 25 rfl B 3 i0 (.int .i64 0) 1 8 Try.underlying25 hi hz0 hz1 hz2 rfl (by omega) _ _ _ rfl (World.ownsRow.alloc HI.out.row _) _ 1 1 _ rfl rfl (World.news_of_block (heap_alloc_new _ _)) (by simp [Value.oneCell']) (by omega) (by unfold maxLen; omega) (by omega) (by simp; omega) _ rfl ?_; intro g3 cap3 w3 hown3 hgrow3 hat3 hlt3; have HI2 := HI.out.next rfl hown3 hgrow3 hat3; have HI3 : Hid (Ro W w3 B (.slice ra 0 rc') (.slice (some ⟨g3, 0, none⟩) (o.hn + k + 1) cap3) (o.hs ++ mk7 (k + 1))) := (by have e1 := HI2; rw [hll] at e1; rw [mk7_succ, ← List.append_assoc]; exact e1); clear hown3 hgrow3 hat3 hlt3 HI2)
      | fail)
    exact ⟨⟨k + 1, by omega, by go_num, HI3.out⟩, by simp [intOf]; omega⟩
  · obtain rfl : k = 64 := by omega
    have hll : (o.hs ++ mk7 64).length = o.hn + 64 := by rw [List.length_append, mk7_len, hxl]
    have hrow := HI.out.row
    rw [hll] at hrow
    obtain ⟨nn, hnn⟩ : ∃ nn, o.hn + 64 = nn := ⟨_, rfl⟩
    rw [hnn] at hrow
    obtain ⟨g3, cap3, hv9⟩ := own_some hrow (by omega)
    subst hv9
    obtain ⟨hcap, hcm⟩ : nn ≤ cap3 ∧ cap3 ≤ maxLen := by
      rcases hrow.2 with ⟨e1, e2⟩ | ⟨g', c', cur, hv, _, _, hc, hcm, _⟩
      · simp at e1
      · simp only [Value.slice.injEq] at hv; rw [hv.2.2]; exact ⟨hc, hcm⟩
    have Hcm : Hid (cap3 ≤ maxLen) := hcm
    have HRow : Hid (wr.ownsRow B 3 1 (.slice (some ⟨g3, 0, none⟩) nn cap3) nn (ints (o.hs ++ mk7 64))) := hrow
    have Hpl : Hid ((Value.slice ra 0 rc').ownBlock = some g3 ∨ W.heap.size ≤ g3) := HI.out.pl g3 rfl
    have HKp : Hid (Kept W wr (fun q => (Value.slice ra 0 rc').ownBlock = some q)) := HI.out.kp
    have hg3D : ¬ D.own g3 := fun h => by
      rcases Hpl.out with e | e
      · exact HZ.out.ap g3 (.inr (.inr (.inr (.inl e)))) (.inl h)
      · have := HZ.out.du.d.ltOwn h; omega
    have hg3R : ¬ R.own g3 := fun h => by
      rcases Hpl.out with e | e
      · exact HZ.out.ap g3 (.inr (.inr (.inr (.inl e)))) (.inr h)
      · have := HZ.out.du.r.ltOwn h; omega
    have HDu3 : Hid (Du D R wr B m) := by
      have d := HZ.out.du.still Hb.out
      exact ⟨d.d.keep HKp.out (fun j hj e => HZ.out.ap j (.inr (.inr (.inr (.inl e)))) (.inl hj)), d.r.keep HKp.out (fun j hj e => HZ.out.ap j (.inr (.inr (.inr (.inl e)))) (.inr hj)), d.ap, d.sim, d.len⟩
    have z1 := cell_keepX HKp.out HoB.out Y.out.1
    have z2 := cell_keepX HKp.out HoB.out Y.out.2.1
    have z3 := cell_keepX HKp.out HoB.out Y.out.2.2.1
    have z4 := cell_keepX HKp.out HoB.out Y.out.2.2.2
    have LW3 : Hid (Below B w wr) := LW.out.trans (HKp.out.below (by omega) (fun k hk e => by have := (World.ownsRow.lt Hrr.out k e).1; omega))
    have HHd := heard_any (c := cap3) HDu3.out.d (by omega) o.q o.inc o.t (rd_pre HRow.out hxl) (fun g' ⟨o', e⟩ ho => by simp only [Option.some.injEq, Addr.mk.injEq] at e; exact hg3D (e.1 ▸ ho))
    have hcn : o.hn ≤ cap3 := by omega
    clear hrow HI hcm hll hlt
    go_wp2_with (fail)
    refine HHd.mono ?_
    rintro e w5 ⟨rfl, s5⟩
    have S5 : Hid (Dtep wr w5 D (D.after o.q o.inc o.t o.hs) B (m + 1)) := s5
    have LW5 : Hid (Below B w w5) := LW3.out.trans (s5.low (HDu3.out.d.mono (Nat.le_succ _) (by omega)) HDu3.out.hB)
    have v1 := cell_keep s5.kept hwD z1
    have v2 := cell_keep s5.kept hwD z2
    have v3 := cell_keep s5.kept hwD z3
    have v4 := cell_keep s5.kept hwD z4
    have hR5 : R.Ok w5 B := HDu3.out.r.keep s5.kept (fun j hj e => HDu3.out.ap j e hj)
    have HRh : Hid (∀ w', Below w5.heap.size w5 w' → ∀ g, w5.heap.size ≤ g → BlkI w' g o.hs → Calls Try.prog 42 #[.pointer (some ⟨R.b, 0, none⟩), .int .i64 o.q, .int .i64 o.inc, .agg #[.int .i64 o.t, .slice (some ⟨g, 0, none⟩) o.hn o.hn]] w' fun e w2 => e = .returned (.int .i64 (R.herr o.q o.inc o.t o.hs)) ∧ ∃ R', Rtep w' w2 R R' B ∧ ((R.herr o.q o.inc o.t o.hs ≠ 0 ∧ R' = R) ∨ (R.herr o.q o.inc o.t o.hs = 0 ∧ ∃ g cc, R' = R.push ⟨2, o.q, o.inc, o.t, decide (o.hs.getD R.s 0 = R.inc)⟩ g cc))) := fun w' hb g hg hk2 => rheard_any (hR5.still hb) (by have := HDu3.out.len; omega) o.q o.inc o.t (hk2.rd hxl) (fun g' ⟨o', e⟩ ho => by
      have := hR5.ltOwn ho
      simp only [Option.some.injEq, Addr.mk.injEq] at e
      omega)
    have hherr := HDu3.out.sim.herr o.q o.inc o.t o.hs
    rw [hherr]
    clear s5 hR5 HHd z1 z2 z3 z4
    go_wp2_with (fail)
    refine wp_region_held_drew (S := (fun w' => w'.cell? ⟨w.heap.size, 1, none⟩ = some (.int .i64 o.q) ∧ w'.cell? ⟨w.heap.size, 2, none⟩ = some (.int .i64 o.inc) ∧ w'.cell? ⟨w.heap.size, 3, none⟩ = some (.int .i64 o.t) ∧ w'.cell? ⟨w.heap.size, 4, none⟩ = some (.slice o.ha o.hn o.hc))) (by kernel_rfl) ⟨cell_drew v1, cell_drew v2, cell_drew v3, cell_drew v4⟩ (fun hHeld => ?_)
    simp only [Act.put, List.size_toArray, List.length_cons, List.length_nil, Nat.zero_add]
    refine wpAnyH_take (i := 0) (v := .pointer (some ⟨R.b, 0, none⟩)) rfl (by kernel_rfl) (by kernel_rfl) (by kernel_rfl) (fun _ _ _ h => h) (Or.inl ⟨by rfl, fun w' hS => by go_simp⟩) hHeld ?_
    simp only [Act.put, List.getElem_toArray, List.getElem_cons_zero, List.getElem_cons_succ, List.setIfInBounds_toArray, List.set_cons_zero, List.set_cons_succ]
    refine wpAnyH_take (i := 1) (v := .pointer (some ⟨w.heap.size, 1, none⟩)) rfl (by kernel_rfl) (by kernel_rfl) (by kernel_rfl) (fun _ _ _ h => h) (Or.inl ⟨by rfl, fun w' hS => by go_simp⟩) hHeld ?_
    simp only [Act.put, List.getElem_toArray, List.getElem_cons_zero, List.getElem_cons_succ, List.setIfInBounds_toArray, List.set_cons_zero, List.set_cons_succ]
    refine wpAnyH_take (i := 2) (v := .int .i64 o.q) rfl (by kernel_rfl) (by kernel_rfl) (by kernel_rfl) (fun _ _ _ h => h) (Or.inl ⟨by rfl, fun w' hS => by (obtain ⟨s0, s1, s2, s3⟩ := hS; go_simp)⟩) hHeld ?_
    simp only [Act.put, List.getElem_toArray, List.getElem_cons_zero, List.getElem_cons_succ, List.setIfInBounds_toArray, List.set_cons_zero, List.set_cons_succ]
    refine wpAnyH_take (i := 3) (v := .pointer (some ⟨w.heap.size, 2, none⟩)) rfl (by kernel_rfl) (by kernel_rfl) (by kernel_rfl) (fun _ _ _ h => h) (Or.inl ⟨by rfl, fun w' hS => by go_simp⟩) hHeld ?_
    simp only [Act.put, List.getElem_toArray, List.getElem_cons_zero, List.getElem_cons_succ, List.setIfInBounds_toArray, List.set_cons_zero, List.set_cons_succ]
    refine wpAnyH_take (i := 4) (v := .int .i64 o.inc) rfl (by kernel_rfl) (by kernel_rfl) (by kernel_rfl) (fun _ _ _ h => h) (Or.inl ⟨by rfl, fun w' hS => by (obtain ⟨s0, s1, s2, s3⟩ := hS; go_simp)⟩) hHeld ?_
    simp only [Act.put, List.getElem_toArray, List.getElem_cons_zero, List.getElem_cons_succ, List.setIfInBounds_toArray, List.set_cons_zero, List.set_cons_succ]
    refine wpAnyH_take (i := 5) (v := .pointer (some ⟨w.heap.size, 3, none⟩)) rfl (by kernel_rfl) (by kernel_rfl) (by kernel_rfl) (fun _ _ _ h => h) (Or.inl ⟨by rfl, fun w' hS => by go_simp⟩) hHeld ?_
    simp only [Act.put, List.getElem_toArray, List.getElem_cons_zero, List.getElem_cons_succ, List.setIfInBounds_toArray, List.set_cons_zero, List.set_cons_succ]
    refine wpAnyH_take (i := 6) (v := .int .i64 o.t) rfl (by kernel_rfl) (by kernel_rfl) (by kernel_rfl) (fun _ _ _ h => h) (Or.inl ⟨by rfl, fun w' hS => by (obtain ⟨s0, s1, s2, s3⟩ := hS; go_simp)⟩) hHeld ?_
    simp only [Act.put, List.getElem_toArray, List.getElem_cons_zero, List.getElem_cons_succ, List.setIfInBounds_toArray, List.set_cons_zero, List.set_cons_succ]
    refine wpAnyH_take (i := 7) (v := .pointer (some ⟨w.heap.size, 4, none⟩)) rfl (by kernel_rfl) (by kernel_rfl) (by kernel_rfl) (fun _ _ _ h => h) (Or.inl ⟨by rfl, fun w' hS => by go_simp⟩) hHeld ?_
    simp only [Act.put, List.getElem_toArray, List.getElem_cons_zero, List.getElem_cons_succ, List.setIfInBounds_toArray, List.set_cons_zero, List.set_cons_succ]
    refine wpAnyH_take (i := 8) (v := .slice o.ha o.hn o.hc) rfl (by kernel_rfl) (by kernel_rfl) (by kernel_rfl) (fun _ _ _ h => h) (Or.inl ⟨by rfl, fun w' hS => by (obtain ⟨s0, s1, s2, s3⟩ := hS; go_simp)⟩) hHeld ?_
    simp only [Act.put, List.getElem_toArray, List.getElem_cons_zero, List.getElem_cons_succ, List.setIfInBounds_toArray, List.set_cons_zero, List.set_cons_succ]
    refine wpAnyH_ready (rs := [9]) (by kernel_rfl) (by simp) ?_
    refine AllReadyH.cons rfl (fun K hK => ?_) AllReadyH.nil
    go_simp
    refine (HCo.out _ LW5.out.drew).mono ?_
    rintro e w6 ⟨u, rfl, g6, rfl, hg6, hB6, hb6⟩
    have B6 : Below w5.heap.size w5 w6 := bstep (Below.refl _ _).drew hb6
    refine hK.out _ _ ⟨below_at B6 v1, below_at B6 v2, below_at B6 v3, below_at B6 v4⟩ (fun hHeld => ?_)
    clear hK K
    refine wpAnyH_take (i := 10) (v := .agg #[.int .i64 o.t, .slice (some ⟨g6, 0, none⟩) o.hn o.hn]) rfl (by kernel_rfl) (by kernel_rfl) (by kernel_rfl) (fun _ _ _ h => h) (Or.inl ⟨by rfl, fun w' hS => by go_simp⟩) hHeld ?_
    simp only [Act.put, List.getElem_toArray, List.getElem_cons_zero, List.getElem_cons_succ, List.setIfInBounds_toArray, List.set_cons_zero, List.set_cons_succ]
    refine wpAnyH_ready (rs := [11]) (by kernel_rfl) (by simp) ?_
    refine AllReadyH.cons rfl (fun K hK => ?_) AllReadyH.nil
    go_simp
    refine (HRh.out w6 B6 g6 (Nat.le_trans (by simp) hg6) hB6).mono ?_
    rintro e w7 ⟨rfl, R2, hrt, hds⟩
    refine hK.out _ _ ⟨cell_keep hrt.kept hwR (below_at B6 v1), cell_keep hrt.kept hwR (below_at B6 v2), cell_keep hrt.kept hwR (below_at B6 v3), cell_keep hrt.kept hwR (below_at B6 v4)⟩ (fun hHeld => ?_)
    clear hK K
    refine wpAnyH_take (i := 12) (v := .int .i64 (R.herr o.q o.inc o.t o.hs)) rfl (by kernel_rfl) (by kernel_rfl) (by kernel_rfl) (fun _ _ _ h => h) (Or.inl ⟨by rfl, fun w' hS => by go_simp⟩) hHeld ?_
    simp only [Act.put, List.getElem_toArray, List.getElem_cons_zero, List.getElem_cons_succ, List.setIfInBounds_toArray, List.set_cons_zero, List.set_cons_succ]
    refine wpAnyH_done (by kernel_rfl) ?_ _
    clear hHeld
    have hQ : Dq wr w7 D (D.after o.q o.inc o.t o.hs) R R2 B (m + 1) := by
      refine HDu3.out.go S5.out B6 hrt ?_ ?_ (after_b _ _ _ _ _) ?_
      · rcases hds with ⟨hne, rfl⟩ | ⟨he, g, cc, rfl⟩
        · have : D.after o.q o.inc o.t o.hs = D := by unfold De.after; rw [hherr, if_neg hne]
          rw [this]
          exact HDu3.out.sim
        · exact HDu3.out.sim.heard HDu3.out.d o.q o.inc o.t o.hs he g cc
      · rcases hds with ⟨hne, rfl⟩ | ⟨he, g, cc, rfl⟩
        · have := HDu3.out.len; omega
        · show (R.all ++ [_]).length ≤ m + 1; have := HDu3.out.len; simp; omega
      · rcases hds with ⟨hne, rfl⟩ | ⟨he, g, cc, rfl⟩ <;> rfl
    have HQ : Hid (Dq wr w7 D (D.after o.q o.inc o.t o.hs) R R2 B (m + 1)) := hQ
    have LW7 : Hid (Below B w w7) := LW3.out.trans (hQ.lowB HDu3.out)
    have n4 := cell_keep hrt.kept hwR (below_at B6 v4)
    have HRow7 : Hid (w7.ownsRow B 3 1 (.slice (some ⟨g3, 0, none⟩) nn cap3) nn (ints (o.hs ++ mk7 64))) := hQ.kept.owns HRow.out (fun j hj e => by
      simp only [Value.ownBlock, Option.some.injEq] at hj
      subst hj
      exact e.elim hg3D hg3R)
    have HSm := same_any (c1 := cap3) (c2 := o.hc) (rd_pre HRow7.out hxl) (Hro.out w7 LW7.out) (by omega)
    have hR2o : Hid (¬ (D.after o.q o.inc o.t o.hs).own g3 ∧ ¬ R2.own g3) := ⟨fun e => hg3D ((S5.out.own g3).1 e), fun e => (hrt.own g3 e).elim hg3R (fun e2 => by have := (World.ownsRow.lt HRow.out g3 rfl).2; have := S5.out.kept.size; have := B6.size; omega)⟩
    generalize R.herr o.q o.inc o.t o.hs = er at *
    generalize D.after o.q o.inc o.t o.hs = D2 at *
    clear hQ hds hrt hb6 hB6 hg6 B6 v1 v2 v3 v4 HRh hherr
    go_wp2_with (fail)
    refine HSm.mono ?_
    rintro e w8 ⟨rfl, hb8⟩
    have HRow8 : Hid (w8.ownsRow B 3 1 (.slice (some ⟨g3, 0, none⟩) nn cap3) nn (ints (o.hs ++ mk7 64))) := own_still HRow7.out hb8
    have HQ8 : Hid (Dq wr w8 D D2 R R2 B (m + 1)) := HQ.out.post hb8
    clear hb8 n4 HSm
    go_wp2_with (first | (go_at_call 21; refine (num_any _).mono ?_; rintro e w9 ⟨rfl, rfl⟩) | fail)
    obtain ⟨wL, hwL⟩ : ∃ w0, w0 = wr := ⟨_, rfl⟩
    rw [← hwL] at HQ8 HKp LW3 HDu3
    clear HRow7 HQ S5 HRow LW5 LW7 hwL
    go_loopw [14, 15] (fun v14 v15 wr => ∃ k : Nat, k ≤ 64 ∧ v14 = .bool true ∧ v15 = .int .i64 (k : Int) ∧ Below w8.heap.size w8 wr) (fun _ v15 _ => 64 - (intOf v15).toNat)
    case atStart => exact ⟨0, Nat.zero_le _, rfl, rfl, Below.refl _ _⟩
    case round =>
    obtain ⟨k, hk, rfl, rfl, hbl⟩ := hrel
    by_cases hlt : k < 64
    · have j2 : (k : Int) < 64 := by omega
      obtain ⟨p, hp⟩ : ∃ p, o.hn + k = p := ⟨_, rfl⟩
      have hwp : IntKind.i64.wrap ((o.hn : Int) + (k : Int)) = (p : Int) := by rw [wrap_id (by omega) (by omega)]; omega
      have hwk : IntKind.i64.wrap (-700 - (k : Int)) = -700 - (k : Int) := wrap_id (by omega) (by omega)
      have i1 : (0 : Int) ≤ (p : Int) := Int.natCast_nonneg _
      have i2 : (p : Int) < (nn : Int) := by omega
      have c0 : wr.cell? ⟨g3, p, none⟩ = some (.int .i64 (-700 - (k : Int))) := by
        have := rd_post (own_still HRow8.out hbl) (k := k) (p := p) (by rw [mk7_len]; exact hlt) (by omega)
        rw [mk7_get hlt] at this
        exact this
      have HB : Hid (Below w8.heap.size w8 wr) := hbl
      clear hbl
      go_wp2_with (fail)
      exact ⟨⟨k + 1, by omega, rfl, by go_num, HB.out⟩, by simp [intOf]; omega⟩
    · obtain rfl : k = 64 := by omega
      have HRow9 : Hid (∃ cs : Array Value, wr.heap[g3]? = some (.cells cs 3 (0, 0)) ∧ cs.size = cap3) := by
        rcases (own_still HRow8.out hbl).2 with ⟨e1, e2⟩ | ⟨g', c', cur, hv, _, hg, hc, hcm, hcs, _⟩
        · simp at e1
        · simp only [Value.slice.injEq, Option.some.injEq, Addr.mk.injEq, and_true, true_and] at hv
          obtain ⟨rfl, rfl⟩ := hv
          exact ⟨cur, hg, by omega⟩
      obtain ⟨wM, hwM⟩ : ∃ w0, w0 = wr := ⟨_, rfl⟩
      have HQ9 : Hid (Dq wL wM D D2 R R2 B (m + 1)) := by rw [hwM]; exact HQ8.out.post hbl
      have HgB : Hid (B ≤ g3) := (World.ownsRow.lt HRow8.out g3 rfl).1
      rw [← hwM] at HRow9 ⊢
      clear HQ8 HRow8 hbl hlt hwM
      go_wp2_with (fail)
      go_loopw [16] (fun v16 wr => ∃ k : Nat, k ≤ nn ∧ v16 = .int .i64 (k : Int) ∧ (∃ cs : Array Value, wr.heap[g3]? = some (.cells cs 3 (0, 0)) ∧ cs.size = cap3) ∧ Kept wM wr (fun j => j = g3)) (fun v16 _ => nn - (intOf v16).toNat)
      case atStart => exact ⟨0, Nat.zero_le _, rfl, HRow9.out, Kept.refl _ _⟩
      case round =>
      obtain ⟨k, hk2, rfl, ⟨cs, hcs2, hcz⟩, hkp⟩ := hrel
      by_cases hlt : k < nn
      · have j1 : (0 : Int) ≤ (k : Int) := Int.natCast_nonneg _
        have j2 : (k : Int) < (nn : Int) := by omega
        have c0 : wr.cell? ⟨g3, k, none⟩ = some cs[k] := by rw [blk_cell hcs2 k]; exact Array.getElem?_eq_getElem (by omega)
        have c1 := frozen_of_row wr _ k _ _ hcs2
        have Hn : Hid ((∃ cs' : Array Value, (wr.setCell ⟨g3, k, none⟩ (.int .i64 (-7))).heap[g3]? = some (.cells cs' 3 (0, 0)) ∧ cs'.size = cap3) ∧ Kept wM (wr.setCell ⟨g3, k, none⟩ (.int .i64 (-7))) (fun j => j = g3)) := ⟨⟨_, blkset hcs2, by simpa using hcz⟩, hkp.trans (kset _ _ _ _ rfl)⟩
        generalize cs[k] = cv at c0
        clear hcs2 hkp
        go_wp2_with (fail)
        exact ⟨⟨k + 1, by omega, by go_num, Hn.out.1, Hn.out.2⟩, by simp [intOf]; omega⟩
      · have j2 : ¬ (k : Int) < (nn : Int) := by omega
        have hkL : Kept W wM (fun j => (D.own j ∨ R.own j) ∨ (Value.slice ra 0 rc').ownBlock = some j) := (HKp.out.mono (fun j _ e => .inr e)).step HQ9.out.kept (fun j e => .inl (.inl e))
        have hkM : Kept W wr (fun j => (D.own j ∨ R.own j) ∨ (Value.slice ra 0 rc').ownBlock = some j) := hkL.step hkp (fun j e => by rw [e]; exact Hpl.out.imp .inr id)
        have HkM : Hid (Kept W wr (fun j => (D.own j ∨ R.own j) ∨ (Value.slice ra 0 rc').ownBlock = some j)) := hkM
        have Hb9 : Hid (wr.heap[hb]? = some (.cells #[vg, vw, .slice none 0 0, .slice ra 0 rc'] 55 (0, 0))) := hkM.obj (HZ.out.h.still Hb.out).blk (fun e => e.elim (HZ.out.ap hb (.inl rfl)) Hrb.out)
        have Hr9 : Hid (wr.ownsRow B 3 1 (.slice (some ⟨g3, 0, none⟩) 0 cap3) 0 []) := ⟨by simp, .inr ⟨g3, cap3, cs, rfl, HgB.out, hcs2, Nat.zero_le _, Hcm.out, by omega, by simp⟩⟩
        have Hkp : Hid (Kept wM wr (fun j => j = g3)) := hkp
        have t3 : wr.cell? ⟨hb, 3, none⟩ = some (.slice ra 0 rc') := blk_cell Hb9.out 3
        have f3 := frozen_of_row wr hb 3 _ _ Hb9.out
        have Hg3b : Hid (g3 ≠ hb) := fun e => ty_ne hcs2 Hb9.out (by decide) e
        clear hkL hkM hkp hcs2
        go_wp2_with (fail)
        go_ret
        have k10 := kset (P := fun j => j = hb) wr hb 3 (.slice (some ⟨g3, 0, none⟩) 0 cap3) rfl
        have kk : Kept w _ (fun j => (D.own j ∨ R.own j) ∨ j = hb ∨ (Value.slice ra 0 rc').ownBlock = some j) := (((Kept.ofBelow Hb.out _).trans (HkM.out.mono (fun j _ e => e.imp id .inr)))).step k10 (fun j e => .inl (.inr (.inl e)))
        have hsz3 := HKp.out.size
        have q8 := HQ9.out
        have hold : ∀ j, j < w.heap.size → (D2.own j ∨ R2.own j) → D.own j ∨ R.own j := fun j hj e => by
          rcases q8.own j e with e | e | e
          · exact .inl e
          · exact .inr e
          · omega
        have hhb : ¬ (D2.own hb ∨ R2.own hb) := fun e => HZ.out.ap hb (.inl rfl) (hold hb (HZ.out.h.lt (.inl rfl)) e)
        have k9 : Kept wM _ (fun j => j = g3 ∨ j = hb) := (Hkp.out.mono (fun j _ e => .inl e)).step k10 (fun j e => .inl (.inr e))
        refine ⟨rfl, D2, R2, vg, vw, .slice (some ⟨g3, 0, none⟩) 0 cap3, E, K, X, ⟨?_, ⟨q8.du.d.keep k9 (fun j hj e => ?_), q8.du.r.keep k9 (fun j hj e => ?_), q8.du.ap, q8.du.sim, q8.du.len⟩, fun j hj e => ?_⟩, kk.mono (fun j _ e => ?_), fun j hj => ?_, Nat.le_refl _, q8.db, q8.rb⟩
        · exact HZ.out.h.room kk (fun j hj e => e.elim (fun e => absurd e (HZ.out.ap j hj)) id) (blk_set Hb9.out rfl) (k10.owns Hr9.out (fun j hj e => by simp only [Value.ownBlock, Option.some.injEq] at hj; exact Hg3b.out (hj.trans e))) (fun g hg => by
            simp only [Value.ownBlock, Option.some.injEq] at hg
            subst hg
            exact Hpl.out.imp id (fun e => by omega))
        · exact e.elim (fun e => hR2o.out.1 (e ▸ hj)) (fun e => hhb (.inl (e ▸ hj)))
        · exact e.elim (fun e => hR2o.out.2 (e ▸ hj)) (fun e => hhb (.inr (e ▸ hj)))
        · have old : hown hb vg vw (.slice ra 0 rc') E K j → False := fun h => HZ.out.ap j h (hold j (HZ.out.h.lt h) e)
          rcases hj with hj | hj | hj | hj | hj | hj
          · exact old (.inl hj)
          · exact old (.inr (.inl hj))
          · exact old (.inr (.inr (.inl hj)))
          · simp only [Value.ownBlock, Option.some.injEq] at hj
            subst hj
            exact e.elim hR2o.out.1 hR2o.out.2
          · exact old (.inr (.inr (.inr (.inr (.inl hj)))))
          · exact old (.inr (.inr (.inr (.inr (.inr hj)))))
        · rcases e with (e | e) | e | e
          · exact .inl e
          · exact .inr (.inl e)
          · exact .inr (.inr (.inl e))
          · exact .inr (.inr (.inr (.inr (.inr (.inl e)))))
        · have hD : D2.own j ∨ R2.own j → D.own j ∨ R.own j ∨ hown hb vg vw (.slice ra 0 rc') E K j ∨ w.heap.size ≤ j := fun e => by
            rcases q8.own j e with e | e | e
            · exact .inl e
            · exact .inr (.inl e)
            · exact .inr (.inr (.inr (by omega)))
          have old : hown hb vg vw (.slice ra 0 rc') E K j → D.own j ∨ R.own j ∨ hown hb vg vw (.slice ra 0 rc') E K j ∨ w.heap.size ≤ j := fun h => .inr (.inr (.inl h))
          rcases hj with hj | hj | hj | hj | hj | hj | hj | hj
          · exact hD (.inl hj)
          · exact hD (.inr hj)
          · exact old (.inl hj)
          · exact old (.inr (.inl hj))
          · exact old (.inr (.inr (.inl hj)))
          · simp only [Value.ownBlock, Option.some.injEq] at hj
            subst hj
            rcases Hpl.out with e | e
            · exact old (.inr (.inr (.inr (.inl e))))
            · exact .inr (.inr (.inr (by omega)))
          · exact old (.inr (.inr (.inr (.inr (.inl hj)))))
          · exact old (.inr (.inr (.inr (.inr (.inr hj)))))
end
end
end Go.Proofs.Ytfbollifegngjaa.Dt
