import Derived.Test.YtjnbkkmagceggaaXc
namespace Go.Proofs.Ytjnbkkmagceggaa.Dt
open Go.RowKit
set_option linter.unusedVariables false
set_option maxRecDepth 100000
set_option linter.unusedSimpArgs false
section
variable {D D' : De} {w w' W V : World} {B m : Nat}
set_option maxHeartbeats 8000000 in
theorem replay_ok (n s : Nat) (inc base step lim : Int) (oa : Option Addr) (on oc : Nat) (os : Nat → Opx) (hro : RdOps w oa on os) (hok : newOk n s inc base step lim = true) : Calls Try.prog 6 #[.agg (rc n s inc base step lim oa on oc)] w fun e w' => e = .returned (.bool true) ∧ Below w.heap.size w w' := by
  obtain ⟨i0, hi, hz0, hz1, hz2⟩ := info_parts info_op
  generalize hW : w.alloc (.cells (rc n s inc base step lim oa on oc) 31) = W
  have hbW : Below w.heap.size w W := by rw [← hW]; exact balloc (Below.refl _ w)
  have hblk : W.heap[w.heap.size]? = some (.cells (rc n s inc base step lim oa on oc) 31 (0, 0)) := by rw [← hW]; exact heap_alloc_new w _
  have hrB := lt_heap hblk
  obtain ⟨c0, c1, c2, c3, c4, c5, c6⟩ := run_cells hblk
  have hk := hok
  unfold newOk at hk
  simp only [Bool.and_eq_true] at hk
  obtain ⟨b1, b2, b3, b4, b5, b6⟩ := hk
  have a1 := of_decide_eq_true b1
  have a2 := of_decide_eq_true b2
  have a3 := of_decide_eq_true b3
  have hsn : s < n := by omega
  have hn16 : n ≤ 16 := by omega
  have ha3 : 0 ≤ inc ∧ inc ≤ 4611686018427387904 := by omega
  have HB : Hid (∀ w1, Calls Try.prog 9 #[.agg (rc n s inc base step lim none 0 0)] w1 fun e w' => ∃ D : De, e = .returned (.tuple #[.pointer (some ⟨D.b, 0, none⟩), .bool true]) ∧ Below w1.heap.size w1 w' ∧ D.Ok w' w1.heap.size 0 ∧ D.n = n ∧ D.self = s ∧ D.inc = inc ∧ D.step = step ∧ D.limit = lim ∧ D.left = false ∧ D.tick = 0 ∧ D.pe = fun _ => pe0 base) := fun w1 => began_new n s inc base step lim none 0 hok
  have HH : Hid (∀ w1, Calls Try.prog 20 #[.int .i64 n, .int .i64 (s : Int), .int .i64 inc] w1 fun e w' => ∃ u, e = .returned u ∧ IsI w1 w' n (heaI n s inc) u) := fun w1 => hearsL_any n s inc hn16 hsn
  have HRC0 : Hid (RC W w.heap.size n s inc oa on oc) := ⟨c0, c1, c2, c6⟩
  have Hro : Hid (RdOps w oa on os) := hro
  have Hb : Hid (Below w.heap.size w W) := hbW
  unfold rc at hW HB ⊢
  clear hbW hblk hok hro b1 b2 b3 b4 b5 b6 a1 a2 a3
  go_enter Try.func6, Try.ntmps6
  go_wp2_with (fail)
  refine (HB.out _).mono ?_
  rintro e w1 ⟨D, rfl, hb1, hD, ln, ls, li, lst, ll, lft, ltk, lpe⟩
  have HR0 : Hid (Rp w1 w1 W.heap.size n s inc step lim D.b 0 (.slice none 0 0) D []) := ⟨hD, ⟨ln, ls, li, lst, ll, lft, rfl⟩, fun g hg => hD.ltOwn hg, ⟨by simp [opCells], .inl ⟨rfl, rfl⟩⟩, Nat.le_refl _, by simp, Below.refl _ _, hb1.size⟩
  have HRC : Hid (RC w1 w.heap.size n s inc oa on oc) := HRC0.out.to hb1 hrB
  have Hb1 : Hid (Below w.heap.size w w1) := bstep Hb.out hb1
  generalize W.heap.size = B at *
  generalize D.b = b at *
  clear hb1 hD ln ls li lst ll lft ltk lpe HRC0 HB hW c0 c1 c2 c3 c4 c5 c6 Hb
  go_wp2
  go_loopw [5, 6] (fun v5 v6 wr => ∃ (k : Nat) (Dk : De) (ks : List Opx), k ≤ on ∧ k ≤ 100 ∧ v6 = .int .i64 k ∧ Rp w1 wr B n s inc step lim b k v5 Dk ks) (fun _ v6 _ => 101 - (intOf v6).toNat)
  case atStart => exact ⟨0, D, [], Nat.zero_le _, Nat.zero_le _, rfl, HR0.out⟩
  case round =>
    clear HR0
    obtain ⟨k, Dk, ks, hk1, hk2, rfl, hR⟩ := hrel
    obtain ⟨a5, c5, hv⟩ := hR.slice
    obtain ⟨L5, hL5⟩ : ∃ L, ks.length = L := ⟨_, rfl⟩
    rw [hL5] at hv
    subst hv
    have HL5 : Hid (ks.length = L5) := hL5
    clear hL5
    obtain ⟨f0, f1, f2, f6⟩ := HRC.out.to hR.lo hrB
    have Hlw : Hid (Below w.heap.size w wr) := Hb1.out.trans (hR.lo.mono (by omega))
    by_cases hlt : k < on
    · by_cases h100 : k < 100
      · obtain ⟨ob, off, hoa, x0, x1, x2, x3, x4⟩ := Hro.out.at Hlw.out hlt
        generalize os k = o at x0 x1 x2 x3 x4
        have hsz1 := hR.sz
        have hln := hR.len
        have hown : ∀ g, Dk.own g → g < w1.heap.size ∧ B ≤ g := fun g hg => ⟨hR.own g hg, hR.ok.geOwn hg⟩
        have i1 : (0 : Int) ≤ (k : Int) := Int.natCast_nonneg _
        have i2 : (k : Int) < (on : Int) := by omega
        have i3 : (k : Int) < 100 := by omega
        generalize hX : wr.alloc (.cells o.cs 61) = X
        have hbX : Below wr.heap.size wr X := by rw [← hX]; exact balloc (Below.refl _ wr)
        have hkX : X.heap[wr.heap.size]? = some (.cells o.cs 61 (0, 0)) := by rw [← hX]; exact heap_alloc_new wr _
        have hwX := lt_heap hkX
        have y0 : X.cell? ⟨wr.heap.size, 0, none⟩ = some (.int .i64 o.k) := blk_cell hkX 0
        have y1 : X.cell? ⟨wr.heap.size, 1, none⟩ = some (.int .i64 o.q) := blk_cell hkX 1
        have y2 : X.cell? ⟨wr.heap.size, 2, none⟩ = some (.int .i64 o.inc) := blk_cell hkX 2
        have y3 : X.cell? ⟨wr.heap.size, 3, none⟩ = some (.int .i64 o.t) := blk_cell hkX 3
        have y4 : X.cell? ⟨wr.heap.size, 4, none⟩ = some (.slice o.ha o.hn o.hc) := blk_cell hkX 4
        have HRX : Hid (Rp w1 X B n s inc step lim b k (.slice a5 L5 c5) Dk ks) := hR.still hbX
        unfold Opx.cs at hX
        rw [hoa] at f6
        clear hR hkX hoa
        by_cases h1 : o.k = 1
        · have HTk : Hid (Calls Try.prog 10 #[.pointer (some ⟨b, 0, none⟩)] X fun e w' => e = .returned (.tuple #[]) ∧ Dtep X w' Dk Dk.ticked B k) := by
            have := tick_any HRX.out.ok
            rw [HRX.out.lk.b] at this
            exact this
          rw [h1] at x0 y0 hX
          go_wp2_with (fail)
          refine HTk.out.mono ?_
          rintro e w3 ⟨rfl, T3⟩
          have y0' := cell_keep T3.kept (fun e => by have := (hown _ e).1; omega) y0
          have HR : Hid (Rp w1 w3 B n s inc step lim b (k + 1) (.slice a5 L5 c5) Dk.ticked ks) := HRX.out.tick (by omega) T3
          clear T3 HTk f0 f1 f2 f6 x0 x1 x2 x3 x4 y0 y1 y2 y3 y4 HRX hX
          obtain ⟨Y, hY⟩ : ∃ Y, (Dk.ticked).asked = Y := ⟨_, rfl⟩
          have HAs : Hid (∀ w', Below w3.heap.size w3 w' → Calls Try.prog 29 #[.pointer (some ⟨b, 0, none⟩), .int .i64 n] w' fun e w2 => ∃ a n c, e = .returned (.slice a n c) ∧ RdI w2 a n Y ∧ n ≤ 1000 ∧ Below w'.heap.size w' w2) := fun w' hb => by have := (HR.out.still hb).asked; rw [hY] at this; exact this
          obtain ⟨g0, g1, g2, g6⟩ := HRC.out.to HR.out.lo hrB
          clear hY
          go_wp2_with (first | (go_at_call 21; refine (num_any _).mono ?_; rintro e wn ⟨rfl, rfl⟩) | fail)
          refine (HAs.out _ (Below.refl _ _)).mono ?_
          rintro e w6 ⟨a6, n6, c6, rfl, r6, m6, hb6⟩
          have R6 : Hid (RdI w6 a6 n6 Y) := r6
          have B6 : Hid (Below w3.heap.size w3 w6) := hb6
          clear r6 hb6 g0 g1 g2 g6
          go_wp2
          go_loopw [11] (fun v11 wq => ∃ (j : Nat), j ≤ (ks).length ∧ v11 = .int .i64 (j : Int) ∧ Below w6.heap.size w6 wq) (fun v11 _ => (ks).length - (intOf v11).toNat)
          case atStart => exact ⟨0, Nat.zero_le _, rfl, Below.refl _ _⟩
          case round =>
            obtain ⟨j, hj, rfl, hbz⟩ := hrel
            have hRz := HR.out.still (bstep B6.out hbz)
            obtain ⟨g0, g1, g2, g6⟩ := HRC.out.to hRz.lo hrB
            have HBz : Hid (Below w6.heap.size w6 wr) := hbz
            have HRz : Hid (Rp w1 wr B n s inc step lim b (k + 1) (.slice a5 L5 c5) (Dk.ticked) (ks)) := hRz
            clear hbz
            by_cases hlt1 : j < (ks).length
            · obtain ⟨g5, c5', hv5, z0, z1, z2, z3, z4⟩ := hRz.row.at hlt1
              have hK := hRz.all ((ks).getD j o0) (by simp [List.getD, hlt1])
              generalize (ks).getD j o0 = o1 at z0 z1 z2 z3 z4 hK
              generalize hZ : wr.alloc (.cells o1.cs 61) = Z
              have hbZ : Below wr.heap.size wr Z := by rw [← hZ]; exact balloc (Below.refl _ wr)
              have hkZ : Z.heap[wr.heap.size]? = some (.cells o1.cs 61 (0, 0)) := by rw [← hZ]; exact heap_alloc_new wr _
              obtain ⟨zz, hzz⟩ : ∃ z, wr.heap.size = z := ⟨_, rfl⟩
              rw [hzz] at hkZ
              have p1 : Z.cell? ⟨zz, 1, none⟩ = some (.int .i64 o1.q) := blk_cell hkZ 1
              have p2 : Z.cell? ⟨zz, 2, none⟩ = some (.int .i64 o1.inc) := blk_cell hkZ 2
              have p3 : Z.cell? ⟨zz, 3, none⟩ = some (.int .i64 o1.t) := blk_cell hkZ 3
              have HbZ : Hid (Below wr.heap.size wr Z) := hbZ
              have HSt : Hid (∀ w', Below Z.heap.size Z w' → ∀ g, BlkI w' g (heaI n s inc) → Calls Try.prog 15 #[.pointer (some ⟨b, 0, none⟩), .int .i64 o1.q, .int .i64 o1.inc, .agg #[.int .i64 (posI o1.t 50), .slice (some ⟨g, 0, none⟩) n n]] w' fun e w2 => ∃ c : Int, e = .returned (.int .i64 c) ∧ (c = 50 ∨ c = 51) ∧ Below w'.heap.size w' w2) := fun w' hb g hg => refused_any ((HRz.out.still HbZ.out).still hb).ok HRz.out.lk hK inc ha3 hg
              have HPt1 : Hid (∀ w1, Calls Try.prog 14 #[.int .i64 o1.t, .int .i64 50] w1 fun e w' => e = .returned (.int .i64 (posI o1.t 50)) ∧ w1 = w') := fun w1 => pos_any _ _ (by omega)
              generalize posI o1.t 50 = pt1 at HSt HPt1
              replace g0 := below_at hbZ g0
              replace g1 := below_at hbZ g1
              replace g2 := below_at hbZ g2
              simp only [Value.slice.injEq] at hv5
              have hL1 := hv5.2.1
              have ha5 := hv5.1
              have i1 : (0 : Int) ≤ (j : Int) := Int.natCast_nonneg _
              have i2 : (j : Int) < ((L5 : Nat) : Int) := by omega
              clear hv5 hRz hK hkZ hbZ g6 hL1
              subst ha5
              unfold Opx.cs at hZ
              go_wp2
              first | rw [hzz] | skip
              refine wp_region_held_drew (S := (fun w' => w'.cell? ⟨zz, 1, none⟩ = some (.int .i64 o1.q) ∧ w'.cell? ⟨zz, 2, none⟩ = some (.int .i64 o1.inc) ∧ w'.cell? ⟨zz, 3, none⟩ = some (.int .i64 o1.t) ∧ w'.cell? ⟨w.heap.size, 0, none⟩ = some (.int .i64 (n : Int)) ∧ w'.cell? ⟨w.heap.size, 1, none⟩ = some (.int .i64 (s : Int)) ∧ w'.cell? ⟨w.heap.size, 2, none⟩ = some (.int .i64 inc))) (by kernel_rfl) ⟨cell_drew p1, cell_drew p2, cell_drew p3, cell_drew g0, cell_drew g1, cell_drew g2⟩ (fun hHeld => ?_)
              simp only [Act.put, List.size_toArray, List.length_cons, List.length_nil, Nat.zero_add]
              refine wpAnyH_take (i := 0) (v := .pointer (some ⟨b, 0, none⟩)) rfl (by kernel_rfl) (by kernel_rfl) (by kernel_rfl) (fun _ _ _ h => h) (Or.inl ⟨by rfl, fun w' hS => by go_simp⟩) hHeld ?_
              simp only [Act.put, List.getElem_toArray, List.getElem_cons_zero, List.getElem_cons_succ, List.setIfInBounds_toArray, List.set_cons_zero, List.set_cons_succ]
              refine wpAnyH_take (i := 1) (v := .pointer (some ⟨zz, 1, none⟩)) rfl (by kernel_rfl) (by kernel_rfl) (by kernel_rfl) (fun _ _ _ h => h) (Or.inl ⟨by rfl, fun w' hS => by go_simp⟩) hHeld ?_
              simp only [Act.put, List.getElem_toArray, List.getElem_cons_zero, List.getElem_cons_succ, List.setIfInBounds_toArray, List.set_cons_zero, List.set_cons_succ]
              refine wpAnyH_take (i := 2) (v := .int .i64 o1.q) rfl (by kernel_rfl) (by kernel_rfl) (by kernel_rfl) (fun _ _ _ h => h) (Or.inl ⟨by rfl, fun w' hS => by (obtain ⟨s0, s1, s2, s3, s4, s5⟩ := hS; go_simp)⟩) hHeld ?_
              simp only [Act.put, List.getElem_toArray, List.getElem_cons_zero, List.getElem_cons_succ, List.setIfInBounds_toArray, List.set_cons_zero, List.set_cons_succ]
              refine wpAnyH_take (i := 3) (v := .pointer (some ⟨zz, 2, none⟩)) rfl (by kernel_rfl) (by kernel_rfl) (by kernel_rfl) (fun _ _ _ h => h) (Or.inl ⟨by rfl, fun w' hS => by go_simp⟩) hHeld ?_
              simp only [Act.put, List.getElem_toArray, List.getElem_cons_zero, List.getElem_cons_succ, List.setIfInBounds_toArray, List.set_cons_zero, List.set_cons_succ]
              refine wpAnyH_take (i := 4) (v := .int .i64 o1.inc) rfl (by kernel_rfl) (by kernel_rfl) (by kernel_rfl) (fun _ _ _ h => h) (Or.inl ⟨by rfl, fun w' hS => by (obtain ⟨s0, s1, s2, s3, s4, s5⟩ := hS; go_simp)⟩) hHeld ?_
              simp only [Act.put, List.getElem_toArray, List.getElem_cons_zero, List.getElem_cons_succ, List.setIfInBounds_toArray, List.set_cons_zero, List.set_cons_succ]
              refine wpAnyH_take (i := 5) (v := .pointer (some ⟨zz, 3, none⟩)) rfl (by kernel_rfl) (by kernel_rfl) (by kernel_rfl) (fun _ _ _ h => h) (Or.inl ⟨by rfl, fun w' hS => by go_simp⟩) hHeld ?_
              simp only [Act.put, List.getElem_toArray, List.getElem_cons_zero, List.getElem_cons_succ, List.setIfInBounds_toArray, List.set_cons_zero, List.set_cons_succ]
              refine wpAnyH_take (i := 6) (v := .int .i64 o1.t) rfl (by kernel_rfl) (by kernel_rfl) (by kernel_rfl) (fun _ _ _ h => h) (Or.inl ⟨by rfl, fun w' hS => by (obtain ⟨s0, s1, s2, s3, s4, s5⟩ := hS; go_simp)⟩) hHeld ?_
              simp only [Act.put, List.getElem_toArray, List.getElem_cons_zero, List.getElem_cons_succ, List.setIfInBounds_toArray, List.set_cons_zero, List.set_cons_succ]
              refine wpAnyH_take (i := 8) (v := .pointer (some ⟨w.heap.size, 0, none⟩)) rfl (by kernel_rfl) (by kernel_rfl) (by kernel_rfl) (fun _ _ _ h => h) (Or.inl ⟨by rfl, fun w' hS => by go_simp⟩) hHeld ?_
              simp only [Act.put, List.getElem_toArray, List.getElem_cons_zero, List.getElem_cons_succ, List.setIfInBounds_toArray, List.set_cons_zero, List.set_cons_succ]
              refine wpAnyH_take (i := 9) (v := .int .i64 (n : Int)) rfl (by kernel_rfl) (by kernel_rfl) (by kernel_rfl) (fun _ _ _ h => h) (Or.inl ⟨by rfl, fun w' hS => by (obtain ⟨s0, s1, s2, s3, s4, s5⟩ := hS; go_simp)⟩) hHeld ?_
              simp only [Act.put, List.getElem_toArray, List.getElem_cons_zero, List.getElem_cons_succ, List.setIfInBounds_toArray, List.set_cons_zero, List.set_cons_succ]
              refine wpAnyH_take (i := 10) (v := .pointer (some ⟨w.heap.size, 1, none⟩)) rfl (by kernel_rfl) (by kernel_rfl) (by kernel_rfl) (fun _ _ _ h => h) (Or.inl ⟨by rfl, fun w' hS => by go_simp⟩) hHeld ?_
              simp only [Act.put, List.getElem_toArray, List.getElem_cons_zero, List.getElem_cons_succ, List.setIfInBounds_toArray, List.set_cons_zero, List.set_cons_succ]
              refine wpAnyH_take (i := 11) (v := .int .i64 (s : Int)) rfl (by kernel_rfl) (by kernel_rfl) (by kernel_rfl) (fun _ _ _ h => h) (Or.inl ⟨by rfl, fun w' hS => by (obtain ⟨s0, s1, s2, s3, s4, s5⟩ := hS; go_simp)⟩) hHeld ?_
              simp only [Act.put, List.getElem_toArray, List.getElem_cons_zero, List.getElem_cons_succ, List.setIfInBounds_toArray, List.set_cons_zero, List.set_cons_succ]
              refine wpAnyH_take (i := 12) (v := .pointer (some ⟨w.heap.size, 2, none⟩)) rfl (by kernel_rfl) (by kernel_rfl) (by kernel_rfl) (fun _ _ _ h => h) (Or.inl ⟨by rfl, fun w' hS => by go_simp⟩) hHeld ?_
              simp only [Act.put, List.getElem_toArray, List.getElem_cons_zero, List.getElem_cons_succ, List.setIfInBounds_toArray, List.set_cons_zero, List.set_cons_succ]
              refine wpAnyH_take (i := 13) (v := .int .i64 inc) rfl (by kernel_rfl) (by kernel_rfl) (by kernel_rfl) (fun _ _ _ h => h) (Or.inl ⟨by rfl, fun w' hS => by (obtain ⟨s0, s1, s2, s3, s4, s5⟩ := hS; go_simp)⟩) hHeld ?_
              simp only [Act.put, List.getElem_toArray, List.getElem_cons_zero, List.getElem_cons_succ, List.setIfInBounds_toArray, List.set_cons_zero, List.set_cons_succ]
              refine wpAnyH_ready (rs := [7]) (by kernel_rfl) (by simp) ?_
              refine AllReadyH.cons rfl (fun K hK => ?_) AllReadyH.nil
              go_simp
              refine (HPt1.out _).mono ?_
              rintro e w7 ⟨rfl, rfl⟩
              refine hK.out _ _ ⟨cell_drew p1, cell_drew p2, cell_drew p3, cell_drew g0, cell_drew g1, cell_drew g2⟩ (fun hHeld => ?_)
              clear hK K
              refine wpAnyH_ready (rs := [14]) (by kernel_rfl) (by simp) ?_
              refine AllReadyH.cons rfl (fun K hK => ?_) AllReadyH.nil
              go_simp
              refine (HH.out _).mono ?_
              rintro e w7 ⟨u, rfl, g7, rfl, hg7, hB7, hb7⟩
              have B7 : Below Z.heap.size Z w7 := bstep (Below.refl _ _).drew hb7
              refine hK.out _ _ ⟨below_at B7 p1, below_at B7 p2, below_at B7 p3, below_at B7 g0, below_at B7 g1, below_at B7 g2⟩ (fun hHeld => ?_)
              clear hK K
              refine wpAnyH_take (i := 15) (v := .agg #[.int .i64 pt1, .slice (some ⟨g7, 0, none⟩) n n]) rfl (by kernel_rfl) (by kernel_rfl) (by kernel_rfl) (fun _ _ _ h => h) (Or.inl ⟨by rfl, fun w' hS => by go_simp⟩) hHeld ?_
              simp only [Act.put, List.getElem_toArray, List.getElem_cons_zero, List.getElem_cons_succ, List.setIfInBounds_toArray, List.set_cons_zero, List.set_cons_succ]
              refine wpAnyH_ready (rs := [16]) (by kernel_rfl) (by simp) ?_
              refine AllReadyH.cons rfl (fun K hK => ?_) AllReadyH.nil
              go_simp
              refine (HSt.out w7 B7 g7 hB7).mono ?_
              rintro e w8 ⟨ce, rfl, hce, hb8⟩
              have B8 : Below Z.heap.size Z w8 := bstep B7 hb8
              refine hK.out _ _ ⟨below_at B8 p1, below_at B8 p2, below_at B8 p3, below_at B8 g0, below_at B8 g1, below_at B8 g2⟩ (fun hHeld => ?_)
              clear hK K
              refine wpAnyH_take (i := 17) (v := .int .i64 ce) rfl (by kernel_rfl) (by kernel_rfl) (by kernel_rfl) (fun _ _ _ h => h) (Or.inl ⟨by rfl, fun w' hS => by go_simp⟩) hHeld ?_
              simp only [Act.put, List.getElem_toArray, List.getElem_cons_zero, List.getElem_cons_succ, List.setIfInBounds_toArray, List.set_cons_zero, List.set_cons_succ]
              refine wpAnyH_done (by kernel_rfl) ?_ _
              clear hHeld
              have HB8 : Hid (Below w6.heap.size w6 w8) := bstep (bstep HBz.out HbZ.out) B8
              clear B7 B8 hb7 hb8 hB7 hg7 HSt HPt1 g0 g1 g2 p1 p2 p3
              rcases hce with rfl | rfl
              all_goals
                go_wp2_with (first | (go_at_call 21; refine (num_any _).mono ?_; rintro e wn ⟨rfl, rfl⟩) | fail)
                first
                  | exact ⟨⟨j + 1, by omega, by go_num, HB8.out⟩, by simp [intOf]; omega⟩
                  | (go_roundw
                     case rel => exact ⟨j + 1, by omega, by go_num, HB8.out⟩
                     case measure => simp [intOf]; omega)
            · have hL0 : (ks).length = L5 := by obtain ⟨_, _, hv⟩ := hRz.slice; simp only [Value.slice.injEq] at hv; omega
              have hjL : L5 = j := by omega
              subst hjL
              clear hRz hL0
              go_wp2_with (fail)
              refine (HAs.out _ (bstep B6.out HBz.out)).mono ?_
              rintro e w9 ⟨a9, n9, c9, rfl, r9, m9, hb9⟩
              obtain rfl : n9 = n6 := by have e1 := R6.out.1; have e2 := r9.1; omega
              have HSm := same_any (c1 := c6) (c2 := c9) ((R6.out.still HBz.out).still hb9) r9 (by omega)
              have HB9 : Hid (Below wr.heap.size wr w9) := hb9
              clear r9 hb9 g0 g1 g2 g6
              go_wp2_with (fail)
              refine HSm.mono ?_
              rintro e w10 ⟨rfl, hb10⟩
              have HE : Hid (Rp w1 w10 B n s inc step lim b (k + 1) (.slice a5 L5 c5) (Dk.ticked) (ks)) := HRz.out.still (bstep HB9.out hb10)
              clear hb10 HSm
              go_wp2
              first
                | exact ⟨⟨k + 1, _, _, by omega, by omega, by go_num, HE.out⟩, by simp [intOf]; omega⟩
                | (go_roundw
                   case rel => exact ⟨k + 1, _, _, by omega, by omega, by go_num, HE.out⟩
                   case measure => simp [intOf]; omega)
        · by_cases h2 : o.k = 2
          · rw [h2] at x0 y0 hX
            obtain ⟨an, han⟩ : ∃ an, bits BinOp.and IntKind.i64 o.t 1 = an := ⟨_, rfl⟩
            have han2 := and1 o.t
            rw [han] at han2
            have hpt := posI_lt o.t (show (1 : Int) ≤ 50 by omega)
            have HPt : Hid (∀ w1, Calls Try.prog 14 #[.int .i64 o.t, .int .i64 50] w1 fun e w' => e = .returned (.int .i64 (posI o.t 50)) ∧ w1 = w') := fun w1 => pos_any _ _ (by omega)
            have HHa : Hid (∀ w1, Calls Try.prog 20 #[.int .i64 n, .int .i64 (s : Int), .int .i64 an] w1 fun e w' => ∃ u, e = .returned u ∧ IsI w1 w' n (heaI n s an) u) := fun w1 => hearsL_any n s an hn16 hsn
            have hno : Hid (¬ Dk.own wr.heap.size) := fun e => by have := (hown _ e).1; omega
            have hnr : Hid (¬ Dk.own w.heap.size) := fun e => by have := (hown _ e).2; omega
            have HKn : Hid (∀ w', Below X.heap.size X w' → Calls Try.prog 18 #[.pointer (some ⟨b, 0, none⟩), .int .i64 o.q] w' fun e w2 => e = .returned (.int .i64 (Dk.known o.q)) ∧ w' = w2) := fun w' hb => (HRX.out.still hb).known o.q
            have HNew : Hid (Dk.herr o.q o.inc (posI o.t 50) (heaI n s an) = 0 → KOk (Dk.after o.q o.inc (posI o.t 50) (heaI n s an)) n s o) := fun h => KOk.new HRX.out.lk h
            have HFi : Hid (0 ≤ o.q ∧ o.q < n ∧ o.q ≠ s → Dk.known o.q < o.inc → o.inc ≤ 4611686018427387904 → Dk.herr o.q o.inc (posI o.t 50) (heaI n s an) = 0) := fun h1 h2 h3 => first_ok HRX.out.ok HRX.out.lk h1 h2 h3 ⟨hpt.1, by omega⟩ ⟨han2.1, by omega⟩
            have hbX2 : Below X.heap.size X X.drew := (Below.refl _ _).drew
            have HHd0 : ∀ w', Below X.drew.heap.size X.drew w' → ∀ g, X.drew.heap.size ≤ g → BlkI w' g (heaI n s an) → Calls Try.prog 15 #[.pointer (some ⟨b, 0, none⟩), .int .i64 o.q, .int .i64 o.inc, .agg #[.int .i64 (posI o.t 50), .slice (some ⟨g, 0, none⟩) n n]] w' fun e w2 => e = .returned (.int .i64 (Dk.herr o.q o.inc (posI o.t 50) (heaI n s an))) ∧ Rp w1 w2 B n s inc step lim b (k + 1) (.slice a5 L5 c5) (Dk.after o.q o.inc (posI o.t 50) (heaI n s an)) ks ∧ Kept w' w2 Dk.own := fun w' hb g hg hk2 => ((HRX.out.still hbX2).still hb).heard (by omega) o.q o.inc (posI o.t 50) an (by have e1 := HRX.out.sz; have e2 := hbX2.size; omega) hk2
            generalize posI o.t 50 = pt at *
            generalize Dk.herr o.q o.inc pt (heaI n s an) = hc at *
            generalize Dk.after o.q o.inc pt (heaI n s an) = Da at *
            generalize Dk.known o.q = kn at *
            have HHd : Hid (∀ w', Below X.drew.heap.size X.drew w' → ∀ g, X.drew.heap.size ≤ g → BlkI w' g (heaI n s an) → Calls Try.prog 15 #[.pointer (some ⟨b, 0, none⟩), .int .i64 o.q, .int .i64 o.inc, .agg #[.int .i64 pt, .slice (some ⟨g, 0, none⟩) n n]] w' fun e w2 => e = .returned (.int .i64 hc) ∧ Rp w1 w2 B n s inc step lim b (k + 1) (.slice a5 L5 c5) Da ks ∧ Kept w' w2 Dk.own) := HHd0
            have HRX2 : Hid (Rp w1 X.drew B n s inc step lim b k (.slice a5 L5 c5) Dk ks) := HRX.out.still hbX2
            have f0X := below_at hbX f0
            have f1X := below_at hbX f1
            clear HHd0 HRX hpt han2
            go_wp2
            by_cases hq : 0 ≤ o.q ∧ o.q < (n : Int) ∧ o.q ≠ (s : Int)
            · clear f0 f1
              have f0 := f0X
              have f1 := f1X
              clear f0X f1X
              have hq1 := hq.1
              have hq2 := hq.2.1
              have hq3 := hq.2.2
              refine wp_region_held_drew (S := (fun w' => w'.cell? ⟨wr.heap.size, 1, none⟩ = some (.int .i64 o.q) ∧ w'.cell? ⟨wr.heap.size, 2, none⟩ = some (.int .i64 o.inc) ∧ w'.cell? ⟨w.heap.size, 0, none⟩ = some (.int .i64 (n : Int)) ∧ w'.cell? ⟨w.heap.size, 1, none⟩ = some (.int .i64 (s : Int)))) (by kernel_rfl) ⟨cell_drew y1, cell_drew y2, cell_drew f0, cell_drew f1⟩ (fun hHeld => ?_)
              simp only [Act.put, List.size_toArray, List.length_cons, List.length_nil, Nat.zero_add]
              refine wpAnyH_take (i := 0) (v := .pointer (some ⟨wr.heap.size, 1, none⟩)) rfl (by kernel_rfl) (by kernel_rfl) (by kernel_rfl) (fun _ _ _ h => h) (Or.inl ⟨by rfl, fun w' hS => by go_simp⟩) hHeld ?_
              simp only [Act.put, List.getElem_toArray, List.getElem_cons_zero, List.getElem_cons_succ, List.setIfInBounds_toArray, List.set_cons_zero, List.set_cons_succ]
              refine wpAnyH_take (i := 1) (v := .int .i64 o.q) rfl (by kernel_rfl) (by kernel_rfl) (by kernel_rfl) (fun _ _ _ h => h) (Or.inl ⟨by rfl, fun w' hS => by (obtain ⟨s0, s1, s2, s3⟩ := hS; go_simp)⟩) hHeld ?_
              simp only [Act.put, List.getElem_toArray, List.getElem_cons_zero, List.getElem_cons_succ, List.setIfInBounds_toArray, List.set_cons_zero, List.set_cons_succ]
              refine wpAnyH_take (i := 2) (v := .bool true) rfl (by kernel_rfl) (by kernel_rfl) (by kernel_rfl) (fun _ _ _ h => h) (Or.inl ⟨by rfl, fun w' hS => by (go_simp <;> omega)⟩) hHeld ?_
              simp only [Act.put, List.getElem_toArray, List.getElem_cons_zero, List.getElem_cons_succ, List.setIfInBounds_toArray, List.set_cons_zero, List.set_cons_succ]
              refine wpAnyH_take (i := 3) (v := .bool true) rfl (by kernel_rfl) (by kernel_rfl) (by kernel_rfl) (fun _ _ _ h => h) (Or.inl ⟨by rfl, fun w' hS => by go_simp⟩) hHeld ?_
              simp only [Act.put, List.getElem_toArray, List.getElem_cons_zero, List.getElem_cons_succ, List.setIfInBounds_toArray, List.set_cons_zero, List.set_cons_succ]
              refine wpAnyH_take (i := 4) (v := .pointer (some ⟨wr.heap.size, 1, none⟩)) rfl (by kernel_rfl) (by kernel_rfl) (by kernel_rfl) (fun _ _ _ h => h) (Or.inl ⟨by rfl, fun w' hS => by go_simp⟩) hHeld ?_
              simp only [Act.put, List.getElem_toArray, List.getElem_cons_zero, List.getElem_cons_succ, List.setIfInBounds_toArray, List.set_cons_zero, List.set_cons_succ]
              refine wpAnyH_take (i := 5) (v := .int .i64 o.q) rfl (by kernel_rfl) (by kernel_rfl) (by kernel_rfl) (fun _ _ _ h => h) (Or.inl ⟨by rfl, fun w' hS => by (obtain ⟨s0, s1, s2, s3⟩ := hS; go_simp)⟩) hHeld ?_
              simp only [Act.put, List.getElem_toArray, List.getElem_cons_zero, List.getElem_cons_succ, List.setIfInBounds_toArray, List.set_cons_zero, List.set_cons_succ]
              refine wpAnyH_take (i := 6) (v := .pointer (some ⟨w.heap.size, 0, none⟩)) rfl (by kernel_rfl) (by kernel_rfl) (by kernel_rfl) (fun _ _ _ h => h) (Or.inl ⟨by rfl, fun w' hS => by go_simp⟩) hHeld ?_
              simp only [Act.put, List.getElem_toArray, List.getElem_cons_zero, List.getElem_cons_succ, List.setIfInBounds_toArray, List.set_cons_zero, List.set_cons_succ]
              refine wpAnyH_take (i := 7) (v := .int .i64 (n : Int)) rfl (by kernel_rfl) (by kernel_rfl) (by kernel_rfl) (fun _ _ _ h => h) (Or.inl ⟨by rfl, fun w' hS => by (obtain ⟨s0, s1, s2, s3⟩ := hS; go_simp)⟩) hHeld ?_
              simp only [Act.put, List.getElem_toArray, List.getElem_cons_zero, List.getElem_cons_succ, List.setIfInBounds_toArray, List.set_cons_zero, List.set_cons_succ]
              refine wpAnyH_take (i := 8) (v := .bool true) rfl (by kernel_rfl) (by kernel_rfl) (by kernel_rfl) (fun _ _ _ h => h) (Or.inl ⟨by rfl, fun w' hS => by (go_simp <;> omega)⟩) hHeld ?_
              simp only [Act.put, List.getElem_toArray, List.getElem_cons_zero, List.getElem_cons_succ, List.setIfInBounds_toArray, List.set_cons_zero, List.set_cons_succ]
              refine wpAnyH_take (i := 9) (v := .bool true) rfl (by kernel_rfl) (by kernel_rfl) (by kernel_rfl) (fun _ _ _ h => h) (Or.inl ⟨by rfl, fun w' hS => by go_simp⟩) hHeld ?_
              simp only [Act.put, List.getElem_toArray, List.getElem_cons_zero, List.getElem_cons_succ, List.setIfInBounds_toArray, List.set_cons_zero, List.set_cons_succ]
              refine wpAnyH_take (i := 10) (v := .bool true) rfl (by kernel_rfl) (by kernel_rfl) (by kernel_rfl) (fun _ _ _ h => h) (Or.inl ⟨by rfl, fun w' hS => by go_simp⟩) hHeld ?_
              simp only [Act.put, List.getElem_toArray, List.getElem_cons_zero, List.getElem_cons_succ, List.setIfInBounds_toArray, List.set_cons_zero, List.set_cons_succ]
              refine wpAnyH_take (i := 11) (v := .pointer (some ⟨wr.heap.size, 1, none⟩)) rfl (by kernel_rfl) (by kernel_rfl) (by kernel_rfl) (fun _ _ _ h => h) (Or.inl ⟨by rfl, fun w' hS => by go_simp⟩) hHeld ?_
              simp only [Act.put, List.getElem_toArray, List.getElem_cons_zero, List.getElem_cons_succ, List.setIfInBounds_toArray, List.set_cons_zero, List.set_cons_succ]
              refine wpAnyH_take (i := 12) (v := .int .i64 o.q) rfl (by kernel_rfl) (by kernel_rfl) (by kernel_rfl) (fun _ _ _ h => h) (Or.inl ⟨by rfl, fun w' hS => by (obtain ⟨s0, s1, s2, s3⟩ := hS; go_simp)⟩) hHeld ?_
              simp only [Act.put, List.getElem_toArray, List.getElem_cons_zero, List.getElem_cons_succ, List.setIfInBounds_toArray, List.set_cons_zero, List.set_cons_succ]
              refine wpAnyH_take (i := 13) (v := .pointer (some ⟨w.heap.size, 1, none⟩)) rfl (by kernel_rfl) (by kernel_rfl) (by kernel_rfl) (fun _ _ _ h => h) (Or.inl ⟨by rfl, fun w' hS => by go_simp⟩) hHeld ?_
              simp only [Act.put, List.getElem_toArray, List.getElem_cons_zero, List.getElem_cons_succ, List.setIfInBounds_toArray, List.set_cons_zero, List.set_cons_succ]
              refine wpAnyH_take (i := 14) (v := .int .i64 (s : Int)) rfl (by kernel_rfl) (by kernel_rfl) (by kernel_rfl) (fun _ _ _ h => h) (Or.inl ⟨by rfl, fun w' hS => by (obtain ⟨s0, s1, s2, s3⟩ := hS; go_simp)⟩) hHeld ?_
              simp only [Act.put, List.getElem_toArray, List.getElem_cons_zero, List.getElem_cons_succ, List.setIfInBounds_toArray, List.set_cons_zero, List.set_cons_succ]
              refine wpAnyH_take (i := 15) (v := .bool true) rfl (by kernel_rfl) (by kernel_rfl) (by kernel_rfl) (fun _ _ _ h => h) (Or.inl ⟨by rfl, fun w' hS => by (go_simp <;> omega)⟩) hHeld ?_
              simp only [Act.put, List.getElem_toArray, List.getElem_cons_zero, List.getElem_cons_succ, List.setIfInBounds_toArray, List.set_cons_zero, List.set_cons_succ]
              refine wpAnyH_take (i := 16) (v := .bool true) rfl (by kernel_rfl) (by kernel_rfl) (by kernel_rfl) (fun _ _ _ h => h) (Or.inl ⟨by rfl, fun w' hS => by go_simp⟩) hHeld ?_
              simp only [Act.put, List.getElem_toArray, List.getElem_cons_zero, List.getElem_cons_succ, List.setIfInBounds_toArray, List.set_cons_zero, List.set_cons_succ]
              refine wpAnyH_take (i := 17) (v := .bool true) rfl (by kernel_rfl) (by kernel_rfl) (by kernel_rfl) (fun _ _ _ h => h) (Or.inl ⟨by rfl, fun w' hS => by go_simp⟩) hHeld ?_
              simp only [Act.put, List.getElem_toArray, List.getElem_cons_zero, List.getElem_cons_succ, List.setIfInBounds_toArray, List.set_cons_zero, List.set_cons_succ]
              refine wpAnyH_take (i := 18) (v := .pointer (some ⟨wr.heap.size, 2, none⟩)) rfl (by kernel_rfl) (by kernel_rfl) (by kernel_rfl) (fun _ _ _ h => h) (Or.inl ⟨by rfl, fun w' hS => by go_simp⟩) hHeld ?_
              simp only [Act.put, List.getElem_toArray, List.getElem_cons_zero, List.getElem_cons_succ, List.setIfInBounds_toArray, List.set_cons_zero, List.set_cons_succ]
              refine wpAnyH_take (i := 19) (v := .int .i64 o.inc) rfl (by kernel_rfl) (by kernel_rfl) (by kernel_rfl) (fun _ _ _ h => h) (Or.inl ⟨by rfl, fun w' hS => by (obtain ⟨s0, s1, s2, s3⟩ := hS; go_simp)⟩) hHeld ?_
              simp only [Act.put, List.getElem_toArray, List.getElem_cons_zero, List.getElem_cons_succ, List.setIfInBounds_toArray, List.set_cons_zero, List.set_cons_succ]
              refine wpAnyH_take (i := 20) (v := .pointer (some ⟨b, 0, none⟩)) rfl (by kernel_rfl) (by kernel_rfl) (by kernel_rfl) (fun _ _ _ h => h) (Or.inl ⟨by rfl, fun w' hS => by go_simp⟩) hHeld ?_
              simp only [Act.put, List.getElem_toArray, List.getElem_cons_zero, List.getElem_cons_succ, List.setIfInBounds_toArray, List.set_cons_zero, List.set_cons_succ]
              refine wpAnyH_take (i := 21) (v := .pointer (some ⟨wr.heap.size, 1, none⟩)) rfl (by kernel_rfl) (by kernel_rfl) (by kernel_rfl) (fun _ _ _ h => h) (Or.inl ⟨by rfl, fun w' hS => by go_simp⟩) hHeld ?_
              simp only [Act.put, List.getElem_toArray, List.getElem_cons_zero, List.getElem_cons_succ, List.setIfInBounds_toArray, List.set_cons_zero, List.set_cons_succ]
              refine wpAnyH_take (i := 22) (v := .int .i64 o.q) rfl (by kernel_rfl) (by kernel_rfl) (by kernel_rfl) (fun _ _ _ h => h) (Or.inl ⟨by rfl, fun w' hS => by (obtain ⟨s0, s1, s2, s3⟩ := hS; go_simp)⟩) hHeld ?_
              simp only [Act.put, List.getElem_toArray, List.getElem_cons_zero, List.getElem_cons_succ, List.setIfInBounds_toArray, List.set_cons_zero, List.set_cons_succ]
              refine wpAnyH_ready (rs := [23]) (by kernel_rfl) (by simp) ?_
              refine AllReadyH.cons rfl (fun K hK => ?_) AllReadyH.nil
              go_simp
              refine (HKn.out _ (Below.refl _ _).drew).mono ?_
              rintro e w7 ⟨rfl, rfl⟩
              refine hK.out _ _ ⟨cell_drew y1, cell_drew y2, cell_drew f0, cell_drew f1⟩ (fun hHeld => ?_)
              clear hK K
              refine wpAnyH_take (i := 24) (v := .bool (decide (kn < o.inc))) rfl (by kernel_rfl) (by kernel_rfl) (by kernel_rfl) (fun _ _ _ h => h) (Or.inl ⟨by rfl, fun w' hS => by go_simp⟩) hHeld ?_
              simp only [Act.put, List.getElem_toArray, List.getElem_cons_zero, List.getElem_cons_succ, List.setIfInBounds_toArray, List.set_cons_zero, List.set_cons_succ]
              generalize hb4 : decide (kn < o.inc) = b4
              refine wpAnyH_take (i := 25) (v := .bool b4) rfl (by kernel_rfl) (by kernel_rfl) (by kernel_rfl) (fun _ _ _ h => h) (Or.inl ⟨by rfl, fun w' hS => by go_simp⟩) hHeld ?_
              simp only [Act.put, List.getElem_toArray, List.getElem_cons_zero, List.getElem_cons_succ, List.setIfInBounds_toArray, List.set_cons_zero, List.set_cons_succ]
              refine wpAnyH_take (i := 26) (v := .bool b4) rfl (by kernel_rfl) (by kernel_rfl) (by kernel_rfl) (fun _ _ _ h => h) (Or.inl ⟨by rfl, fun w' hS => by go_simp⟩) hHeld ?_
              simp only [Act.put, List.getElem_toArray, List.getElem_cons_zero, List.getElem_cons_succ, List.setIfInBounds_toArray, List.set_cons_zero, List.set_cons_succ]
              refine wpAnyH_take (i := 27) (v := cond b4 (.pointer (some ⟨wr.heap.size, 2, none⟩)) undef) rfl (by kernel_rfl) (by kernel_rfl) (by kernel_rfl) (fun _ _ _ h => h) (by cases b4 <;> first | exact Or.inl ⟨by rfl, fun w' hS => by go_simp⟩ | exact Or.inr ⟨by rfl, rfl⟩) hHeld ?_
              simp only [Act.put, List.getElem_toArray, List.getElem_cons_zero, List.getElem_cons_succ, List.setIfInBounds_toArray, List.set_cons_zero, List.set_cons_succ]
              refine wpAnyH_take (i := 28) (v := cond b4 (.int .i64 o.inc) undef) rfl (by kernel_rfl) (by kernel_rfl) (by kernel_rfl) (fun _ _ _ h => h) (by cases b4 <;> first | exact Or.inl ⟨by rfl, fun w' hS => by (obtain ⟨s0, s1, s2, s3⟩ := hS; go_simp)⟩ | exact Or.inr ⟨by rfl, rfl⟩) hHeld ?_
              simp only [Act.put, List.getElem_toArray, List.getElem_cons_zero, List.getElem_cons_succ, List.setIfInBounds_toArray, List.set_cons_zero, List.set_cons_succ]
              refine wpAnyH_take (i := 29) (v := cond b4 (.bool (decide (o.inc ≤ 4611686018427387904))) undef) rfl (by kernel_rfl) (by kernel_rfl) (by kernel_rfl) (fun _ _ _ h => h) (by cases b4 <;> first | exact Or.inl ⟨by rfl, fun w' hS => by go_simp⟩ | exact Or.inr ⟨by rfl, rfl⟩) hHeld ?_
              simp only [Act.put, List.getElem_toArray, List.getElem_cons_zero, List.getElem_cons_succ, List.setIfInBounds_toArray, List.set_cons_zero, List.set_cons_succ]
              generalize hb5 : decide (o.inc ≤ 4611686018427387904) = b5
              refine wpAnyH_take (i := 30) (v := .bool (b4 && b5)) rfl (by kernel_rfl) (by kernel_rfl) (by kernel_rfl) (fun _ _ _ h => h) (Or.inl ⟨by rfl, fun w' hS => by (cases b4 <;> go_simp)⟩) hHeld ?_
              simp only [Act.put, List.getElem_toArray, List.getElem_cons_zero, List.getElem_cons_succ, List.setIfInBounds_toArray, List.set_cons_zero, List.set_cons_succ]
              refine wpAnyH_take (i := 31) (v := .bool (b4 && b5)) rfl (by kernel_rfl) (by kernel_rfl) (by kernel_rfl) (fun _ _ _ h => h) (Or.inl ⟨by rfl, fun w' hS => by go_simp⟩) hHeld ?_
              simp only [Act.put, List.getElem_toArray, List.getElem_cons_zero, List.getElem_cons_succ, List.setIfInBounds_toArray, List.set_cons_zero, List.set_cons_succ]
              refine wpAnyH_done (by kernel_rfl) ?_ _
              clear hHeld
              have HF0 : Hid ((b4 && b5) = true → hc = 0) := fun e => by
                simp only [Bool.and_eq_true] at e
                rw [← hb4, ← hb5] at e
                exact HFi.out hq (of_decide_eq_true e.1) (of_decide_eq_true e.2)
              clear hb4 hb5 HFi hq hq1 hq2 hq3
              generalize (b4 && b5) = bf at *
              have HF : Hid (bf = true → hc = 0) := HF0
              clear HF0
              generalize cond b4 (.pointer (some ⟨wr.heap.size, 2, none⟩)) undef = t1
              generalize cond b4 (Value.int .i64 o.inc) undef = t2
              generalize cond b4 (Value.bool b5) undef = t3
              have z0 := below_at hbX2 y0
              have z1 := below_at hbX2 y1
              have z2 := below_at hbX2 y2
              have z3 := below_at hbX2 y3
              have z4 := below_at hbX2 y4
              have e0 := below_at hbX2 f0
              have e1 := below_at hbX2 f1
              clear y0 y1 y2 y3 y4 f0 f1 x0 x1 x2 x3 x4 hX HKn
              generalize X.drew = X2 at *
              have y0 := z0
              have y1 := z1
              have y2 := z2
              have y3 := z3
              have y4 := z4
              have f0 := e0
              have f1 := e1
              clear z0 z1 z2 z3 z4 e0 e1 hbX2
              go_wp2
              refine wp_region_held_drew (S := (fun w' => w'.cell? ⟨wr.heap.size, 0, none⟩ = some (.int .i64 2) ∧ w'.cell? ⟨wr.heap.size, 1, none⟩ = some (.int .i64 o.q) ∧ w'.cell? ⟨wr.heap.size, 2, none⟩ = some (.int .i64 o.inc) ∧ w'.cell? ⟨wr.heap.size, 3, none⟩ = some (.int .i64 o.t) ∧ w'.cell? ⟨wr.heap.size, 4, none⟩ = some (.slice o.ha o.hn o.hc) ∧ w'.cell? ⟨w.heap.size, 0, none⟩ = some (.int .i64 (n : Int)) ∧ w'.cell? ⟨w.heap.size, 1, none⟩ = some (.int .i64 (s : Int)))) (by kernel_rfl) ⟨cell_drew y0, cell_drew y1, cell_drew y2, cell_drew y3, cell_drew y4, cell_drew f0, cell_drew f1⟩ (fun hHeld => ?_)
              simp only [Act.put, List.size_toArray, List.length_cons, List.length_nil, Nat.zero_add]
              refine wpAnyH_take (i := 0) (v := .pointer (some ⟨b, 0, none⟩)) rfl (by kernel_rfl) (by kernel_rfl) (by kernel_rfl) (fun _ _ _ h => h) (Or.inl ⟨by rfl, fun w' hS => by go_simp⟩) hHeld ?_
              simp only [Act.put, List.getElem_toArray, List.getElem_cons_zero, List.getElem_cons_succ, List.setIfInBounds_toArray, List.set_cons_zero, List.set_cons_succ]
              refine wpAnyH_take (i := 1) (v := .pointer (some ⟨wr.heap.size, 1, none⟩)) rfl (by kernel_rfl) (by kernel_rfl) (by kernel_rfl) (fun _ _ _ h => h) (Or.inl ⟨by rfl, fun w' hS => by go_simp⟩) hHeld ?_
              simp only [Act.put, List.getElem_toArray, List.getElem_cons_zero, List.getElem_cons_succ, List.setIfInBounds_toArray, List.set_cons_zero, List.set_cons_succ]
              refine wpAnyH_take (i := 2) (v := .int .i64 o.q) rfl (by kernel_rfl) (by kernel_rfl) (by kernel_rfl) (fun _ _ _ h => h) (Or.inl ⟨by rfl, fun w' hS => by (obtain ⟨s0, s1, s2, s3, s4, s5, s6⟩ := hS; go_simp)⟩) hHeld ?_
              simp only [Act.put, List.getElem_toArray, List.getElem_cons_zero, List.getElem_cons_succ, List.setIfInBounds_toArray, List.set_cons_zero, List.set_cons_succ]
              refine wpAnyH_take (i := 3) (v := .pointer (some ⟨wr.heap.size, 2, none⟩)) rfl (by kernel_rfl) (by kernel_rfl) (by kernel_rfl) (fun _ _ _ h => h) (Or.inl ⟨by rfl, fun w' hS => by go_simp⟩) hHeld ?_
              simp only [Act.put, List.getElem_toArray, List.getElem_cons_zero, List.getElem_cons_succ, List.setIfInBounds_toArray, List.set_cons_zero, List.set_cons_succ]
              refine wpAnyH_take (i := 4) (v := .int .i64 o.inc) rfl (by kernel_rfl) (by kernel_rfl) (by kernel_rfl) (fun _ _ _ h => h) (Or.inl ⟨by rfl, fun w' hS => by (obtain ⟨s0, s1, s2, s3, s4, s5, s6⟩ := hS; go_simp)⟩) hHeld ?_
              simp only [Act.put, List.getElem_toArray, List.getElem_cons_zero, List.getElem_cons_succ, List.setIfInBounds_toArray, List.set_cons_zero, List.set_cons_succ]
              refine wpAnyH_take (i := 5) (v := .pointer (some ⟨wr.heap.size, 3, none⟩)) rfl (by kernel_rfl) (by kernel_rfl) (by kernel_rfl) (fun _ _ _ h => h) (Or.inl ⟨by rfl, fun w' hS => by go_simp⟩) hHeld ?_
              simp only [Act.put, List.getElem_toArray, List.getElem_cons_zero, List.getElem_cons_succ, List.setIfInBounds_toArray, List.set_cons_zero, List.set_cons_succ]
              refine wpAnyH_take (i := 6) (v := .int .i64 o.t) rfl (by kernel_rfl) (by kernel_rfl) (by kernel_rfl) (fun _ _ _ h => h) (Or.inl ⟨by rfl, fun w' hS => by (obtain ⟨s0, s1, s2, s3, s4, s5, s6⟩ := hS; go_simp)⟩) hHeld ?_
              simp only [Act.put, List.getElem_toArray, List.getElem_cons_zero, List.getElem_cons_succ, List.setIfInBounds_toArray, List.set_cons_zero, List.set_cons_succ]
              refine wpAnyH_take (i := 8) (v := .pointer (some ⟨w.heap.size, 0, none⟩)) rfl (by kernel_rfl) (by kernel_rfl) (by kernel_rfl) (fun _ _ _ h => h) (Or.inl ⟨by rfl, fun w' hS => by go_simp⟩) hHeld ?_
              simp only [Act.put, List.getElem_toArray, List.getElem_cons_zero, List.getElem_cons_succ, List.setIfInBounds_toArray, List.set_cons_zero, List.set_cons_succ]
              refine wpAnyH_take (i := 9) (v := .int .i64 (n : Int)) rfl (by kernel_rfl) (by kernel_rfl) (by kernel_rfl) (fun _ _ _ h => h) (Or.inl ⟨by rfl, fun w' hS => by (obtain ⟨s0, s1, s2, s3, s4, s5, s6⟩ := hS; go_simp)⟩) hHeld ?_
              simp only [Act.put, List.getElem_toArray, List.getElem_cons_zero, List.getElem_cons_succ, List.setIfInBounds_toArray, List.set_cons_zero, List.set_cons_succ]
              refine wpAnyH_take (i := 10) (v := .pointer (some ⟨w.heap.size, 1, none⟩)) rfl (by kernel_rfl) (by kernel_rfl) (by kernel_rfl) (fun _ _ _ h => h) (Or.inl ⟨by rfl, fun w' hS => by go_simp⟩) hHeld ?_
              simp only [Act.put, List.getElem_toArray, List.getElem_cons_zero, List.getElem_cons_succ, List.setIfInBounds_toArray, List.set_cons_zero, List.set_cons_succ]
              refine wpAnyH_take (i := 11) (v := .int .i64 (s : Int)) rfl (by kernel_rfl) (by kernel_rfl) (by kernel_rfl) (fun _ _ _ h => h) (Or.inl ⟨by rfl, fun w' hS => by (obtain ⟨s0, s1, s2, s3, s4, s5, s6⟩ := hS; go_simp)⟩) hHeld ?_
              simp only [Act.put, List.getElem_toArray, List.getElem_cons_zero, List.getElem_cons_succ, List.setIfInBounds_toArray, List.set_cons_zero, List.set_cons_succ]
              refine wpAnyH_take (i := 12) (v := .pointer (some ⟨wr.heap.size, 3, none⟩)) rfl (by kernel_rfl) (by kernel_rfl) (by kernel_rfl) (fun _ _ _ h => h) (Or.inl ⟨by rfl, fun w' hS => by go_simp⟩) hHeld ?_
              simp only [Act.put, List.getElem_toArray, List.getElem_cons_zero, List.getElem_cons_succ, List.setIfInBounds_toArray, List.set_cons_zero, List.set_cons_succ]
              refine wpAnyH_take (i := 13) (v := .int .i64 o.t) rfl (by kernel_rfl) (by kernel_rfl) (by kernel_rfl) (fun _ _ _ h => h) (Or.inl ⟨by rfl, fun w' hS => by (obtain ⟨s0, s1, s2, s3, s4, s5, s6⟩ := hS; go_simp)⟩) hHeld ?_
              simp only [Act.put, List.getElem_toArray, List.getElem_cons_zero, List.getElem_cons_succ, List.setIfInBounds_toArray, List.set_cons_zero, List.set_cons_succ]
              refine wpAnyH_take (i := 14) (v := .int .i64 an) rfl (by kernel_rfl) (by kernel_rfl) (by kernel_rfl) (fun _ _ _ h => h) (Or.inl ⟨by rfl, fun w' hS => by (go_simp <;> first | exact han | simp [han])⟩) hHeld ?_
              simp only [Act.put, List.getElem_toArray, List.getElem_cons_zero, List.getElem_cons_succ, List.setIfInBounds_toArray, List.set_cons_zero, List.set_cons_succ]
              refine wpAnyH_ready (rs := [7]) (by kernel_rfl) (by simp) ?_
              refine AllReadyH.cons rfl (fun K hK => ?_) AllReadyH.nil
              go_simp
              refine (HPt.out _).mono ?_
              rintro e w7 ⟨rfl, rfl⟩
              refine hK.out _ _ ⟨cell_drew y0, cell_drew y1, cell_drew y2, cell_drew y3, cell_drew y4, cell_drew f0, cell_drew f1⟩ (fun hHeld => ?_)
              clear hK K
              refine wpAnyH_ready (rs := [15]) (by kernel_rfl) (by simp) ?_
              refine AllReadyH.cons rfl (fun K hK => ?_) AllReadyH.nil
              go_simp
              refine (HHa.out _).mono ?_
              rintro e w7 ⟨u, rfl, g7, rfl, hg7, hB7, hb7⟩
              have B7 : Below X2.heap.size X2 w7 := bstep (Below.refl _ _).drew hb7
              refine hK.out _ _ ⟨below_at B7 y0, below_at B7 y1, below_at B7 y2, below_at B7 y3, below_at B7 y4, below_at B7 f0, below_at B7 f1⟩ (fun hHeld => ?_)
              clear hK K
              refine wpAnyH_take (i := 16) (v := .agg #[.int .i64 pt, .slice (some ⟨g7, 0, none⟩) n n]) rfl (by kernel_rfl) (by kernel_rfl) (by kernel_rfl) (fun _ _ _ h => h) (Or.inl ⟨by rfl, fun w' hS => by go_simp⟩) hHeld ?_
              simp only [Act.put, List.getElem_toArray, List.getElem_cons_zero, List.getElem_cons_succ, List.setIfInBounds_toArray, List.set_cons_zero, List.set_cons_succ]
              refine wpAnyH_ready (rs := [17]) (by kernel_rfl) (by simp) ?_
              refine AllReadyH.cons rfl (fun K hK => ?_) AllReadyH.nil
              go_simp
              refine (HHd.out w7 B7 g7 (Nat.le_trans (by simp) hg7) hB7).mono ?_
              rintro e w8 ⟨rfl, R8, K8⟩
              refine hK.out _ _ ⟨cell_keep K8 hno.out (below_at B7 y0), cell_keep K8 hno.out (below_at B7 y1), cell_keep K8 hno.out (below_at B7 y2), cell_keep K8 hno.out (below_at B7 y3), cell_keep K8 hno.out (below_at B7 y4), cell_keep K8 hnr.out (below_at B7 f0), cell_keep K8 hnr.out (below_at B7 f1)⟩ (fun hHeld => ?_)
              clear hK K
              refine wpAnyH_take (i := 18) (v := .int .i64 hc) rfl (by kernel_rfl) (by kernel_rfl) (by kernel_rfl) (fun _ _ _ h => h) (Or.inl ⟨by rfl, fun w' hS => by go_simp⟩) hHeld ?_
              simp only [Act.put, List.getElem_toArray, List.getElem_cons_zero, List.getElem_cons_succ, List.setIfInBounds_toArray, List.set_cons_zero, List.set_cons_succ]
              refine wpAnyH_done (by kernel_rfl) ?_ _
              clear hHeld
              have q0 := cell_keep K8 hno.out (below_at B7 y0)
              have q1 := cell_keep K8 hno.out (below_at B7 y1)
              have q2 := cell_keep K8 hno.out (below_at B7 y2)
              have q3 := cell_keep K8 hno.out (below_at B7 y3)
              have q4 := cell_keep K8 hno.out (below_at B7 y4)
              have HR8 : Hid (Rp w1 w8 B n s inc step lim b (k + 1) (.slice a5 L5 c5) Da ks) := R8
              clear R8 K8 B7 hb7 hB7 hg7 HHd HHa HPt y0 y1 y2 y3 y4 f0 f1 f2 HRX2 han
              by_cases hc0 : hc = 0
              · have HKo : Hid (KOk Da n s o) := HNew.out hc0
                subst hc0
                have HRow : Hid (w8.ownsRow w1.heap.size 61 5 (.slice a5 L5 c5) L5 (opCells ks)) := by
                  have := HR8.out.row
                  unfold RowK at this
                  rw [HL5.out] at this
                  exact this
                have hl5 : L5 ≤ 100 := by have := HL5.out; omega
                have hsz8 : w1.heap.size ≤ w8.heap.size := HR8.out.sz
                cases bf
                all_goals
                  go_wp2_with (first
                    | (go_at_call 21; refine (num_any _).mono ?_; rintro e wn ⟨rfl, rfl⟩)
                    | (at_builtin; refine wpList_append_lies _ rfl _ _ 29 rfl w1.heap.size 61 i0 (.agg #[.int .i64 0, .int .i64 0, .int .i64 0, .int .i64 0, .slice none 0 0]) 5 56 Try.underlying29 hi hz0 hz1 hz2 rfl (by omega) (.slice a5 L5 c5) L5 (opCells ks) rfl (World.ownsRow.alloc HRow.out _) _ 1 1 _ rfl rfl (World.news_of_block (heap_alloc_new _ _)) (by simp [Value.oneCell']) (by omega) (by unfold maxLen; omega) (by omega) (by first | (simp; omega) | omega) _ rfl ?_)
                    | fail)
                  intro g3 cap3 w3 hown3 hgrow3 hat3 hlt3
                  have HR : Hid (Rp w1 w3 B n s inc step lim b (k + 1) (.slice (some ⟨g3, 0, none⟩) (L5 + 1) cap3) Da (ks ++ [o])) := by
                    refine (HR8.out.still (balloc (Below.refl _ w8))).push (by omega) HKo.out ?_ hgrow3
                    rw [HL5.out]
                    simpa [Opx.cs, h2] using hown3
                  clear hown3 hgrow3 hat3 hlt3 HR8 HRow HKo
                  obtain ⟨a7, ha7⟩ : ∃ a : Option Addr, some ⟨g3, 0, none⟩ = a := ⟨_, rfl⟩
                  obtain ⟨L7, hL7⟩ : ∃ L, L5 + 1 = L := ⟨_, rfl⟩
                  obtain ⟨kv, hkv⟩ : ∃ kv, ks ++ [o] = kv := ⟨_, rfl⟩
                  rw [ha7, hL7, hkv] at HR
                  have hl7 : kv.length ≤ 101 := by have := HR.out.len; omega
                  rw [ha7, hL7]
                  clear ha7 hL7 hkv
                  obtain ⟨Y, hY⟩ : ∃ Y, (Da).asked = Y := ⟨_, rfl⟩
                  have HAs : Hid (∀ w', Below w3.heap.size w3 w' → Calls Try.prog 29 #[.pointer (some ⟨b, 0, none⟩), .int .i64 n] w' fun e w2 => ∃ a n c, e = .returned (.slice a n c) ∧ RdI w2 a n Y ∧ n ≤ 1000 ∧ Below w'.heap.size w' w2) := fun w' hb => by have := (HR.out.still hb).asked; rw [hY] at this; exact this
                  obtain ⟨g0, g1, g2, g6⟩ := HRC.out.to HR.out.lo hrB
                  clear hY
                  go_wp2_with (first | (go_at_call 21; refine (num_any _).mono ?_; rintro e wn ⟨rfl, rfl⟩) | fail)
                  refine (HAs.out _ (Below.refl _ _)).mono ?_
                  rintro e w6 ⟨a6, n6, c6, rfl, r6, m6, hb6⟩
                  have R6 : Hid (RdI w6 a6 n6 Y) := r6
                  have B6 : Hid (Below w3.heap.size w3 w6) := hb6
                  clear r6 hb6 g0 g1 g2 g6
                  go_wp2
                  go_loopw [11] (fun v11 wq => ∃ (j : Nat), j ≤ (kv).length ∧ v11 = .int .i64 (j : Int) ∧ Below w6.heap.size w6 wq) (fun v11 _ => (kv).length - (intOf v11).toNat)
                  case atStart => exact ⟨0, Nat.zero_le _, rfl, Below.refl _ _⟩
                  case round =>
                    obtain ⟨j, hj, rfl, hbz⟩ := hrel
                    have hRz := HR.out.still (bstep B6.out hbz)
                    obtain ⟨g0, g1, g2, g6⟩ := HRC.out.to hRz.lo hrB
                    have HBz : Hid (Below w6.heap.size w6 wr) := hbz
                    have HRz : Hid (Rp w1 wr B n s inc step lim b (k + 1) (.slice a7 L7 cap3) (Da) (kv)) := hRz
                    clear hbz
                    by_cases hlt1 : j < (kv).length
                    · obtain ⟨g5, c5', hv5, z0, z1, z2, z3, z4⟩ := hRz.row.at hlt1
                      have hK := hRz.all ((kv).getD j o0) (by simp [List.getD, hlt1])
                      generalize (kv).getD j o0 = o1 at z0 z1 z2 z3 z4 hK
                      generalize hZ : wr.alloc (.cells o1.cs 61) = Z
                      have hbZ : Below wr.heap.size wr Z := by rw [← hZ]; exact balloc (Below.refl _ wr)
                      have hkZ : Z.heap[wr.heap.size]? = some (.cells o1.cs 61 (0, 0)) := by rw [← hZ]; exact heap_alloc_new wr _
                      obtain ⟨zz, hzz⟩ : ∃ z, wr.heap.size = z := ⟨_, rfl⟩
                      rw [hzz] at hkZ
                      have p1 : Z.cell? ⟨zz, 1, none⟩ = some (.int .i64 o1.q) := blk_cell hkZ 1
                      have p2 : Z.cell? ⟨zz, 2, none⟩ = some (.int .i64 o1.inc) := blk_cell hkZ 2
                      have p3 : Z.cell? ⟨zz, 3, none⟩ = some (.int .i64 o1.t) := blk_cell hkZ 3
                      have HbZ : Hid (Below wr.heap.size wr Z) := hbZ
                      have HSt : Hid (∀ w', Below Z.heap.size Z w' → ∀ g, BlkI w' g (heaI n s inc) → Calls Try.prog 15 #[.pointer (some ⟨b, 0, none⟩), .int .i64 o1.q, .int .i64 o1.inc, .agg #[.int .i64 (posI o1.t 50), .slice (some ⟨g, 0, none⟩) n n]] w' fun e w2 => ∃ c : Int, e = .returned (.int .i64 c) ∧ (c = 50 ∨ c = 51) ∧ Below w'.heap.size w' w2) := fun w' hb g hg => refused_any ((HRz.out.still HbZ.out).still hb).ok HRz.out.lk hK inc ha3 hg
                      have HPt1 : Hid (∀ w1, Calls Try.prog 14 #[.int .i64 o1.t, .int .i64 50] w1 fun e w' => e = .returned (.int .i64 (posI o1.t 50)) ∧ w1 = w') := fun w1 => pos_any _ _ (by omega)
                      generalize posI o1.t 50 = pt1 at HSt HPt1
                      replace g0 := below_at hbZ g0
                      replace g1 := below_at hbZ g1
                      replace g2 := below_at hbZ g2
                      simp only [Value.slice.injEq] at hv5
                      have hL1 := hv5.2.1
                      have ha5 := hv5.1
                      have i1 : (0 : Int) ≤ (j : Int) := Int.natCast_nonneg _
                      have i2 : (j : Int) < ((L7 : Nat) : Int) := by omega
                      clear hv5 hRz hK hkZ hbZ g6 hL1
                      subst ha5
                      unfold Opx.cs at hZ
                      go_wp2
                      first | rw [hzz] | skip
                      refine wp_region_held_drew (S := (fun w' => w'.cell? ⟨zz, 1, none⟩ = some (.int .i64 o1.q) ∧ w'.cell? ⟨zz, 2, none⟩ = some (.int .i64 o1.inc) ∧ w'.cell? ⟨zz, 3, none⟩ = some (.int .i64 o1.t) ∧ w'.cell? ⟨w.heap.size, 0, none⟩ = some (.int .i64 (n : Int)) ∧ w'.cell? ⟨w.heap.size, 1, none⟩ = some (.int .i64 (s : Int)) ∧ w'.cell? ⟨w.heap.size, 2, none⟩ = some (.int .i64 inc))) (by kernel_rfl) ⟨cell_drew p1, cell_drew p2, cell_drew p3, cell_drew g0, cell_drew g1, cell_drew g2⟩ (fun hHeld => ?_)
                      simp only [Act.put, List.size_toArray, List.length_cons, List.length_nil, Nat.zero_add]
                      refine wpAnyH_take (i := 0) (v := .pointer (some ⟨b, 0, none⟩)) rfl (by kernel_rfl) (by kernel_rfl) (by kernel_rfl) (fun _ _ _ h => h) (Or.inl ⟨by rfl, fun w' hS => by go_simp⟩) hHeld ?_
                      simp only [Act.put, List.getElem_toArray, List.getElem_cons_zero, List.getElem_cons_succ, List.setIfInBounds_toArray, List.set_cons_zero, List.set_cons_succ]
                      refine wpAnyH_take (i := 1) (v := .pointer (some ⟨zz, 1, none⟩)) rfl (by kernel_rfl) (by kernel_rfl) (by kernel_rfl) (fun _ _ _ h => h) (Or.inl ⟨by rfl, fun w' hS => by go_simp⟩) hHeld ?_
                      simp only [Act.put, List.getElem_toArray, List.getElem_cons_zero, List.getElem_cons_succ, List.setIfInBounds_toArray, List.set_cons_zero, List.set_cons_succ]
                      refine wpAnyH_take (i := 2) (v := .int .i64 o1.q) rfl (by kernel_rfl) (by kernel_rfl) (by kernel_rfl) (fun _ _ _ h => h) (Or.inl ⟨by rfl, fun w' hS => by (obtain ⟨s0, s1, s2, s3, s4, s5⟩ := hS; go_simp)⟩) hHeld ?_
                      simp only [Act.put, List.getElem_toArray, List.getElem_cons_zero, List.getElem_cons_succ, List.setIfInBounds_toArray, List.set_cons_zero, List.set_cons_succ]
                      refine wpAnyH_take (i := 3) (v := .pointer (some ⟨zz, 2, none⟩)) rfl (by kernel_rfl) (by kernel_rfl) (by kernel_rfl) (fun _ _ _ h => h) (Or.inl ⟨by rfl, fun w' hS => by go_simp⟩) hHeld ?_
                      simp only [Act.put, List.getElem_toArray, List.getElem_cons_zero, List.getElem_cons_succ, List.setIfInBounds_toArray, List.set_cons_zero, List.set_cons_succ]
                      refine wpAnyH_take (i := 4) (v := .int .i64 o1.inc) rfl (by kernel_rfl) (by kernel_rfl) (by kernel_rfl) (fun _ _ _ h => h) (Or.inl ⟨by rfl, fun w' hS => by (obtain ⟨s0, s1, s2, s3, s4, s5⟩ := hS; go_simp)⟩) hHeld ?_
                      simp only [Act.put, List.getElem_toArray, List.getElem_cons_zero, List.getElem_cons_succ, List.setIfInBounds_toArray, List.set_cons_zero, List.set_cons_succ]
                      refine wpAnyH_take (i := 5) (v := .pointer (some ⟨zz, 3, none⟩)) rfl (by kernel_rfl) (by kernel_rfl) (by kernel_rfl) (fun _ _ _ h => h) (Or.inl ⟨by rfl, fun w' hS => by go_simp⟩) hHeld ?_
                      simp only [Act.put, List.getElem_toArray, List.getElem_cons_zero, List.getElem_cons_succ, List.setIfInBounds_toArray, List.set_cons_zero, List.set_cons_succ]
                      refine wpAnyH_take (i := 6) (v := .int .i64 o1.t) rfl (by kernel_rfl) (by kernel_rfl) (by kernel_rfl) (fun _ _ _ h => h) (Or.inl ⟨by rfl, fun w' hS => by (obtain ⟨s0, s1, s2, s3, s4, s5⟩ := hS; go_simp)⟩) hHeld ?_
                      simp only [Act.put, List.getElem_toArray, List.getElem_cons_zero, List.getElem_cons_succ, List.setIfInBounds_toArray, List.set_cons_zero, List.set_cons_succ]
                      refine wpAnyH_take (i := 8) (v := .pointer (some ⟨w.heap.size, 0, none⟩)) rfl (by kernel_rfl) (by kernel_rfl) (by kernel_rfl) (fun _ _ _ h => h) (Or.inl ⟨by rfl, fun w' hS => by go_simp⟩) hHeld ?_
                      simp only [Act.put, List.getElem_toArray, List.getElem_cons_zero, List.getElem_cons_succ, List.setIfInBounds_toArray, List.set_cons_zero, List.set_cons_succ]
                      refine wpAnyH_take (i := 9) (v := .int .i64 (n : Int)) rfl (by kernel_rfl) (by kernel_rfl) (by kernel_rfl) (fun _ _ _ h => h) (Or.inl ⟨by rfl, fun w' hS => by (obtain ⟨s0, s1, s2, s3, s4, s5⟩ := hS; go_simp)⟩) hHeld ?_
                      simp only [Act.put, List.getElem_toArray, List.getElem_cons_zero, List.getElem_cons_succ, List.setIfInBounds_toArray, List.set_cons_zero, List.set_cons_succ]
                      refine wpAnyH_take (i := 10) (v := .pointer (some ⟨w.heap.size, 1, none⟩)) rfl (by kernel_rfl) (by kernel_rfl) (by kernel_rfl) (fun _ _ _ h => h) (Or.inl ⟨by rfl, fun w' hS => by go_simp⟩) hHeld ?_
                      simp only [Act.put, List.getElem_toArray, List.getElem_cons_zero, List.getElem_cons_succ, List.setIfInBounds_toArray, List.set_cons_zero, List.set_cons_succ]
                      refine wpAnyH_take (i := 11) (v := .int .i64 (s : Int)) rfl (by kernel_rfl) (by kernel_rfl) (by kernel_rfl) (fun _ _ _ h => h) (Or.inl ⟨by rfl, fun w' hS => by (obtain ⟨s0, s1, s2, s3, s4, s5⟩ := hS; go_simp)⟩) hHeld ?_
                      simp only [Act.put, List.getElem_toArray, List.getElem_cons_zero, List.getElem_cons_succ, List.setIfInBounds_toArray, List.set_cons_zero, List.set_cons_succ]
                      refine wpAnyH_take (i := 12) (v := .pointer (some ⟨w.heap.size, 2, none⟩)) rfl (by kernel_rfl) (by kernel_rfl) (by kernel_rfl) (fun _ _ _ h => h) (Or.inl ⟨by rfl, fun w' hS => by go_simp⟩) hHeld ?_
                      simp only [Act.put, List.getElem_toArray, List.getElem_cons_zero, List.getElem_cons_succ, List.setIfInBounds_toArray, List.set_cons_zero, List.set_cons_succ]
                      refine wpAnyH_take (i := 13) (v := .int .i64 inc) rfl (by kernel_rfl) (by kernel_rfl) (by kernel_rfl) (fun _ _ _ h => h) (Or.inl ⟨by rfl, fun w' hS => by (obtain ⟨s0, s1, s2, s3, s4, s5⟩ := hS; go_simp)⟩) hHeld ?_
                      simp only [Act.put, List.getElem_toArray, List.getElem_cons_zero, List.getElem_cons_succ, List.setIfInBounds_toArray, List.set_cons_zero, List.set_cons_succ]
                      refine wpAnyH_ready (rs := [7]) (by kernel_rfl) (by simp) ?_
                      refine AllReadyH.cons rfl (fun K hK => ?_) AllReadyH.nil
                      go_simp
                      refine (HPt1.out _).mono ?_
                      rintro e w7 ⟨rfl, rfl⟩
                      refine hK.out _ _ ⟨cell_drew p1, cell_drew p2, cell_drew p3, cell_drew g0, cell_drew g1, cell_drew g2⟩ (fun hHeld => ?_)
                      clear hK K
                      refine wpAnyH_ready (rs := [14]) (by kernel_rfl) (by simp) ?_
                      refine AllReadyH.cons rfl (fun K hK => ?_) AllReadyH.nil
                      go_simp
                      refine (HH.out _).mono ?_
                      rintro e w7 ⟨u, rfl, g7, rfl, hg7, hB7, hb7⟩
                      have B7 : Below Z.heap.size Z w7 := bstep (Below.refl _ _).drew hb7
                      refine hK.out _ _ ⟨below_at B7 p1, below_at B7 p2, below_at B7 p3, below_at B7 g0, below_at B7 g1, below_at B7 g2⟩ (fun hHeld => ?_)
                      clear hK K
                      refine wpAnyH_take (i := 15) (v := .agg #[.int .i64 pt1, .slice (some ⟨g7, 0, none⟩) n n]) rfl (by kernel_rfl) (by kernel_rfl) (by kernel_rfl) (fun _ _ _ h => h) (Or.inl ⟨by rfl, fun w' hS => by go_simp⟩) hHeld ?_
                      simp only [Act.put, List.getElem_toArray, List.getElem_cons_zero, List.getElem_cons_succ, List.setIfInBounds_toArray, List.set_cons_zero, List.set_cons_succ]
                      refine wpAnyH_ready (rs := [16]) (by kernel_rfl) (by simp) ?_
                      refine AllReadyH.cons rfl (fun K hK => ?_) AllReadyH.nil
                      go_simp
                      refine (HSt.out w7 B7 g7 hB7).mono ?_
                      rintro e w8 ⟨ce, rfl, hce, hb8⟩
                      have B8 : Below Z.heap.size Z w8 := bstep B7 hb8
                      refine hK.out _ _ ⟨below_at B8 p1, below_at B8 p2, below_at B8 p3, below_at B8 g0, below_at B8 g1, below_at B8 g2⟩ (fun hHeld => ?_)
                      clear hK K
                      refine wpAnyH_take (i := 17) (v := .int .i64 ce) rfl (by kernel_rfl) (by kernel_rfl) (by kernel_rfl) (fun _ _ _ h => h) (Or.inl ⟨by rfl, fun w' hS => by go_simp⟩) hHeld ?_
                      simp only [Act.put, List.getElem_toArray, List.getElem_cons_zero, List.getElem_cons_succ, List.setIfInBounds_toArray, List.set_cons_zero, List.set_cons_succ]
                      refine wpAnyH_done (by kernel_rfl) ?_ _
                      clear hHeld
                      have HB8 : Hid (Below w6.heap.size w6 w8) := bstep (bstep HBz.out HbZ.out) B8
                      clear B7 B8 hb7 hb8 hB7 hg7 HSt HPt1 g0 g1 g2 p1 p2 p3
                      rcases hce with rfl | rfl
                      all_goals
                        go_wp2_with (first | (go_at_call 21; refine (num_any _).mono ?_; rintro e wn ⟨rfl, rfl⟩) | fail)
                        first
                          | exact ⟨⟨j + 1, by omega, by go_num, HB8.out⟩, by simp [intOf]; omega⟩
                          | (go_roundw
                             case rel => exact ⟨j + 1, by omega, by go_num, HB8.out⟩
                             case measure => simp [intOf]; omega)
                    · have hL0 : (kv).length = L7 := by obtain ⟨_, _, hv⟩ := hRz.slice; simp only [Value.slice.injEq] at hv; omega
                      have hjL : L7 = j := by omega
                      subst hjL
                      clear hRz hL0
                      go_wp2_with (fail)
                      refine (HAs.out _ (bstep B6.out HBz.out)).mono ?_
                      rintro e w9 ⟨a9, n9, c9, rfl, r9, m9, hb9⟩
                      obtain rfl : n9 = n6 := by have e1 := R6.out.1; have e2 := r9.1; omega
                      have HSm := same_any (c1 := c6) (c2 := c9) ((R6.out.still HBz.out).still hb9) r9 (by omega)
                      have HB9 : Hid (Below wr.heap.size wr w9) := hb9
                      clear r9 hb9 g0 g1 g2 g6
                      go_wp2_with (fail)
                      refine HSm.mono ?_
                      rintro e w10 ⟨rfl, hb10⟩
                      have HE : Hid (Rp w1 w10 B n s inc step lim b (k + 1) (.slice a7 L7 cap3) (Da) (kv)) := HRz.out.still (bstep HB9.out hb10)
                      clear hb10 HSm
                      go_wp2
                      first
                        | exact ⟨⟨k + 1, _, _, by omega, by omega, by go_num, HE.out⟩, by simp [intOf]; omega⟩
                        | (go_roundw
                           case rel => exact ⟨k + 1, _, _, by omega, by omega, by go_num, HE.out⟩
                           case measure => simp [intOf]; omega)
              · obtain rfl : bf = false := by
                  cases hbb : bf with
                  | false => rfl
                  | true => exact absurd (HF.out hbb) hc0
                have t0 : (hc == 0) = false := by simp [hc0]
                have HR : Hid (Rp w1 w8 B n s inc step lim b (k + 1) (.slice a5 L5 c5) Da ks) := HR8.out
                clear HR8 q0 q1 q2 q3 q4
                obtain ⟨Y, hY⟩ : ∃ Y, (Da).asked = Y := ⟨_, rfl⟩
                have HAs : Hid (∀ w', Below w8.heap.size w8 w' → Calls Try.prog 29 #[.pointer (some ⟨b, 0, none⟩), .int .i64 n] w' fun e w2 => ∃ a n c, e = .returned (.slice a n c) ∧ RdI w2 a n Y ∧ n ≤ 1000 ∧ Below w'.heap.size w' w2) := fun w' hb => by have := (HR.out.still hb).asked; rw [hY] at this; exact this
                obtain ⟨g0, g1, g2, g6⟩ := HRC.out.to HR.out.lo hrB
                clear hY
                go_wp2_with (first | (go_at_call 21; refine (num_any _).mono ?_; rintro e wn ⟨rfl, rfl⟩) | fail)
                refine (HAs.out _ (Below.refl _ _)).mono ?_
                rintro e w6 ⟨a6, n6, c6, rfl, r6, m6, hb6⟩
                have R6 : Hid (RdI w6 a6 n6 Y) := r6
                have B6 : Hid (Below w8.heap.size w8 w6) := hb6
                clear r6 hb6 g0 g1 g2 g6
                go_wp2
                go_loopw [11] (fun v11 wq => ∃ (j : Nat), j ≤ (ks).length ∧ v11 = .int .i64 (j : Int) ∧ Below w6.heap.size w6 wq) (fun v11 _ => (ks).length - (intOf v11).toNat)
                case atStart => exact ⟨0, Nat.zero_le _, rfl, Below.refl _ _⟩
                case round =>
                  obtain ⟨j, hj, rfl, hbz⟩ := hrel
                  have hRz := HR.out.still (bstep B6.out hbz)
                  obtain ⟨g0, g1, g2, g6⟩ := HRC.out.to hRz.lo hrB
                  have HBz : Hid (Below w6.heap.size w6 wr) := hbz
                  have HRz : Hid (Rp w1 wr B n s inc step lim b (k + 1) (.slice a5 L5 c5) (Da) (ks)) := hRz
                  clear hbz
                  by_cases hlt1 : j < (ks).length
                  · obtain ⟨g5, c5', hv5, z0, z1, z2, z3, z4⟩ := hRz.row.at hlt1
                    have hK := hRz.all ((ks).getD j o0) (by simp [List.getD, hlt1])
                    generalize (ks).getD j o0 = o1 at z0 z1 z2 z3 z4 hK
                    generalize hZ : wr.alloc (.cells o1.cs 61) = Z
                    have hbZ : Below wr.heap.size wr Z := by rw [← hZ]; exact balloc (Below.refl _ wr)
                    have hkZ : Z.heap[wr.heap.size]? = some (.cells o1.cs 61 (0, 0)) := by rw [← hZ]; exact heap_alloc_new wr _
                    obtain ⟨zz, hzz⟩ : ∃ z, wr.heap.size = z := ⟨_, rfl⟩
                    rw [hzz] at hkZ
                    have p1 : Z.cell? ⟨zz, 1, none⟩ = some (.int .i64 o1.q) := blk_cell hkZ 1
                    have p2 : Z.cell? ⟨zz, 2, none⟩ = some (.int .i64 o1.inc) := blk_cell hkZ 2
                    have p3 : Z.cell? ⟨zz, 3, none⟩ = some (.int .i64 o1.t) := blk_cell hkZ 3
                    have HbZ : Hid (Below wr.heap.size wr Z) := hbZ
                    have HSt : Hid (∀ w', Below Z.heap.size Z w' → ∀ g, BlkI w' g (heaI n s inc) → Calls Try.prog 15 #[.pointer (some ⟨b, 0, none⟩), .int .i64 o1.q, .int .i64 o1.inc, .agg #[.int .i64 (posI o1.t 50), .slice (some ⟨g, 0, none⟩) n n]] w' fun e w2 => ∃ c : Int, e = .returned (.int .i64 c) ∧ (c = 50 ∨ c = 51) ∧ Below w'.heap.size w' w2) := fun w' hb g hg => refused_any ((HRz.out.still HbZ.out).still hb).ok HRz.out.lk hK inc ha3 hg
                    have HPt1 : Hid (∀ w1, Calls Try.prog 14 #[.int .i64 o1.t, .int .i64 50] w1 fun e w' => e = .returned (.int .i64 (posI o1.t 50)) ∧ w1 = w') := fun w1 => pos_any _ _ (by omega)
                    generalize posI o1.t 50 = pt1 at HSt HPt1
                    replace g0 := below_at hbZ g0
                    replace g1 := below_at hbZ g1
                    replace g2 := below_at hbZ g2
                    simp only [Value.slice.injEq] at hv5
                    have hL1 := hv5.2.1
                    have ha5 := hv5.1
                    have i1 : (0 : Int) ≤ (j : Int) := Int.natCast_nonneg _
                    have i2 : (j : Int) < ((L5 : Nat) : Int) := by omega
                    clear hv5 hRz hK hkZ hbZ g6 hL1
                    subst ha5
                    unfold Opx.cs at hZ
                    go_wp2
                    first | rw [hzz] | skip
                    refine wp_region_held_drew (S := (fun w' => w'.cell? ⟨zz, 1, none⟩ = some (.int .i64 o1.q) ∧ w'.cell? ⟨zz, 2, none⟩ = some (.int .i64 o1.inc) ∧ w'.cell? ⟨zz, 3, none⟩ = some (.int .i64 o1.t) ∧ w'.cell? ⟨w.heap.size, 0, none⟩ = some (.int .i64 (n : Int)) ∧ w'.cell? ⟨w.heap.size, 1, none⟩ = some (.int .i64 (s : Int)) ∧ w'.cell? ⟨w.heap.size, 2, none⟩ = some (.int .i64 inc))) (by kernel_rfl) ⟨cell_drew p1, cell_drew p2, cell_drew p3, cell_drew g0, cell_drew g1, cell_drew g2⟩ (fun hHeld => ?_)
                    simp only [Act.put, List.size_toArray, List.length_cons, List.length_nil, Nat.zero_add]
                    refine wpAnyH_take (i := 0) (v := .pointer (some ⟨b, 0, none⟩)) rfl (by kernel_rfl) (by kernel_rfl) (by kernel_rfl) (fun _ _ _ h => h) (Or.inl ⟨by rfl, fun w' hS => by go_simp⟩) hHeld ?_
                    simp only [Act.put, List.getElem_toArray, List.getElem_cons_zero, List.getElem_cons_succ, List.setIfInBounds_toArray, List.set_cons_zero, List.set_cons_succ]
                    refine wpAnyH_take (i := 1) (v := .pointer (some ⟨zz, 1, none⟩)) rfl (by kernel_rfl) (by kernel_rfl) (by kernel_rfl) (fun _ _ _ h => h) (Or.inl ⟨by rfl, fun w' hS => by go_simp⟩) hHeld ?_
                    simp only [Act.put, List.getElem_toArray, List.getElem_cons_zero, List.getElem_cons_succ, List.setIfInBounds_toArray, List.set_cons_zero, List.set_cons_succ]
                    refine wpAnyH_take (i := 2) (v := .int .i64 o1.q) rfl (by kernel_rfl) (by kernel_rfl) (by kernel_rfl) (fun _ _ _ h => h) (Or.inl ⟨by rfl, fun w' hS => by (obtain ⟨s0, s1, s2, s3, s4, s5⟩ := hS; go_simp)⟩) hHeld ?_
                    simp only [Act.put, List.getElem_toArray, List.getElem_cons_zero, List.getElem_cons_succ, List.setIfInBounds_toArray, List.set_cons_zero, List.set_cons_succ]
                    refine wpAnyH_take (i := 3) (v := .pointer (some ⟨zz, 2, none⟩)) rfl (by kernel_rfl) (by kernel_rfl) (by kernel_rfl) (fun _ _ _ h => h) (Or.inl ⟨by rfl, fun w' hS => by go_simp⟩) hHeld ?_
                    simp only [Act.put, List.getElem_toArray, List.getElem_cons_zero, List.getElem_cons_succ, List.setIfInBounds_toArray, List.set_cons_zero, List.set_cons_succ]
                    refine wpAnyH_take (i := 4) (v := .int .i64 o1.inc) rfl (by kernel_rfl) (by kernel_rfl) (by kernel_rfl) (fun _ _ _ h => h) (Or.inl ⟨by rfl, fun w' hS => by (obtain ⟨s0, s1, s2, s3, s4, s5⟩ := hS; go_simp)⟩) hHeld ?_
                    simp only [Act.put, List.getElem_toArray, List.getElem_cons_zero, List.getElem_cons_succ, List.setIfInBounds_toArray, List.set_cons_zero, List.set_cons_succ]
                    refine wpAnyH_take (i := 5) (v := .pointer (some ⟨zz, 3, none⟩)) rfl (by kernel_rfl) (by kernel_rfl) (by kernel_rfl) (fun _ _ _ h => h) (Or.inl ⟨by rfl, fun w' hS => by go_simp⟩) hHeld ?_
                    simp only [Act.put, List.getElem_toArray, List.getElem_cons_zero, List.getElem_cons_succ, List.setIfInBounds_toArray, List.set_cons_zero, List.set_cons_succ]
                    refine wpAnyH_take (i := 6) (v := .int .i64 o1.t) rfl (by kernel_rfl) (by kernel_rfl) (by kernel_rfl) (fun _ _ _ h => h) (Or.inl ⟨by rfl, fun w' hS => by (obtain ⟨s0, s1, s2, s3, s4, s5⟩ := hS; go_simp)⟩) hHeld ?_
                    simp only [Act.put, List.getElem_toArray, List.getElem_cons_zero, List.getElem_cons_succ, List.setIfInBounds_toArray, List.set_cons_zero, List.set_cons_succ]
                    refine wpAnyH_take (i := 8) (v := .pointer (some ⟨w.heap.size, 0, none⟩)) rfl (by kernel_rfl) (by kernel_rfl) (by kernel_rfl) (fun _ _ _ h => h) (Or.inl ⟨by rfl, fun w' hS => by go_simp⟩) hHeld ?_
                    simp only [Act.put, List.getElem_toArray, List.getElem_cons_zero, List.getElem_cons_succ, List.setIfInBounds_toArray, List.set_cons_zero, List.set_cons_succ]
                    refine wpAnyH_take (i := 9) (v := .int .i64 (n : Int)) rfl (by kernel_rfl) (by kernel_rfl) (by kernel_rfl) (fun _ _ _ h => h) (Or.inl ⟨by rfl, fun w' hS => by (obtain ⟨s0, s1, s2, s3, s4, s5⟩ := hS; go_simp)⟩) hHeld ?_
                    simp only [Act.put, List.getElem_toArray, List.getElem_cons_zero, List.getElem_cons_succ, List.setIfInBounds_toArray, List.set_cons_zero, List.set_cons_succ]
                    refine wpAnyH_take (i := 10) (v := .pointer (some ⟨w.heap.size, 1, none⟩)) rfl (by kernel_rfl) (by kernel_rfl) (by kernel_rfl) (fun _ _ _ h => h) (Or.inl ⟨by rfl, fun w' hS => by go_simp⟩) hHeld ?_
                    simp only [Act.put, List.getElem_toArray, List.getElem_cons_zero, List.getElem_cons_succ, List.setIfInBounds_toArray, List.set_cons_zero, List.set_cons_succ]
                    refine wpAnyH_take (i := 11) (v := .int .i64 (s : Int)) rfl (by kernel_rfl) (by kernel_rfl) (by kernel_rfl) (fun _ _ _ h => h) (Or.inl ⟨by rfl, fun w' hS => by (obtain ⟨s0, s1, s2, s3, s4, s5⟩ := hS; go_simp)⟩) hHeld ?_
                    simp only [Act.put, List.getElem_toArray, List.getElem_cons_zero, List.getElem_cons_succ, List.setIfInBounds_toArray, List.set_cons_zero, List.set_cons_succ]
                    refine wpAnyH_take (i := 12) (v := .pointer (some ⟨w.heap.size, 2, none⟩)) rfl (by kernel_rfl) (by kernel_rfl) (by kernel_rfl) (fun _ _ _ h => h) (Or.inl ⟨by rfl, fun w' hS => by go_simp⟩) hHeld ?_
                    simp only [Act.put, List.getElem_toArray, List.getElem_cons_zero, List.getElem_cons_succ, List.setIfInBounds_toArray, List.set_cons_zero, List.set_cons_succ]
                    refine wpAnyH_take (i := 13) (v := .int .i64 inc) rfl (by kernel_rfl) (by kernel_rfl) (by kernel_rfl) (fun _ _ _ h => h) (Or.inl ⟨by rfl, fun w' hS => by (obtain ⟨s0, s1, s2, s3, s4, s5⟩ := hS; go_simp)⟩) hHeld ?_
                    simp only [Act.put, List.getElem_toArray, List.getElem_cons_zero, List.getElem_cons_succ, List.setIfInBounds_toArray, List.set_cons_zero, List.set_cons_succ]
                    refine wpAnyH_ready (rs := [7]) (by kernel_rfl) (by simp) ?_
                    refine AllReadyH.cons rfl (fun K hK => ?_) AllReadyH.nil
                    go_simp
                    refine (HPt1.out _).mono ?_
                    rintro e w7 ⟨rfl, rfl⟩
                    refine hK.out _ _ ⟨cell_drew p1, cell_drew p2, cell_drew p3, cell_drew g0, cell_drew g1, cell_drew g2⟩ (fun hHeld => ?_)
                    clear hK K
                    refine wpAnyH_ready (rs := [14]) (by kernel_rfl) (by simp) ?_
                    refine AllReadyH.cons rfl (fun K hK => ?_) AllReadyH.nil
                    go_simp
                    refine (HH.out _).mono ?_
                    rintro e w7 ⟨u, rfl, g7, rfl, hg7, hB7, hb7⟩
                    have B7 : Below Z.heap.size Z w7 := bstep (Below.refl _ _).drew hb7
                    refine hK.out _ _ ⟨below_at B7 p1, below_at B7 p2, below_at B7 p3, below_at B7 g0, below_at B7 g1, below_at B7 g2⟩ (fun hHeld => ?_)
                    clear hK K
                    refine wpAnyH_take (i := 15) (v := .agg #[.int .i64 pt1, .slice (some ⟨g7, 0, none⟩) n n]) rfl (by kernel_rfl) (by kernel_rfl) (by kernel_rfl) (fun _ _ _ h => h) (Or.inl ⟨by rfl, fun w' hS => by go_simp⟩) hHeld ?_
                    simp only [Act.put, List.getElem_toArray, List.getElem_cons_zero, List.getElem_cons_succ, List.setIfInBounds_toArray, List.set_cons_zero, List.set_cons_succ]
                    refine wpAnyH_ready (rs := [16]) (by kernel_rfl) (by simp) ?_
                    refine AllReadyH.cons rfl (fun K hK => ?_) AllReadyH.nil
                    go_simp
                    refine (HSt.out w7 B7 g7 hB7).mono ?_
                    rintro e w8 ⟨ce, rfl, hce, hb8⟩
                    have B8 : Below Z.heap.size Z w8 := bstep B7 hb8
                    refine hK.out _ _ ⟨below_at B8 p1, below_at B8 p2, below_at B8 p3, below_at B8 g0, below_at B8 g1, below_at B8 g2⟩ (fun hHeld => ?_)
                    clear hK K
                    refine wpAnyH_take (i := 17) (v := .int .i64 ce) rfl (by kernel_rfl) (by kernel_rfl) (by kernel_rfl) (fun _ _ _ h => h) (Or.inl ⟨by rfl, fun w' hS => by go_simp⟩) hHeld ?_
                    simp only [Act.put, List.getElem_toArray, List.getElem_cons_zero, List.getElem_cons_succ, List.setIfInBounds_toArray, List.set_cons_zero, List.set_cons_succ]
                    refine wpAnyH_done (by kernel_rfl) ?_ _
                    clear hHeld
                    have HB8 : Hid (Below w6.heap.size w6 w8) := bstep (bstep HBz.out HbZ.out) B8
                    clear B7 B8 hb7 hb8 hB7 hg7 HSt HPt1 g0 g1 g2 p1 p2 p3
                    rcases hce with rfl | rfl
                    all_goals
                      go_wp2_with (first | (go_at_call 21; refine (num_any _).mono ?_; rintro e wn ⟨rfl, rfl⟩) | fail)
                      first
                        | exact ⟨⟨j + 1, by omega, by go_num, HB8.out⟩, by simp [intOf]; omega⟩
                        | (go_roundw
                           case rel => exact ⟨j + 1, by omega, by go_num, HB8.out⟩
                           case measure => simp [intOf]; omega)
                  · have hL0 : (ks).length = L5 := by obtain ⟨_, _, hv⟩ := hRz.slice; simp only [Value.slice.injEq] at hv; omega
                    have hjL : L5 = j := by omega
                    subst hjL
                    clear hRz hL0
                    go_wp2_with (fail)
                    refine (HAs.out _ (bstep B6.out HBz.out)).mono ?_
                    rintro e w9 ⟨a9, n9, c9, rfl, r9, m9, hb9⟩
                    obtain rfl : n9 = n6 := by have e1 := R6.out.1; have e2 := r9.1; omega
                    have HSm := same_any (c1 := c6) (c2 := c9) ((R6.out.still HBz.out).still hb9) r9 (by omega)
                    have HB9 : Hid (Below wr.heap.size wr w9) := hb9
                    clear r9 hb9 g0 g1 g2 g6
                    go_wp2_with (fail)
                    refine HSm.mono ?_
                    rintro e w10 ⟨rfl, hb10⟩
                    have HE : Hid (Rp w1 w10 B n s inc step lim b (k + 1) (.slice a5 L5 c5) (Da) (ks)) := HRz.out.still (bstep HB9.out hb10)
                    clear hb10 HSm
                    go_wp2
                    first
                      | exact ⟨⟨k + 1, _, _, by omega, by omega, by go_num, HE.out⟩, by simp [intOf]; omega⟩
                      | (go_roundw
                         case rel => exact ⟨k + 1, _, _, by omega, by omega, by go_num, HE.out⟩
                         case measure => simp [intOf]; omega)
            · clear f0 f1
              have f0 := f0X
              have f1 := f1X
              clear f0X f1X
              refine wp_region_held_drew (S := (fun w' => w'.cell? ⟨wr.heap.size, 1, none⟩ = some (.int .i64 o.q) ∧ w'.cell? ⟨wr.heap.size, 2, none⟩ = some (.int .i64 o.inc) ∧ w'.cell? ⟨w.heap.size, 0, none⟩ = some (.int .i64 (n : Int)) ∧ w'.cell? ⟨w.heap.size, 1, none⟩ = some (.int .i64 (s : Int)))) (by kernel_rfl) ⟨cell_drew y1, cell_drew y2, cell_drew f0, cell_drew f1⟩ (fun hHeld => ?_)
              simp only [Act.put, List.size_toArray, List.length_cons, List.length_nil, Nat.zero_add]
              refine wpAnyH_take (i := 0) (v := .pointer (some ⟨wr.heap.size, 1, none⟩)) rfl (by kernel_rfl) (by kernel_rfl) (by kernel_rfl) (fun _ _ _ h => h) (Or.inl ⟨by rfl, fun w' hS => by go_simp⟩) hHeld ?_
              simp only [Act.put, List.getElem_toArray, List.getElem_cons_zero, List.getElem_cons_succ, List.setIfInBounds_toArray, List.set_cons_zero, List.set_cons_succ]
              refine wpAnyH_take (i := 1) (v := .int .i64 o.q) rfl (by kernel_rfl) (by kernel_rfl) (by kernel_rfl) (fun _ _ _ h => h) (Or.inl ⟨by rfl, fun w' hS => by (obtain ⟨s0, s1, s2, s3⟩ := hS; go_simp)⟩) hHeld ?_
              simp only [Act.put, List.getElem_toArray, List.getElem_cons_zero, List.getElem_cons_succ, List.setIfInBounds_toArray, List.set_cons_zero, List.set_cons_succ]
              refine wpAnyH_take (i := 2) (v := .bool (decide (0 ≤ o.q))) rfl (by kernel_rfl) (by kernel_rfl) (by kernel_rfl) (fun _ _ _ h => h) (Or.inl ⟨by rfl, fun w' hS => by go_simp⟩) hHeld ?_
              simp only [Act.put, List.getElem_toArray, List.getElem_cons_zero, List.getElem_cons_succ, List.setIfInBounds_toArray, List.set_cons_zero, List.set_cons_succ]
              generalize hb1 : decide (0 ≤ o.q) = b1
              refine wpAnyH_take (i := 3) (v := .bool b1) rfl (by kernel_rfl) (by kernel_rfl) (by kernel_rfl) (fun _ _ _ h => h) (Or.inl ⟨by rfl, fun w' hS => by go_simp⟩) hHeld ?_
              simp only [Act.put, List.getElem_toArray, List.getElem_cons_zero, List.getElem_cons_succ, List.setIfInBounds_toArray, List.set_cons_zero, List.set_cons_succ]
              refine wpAnyH_take (i := 4) (v := cond b1 (.pointer (some ⟨wr.heap.size, 1, none⟩)) undef) rfl (by kernel_rfl) (by kernel_rfl) (by kernel_rfl) (fun _ _ _ h => h) (by cases b1 <;> first | exact Or.inl ⟨by rfl, fun w' hS => by go_simp⟩ | exact Or.inr ⟨by rfl, rfl⟩) hHeld ?_
              simp only [Act.put, List.getElem_toArray, List.getElem_cons_zero, List.getElem_cons_succ, List.setIfInBounds_toArray, List.set_cons_zero, List.set_cons_succ]
              refine wpAnyH_take (i := 5) (v := cond b1 (.int .i64 o.q) undef) rfl (by kernel_rfl) (by kernel_rfl) (by kernel_rfl) (fun _ _ _ h => h) (by cases b1 <;> first | exact Or.inl ⟨by rfl, fun w' hS => by (obtain ⟨s0, s1, s2, s3⟩ := hS; go_simp)⟩ | exact Or.inr ⟨by rfl, rfl⟩) hHeld ?_
              simp only [Act.put, List.getElem_toArray, List.getElem_cons_zero, List.getElem_cons_succ, List.setIfInBounds_toArray, List.set_cons_zero, List.set_cons_succ]
              refine wpAnyH_take (i := 6) (v := cond b1 (.pointer (some ⟨w.heap.size, 0, none⟩)) undef) rfl (by kernel_rfl) (by kernel_rfl) (by kernel_rfl) (fun _ _ _ h => h) (by cases b1 <;> first | exact Or.inl ⟨by rfl, fun w' hS => by go_simp⟩ | exact Or.inr ⟨by rfl, rfl⟩) hHeld ?_
              simp only [Act.put, List.getElem_toArray, List.getElem_cons_zero, List.getElem_cons_succ, List.setIfInBounds_toArray, List.set_cons_zero, List.set_cons_succ]
              refine wpAnyH_take (i := 7) (v := cond b1 (.int .i64 (n : Int)) undef) rfl (by kernel_rfl) (by kernel_rfl) (by kernel_rfl) (fun _ _ _ h => h) (by cases b1 <;> first | exact Or.inl ⟨by rfl, fun w' hS => by (obtain ⟨s0, s1, s2, s3⟩ := hS; go_simp)⟩ | exact Or.inr ⟨by rfl, rfl⟩) hHeld ?_
              simp only [Act.put, List.getElem_toArray, List.getElem_cons_zero, List.getElem_cons_succ, List.setIfInBounds_toArray, List.set_cons_zero, List.set_cons_succ]
              refine wpAnyH_take (i := 8) (v := cond b1 (.bool (decide (o.q < (n : Int)))) undef) rfl (by kernel_rfl) (by kernel_rfl) (by kernel_rfl) (fun _ _ _ h => h) (by cases b1 <;> first | exact Or.inl ⟨by rfl, fun w' hS => by go_simp⟩ | exact Or.inr ⟨by rfl, rfl⟩) hHeld ?_
              simp only [Act.put, List.getElem_toArray, List.getElem_cons_zero, List.getElem_cons_succ, List.setIfInBounds_toArray, List.set_cons_zero, List.set_cons_succ]
              generalize hb2 : decide (o.q < (n : Int)) = b2
              refine wpAnyH_take (i := 9) (v := .bool (b1 && b2)) rfl (by kernel_rfl) (by kernel_rfl) (by kernel_rfl) (fun _ _ _ h => h) (Or.inl ⟨by rfl, fun w' hS => by (cases b1 <;> go_simp)⟩) hHeld ?_
              simp only [Act.put, List.getElem_toArray, List.getElem_cons_zero, List.getElem_cons_succ, List.setIfInBounds_toArray, List.set_cons_zero, List.set_cons_succ]
              refine wpAnyH_take (i := 10) (v := .bool (b1 && b2)) rfl (by kernel_rfl) (by kernel_rfl) (by kernel_rfl) (fun _ _ _ h => h) (Or.inl ⟨by rfl, fun w' hS => by go_simp⟩) hHeld ?_
              simp only [Act.put, List.getElem_toArray, List.getElem_cons_zero, List.getElem_cons_succ, List.setIfInBounds_toArray, List.set_cons_zero, List.set_cons_succ]
              refine wpAnyH_take (i := 11) (v := cond (b1 && b2) (.pointer (some ⟨wr.heap.size, 1, none⟩)) undef) rfl (by kernel_rfl) (by kernel_rfl) (by kernel_rfl) (fun _ _ _ h => h) (by cases b1 <;> cases b2 <;> first | exact Or.inl ⟨by rfl, fun w' hS => by go_simp⟩ | exact Or.inr ⟨by rfl, rfl⟩) hHeld ?_
              simp only [Act.put, List.getElem_toArray, List.getElem_cons_zero, List.getElem_cons_succ, List.setIfInBounds_toArray, List.set_cons_zero, List.set_cons_succ]
              refine wpAnyH_take (i := 12) (v := cond (b1 && b2) (.int .i64 o.q) undef) rfl (by kernel_rfl) (by kernel_rfl) (by kernel_rfl) (fun _ _ _ h => h) (by cases b1 <;> cases b2 <;> first | exact Or.inl ⟨by rfl, fun w' hS => by (obtain ⟨s0, s1, s2, s3⟩ := hS; go_simp)⟩ | exact Or.inr ⟨by rfl, rfl⟩) hHeld ?_
              simp only [Act.put, List.getElem_toArray, List.getElem_cons_zero, List.getElem_cons_succ, List.setIfInBounds_toArray, List.set_cons_zero, List.set_cons_succ]
              refine wpAnyH_take (i := 13) (v := cond (b1 && b2) (.pointer (some ⟨w.heap.size, 1, none⟩)) undef) rfl (by kernel_rfl) (by kernel_rfl) (by kernel_rfl) (fun _ _ _ h => h) (by cases b1 <;> cases b2 <;> first | exact Or.inl ⟨by rfl, fun w' hS => by go_simp⟩ | exact Or.inr ⟨by rfl, rfl⟩) hHeld ?_
              simp only [Act.put, List.getElem_toArray, List.getElem_cons_zero, List.getElem_cons_succ, List.setIfInBounds_toArray, List.set_cons_zero, List.set_cons_succ]
              refine wpAnyH_take (i := 14) (v := cond (b1 && b2) (.int .i64 (s : Int)) undef) rfl (by kernel_rfl) (by kernel_rfl) (by kernel_rfl) (fun _ _ _ h => h) (by cases b1 <;> cases b2 <;> first | exact Or.inl ⟨by rfl, fun w' hS => by (obtain ⟨s0, s1, s2, s3⟩ := hS; go_simp)⟩ | exact Or.inr ⟨by rfl, rfl⟩) hHeld ?_
              simp only [Act.put, List.getElem_toArray, List.getElem_cons_zero, List.getElem_cons_succ, List.setIfInBounds_toArray, List.set_cons_zero, List.set_cons_succ]
              refine wpAnyH_take (i := 15) (v := cond (b1 && b2) (.bool (o.q != (s : Int))) undef) rfl (by kernel_rfl) (by kernel_rfl) (by kernel_rfl) (fun _ _ _ h => h) (by cases b1 <;> cases b2 <;> first | exact Or.inl ⟨by rfl, fun w' hS => by go_simp⟩ | exact Or.inr ⟨by rfl, rfl⟩) hHeld ?_
              simp only [Act.put, List.getElem_toArray, List.getElem_cons_zero, List.getElem_cons_succ, List.setIfInBounds_toArray, List.set_cons_zero, List.set_cons_succ]
              generalize hb3 : (o.q != (s : Int)) = b3
              have hbb : ((b1 && b2) && b3) = false := by
                rw [← hb1, ← hb2, ← hb3]
                by_cases e1 : 0 ≤ o.q
                · by_cases e2 : o.q < (n : Int)
                  · have e3 : o.q = (s : Int) := by omega
                    simp [e3]
                  · simp [e2]
                · simp [e1]
              refine wpAnyH_take (i := 16) (v := .bool false) rfl (by kernel_rfl) (by kernel_rfl) (by kernel_rfl) (fun _ _ _ h => h) (Or.inl ⟨by rfl, fun w' hS => by (revert hbb; cases b1 <;> cases b2 <;> cases b3 <;> intro hbb <;> first | (cases hbb; done) | go_simp)⟩) hHeld ?_
              simp only [Act.put, List.getElem_toArray, List.getElem_cons_zero, List.getElem_cons_succ, List.setIfInBounds_toArray, List.set_cons_zero, List.set_cons_succ]
              refine wpAnyH_take (i := 17) (v := .bool false) rfl (by kernel_rfl) (by kernel_rfl) (by kernel_rfl) (fun _ _ _ h => h) (Or.inl ⟨by rfl, fun w' hS => by go_simp⟩) hHeld ?_
              simp only [Act.put, List.getElem_toArray, List.getElem_cons_zero, List.getElem_cons_succ, List.setIfInBounds_toArray, List.set_cons_zero, List.set_cons_succ]
              refine wpAnyH_take (i := 18) (v := undef) rfl (by kernel_rfl) (by kernel_rfl) (by kernel_rfl) (fun _ _ _ h => h) (Or.inr ⟨by rfl, rfl⟩) hHeld ?_
              simp only [Act.put, List.getElem_toArray, List.getElem_cons_zero, List.getElem_cons_succ, List.setIfInBounds_toArray, List.set_cons_zero, List.set_cons_succ]
              refine wpAnyH_take (i := 19) (v := undef) rfl (by kernel_rfl) (by kernel_rfl) (by kernel_rfl) (fun _ _ _ h => h) (Or.inr ⟨by rfl, rfl⟩) hHeld ?_
              simp only [Act.put, List.getElem_toArray, List.getElem_cons_zero, List.getElem_cons_succ, List.setIfInBounds_toArray, List.set_cons_zero, List.set_cons_succ]
              refine wpAnyH_take (i := 20) (v := undef) rfl (by kernel_rfl) (by kernel_rfl) (by kernel_rfl) (fun _ _ _ h => h) (Or.inr ⟨by rfl, rfl⟩) hHeld ?_
              simp only [Act.put, List.getElem_toArray, List.getElem_cons_zero, List.getElem_cons_succ, List.setIfInBounds_toArray, List.set_cons_zero, List.set_cons_succ]
              refine wpAnyH_take (i := 21) (v := undef) rfl (by kernel_rfl) (by kernel_rfl) (by kernel_rfl) (fun _ _ _ h => h) (Or.inr ⟨by rfl, rfl⟩) hHeld ?_
              simp only [Act.put, List.getElem_toArray, List.getElem_cons_zero, List.getElem_cons_succ, List.setIfInBounds_toArray, List.set_cons_zero, List.set_cons_succ]
              refine wpAnyH_take (i := 22) (v := undef) rfl (by kernel_rfl) (by kernel_rfl) (by kernel_rfl) (fun _ _ _ h => h) (Or.inr ⟨by rfl, rfl⟩) hHeld ?_
              simp only [Act.put, List.getElem_toArray, List.getElem_cons_zero, List.getElem_cons_succ, List.setIfInBounds_toArray, List.set_cons_zero, List.set_cons_succ]
              refine wpAnyH_take (i := 23) (v := undef) rfl (by kernel_rfl) (by kernel_rfl) (by kernel_rfl) (fun _ _ _ h => h) (Or.inr ⟨by rfl, rfl⟩) hHeld ?_
              simp only [Act.put, List.getElem_toArray, List.getElem_cons_zero, List.getElem_cons_succ, List.setIfInBounds_toArray, List.set_cons_zero, List.set_cons_succ]
              refine wpAnyH_take (i := 24) (v := undef) rfl (by kernel_rfl) (by kernel_rfl) (by kernel_rfl) (fun _ _ _ h => h) (Or.inr ⟨by rfl, rfl⟩) hHeld ?_
              simp only [Act.put, List.getElem_toArray, List.getElem_cons_zero, List.getElem_cons_succ, List.setIfInBounds_toArray, List.set_cons_zero, List.set_cons_succ]
              refine wpAnyH_take (i := 25) (v := .bool false) rfl (by kernel_rfl) (by kernel_rfl) (by kernel_rfl) (fun _ _ _ h => h) (Or.inl ⟨by rfl, fun w' hS => by go_simp⟩) hHeld ?_
              simp only [Act.put, List.getElem_toArray, List.getElem_cons_zero, List.getElem_cons_succ, List.setIfInBounds_toArray, List.set_cons_zero, List.set_cons_succ]
              refine wpAnyH_take (i := 26) (v := .bool false) rfl (by kernel_rfl) (by kernel_rfl) (by kernel_rfl) (fun _ _ _ h => h) (Or.inl ⟨by rfl, fun w' hS => by go_simp⟩) hHeld ?_
              simp only [Act.put, List.getElem_toArray, List.getElem_cons_zero, List.getElem_cons_succ, List.setIfInBounds_toArray, List.set_cons_zero, List.set_cons_succ]
              refine wpAnyH_take (i := 27) (v := undef) rfl (by kernel_rfl) (by kernel_rfl) (by kernel_rfl) (fun _ _ _ h => h) (Or.inr ⟨by rfl, rfl⟩) hHeld ?_
              simp only [Act.put, List.getElem_toArray, List.getElem_cons_zero, List.getElem_cons_succ, List.setIfInBounds_toArray, List.set_cons_zero, List.set_cons_succ]
              refine wpAnyH_take (i := 28) (v := undef) rfl (by kernel_rfl) (by kernel_rfl) (by kernel_rfl) (fun _ _ _ h => h) (Or.inr ⟨by rfl, rfl⟩) hHeld ?_
              simp only [Act.put, List.getElem_toArray, List.getElem_cons_zero, List.getElem_cons_succ, List.setIfInBounds_toArray, List.set_cons_zero, List.set_cons_succ]
              refine wpAnyH_take (i := 29) (v := undef) rfl (by kernel_rfl) (by kernel_rfl) (by kernel_rfl) (fun _ _ _ h => h) (Or.inr ⟨by rfl, rfl⟩) hHeld ?_
              simp only [Act.put, List.getElem_toArray, List.getElem_cons_zero, List.getElem_cons_succ, List.setIfInBounds_toArray, List.set_cons_zero, List.set_cons_succ]
              refine wpAnyH_take (i := 30) (v := .bool false) rfl (by kernel_rfl) (by kernel_rfl) (by kernel_rfl) (fun _ _ _ h => h) (Or.inl ⟨by rfl, fun w' hS => by go_simp⟩) hHeld ?_
              simp only [Act.put, List.getElem_toArray, List.getElem_cons_zero, List.getElem_cons_succ, List.setIfInBounds_toArray, List.set_cons_zero, List.set_cons_succ]
              refine wpAnyH_take (i := 31) (v := .bool false) rfl (by kernel_rfl) (by kernel_rfl) (by kernel_rfl) (fun _ _ _ h => h) (Or.inl ⟨by rfl, fun w' hS => by go_simp⟩) hHeld ?_
              simp only [Act.put, List.getElem_toArray, List.getElem_cons_zero, List.getElem_cons_succ, List.setIfInBounds_toArray, List.set_cons_zero, List.set_cons_succ]
              refine wpAnyH_done (by kernel_rfl) ?_ _
              clear hHeld
              generalize cond b1 (.pointer (some ⟨wr.heap.size, 1, none⟩)) undef = t0
              generalize cond b1 (Value.int .i64 o.q) undef = t1
              generalize cond b1 (.pointer (some ⟨w.heap.size, 0, none⟩)) undef = t2
              generalize cond b1 (Value.int .i64 (n : Int)) undef = t3
              generalize cond b1 (Value.bool b2) undef = t4
              generalize cond (b1 && b2) (.pointer (some ⟨wr.heap.size, 1, none⟩)) undef = t5
              generalize cond (b1 && b2) (Value.int .i64 o.q) undef = t6
              generalize cond (b1 && b2) (.pointer (some ⟨w.heap.size, 1, none⟩)) undef = t7
              generalize cond (b1 && b2) (Value.int .i64 (s : Int)) undef = t8
              generalize cond (b1 && b2) (Value.bool b3) undef = t9
              generalize (b1 && b2) = b12
              clear hb1 hb2 hb3 hbb HFi
              have z0 := below_at hbX2 y0
              have z1 := below_at hbX2 y1
              have z2 := below_at hbX2 y2
              have z3 := below_at hbX2 y3
              have z4 := below_at hbX2 y4
              have e0 := below_at hbX2 f0
              have e1 := below_at hbX2 f1
              clear y0 y1 y2 y3 y4 f0 f1 x0 x1 x2 x3 x4 hX HKn
              generalize X.drew = X2 at *
              have y0 := z0
              have y1 := z1
              have y2 := z2
              have y3 := z3
              have y4 := z4
              have f0 := e0
              have f1 := e1
              clear z0 z1 z2 z3 z4 e0 e1 hbX2
              go_wp2
              refine wp_region_held_drew (S := (fun w' => w'.cell? ⟨wr.heap.size, 0, none⟩ = some (.int .i64 2) ∧ w'.cell? ⟨wr.heap.size, 1, none⟩ = some (.int .i64 o.q) ∧ w'.cell? ⟨wr.heap.size, 2, none⟩ = some (.int .i64 o.inc) ∧ w'.cell? ⟨wr.heap.size, 3, none⟩ = some (.int .i64 o.t) ∧ w'.cell? ⟨wr.heap.size, 4, none⟩ = some (.slice o.ha o.hn o.hc) ∧ w'.cell? ⟨w.heap.size, 0, none⟩ = some (.int .i64 (n : Int)) ∧ w'.cell? ⟨w.heap.size, 1, none⟩ = some (.int .i64 (s : Int)))) (by kernel_rfl) ⟨cell_drew y0, cell_drew y1, cell_drew y2, cell_drew y3, cell_drew y4, cell_drew f0, cell_drew f1⟩ (fun hHeld => ?_)
              simp only [Act.put, List.size_toArray, List.length_cons, List.length_nil, Nat.zero_add]
              refine wpAnyH_take (i := 0) (v := .pointer (some ⟨b, 0, none⟩)) rfl (by kernel_rfl) (by kernel_rfl) (by kernel_rfl) (fun _ _ _ h => h) (Or.inl ⟨by rfl, fun w' hS => by go_simp⟩) hHeld ?_
              simp only [Act.put, List.getElem_toArray, List.getElem_cons_zero, List.getElem_cons_succ, List.setIfInBounds_toArray, List.set_cons_zero, List.set_cons_succ]
              refine wpAnyH_take (i := 1) (v := .pointer (some ⟨wr.heap.size, 1, none⟩)) rfl (by kernel_rfl) (by kernel_rfl) (by kernel_rfl) (fun _ _ _ h => h) (Or.inl ⟨by rfl, fun w' hS => by go_simp⟩) hHeld ?_
              simp only [Act.put, List.getElem_toArray, List.getElem_cons_zero, List.getElem_cons_succ, List.setIfInBounds_toArray, List.set_cons_zero, List.set_cons_succ]
              refine wpAnyH_take (i := 2) (v := .int .i64 o.q) rfl (by kernel_rfl) (by kernel_rfl) (by kernel_rfl) (fun _ _ _ h => h) (Or.inl ⟨by rfl, fun w' hS => by (obtain ⟨s0, s1, s2, s3, s4, s5, s6⟩ := hS; go_simp)⟩) hHeld ?_
              simp only [Act.put, List.getElem_toArray, List.getElem_cons_zero, List.getElem_cons_succ, List.setIfInBounds_toArray, List.set_cons_zero, List.set_cons_succ]
              refine wpAnyH_take (i := 3) (v := .pointer (some ⟨wr.heap.size, 2, none⟩)) rfl (by kernel_rfl) (by kernel_rfl) (by kernel_rfl) (fun _ _ _ h => h) (Or.inl ⟨by rfl, fun w' hS => by go_simp⟩) hHeld ?_
              simp only [Act.put, List.getElem_toArray, List.getElem_cons_zero, List.getElem_cons_succ, List.setIfInBounds_toArray, List.set_cons_zero, List.set_cons_succ]
              refine wpAnyH_take (i := 4) (v := .int .i64 o.inc) rfl (by kernel_rfl) (by kernel_rfl) (by kernel_rfl) (fun _ _ _ h => h) (Or.inl ⟨by rfl, fun w' hS => by (obtain ⟨s0, s1, s2, s3, s4, s5, s6⟩ := hS; go_simp)⟩) hHeld ?_
              simp only [Act.put, List.getElem_toArray, List.getElem_cons_zero, List.getElem_cons_succ, List.setIfInBounds_toArray, List.set_cons_zero, List.set_cons_succ]
              refine wpAnyH_take (i := 5) (v := .pointer (some ⟨wr.heap.size, 3, none⟩)) rfl (by kernel_rfl) (by kernel_rfl) (by kernel_rfl) (fun _ _ _ h => h) (Or.inl ⟨by rfl, fun w' hS => by go_simp⟩) hHeld ?_
              simp only [Act.put, List.getElem_toArray, List.getElem_cons_zero, List.getElem_cons_succ, List.setIfInBounds_toArray, List.set_cons_zero, List.set_cons_succ]
              refine wpAnyH_take (i := 6) (v := .int .i64 o.t) rfl (by kernel_rfl) (by kernel_rfl) (by kernel_rfl) (fun _ _ _ h => h) (Or.inl ⟨by rfl, fun w' hS => by (obtain ⟨s0, s1, s2, s3, s4, s5, s6⟩ := hS; go_simp)⟩) hHeld ?_
              simp only [Act.put, List.getElem_toArray, List.getElem_cons_zero, List.getElem_cons_succ, List.setIfInBounds_toArray, List.set_cons_zero, List.set_cons_succ]
              refine wpAnyH_take (i := 8) (v := .pointer (some ⟨w.heap.size, 0, none⟩)) rfl (by kernel_rfl) (by kernel_rfl) (by kernel_rfl) (fun _ _ _ h => h) (Or.inl ⟨by rfl, fun w' hS => by go_simp⟩) hHeld ?_
              simp only [Act.put, List.getElem_toArray, List.getElem_cons_zero, List.getElem_cons_succ, List.setIfInBounds_toArray, List.set_cons_zero, List.set_cons_succ]
              refine wpAnyH_take (i := 9) (v := .int .i64 (n : Int)) rfl (by kernel_rfl) (by kernel_rfl) (by kernel_rfl) (fun _ _ _ h => h) (Or.inl ⟨by rfl, fun w' hS => by (obtain ⟨s0, s1, s2, s3, s4, s5, s6⟩ := hS; go_simp)⟩) hHeld ?_
              simp only [Act.put, List.getElem_toArray, List.getElem_cons_zero, List.getElem_cons_succ, List.setIfInBounds_toArray, List.set_cons_zero, List.set_cons_succ]
              refine wpAnyH_take (i := 10) (v := .pointer (some ⟨w.heap.size, 1, none⟩)) rfl (by kernel_rfl) (by kernel_rfl) (by kernel_rfl) (fun _ _ _ h => h) (Or.inl ⟨by rfl, fun w' hS => by go_simp⟩) hHeld ?_
              simp only [Act.put, List.getElem_toArray, List.getElem_cons_zero, List.getElem_cons_succ, List.setIfInBounds_toArray, List.set_cons_zero, List.set_cons_succ]
              refine wpAnyH_take (i := 11) (v := .int .i64 (s : Int)) rfl (by kernel_rfl) (by kernel_rfl) (by kernel_rfl) (fun _ _ _ h => h) (Or.inl ⟨by rfl, fun w' hS => by (obtain ⟨s0, s1, s2, s3, s4, s5, s6⟩ := hS; go_simp)⟩) hHeld ?_
              simp only [Act.put, List.getElem_toArray, List.getElem_cons_zero, List.getElem_cons_succ, List.setIfInBounds_toArray, List.set_cons_zero, List.set_cons_succ]
              refine wpAnyH_take (i := 12) (v := .pointer (some ⟨wr.heap.size, 3, none⟩)) rfl (by kernel_rfl) (by kernel_rfl) (by kernel_rfl) (fun _ _ _ h => h) (Or.inl ⟨by rfl, fun w' hS => by go_simp⟩) hHeld ?_
              simp only [Act.put, List.getElem_toArray, List.getElem_cons_zero, List.getElem_cons_succ, List.setIfInBounds_toArray, List.set_cons_zero, List.set_cons_succ]
              refine wpAnyH_take (i := 13) (v := .int .i64 o.t) rfl (by kernel_rfl) (by kernel_rfl) (by kernel_rfl) (fun _ _ _ h => h) (Or.inl ⟨by rfl, fun w' hS => by (obtain ⟨s0, s1, s2, s3, s4, s5, s6⟩ := hS; go_simp)⟩) hHeld ?_
              simp only [Act.put, List.getElem_toArray, List.getElem_cons_zero, List.getElem_cons_succ, List.setIfInBounds_toArray, List.set_cons_zero, List.set_cons_succ]
              refine wpAnyH_take (i := 14) (v := .int .i64 an) rfl (by kernel_rfl) (by kernel_rfl) (by kernel_rfl) (fun _ _ _ h => h) (Or.inl ⟨by rfl, fun w' hS => by (go_simp <;> first | exact han | simp [han])⟩) hHeld ?_
              simp only [Act.put, List.getElem_toArray, List.getElem_cons_zero, List.getElem_cons_succ, List.setIfInBounds_toArray, List.set_cons_zero, List.set_cons_succ]
              refine wpAnyH_ready (rs := [7]) (by kernel_rfl) (by simp) ?_
              refine AllReadyH.cons rfl (fun K hK => ?_) AllReadyH.nil
              go_simp
              refine (HPt.out _).mono ?_
              rintro e w7 ⟨rfl, rfl⟩
              refine hK.out _ _ ⟨cell_drew y0, cell_drew y1, cell_drew y2, cell_drew y3, cell_drew y4, cell_drew f0, cell_drew f1⟩ (fun hHeld => ?_)
              clear hK K
              refine wpAnyH_ready (rs := [15]) (by kernel_rfl) (by simp) ?_
              refine AllReadyH.cons rfl (fun K hK => ?_) AllReadyH.nil
              go_simp
              refine (HHa.out _).mono ?_
              rintro e w7 ⟨u, rfl, g7, rfl, hg7, hB7, hb7⟩
              have B7 : Below X2.heap.size X2 w7 := bstep (Below.refl _ _).drew hb7
              refine hK.out _ _ ⟨below_at B7 y0, below_at B7 y1, below_at B7 y2, below_at B7 y3, below_at B7 y4, below_at B7 f0, below_at B7 f1⟩ (fun hHeld => ?_)
              clear hK K
              refine wpAnyH_take (i := 16) (v := .agg #[.int .i64 pt, .slice (some ⟨g7, 0, none⟩) n n]) rfl (by kernel_rfl) (by kernel_rfl) (by kernel_rfl) (fun _ _ _ h => h) (Or.inl ⟨by rfl, fun w' hS => by go_simp⟩) hHeld ?_
              simp only [Act.put, List.getElem_toArray, List.getElem_cons_zero, List.getElem_cons_succ, List.setIfInBounds_toArray, List.set_cons_zero, List.set_cons_succ]
              refine wpAnyH_ready (rs := [17]) (by kernel_rfl) (by simp) ?_
              refine AllReadyH.cons rfl (fun K hK => ?_) AllReadyH.nil
              go_simp
              refine (HHd.out w7 B7 g7 (Nat.le_trans (by simp) hg7) hB7).mono ?_
              rintro e w8 ⟨rfl, R8, K8⟩
              refine hK.out _ _ ⟨cell_keep K8 hno.out (below_at B7 y0), cell_keep K8 hno.out (below_at B7 y1), cell_keep K8 hno.out (below_at B7 y2), cell_keep K8 hno.out (below_at B7 y3), cell_keep K8 hno.out (below_at B7 y4), cell_keep K8 hnr.out (below_at B7 f0), cell_keep K8 hnr.out (below_at B7 f1)⟩ (fun hHeld => ?_)
              clear hK K
              refine wpAnyH_take (i := 18) (v := .int .i64 hc) rfl (by kernel_rfl) (by kernel_rfl) (by kernel_rfl) (fun _ _ _ h => h) (Or.inl ⟨by rfl, fun w' hS => by go_simp⟩) hHeld ?_
              simp only [Act.put, List.getElem_toArray, List.getElem_cons_zero, List.getElem_cons_succ, List.setIfInBounds_toArray, List.set_cons_zero, List.set_cons_succ]
              refine wpAnyH_done (by kernel_rfl) ?_ _
              clear hHeld
              have q0 := cell_keep K8 hno.out (below_at B7 y0)
              have q1 := cell_keep K8 hno.out (below_at B7 y1)
              have q2 := cell_keep K8 hno.out (below_at B7 y2)
              have q3 := cell_keep K8 hno.out (below_at B7 y3)
              have q4 := cell_keep K8 hno.out (below_at B7 y4)
              have HR8 : Hid (Rp w1 w8 B n s inc step lim b (k + 1) (.slice a5 L5 c5) Da ks) := R8
              clear R8 K8 B7 hb7 hB7 hg7 HHd HHa HPt y0 y1 y2 y3 y4 f0 f1 f2 HRX2 han
              by_cases hc0 : hc = 0
              · have HKo : Hid (KOk Da n s o) := HNew.out hc0
                subst hc0
                have HRow : Hid (w8.ownsRow w1.heap.size 61 5 (.slice a5 L5 c5) L5 (opCells ks)) := by
                  have := HR8.out.row
                  unfold RowK at this
                  rw [HL5.out] at this
                  exact this
                have hl5 : L5 ≤ 100 := by have := HL5.out; omega
                have hsz8 : w1.heap.size ≤ w8.heap.size := HR8.out.sz
                go_wp2_with (first
                  | (go_at_call 21; refine (num_any _).mono ?_; rintro e wn ⟨rfl, rfl⟩)
                  | (at_builtin; refine wpList_append_lies _ rfl _ _ 29 rfl w1.heap.size 61 i0 (.agg #[.int .i64 0, .int .i64 0, .int .i64 0, .int .i64 0, .slice none 0 0]) 5 56 Try.underlying29 hi hz0 hz1 hz2 rfl (by omega) (.slice a5 L5 c5) L5 (opCells ks) rfl (World.ownsRow.alloc HRow.out _) _ 1 1 _ rfl rfl (World.news_of_block (heap_alloc_new _ _)) (by simp [Value.oneCell']) (by omega) (by unfold maxLen; omega) (by omega) (by first | (simp; omega) | omega) _ rfl ?_)
                  | fail)
                intro g3 cap3 w3 hown3 hgrow3 hat3 hlt3
                have HR : Hid (Rp w1 w3 B n s inc step lim b (k + 1) (.slice (some ⟨g3, 0, none⟩) (L5 + 1) cap3) Da (ks ++ [o])) := by
                  refine (HR8.out.still (balloc (Below.refl _ w8))).push (by omega) HKo.out ?_ hgrow3
                  rw [HL5.out]
                  simpa [Opx.cs, h2] using hown3
                clear hown3 hgrow3 hat3 hlt3 HR8 HRow HKo
                obtain ⟨a7, ha7⟩ : ∃ a : Option Addr, some ⟨g3, 0, none⟩ = a := ⟨_, rfl⟩
                obtain ⟨L7, hL7⟩ : ∃ L, L5 + 1 = L := ⟨_, rfl⟩
                obtain ⟨kv, hkv⟩ : ∃ kv, ks ++ [o] = kv := ⟨_, rfl⟩
                rw [ha7, hL7, hkv] at HR
                have hl7 : kv.length ≤ 101 := by have := HR.out.len; omega
                rw [ha7, hL7]
                clear ha7 hL7 hkv
                obtain ⟨Y, hY⟩ : ∃ Y, (Da).asked = Y := ⟨_, rfl⟩
                have HAs : Hid (∀ w', Below w3.heap.size w3 w' → Calls Try.prog 29 #[.pointer (some ⟨b, 0, none⟩), .int .i64 n] w' fun e w2 => ∃ a n c, e = .returned (.slice a n c) ∧ RdI w2 a n Y ∧ n ≤ 1000 ∧ Below w'.heap.size w' w2) := fun w' hb => by have := (HR.out.still hb).asked; rw [hY] at this; exact this
                obtain ⟨g0, g1, g2, g6⟩ := HRC.out.to HR.out.lo hrB
                clear hY
                go_wp2_with (first | (go_at_call 21; refine (num_any _).mono ?_; rintro e wn ⟨rfl, rfl⟩) | fail)
                refine (HAs.out _ (Below.refl _ _)).mono ?_
                rintro e w6 ⟨a6, n6, c6, rfl, r6, m6, hb6⟩
                have R6 : Hid (RdI w6 a6 n6 Y) := r6
                have B6 : Hid (Below w3.heap.size w3 w6) := hb6
                clear r6 hb6 g0 g1 g2 g6
                go_wp2
                go_loopw [11] (fun v11 wq => ∃ (j : Nat), j ≤ (kv).length ∧ v11 = .int .i64 (j : Int) ∧ Below w6.heap.size w6 wq) (fun v11 _ => (kv).length - (intOf v11).toNat)
                case atStart => exact ⟨0, Nat.zero_le _, rfl, Below.refl _ _⟩
                case round =>
                  obtain ⟨j, hj, rfl, hbz⟩ := hrel
                  have hRz := HR.out.still (bstep B6.out hbz)
                  obtain ⟨g0, g1, g2, g6⟩ := HRC.out.to hRz.lo hrB
                  have HBz : Hid (Below w6.heap.size w6 wr) := hbz
                  have HRz : Hid (Rp w1 wr B n s inc step lim b (k + 1) (.slice a7 L7 cap3) (Da) (kv)) := hRz
                  clear hbz
                  by_cases hlt1 : j < (kv).length
                  · obtain ⟨g5, c5', hv5, z0, z1, z2, z3, z4⟩ := hRz.row.at hlt1
                    have hK := hRz.all ((kv).getD j o0) (by simp [List.getD, hlt1])
                    generalize (kv).getD j o0 = o1 at z0 z1 z2 z3 z4 hK
                    generalize hZ : wr.alloc (.cells o1.cs 61) = Z
                    have hbZ : Below wr.heap.size wr Z := by rw [← hZ]; exact balloc (Below.refl _ wr)
                    have hkZ : Z.heap[wr.heap.size]? = some (.cells o1.cs 61 (0, 0)) := by rw [← hZ]; exact heap_alloc_new wr _
                    obtain ⟨zz, hzz⟩ : ∃ z, wr.heap.size = z := ⟨_, rfl⟩
                    rw [hzz] at hkZ
                    have p1 : Z.cell? ⟨zz, 1, none⟩ = some (.int .i64 o1.q) := blk_cell hkZ 1
                    have p2 : Z.cell? ⟨zz, 2, none⟩ = some (.int .i64 o1.inc) := blk_cell hkZ 2
                    have p3 : Z.cell? ⟨zz, 3, none⟩ = some (.int .i64 o1.t) := blk_cell hkZ 3
                    have HbZ : Hid (Below wr.heap.size wr Z) := hbZ
                    have HSt : Hid (∀ w', Below Z.heap.size Z w' → ∀ g, BlkI w' g (heaI n s inc) → Calls Try.prog 15 #[.pointer (some ⟨b, 0, none⟩), .int .i64 o1.q, .int .i64 o1.inc, .agg #[.int .i64 (posI o1.t 50), .slice (some ⟨g, 0, none⟩) n n]] w' fun e w2 => ∃ c : Int, e = .returned (.int .i64 c) ∧ (c = 50 ∨ c = 51) ∧ Below w'.heap.size w' w2) := fun w' hb g hg => refused_any ((HRz.out.still HbZ.out).still hb).ok HRz.out.lk hK inc ha3 hg
                    have HPt1 : Hid (∀ w1, Calls Try.prog 14 #[.int .i64 o1.t, .int .i64 50] w1 fun e w' => e = .returned (.int .i64 (posI o1.t 50)) ∧ w1 = w') := fun w1 => pos_any _ _ (by omega)
                    generalize posI o1.t 50 = pt1 at HSt HPt1
                    replace g0 := below_at hbZ g0
                    replace g1 := below_at hbZ g1
                    replace g2 := below_at hbZ g2
                    simp only [Value.slice.injEq] at hv5
                    have hL1 := hv5.2.1
                    have ha5 := hv5.1
                    have i1 : (0 : Int) ≤ (j : Int) := Int.natCast_nonneg _
                    have i2 : (j : Int) < ((L7 : Nat) : Int) := by omega
                    clear hv5 hRz hK hkZ hbZ g6 hL1
                    subst ha5
                    unfold Opx.cs at hZ
                    go_wp2
                    first | rw [hzz] | skip
                    refine wp_region_held_drew (S := (fun w' => w'.cell? ⟨zz, 1, none⟩ = some (.int .i64 o1.q) ∧ w'.cell? ⟨zz, 2, none⟩ = some (.int .i64 o1.inc) ∧ w'.cell? ⟨zz, 3, none⟩ = some (.int .i64 o1.t) ∧ w'.cell? ⟨w.heap.size, 0, none⟩ = some (.int .i64 (n : Int)) ∧ w'.cell? ⟨w.heap.size, 1, none⟩ = some (.int .i64 (s : Int)) ∧ w'.cell? ⟨w.heap.size, 2, none⟩ = some (.int .i64 inc))) (by kernel_rfl) ⟨cell_drew p1, cell_drew p2, cell_drew p3, cell_drew g0, cell_drew g1, cell_drew g2⟩ (fun hHeld => ?_)
                    simp only [Act.put, List.size_toArray, List.length_cons, List.length_nil, Nat.zero_add]
                    refine wpAnyH_take (i := 0) (v := .pointer (some ⟨b, 0, none⟩)) rfl (by kernel_rfl) (by kernel_rfl) (by kernel_rfl) (fun _ _ _ h => h) (Or.inl ⟨by rfl, fun w' hS => by go_simp⟩) hHeld ?_
                    simp only [Act.put, List.getElem_toArray, List.getElem_cons_zero, List.getElem_cons_succ, List.setIfInBounds_toArray, List.set_cons_zero, List.set_cons_succ]
                    refine wpAnyH_take (i := 1) (v := .pointer (some ⟨zz, 1, none⟩)) rfl (by kernel_rfl) (by kernel_rfl) (by kernel_rfl) (fun _ _ _ h => h) (Or.inl ⟨by rfl, fun w' hS => by go_simp⟩) hHeld ?_
                    simp only [Act.put, List.getElem_toArray, List.getElem_cons_zero, List.getElem_cons_succ, List.setIfInBounds_toArray, List.set_cons_zero, List.set_cons_succ]
                    refine wpAnyH_take (i := 2) (v := .int .i64 o1.q) rfl (by kernel_rfl) (by kernel_rfl) (by kernel_rfl) (fun _ _ _ h => h) (Or.inl ⟨by rfl, fun w' hS => by (obtain ⟨s0, s1, s2, s3, s4, s5⟩ := hS; go_simp)⟩) hHeld ?_
                    simp only [Act.put, List.getElem_toArray, List.getElem_cons_zero, List.getElem_cons_succ, List.setIfInBounds_toArray, List.set_cons_zero, List.set_cons_succ]
                    refine wpAnyH_take (i := 3) (v := .pointer (some ⟨zz, 2, none⟩)) rfl (by kernel_rfl) (by kernel_rfl) (by kernel_rfl) (fun _ _ _ h => h) (Or.inl ⟨by rfl, fun w' hS => by go_simp⟩) hHeld ?_
                    simp only [Act.put, List.getElem_toArray, List.getElem_cons_zero, List.getElem_cons_succ, List.setIfInBounds_toArray, List.set_cons_zero, List.set_cons_succ]
                    refine wpAnyH_take (i := 4) (v := .int .i64 o1.inc) rfl (by kernel_rfl) (by kernel_rfl) (by kernel_rfl) (fun _ _ _ h => h) (Or.inl ⟨by rfl, fun w' hS => by (obtain ⟨s0, s1, s2, s3, s4, s5⟩ := hS; go_simp)⟩) hHeld ?_
                    simp only [Act.put, List.getElem_toArray, List.getElem_cons_zero, List.getElem_cons_succ, List.setIfInBounds_toArray, List.set_cons_zero, List.set_cons_succ]
                    refine wpAnyH_take (i := 5) (v := .pointer (some ⟨zz, 3, none⟩)) rfl (by kernel_rfl) (by kernel_rfl) (by kernel_rfl) (fun _ _ _ h => h) (Or.inl ⟨by rfl, fun w' hS => by go_simp⟩) hHeld ?_
                    simp only [Act.put, List.getElem_toArray, List.getElem_cons_zero, List.getElem_cons_succ, List.setIfInBounds_toArray, List.set_cons_zero, List.set_cons_succ]
                    refine wpAnyH_take (i := 6) (v := .int .i64 o1.t) rfl (by kernel_rfl) (by kernel_rfl) (by kernel_rfl) (fun _ _ _ h => h) (Or.inl ⟨by rfl, fun w' hS => by (obtain ⟨s0, s1, s2, s3, s4, s5⟩ := hS; go_simp)⟩) hHeld ?_
                    simp only [Act.put, List.getElem_toArray, List.getElem_cons_zero, List.getElem_cons_succ, List.setIfInBounds_toArray, List.set_cons_zero, List.set_cons_succ]
                    refine wpAnyH_take (i := 8) (v := .pointer (some ⟨w.heap.size, 0, none⟩)) rfl (by kernel_rfl) (by kernel_rfl) (by kernel_rfl) (fun _ _ _ h => h) (Or.inl ⟨by rfl, fun w' hS => by go_simp⟩) hHeld ?_
                    simp only [Act.put, List.getElem_toArray, List.getElem_cons_zero, List.getElem_cons_succ, List.setIfInBounds_toArray, List.set_cons_zero, List.set_cons_succ]
                    refine wpAnyH_take (i := 9) (v := .int .i64 (n : Int)) rfl (by kernel_rfl) (by kernel_rfl) (by kernel_rfl) (fun _ _ _ h => h) (Or.inl ⟨by rfl, fun w' hS => by (obtain ⟨s0, s1, s2, s3, s4, s5⟩ := hS; go_simp)⟩) hHeld ?_
                    simp only [Act.put, List.getElem_toArray, List.getElem_cons_zero, List.getElem_cons_succ, List.setIfInBounds_toArray, List.set_cons_zero, List.set_cons_succ]
                    refine wpAnyH_take (i := 10) (v := .pointer (some ⟨w.heap.size, 1, none⟩)) rfl (by kernel_rfl) (by kernel_rfl) (by kernel_rfl) (fun _ _ _ h => h) (Or.inl ⟨by rfl, fun w' hS => by go_simp⟩) hHeld ?_
                    simp only [Act.put, List.getElem_toArray, List.getElem_cons_zero, List.getElem_cons_succ, List.setIfInBounds_toArray, List.set_cons_zero, List.set_cons_succ]
                    refine wpAnyH_take (i := 11) (v := .int .i64 (s : Int)) rfl (by kernel_rfl) (by kernel_rfl) (by kernel_rfl) (fun _ _ _ h => h) (Or.inl ⟨by rfl, fun w' hS => by (obtain ⟨s0, s1, s2, s3, s4, s5⟩ := hS; go_simp)⟩) hHeld ?_
                    simp only [Act.put, List.getElem_toArray, List.getElem_cons_zero, List.getElem_cons_succ, List.setIfInBounds_toArray, List.set_cons_zero, List.set_cons_succ]
                    refine wpAnyH_take (i := 12) (v := .pointer (some ⟨w.heap.size, 2, none⟩)) rfl (by kernel_rfl) (by kernel_rfl) (by kernel_rfl) (fun _ _ _ h => h) (Or.inl ⟨by rfl, fun w' hS => by go_simp⟩) hHeld ?_
                    simp only [Act.put, List.getElem_toArray, List.getElem_cons_zero, List.getElem_cons_succ, List.setIfInBounds_toArray, List.set_cons_zero, List.set_cons_succ]
                    refine wpAnyH_take (i := 13) (v := .int .i64 inc) rfl (by kernel_rfl) (by kernel_rfl) (by kernel_rfl) (fun _ _ _ h => h) (Or.inl ⟨by rfl, fun w' hS => by (obtain ⟨s0, s1, s2, s3, s4, s5⟩ := hS; go_simp)⟩) hHeld ?_
                    simp only [Act.put, List.getElem_toArray, List.getElem_cons_zero, List.getElem_cons_succ, List.setIfInBounds_toArray, List.set_cons_zero, List.set_cons_succ]
                    refine wpAnyH_ready (rs := [7]) (by kernel_rfl) (by simp) ?_
                    refine AllReadyH.cons rfl (fun K hK => ?_) AllReadyH.nil
                    go_simp
                    refine (HPt1.out _).mono ?_
                    rintro e w7 ⟨rfl, rfl⟩
                    refine hK.out _ _ ⟨cell_drew p1, cell_drew p2, cell_drew p3, cell_drew g0, cell_drew g1, cell_drew g2⟩ (fun hHeld => ?_)
                    clear hK K
                    refine wpAnyH_ready (rs := [14]) (by kernel_rfl) (by simp) ?_
                    refine AllReadyH.cons rfl (fun K hK => ?_) AllReadyH.nil
                    go_simp
                    refine (HH.out _).mono ?_
                    rintro e w7 ⟨u, rfl, g7, rfl, hg7, hB7, hb7⟩
                    have B7 : Below Z.heap.size Z w7 := bstep (Below.refl _ _).drew hb7
                    refine hK.out _ _ ⟨below_at B7 p1, below_at B7 p2, below_at B7 p3, below_at B7 g0, below_at B7 g1, below_at B7 g2⟩ (fun hHeld => ?_)
                    clear hK K
                    refine wpAnyH_take (i := 15) (v := .agg #[.int .i64 pt1, .slice (some ⟨g7, 0, none⟩) n n]) rfl (by kernel_rfl) (by kernel_rfl) (by kernel_rfl) (fun _ _ _ h => h) (Or.inl ⟨by rfl, fun w' hS => by go_simp⟩) hHeld ?_
                    simp only [Act.put, List.getElem_toArray, List.getElem_cons_zero, List.getElem_cons_succ, List.setIfInBounds_toArray, List.set_cons_zero, List.set_cons_succ]
                    refine wpAnyH_ready (rs := [16]) (by kernel_rfl) (by simp) ?_
                    refine AllReadyH.cons rfl (fun K hK => ?_) AllReadyH.nil
                    go_simp
                    refine (HSt.out w7 B7 g7 hB7).mono ?_
                    rintro e w8 ⟨ce, rfl, hce, hb8⟩
                    have B8 : Below Z.heap.size Z w8 := bstep B7 hb8
                    refine hK.out _ _ ⟨below_at B8 p1, below_at B8 p2, below_at B8 p3, below_at B8 g0, below_at B8 g1, below_at B8 g2⟩ (fun hHeld => ?_)
                    clear hK K
                    refine wpAnyH_take (i := 17) (v := .int .i64 ce) rfl (by kernel_rfl) (by kernel_rfl) (by kernel_rfl) (fun _ _ _ h => h) (Or.inl ⟨by rfl, fun w' hS => by go_simp⟩) hHeld ?_
                    simp only [Act.put, List.getElem_toArray, List.getElem_cons_zero, List.getElem_cons_succ, List.setIfInBounds_toArray, List.set_cons_zero, List.set_cons_succ]
                    refine wpAnyH_done (by kernel_rfl) ?_ _
                    clear hHeld
                    have HB8 : Hid (Below w6.heap.size w6 w8) := bstep (bstep HBz.out HbZ.out) B8
                    clear B7 B8 hb7 hb8 hB7 hg7 HSt HPt1 g0 g1 g2 p1 p2 p3
                    rcases hce with rfl | rfl
                    all_goals
                      go_wp2_with (first | (go_at_call 21; refine (num_any _).mono ?_; rintro e wn ⟨rfl, rfl⟩) | fail)
                      first
                        | exact ⟨⟨j + 1, by omega, by go_num, HB8.out⟩, by simp [intOf]; omega⟩
                        | (go_roundw
                           case rel => exact ⟨j + 1, by omega, by go_num, HB8.out⟩
                           case measure => simp [intOf]; omega)
                  · have hL0 : (kv).length = L7 := by obtain ⟨_, _, hv⟩ := hRz.slice; simp only [Value.slice.injEq] at hv; omega
                    have hjL : L7 = j := by omega
                    subst hjL
                    clear hRz hL0
                    go_wp2_with (fail)
                    refine (HAs.out _ (bstep B6.out HBz.out)).mono ?_
                    rintro e w9 ⟨a9, n9, c9, rfl, r9, m9, hb9⟩
                    obtain rfl : n9 = n6 := by have e1 := R6.out.1; have e2 := r9.1; omega
                    have HSm := same_any (c1 := c6) (c2 := c9) ((R6.out.still HBz.out).still hb9) r9 (by omega)
                    have HB9 : Hid (Below wr.heap.size wr w9) := hb9
                    clear r9 hb9 g0 g1 g2 g6
                    go_wp2_with (fail)
                    refine HSm.mono ?_
                    rintro e w10 ⟨rfl, hb10⟩
                    have HE : Hid (Rp w1 w10 B n s inc step lim b (k + 1) (.slice a7 L7 cap3) (Da) (kv)) := HRz.out.still (bstep HB9.out hb10)
                    clear hb10 HSm
                    go_wp2
                    first
                      | exact ⟨⟨k + 1, _, _, by omega, by omega, by go_num, HE.out⟩, by simp [intOf]; omega⟩
                      | (go_roundw
                         case rel => exact ⟨k + 1, _, _, by omega, by omega, by go_num, HE.out⟩
                         case measure => simp [intOf]; omega)
              · skip
                have t0 : (hc == 0) = false := by simp [hc0]
                have HR : Hid (Rp w1 w8 B n s inc step lim b (k + 1) (.slice a5 L5 c5) Da ks) := HR8.out
                clear HR8 q0 q1 q2 q3 q4
                obtain ⟨Y, hY⟩ : ∃ Y, (Da).asked = Y := ⟨_, rfl⟩
                have HAs : Hid (∀ w', Below w8.heap.size w8 w' → Calls Try.prog 29 #[.pointer (some ⟨b, 0, none⟩), .int .i64 n] w' fun e w2 => ∃ a n c, e = .returned (.slice a n c) ∧ RdI w2 a n Y ∧ n ≤ 1000 ∧ Below w'.heap.size w' w2) := fun w' hb => by have := (HR.out.still hb).asked; rw [hY] at this; exact this
                obtain ⟨g0, g1, g2, g6⟩ := HRC.out.to HR.out.lo hrB
                clear hY
                go_wp2_with (first | (go_at_call 21; refine (num_any _).mono ?_; rintro e wn ⟨rfl, rfl⟩) | fail)
                refine (HAs.out _ (Below.refl _ _)).mono ?_
                rintro e w6 ⟨a6, n6, c6, rfl, r6, m6, hb6⟩
                have R6 : Hid (RdI w6 a6 n6 Y) := r6
                have B6 : Hid (Below w8.heap.size w8 w6) := hb6
                clear r6 hb6 g0 g1 g2 g6
                go_wp2
                go_loopw [11] (fun v11 wq => ∃ (j : Nat), j ≤ (ks).length ∧ v11 = .int .i64 (j : Int) ∧ Below w6.heap.size w6 wq) (fun v11 _ => (ks).length - (intOf v11).toNat)
                case atStart => exact ⟨0, Nat.zero_le _, rfl, Below.refl _ _⟩
                case round =>
                  obtain ⟨j, hj, rfl, hbz⟩ := hrel
                  have hRz := HR.out.still (bstep B6.out hbz)
                  obtain ⟨g0, g1, g2, g6⟩ := HRC.out.to hRz.lo hrB
                  have HBz : Hid (Below w6.heap.size w6 wr) := hbz
                  have HRz : Hid (Rp w1 wr B n s inc step lim b (k + 1) (.slice a5 L5 c5) (Da) (ks)) := hRz
                  clear hbz
                  by_cases hlt1 : j < (ks).length
                  · obtain ⟨g5, c5', hv5, z0, z1, z2, z3, z4⟩ := hRz.row.at hlt1
                    have hK := hRz.all ((ks).getD j o0) (by simp [List.getD, hlt1])
                    generalize (ks).getD j o0 = o1 at z0 z1 z2 z3 z4 hK
                    generalize hZ : wr.alloc (.cells o1.cs 61) = Z
                    have hbZ : Below wr.heap.size wr Z := by rw [← hZ]; exact balloc (Below.refl _ wr)
                    have hkZ : Z.heap[wr.heap.size]? = some (.cells o1.cs 61 (0, 0)) := by rw [← hZ]; exact heap_alloc_new wr _
                    obtain ⟨zz, hzz⟩ : ∃ z, wr.heap.size = z := ⟨_, rfl⟩
                    rw [hzz] at hkZ
                    have p1 : Z.cell? ⟨zz, 1, none⟩ = some (.int .i64 o1.q) := blk_cell hkZ 1
                    have p2 : Z.cell? ⟨zz, 2, none⟩ = some (.int .i64 o1.inc) := blk_cell hkZ 2
                    have p3 : Z.cell? ⟨zz, 3, none⟩ = some (.int .i64 o1.t) := blk_cell hkZ 3
                    have HbZ : Hid (Below wr.heap.size wr Z) := hbZ
                    have HSt : Hid (∀ w', Below Z.heap.size Z w' → ∀ g, BlkI w' g (heaI n s inc) → Calls Try.prog 15 #[.pointer (some ⟨b, 0, none⟩), .int .i64 o1.q, .int .i64 o1.inc, .agg #[.int .i64 (posI o1.t 50), .slice (some ⟨g, 0, none⟩) n n]] w' fun e w2 => ∃ c : Int, e = .returned (.int .i64 c) ∧ (c = 50 ∨ c = 51) ∧ Below w'.heap.size w' w2) := fun w' hb g hg => refused_any ((HRz.out.still HbZ.out).still hb).ok HRz.out.lk hK inc ha3 hg
                    have HPt1 : Hid (∀ w1, Calls Try.prog 14 #[.int .i64 o1.t, .int .i64 50] w1 fun e w' => e = .returned (.int .i64 (posI o1.t 50)) ∧ w1 = w') := fun w1 => pos_any _ _ (by omega)
                    generalize posI o1.t 50 = pt1 at HSt HPt1
                    replace g0 := below_at hbZ g0
                    replace g1 := below_at hbZ g1
                    replace g2 := below_at hbZ g2
                    simp only [Value.slice.injEq] at hv5
                    have hL1 := hv5.2.1
                    have ha5 := hv5.1
                    have i1 : (0 : Int) ≤ (j : Int) := Int.natCast_nonneg _
                    have i2 : (j : Int) < ((L5 : Nat) : Int) := by omega
                    clear hv5 hRz hK hkZ hbZ g6 hL1
                    subst ha5
                    unfold Opx.cs at hZ
                    go_wp2
                    first | rw [hzz] | skip
                    refine wp_region_held_drew (S := (fun w' => w'.cell? ⟨zz, 1, none⟩ = some (.int .i64 o1.q) ∧ w'.cell? ⟨zz, 2, none⟩ = some (.int .i64 o1.inc) ∧ w'.cell? ⟨zz, 3, none⟩ = some (.int .i64 o1.t) ∧ w'.cell? ⟨w.heap.size, 0, none⟩ = some (.int .i64 (n : Int)) ∧ w'.cell? ⟨w.heap.size, 1, none⟩ = some (.int .i64 (s : Int)) ∧ w'.cell? ⟨w.heap.size, 2, none⟩ = some (.int .i64 inc))) (by kernel_rfl) ⟨cell_drew p1, cell_drew p2, cell_drew p3, cell_drew g0, cell_drew g1, cell_drew g2⟩ (fun hHeld => ?_)
                    simp only [Act.put, List.size_toArray, List.length_cons, List.length_nil, Nat.zero_add]
                    refine wpAnyH_take (i := 0) (v := .pointer (some ⟨b, 0, none⟩)) rfl (by kernel_rfl) (by kernel_rfl) (by kernel_rfl) (fun _ _ _ h => h) (Or.inl ⟨by rfl, fun w' hS => by go_simp⟩) hHeld ?_
                    simp only [Act.put, List.getElem_toArray, List.getElem_cons_zero, List.getElem_cons_succ, List.setIfInBounds_toArray, List.set_cons_zero, List.set_cons_succ]
                    refine wpAnyH_take (i := 1) (v := .pointer (some ⟨zz, 1, none⟩)) rfl (by kernel_rfl) (by kernel_rfl) (by kernel_rfl) (fun _ _ _ h => h) (Or.inl ⟨by rfl, fun w' hS => by go_simp⟩) hHeld ?_
                    simp only [Act.put, List.getElem_toArray, List.getElem_cons_zero, List.getElem_cons_succ, List.setIfInBounds_toArray, List.set_cons_zero, List.set_cons_succ]
                    refine wpAnyH_take (i := 2) (v := .int .i64 o1.q) rfl (by kernel_rfl) (by kernel_rfl) (by kernel_rfl) (fun _ _ _ h => h) (Or.inl ⟨by rfl, fun w' hS => by (obtain ⟨s0, s1, s2, s3, s4, s5⟩ := hS; go_simp)⟩) hHeld ?_
                    simp only [Act.put, List.getElem_toArray, List.getElem_cons_zero, List.getElem_cons_succ, List.setIfInBounds_toArray, List.set_cons_zero, List.set_cons_succ]
                    refine wpAnyH_take (i := 3) (v := .pointer (some ⟨zz, 2, none⟩)) rfl (by kernel_rfl) (by kernel_rfl) (by kernel_rfl) (fun _ _ _ h => h) (Or.inl ⟨by rfl, fun w' hS => by go_simp⟩) hHeld ?_
                    simp only [Act.put, List.getElem_toArray, List.getElem_cons_zero, List.getElem_cons_succ, List.setIfInBounds_toArray, List.set_cons_zero, List.set_cons_succ]
                    refine wpAnyH_take (i := 4) (v := .int .i64 o1.inc) rfl (by kernel_rfl) (by kernel_rfl) (by kernel_rfl) (fun _ _ _ h => h) (Or.inl ⟨by rfl, fun w' hS => by (obtain ⟨s0, s1, s2, s3, s4, s5⟩ := hS; go_simp)⟩) hHeld ?_
                    simp only [Act.put, List.getElem_toArray, List.getElem_cons_zero, List.getElem_cons_succ, List.setIfInBounds_toArray, List.set_cons_zero, List.set_cons_succ]
                    refine wpAnyH_take (i := 5) (v := .pointer (some ⟨zz, 3, none⟩)) rfl (by kernel_rfl) (by kernel_rfl) (by kernel_rfl) (fun _ _ _ h => h) (Or.inl ⟨by rfl, fun w' hS => by go_simp⟩) hHeld ?_
                    simp only [Act.put, List.getElem_toArray, List.getElem_cons_zero, List.getElem_cons_succ, List.setIfInBounds_toArray, List.set_cons_zero, List.set_cons_succ]
                    refine wpAnyH_take (i := 6) (v := .int .i64 o1.t) rfl (by kernel_rfl) (by kernel_rfl) (by kernel_rfl) (fun _ _ _ h => h) (Or.inl ⟨by rfl, fun w' hS => by (obtain ⟨s0, s1, s2, s3, s4, s5⟩ := hS; go_simp)⟩) hHeld ?_
                    simp only [Act.put, List.getElem_toArray, List.getElem_cons_zero, List.getElem_cons_succ, List.setIfInBounds_toArray, List.set_cons_zero, List.set_cons_succ]
                    refine wpAnyH_take (i := 8) (v := .pointer (some ⟨w.heap.size, 0, none⟩)) rfl (by kernel_rfl) (by kernel_rfl) (by kernel_rfl) (fun _ _ _ h => h) (Or.inl ⟨by rfl, fun w' hS => by go_simp⟩) hHeld ?_
                    simp only [Act.put, List.getElem_toArray, List.getElem_cons_zero, List.getElem_cons_succ, List.setIfInBounds_toArray, List.set_cons_zero, List.set_cons_succ]
                    refine wpAnyH_take (i := 9) (v := .int .i64 (n : Int)) rfl (by kernel_rfl) (by kernel_rfl) (by kernel_rfl) (fun _ _ _ h => h) (Or.inl ⟨by rfl, fun w' hS => by (obtain ⟨s0, s1, s2, s3, s4, s5⟩ := hS; go_simp)⟩) hHeld ?_
                    simp only [Act.put, List.getElem_toArray, List.getElem_cons_zero, List.getElem_cons_succ, List.setIfInBounds_toArray, List.set_cons_zero, List.set_cons_succ]
                    refine wpAnyH_take (i := 10) (v := .pointer (some ⟨w.heap.size, 1, none⟩)) rfl (by kernel_rfl) (by kernel_rfl) (by kernel_rfl) (fun _ _ _ h => h) (Or.inl ⟨by rfl, fun w' hS => by go_simp⟩) hHeld ?_
                    simp only [Act.put, List.getElem_toArray, List.getElem_cons_zero, List.getElem_cons_succ, List.setIfInBounds_toArray, List.set_cons_zero, List.set_cons_succ]
                    refine wpAnyH_take (i := 11) (v := .int .i64 (s : Int)) rfl (by kernel_rfl) (by kernel_rfl) (by kernel_rfl) (fun _ _ _ h => h) (Or.inl ⟨by rfl, fun w' hS => by (obtain ⟨s0, s1, s2, s3, s4, s5⟩ := hS; go_simp)⟩) hHeld ?_
                    simp only [Act.put, List.getElem_toArray, List.getElem_cons_zero, List.getElem_cons_succ, List.setIfInBounds_toArray, List.set_cons_zero, List.set_cons_succ]
                    refine wpAnyH_take (i := 12) (v := .pointer (some ⟨w.heap.size, 2, none⟩)) rfl (by kernel_rfl) (by kernel_rfl) (by kernel_rfl) (fun _ _ _ h => h) (Or.inl ⟨by rfl, fun w' hS => by go_simp⟩) hHeld ?_
                    simp only [Act.put, List.getElem_toArray, List.getElem_cons_zero, List.getElem_cons_succ, List.setIfInBounds_toArray, List.set_cons_zero, List.set_cons_succ]
                    refine wpAnyH_take (i := 13) (v := .int .i64 inc) rfl (by kernel_rfl) (by kernel_rfl) (by kernel_rfl) (fun _ _ _ h => h) (Or.inl ⟨by rfl, fun w' hS => by (obtain ⟨s0, s1, s2, s3, s4, s5⟩ := hS; go_simp)⟩) hHeld ?_
                    simp only [Act.put, List.getElem_toArray, List.getElem_cons_zero, List.getElem_cons_succ, List.setIfInBounds_toArray, List.set_cons_zero, List.set_cons_succ]
                    refine wpAnyH_ready (rs := [7]) (by kernel_rfl) (by simp) ?_
                    refine AllReadyH.cons rfl (fun K hK => ?_) AllReadyH.nil
                    go_simp
                    refine (HPt1.out _).mono ?_
                    rintro e w7 ⟨rfl, rfl⟩
                    refine hK.out _ _ ⟨cell_drew p1, cell_drew p2, cell_drew p3, cell_drew g0, cell_drew g1, cell_drew g2⟩ (fun hHeld => ?_)
                    clear hK K
                    refine wpAnyH_ready (rs := [14]) (by kernel_rfl) (by simp) ?_
                    refine AllReadyH.cons rfl (fun K hK => ?_) AllReadyH.nil
                    go_simp
                    refine (HH.out _).mono ?_
                    rintro e w7 ⟨u, rfl, g7, rfl, hg7, hB7, hb7⟩
                    have B7 : Below Z.heap.size Z w7 := bstep (Below.refl _ _).drew hb7
                    refine hK.out _ _ ⟨below_at B7 p1, below_at B7 p2, below_at B7 p3, below_at B7 g0, below_at B7 g1, below_at B7 g2⟩ (fun hHeld => ?_)
                    clear hK K
                    refine wpAnyH_take (i := 15) (v := .agg #[.int .i64 pt1, .slice (some ⟨g7, 0, none⟩) n n]) rfl (by kernel_rfl) (by kernel_rfl) (by kernel_rfl) (fun _ _ _ h => h) (Or.inl ⟨by rfl, fun w' hS => by go_simp⟩) hHeld ?_
                    simp only [Act.put, List.getElem_toArray, List.getElem_cons_zero, List.getElem_cons_succ, List.setIfInBounds_toArray, List.set_cons_zero, List.set_cons_succ]
                    refine wpAnyH_ready (rs := [16]) (by kernel_rfl) (by simp) ?_
                    refine AllReadyH.cons rfl (fun K hK => ?_) AllReadyH.nil
                    go_simp
                    refine (HSt.out w7 B7 g7 hB7).mono ?_
                    rintro e w8 ⟨ce, rfl, hce, hb8⟩
                    have B8 : Below Z.heap.size Z w8 := bstep B7 hb8
                    refine hK.out _ _ ⟨below_at B8 p1, below_at B8 p2, below_at B8 p3, below_at B8 g0, below_at B8 g1, below_at B8 g2⟩ (fun hHeld => ?_)
                    clear hK K
                    refine wpAnyH_take (i := 17) (v := .int .i64 ce) rfl (by kernel_rfl) (by kernel_rfl) (by kernel_rfl) (fun _ _ _ h => h) (Or.inl ⟨by rfl, fun w' hS => by go_simp⟩) hHeld ?_
                    simp only [Act.put, List.getElem_toArray, List.getElem_cons_zero, List.getElem_cons_succ, List.setIfInBounds_toArray, List.set_cons_zero, List.set_cons_succ]
                    refine wpAnyH_done (by kernel_rfl) ?_ _
                    clear hHeld
                    have HB8 : Hid (Below w6.heap.size w6 w8) := bstep (bstep HBz.out HbZ.out) B8
                    clear B7 B8 hb7 hb8 hB7 hg7 HSt HPt1 g0 g1 g2 p1 p2 p3
                    rcases hce with rfl | rfl
                    all_goals
                      go_wp2_with (first | (go_at_call 21; refine (num_any _).mono ?_; rintro e wn ⟨rfl, rfl⟩) | fail)
                      first
                        | exact ⟨⟨j + 1, by omega, by go_num, HB8.out⟩, by simp [intOf]; omega⟩
                        | (go_roundw
                           case rel => exact ⟨j + 1, by omega, by go_num, HB8.out⟩
                           case measure => simp [intOf]; omega)
                  · have hL0 : (ks).length = L5 := by obtain ⟨_, _, hv⟩ := hRz.slice; simp only [Value.slice.injEq] at hv; omega
                    have hjL : L5 = j := by omega
                    subst hjL
                    clear hRz hL0
                    go_wp2_with (fail)
                    refine (HAs.out _ (bstep B6.out HBz.out)).mono ?_
                    rintro e w9 ⟨a9, n9, c9, rfl, r9, m9, hb9⟩
                    obtain rfl : n9 = n6 := by have e1 := R6.out.1; have e2 := r9.1; omega
                    have HSm := same_any (c1 := c6) (c2 := c9) ((R6.out.still HBz.out).still hb9) r9 (by omega)
                    have HB9 : Hid (Below wr.heap.size wr w9) := hb9
                    clear r9 hb9 g0 g1 g2 g6
                    go_wp2_with (fail)
                    refine HSm.mono ?_
                    rintro e w10 ⟨rfl, hb10⟩
                    have HE : Hid (Rp w1 w10 B n s inc step lim b (k + 1) (.slice a5 L5 c5) (Da) (ks)) := HRz.out.still (bstep HB9.out hb10)
                    clear hb10 HSm
                    go_wp2
                    first
                      | exact ⟨⟨k + 1, _, _, by omega, by omega, by go_num, HE.out⟩, by simp [intOf]; omega⟩
                      | (go_roundw
                         case rel => exact ⟨k + 1, _, _, by omega, by omega, by go_num, HE.out⟩
                         case measure => simp [intOf]; omega)
          · have HR : Hid (Rp w1 X B n s inc step lim b (k + 1) (.slice a5 L5 c5) Dk ks) := HRX.out.up (by omega)
            have t1 : (o.k == 1) = false := by simp [h1]
            have t2 : (o.k == 2) = false := by simp [h2]
            clear HRX f1 f2
            obtain ⟨Y, hY⟩ : ∃ Y, (Dk).asked = Y := ⟨_, rfl⟩
            have HAs : Hid (∀ w', Below X.heap.size X w' → Calls Try.prog 29 #[.pointer (some ⟨b, 0, none⟩), .int .i64 n] w' fun e w2 => ∃ a n c, e = .returned (.slice a n c) ∧ RdI w2 a n Y ∧ n ≤ 1000 ∧ Below w'.heap.size w' w2) := fun w' hb => by have := (HR.out.still hb).asked; rw [hY] at this; exact this
            obtain ⟨g0, g1, g2, g6⟩ := HRC.out.to HR.out.lo hrB
            clear hY
            go_wp2_with (first | (go_at_call 21; refine (num_any _).mono ?_; rintro e wn ⟨rfl, rfl⟩) | fail)
            refine (HAs.out _ (Below.refl _ _)).mono ?_
            rintro e w6 ⟨a6, n6, c6, rfl, r6, m6, hb6⟩
            have R6 : Hid (RdI w6 a6 n6 Y) := r6
            have B6 : Hid (Below X.heap.size X w6) := hb6
            clear r6 hb6 g0 g1 g2 g6
            go_wp2
            go_loopw [11] (fun v11 wq => ∃ (j : Nat), j ≤ (ks).length ∧ v11 = .int .i64 (j : Int) ∧ Below w6.heap.size w6 wq) (fun v11 _ => (ks).length - (intOf v11).toNat)
            case atStart => exact ⟨0, Nat.zero_le _, rfl, Below.refl _ _⟩
            case round =>
              obtain ⟨j, hj, rfl, hbz⟩ := hrel
              have hRz := HR.out.still (bstep B6.out hbz)
              obtain ⟨g0, g1, g2, g6⟩ := HRC.out.to hRz.lo hrB
              have HBz : Hid (Below w6.heap.size w6 wr) := hbz
              have HRz : Hid (Rp w1 wr B n s inc step lim b (k + 1) (.slice a5 L5 c5) (Dk) (ks)) := hRz
              clear hbz
              by_cases hlt1 : j < (ks).length
              · obtain ⟨g5, c5', hv5, z0, z1, z2, z3, z4⟩ := hRz.row.at hlt1
                have hK := hRz.all ((ks).getD j o0) (by simp [List.getD, hlt1])
                generalize (ks).getD j o0 = o1 at z0 z1 z2 z3 z4 hK
                generalize hZ : wr.alloc (.cells o1.cs 61) = Z
                have hbZ : Below wr.heap.size wr Z := by rw [← hZ]; exact balloc (Below.refl _ wr)
                have hkZ : Z.heap[wr.heap.size]? = some (.cells o1.cs 61 (0, 0)) := by rw [← hZ]; exact heap_alloc_new wr _
                obtain ⟨zz, hzz⟩ : ∃ z, wr.heap.size = z := ⟨_, rfl⟩
                rw [hzz] at hkZ
                have p1 : Z.cell? ⟨zz, 1, none⟩ = some (.int .i64 o1.q) := blk_cell hkZ 1
                have p2 : Z.cell? ⟨zz, 2, none⟩ = some (.int .i64 o1.inc) := blk_cell hkZ 2
                have p3 : Z.cell? ⟨zz, 3, none⟩ = some (.int .i64 o1.t) := blk_cell hkZ 3
                have HbZ : Hid (Below wr.heap.size wr Z) := hbZ
                have HSt : Hid (∀ w', Below Z.heap.size Z w' → ∀ g, BlkI w' g (heaI n s inc) → Calls Try.prog 15 #[.pointer (some ⟨b, 0, none⟩), .int .i64 o1.q, .int .i64 o1.inc, .agg #[.int .i64 (posI o1.t 50), .slice (some ⟨g, 0, none⟩) n n]] w' fun e w2 => ∃ c : Int, e = .returned (.int .i64 c) ∧ (c = 50 ∨ c = 51) ∧ Below w'.heap.size w' w2) := fun w' hb g hg => refused_any ((HRz.out.still HbZ.out).still hb).ok HRz.out.lk hK inc ha3 hg
                have HPt1 : Hid (∀ w1, Calls Try.prog 14 #[.int .i64 o1.t, .int .i64 50] w1 fun e w' => e = .returned (.int .i64 (posI o1.t 50)) ∧ w1 = w') := fun w1 => pos_any _ _ (by omega)
                generalize posI o1.t 50 = pt1 at HSt HPt1
                replace g0 := below_at hbZ g0
                replace g1 := below_at hbZ g1
                replace g2 := below_at hbZ g2
                simp only [Value.slice.injEq] at hv5
                have hL1 := hv5.2.1
                have ha5 := hv5.1
                have i1 : (0 : Int) ≤ (j : Int) := Int.natCast_nonneg _
                have i2 : (j : Int) < ((L5 : Nat) : Int) := by omega
                clear hv5 hRz hK hkZ hbZ g6 hL1
                subst ha5
                unfold Opx.cs at hZ
                go_wp2
                first | rw [hzz] | skip
                refine wp_region_held_drew (S := (fun w' => w'.cell? ⟨zz, 1, none⟩ = some (.int .i64 o1.q) ∧ w'.cell? ⟨zz, 2, none⟩ = some (.int .i64 o1.inc) ∧ w'.cell? ⟨zz, 3, none⟩ = some (.int .i64 o1.t) ∧ w'.cell? ⟨w.heap.size, 0, none⟩ = some (.int .i64 (n : Int)) ∧ w'.cell? ⟨w.heap.size, 1, none⟩ = some (.int .i64 (s : Int)) ∧ w'.cell? ⟨w.heap.size, 2, none⟩ = some (.int .i64 inc))) (by kernel_rfl) ⟨cell_drew p1, cell_drew p2, cell_drew p3, cell_drew g0, cell_drew g1, cell_drew g2⟩ (fun hHeld => ?_)
                simp only [Act.put, List.size_toArray, List.length_cons, List.length_nil, Nat.zero_add]
                refine wpAnyH_take (i := 0) (v := .pointer (some ⟨b, 0, none⟩)) rfl (by kernel_rfl) (by kernel_rfl) (by kernel_rfl) (fun _ _ _ h => h) (Or.inl ⟨by rfl, fun w' hS => by go_simp⟩) hHeld ?_
                simp only [Act.put, List.getElem_toArray, List.getElem_cons_zero, List.getElem_cons_succ, List.setIfInBounds_toArray, List.set_cons_zero, List.set_cons_succ]
                refine wpAnyH_take (i := 1) (v := .pointer (some ⟨zz, 1, none⟩)) rfl (by kernel_rfl) (by kernel_rfl) (by kernel_rfl) (fun _ _ _ h => h) (Or.inl ⟨by rfl, fun w' hS => by go_simp⟩) hHeld ?_
                simp only [Act.put, List.getElem_toArray, List.getElem_cons_zero, List.getElem_cons_succ, List.setIfInBounds_toArray, List.set_cons_zero, List.set_cons_succ]
                refine wpAnyH_take (i := 2) (v := .int .i64 o1.q) rfl (by kernel_rfl) (by kernel_rfl) (by kernel_rfl) (fun _ _ _ h => h) (Or.inl ⟨by rfl, fun w' hS => by (obtain ⟨s0, s1, s2, s3, s4, s5⟩ := hS; go_simp)⟩) hHeld ?_
                simp only [Act.put, List.getElem_toArray, List.getElem_cons_zero, List.getElem_cons_succ, List.setIfInBounds_toArray, List.set_cons_zero, List.set_cons_succ]
                refine wpAnyH_take (i := 3) (v := .pointer (some ⟨zz, 2, none⟩)) rfl (by kernel_rfl) (by kernel_rfl) (by kernel_rfl) (fun _ _ _ h => h) (Or.inl ⟨by rfl, fun w' hS => by go_simp⟩) hHeld ?_
                simp only [Act.put, List.getElem_toArray, List.getElem_cons_zero, List.getElem_cons_succ, List.setIfInBounds_toArray, List.set_cons_zero, List.set_cons_succ]
                refine wpAnyH_take (i := 4) (v := .int .i64 o1.inc) rfl (by kernel_rfl) (by kernel_rfl) (by kernel_rfl) (fun _ _ _ h => h) (Or.inl ⟨by rfl, fun w' hS => by (obtain ⟨s0, s1, s2, s3, s4, s5⟩ := hS; go_simp)⟩) hHeld ?_
                simp only [Act.put, List.getElem_toArray, List.getElem_cons_zero, List.getElem_cons_succ, List.setIfInBounds_toArray, List.set_cons_zero, List.set_cons_succ]
                refine wpAnyH_take (i := 5) (v := .pointer (some ⟨zz, 3, none⟩)) rfl (by kernel_rfl) (by kernel_rfl) (by kernel_rfl) (fun _ _ _ h => h) (Or.inl ⟨by rfl, fun w' hS => by go_simp⟩) hHeld ?_
                simp only [Act.put, List.getElem_toArray, List.getElem_cons_zero, List.getElem_cons_succ, List.setIfInBounds_toArray, List.set_cons_zero, List.set_cons_succ]
                refine wpAnyH_take (i := 6) (v := .int .i64 o1.t) rfl (by kernel_rfl) (by kernel_rfl) (by kernel_rfl) (fun _ _ _ h => h) (Or.inl ⟨by rfl, fun w' hS => by (obtain ⟨s0, s1, s2, s3, s4, s5⟩ := hS; go_simp)⟩) hHeld ?_
                simp only [Act.put, List.getElem_toArray, List.getElem_cons_zero, List.getElem_cons_succ, List.setIfInBounds_toArray, List.set_cons_zero, List.set_cons_succ]
                refine wpAnyH_take (i := 8) (v := .pointer (some ⟨w.heap.size, 0, none⟩)) rfl (by kernel_rfl) (by kernel_rfl) (by kernel_rfl) (fun _ _ _ h => h) (Or.inl ⟨by rfl, fun w' hS => by go_simp⟩) hHeld ?_
                simp only [Act.put, List.getElem_toArray, List.getElem_cons_zero, List.getElem_cons_succ, List.setIfInBounds_toArray, List.set_cons_zero, List.set_cons_succ]
                refine wpAnyH_take (i := 9) (v := .int .i64 (n : Int)) rfl (by kernel_rfl) (by kernel_rfl) (by kernel_rfl) (fun _ _ _ h => h) (Or.inl ⟨by rfl, fun w' hS => by (obtain ⟨s0, s1, s2, s3, s4, s5⟩ := hS; go_simp)⟩) hHeld ?_
                simp only [Act.put, List.getElem_toArray, List.getElem_cons_zero, List.getElem_cons_succ, List.setIfInBounds_toArray, List.set_cons_zero, List.set_cons_succ]
                refine wpAnyH_take (i := 10) (v := .pointer (some ⟨w.heap.size, 1, none⟩)) rfl (by kernel_rfl) (by kernel_rfl) (by kernel_rfl) (fun _ _ _ h => h) (Or.inl ⟨by rfl, fun w' hS => by go_simp⟩) hHeld ?_
                simp only [Act.put, List.getElem_toArray, List.getElem_cons_zero, List.getElem_cons_succ, List.setIfInBounds_toArray, List.set_cons_zero, List.set_cons_succ]
                refine wpAnyH_take (i := 11) (v := .int .i64 (s : Int)) rfl (by kernel_rfl) (by kernel_rfl) (by kernel_rfl) (fun _ _ _ h => h) (Or.inl ⟨by rfl, fun w' hS => by (obtain ⟨s0, s1, s2, s3, s4, s5⟩ := hS; go_simp)⟩) hHeld ?_
                simp only [Act.put, List.getElem_toArray, List.getElem_cons_zero, List.getElem_cons_succ, List.setIfInBounds_toArray, List.set_cons_zero, List.set_cons_succ]
                refine wpAnyH_take (i := 12) (v := .pointer (some ⟨w.heap.size, 2, none⟩)) rfl (by kernel_rfl) (by kernel_rfl) (by kernel_rfl) (fun _ _ _ h => h) (Or.inl ⟨by rfl, fun w' hS => by go_simp⟩) hHeld ?_
                simp only [Act.put, List.getElem_toArray, List.getElem_cons_zero, List.getElem_cons_succ, List.setIfInBounds_toArray, List.set_cons_zero, List.set_cons_succ]
                refine wpAnyH_take (i := 13) (v := .int .i64 inc) rfl (by kernel_rfl) (by kernel_rfl) (by kernel_rfl) (fun _ _ _ h => h) (Or.inl ⟨by rfl, fun w' hS => by (obtain ⟨s0, s1, s2, s3, s4, s5⟩ := hS; go_simp)⟩) hHeld ?_
                simp only [Act.put, List.getElem_toArray, List.getElem_cons_zero, List.getElem_cons_succ, List.setIfInBounds_toArray, List.set_cons_zero, List.set_cons_succ]
                refine wpAnyH_ready (rs := [7]) (by kernel_rfl) (by simp) ?_
                refine AllReadyH.cons rfl (fun K hK => ?_) AllReadyH.nil
                go_simp
                refine (HPt1.out _).mono ?_
                rintro e w7 ⟨rfl, rfl⟩
                refine hK.out _ _ ⟨cell_drew p1, cell_drew p2, cell_drew p3, cell_drew g0, cell_drew g1, cell_drew g2⟩ (fun hHeld => ?_)
                clear hK K
                refine wpAnyH_ready (rs := [14]) (by kernel_rfl) (by simp) ?_
                refine AllReadyH.cons rfl (fun K hK => ?_) AllReadyH.nil
                go_simp
                refine (HH.out _).mono ?_
                rintro e w7 ⟨u, rfl, g7, rfl, hg7, hB7, hb7⟩
                have B7 : Below Z.heap.size Z w7 := bstep (Below.refl _ _).drew hb7
                refine hK.out _ _ ⟨below_at B7 p1, below_at B7 p2, below_at B7 p3, below_at B7 g0, below_at B7 g1, below_at B7 g2⟩ (fun hHeld => ?_)
                clear hK K
                refine wpAnyH_take (i := 15) (v := .agg #[.int .i64 pt1, .slice (some ⟨g7, 0, none⟩) n n]) rfl (by kernel_rfl) (by kernel_rfl) (by kernel_rfl) (fun _ _ _ h => h) (Or.inl ⟨by rfl, fun w' hS => by go_simp⟩) hHeld ?_
                simp only [Act.put, List.getElem_toArray, List.getElem_cons_zero, List.getElem_cons_succ, List.setIfInBounds_toArray, List.set_cons_zero, List.set_cons_succ]
                refine wpAnyH_ready (rs := [16]) (by kernel_rfl) (by simp) ?_
                refine AllReadyH.cons rfl (fun K hK => ?_) AllReadyH.nil
                go_simp
                refine (HSt.out w7 B7 g7 hB7).mono ?_
                rintro e w8 ⟨ce, rfl, hce, hb8⟩
                have B8 : Below Z.heap.size Z w8 := bstep B7 hb8
                refine hK.out _ _ ⟨below_at B8 p1, below_at B8 p2, below_at B8 p3, below_at B8 g0, below_at B8 g1, below_at B8 g2⟩ (fun hHeld => ?_)
                clear hK K
                refine wpAnyH_take (i := 17) (v := .int .i64 ce) rfl (by kernel_rfl) (by kernel_rfl) (by kernel_rfl) (fun _ _ _ h => h) (Or.inl ⟨by rfl, fun w' hS => by go_simp⟩) hHeld ?_
                simp only [Act.put, List.getElem_toArray, List.getElem_cons_zero, List.getElem_cons_succ, List.setIfInBounds_toArray, List.set_cons_zero, List.set_cons_succ]
                refine wpAnyH_done (by kernel_rfl) ?_ _
                clear hHeld
                have HB8 : Hid (Below w6.heap.size w6 w8) := bstep (bstep HBz.out HbZ.out) B8
                clear B7 B8 hb7 hb8 hB7 hg7 HSt HPt1 g0 g1 g2 p1 p2 p3
                rcases hce with rfl | rfl
                all_goals
                  go_wp2_with (first | (go_at_call 21; refine (num_any _).mono ?_; rintro e wn ⟨rfl, rfl⟩) | fail)
                  first
                    | exact ⟨⟨j + 1, by omega, by go_num, HB8.out⟩, by simp [intOf]; omega⟩
                    | (go_roundw
                       case rel => exact ⟨j + 1, by omega, by go_num, HB8.out⟩
                       case measure => simp [intOf]; omega)
              · have hL0 : (ks).length = L5 := by obtain ⟨_, _, hv⟩ := hRz.slice; simp only [Value.slice.injEq] at hv; omega
                have hjL : L5 = j := by omega
                subst hjL
                clear hRz hL0
                go_wp2_with (fail)
                refine (HAs.out _ (bstep B6.out HBz.out)).mono ?_
                rintro e w9 ⟨a9, n9, c9, rfl, r9, m9, hb9⟩
                obtain rfl : n9 = n6 := by have e1 := R6.out.1; have e2 := r9.1; omega
                have HSm := same_any (c1 := c6) (c2 := c9) ((R6.out.still HBz.out).still hb9) r9 (by omega)
                have HB9 : Hid (Below wr.heap.size wr w9) := hb9
                clear r9 hb9 g0 g1 g2 g6
                go_wp2_with (fail)
                refine HSm.mono ?_
                rintro e w10 ⟨rfl, hb10⟩
                have HE : Hid (Rp w1 w10 B n s inc step lim b (k + 1) (.slice a5 L5 c5) (Dk) (ks)) := HRz.out.still (bstep HB9.out hb10)
                clear hb10 HSm
                go_wp2
                first
                  | exact ⟨⟨k + 1, _, _, by omega, by omega, by go_num, HE.out⟩, by simp [intOf]; omega⟩
                  | (go_roundw
                     case rel => exact ⟨k + 1, _, _, by omega, by omega, by go_num, HE.out⟩
                     case measure => simp [intOf]; omega)
      · have i2 : decide ((k : Int) < (on : Int)) = true := decide_eq_true (by omega)
        have i3 : decide ((k : Int) < 100) = false := decide_eq_false (by omega)
        clear hR
        go_wp2
        go_ret
        exact ⟨rfl, Hlw.out⟩
    · have i2 : decide ((k : Int) < (on : Int)) = false := decide_eq_false (by omega)
      clear hR
      go_wp2
      go_ret
      exact ⟨rfl, Hlw.out⟩
end
end Go.Proofs.Ytjnbkkmagceggaa.Dt
