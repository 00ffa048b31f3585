import Derived.Test.YtcodpjblmeckkaaXi
namespace Go.Proofs.Ytcodpjblmeckkaa.Dt
open Go.RowKit
set_option linter.unusedVariables false
set_option maxRecDepth 100000
set_option linter.unusedSimpArgs false
section
variable {D D' : De} {R R' : Rf} {w w' W V : World} {B m : Nat}
theorem Ol.cells {v : Value} {hs : List Hn} {gO cO : Nat} (h : Ol w B D R (.slice (some ⟨gO, 0, none⟩) hs.length cO) hs) {j : Nat} (hj : j < hs.length) : w.cell? ⟨gO, j * 4, none⟩ = some (.slice (hs.getD j hz).a1 (hs.getD j hz).n (hs.getD j hz).c1) ∧ w.cell? ⟨gO, j * 4 + 1, none⟩ = some (.slice (hs.getD j hz).a2 ((hs.getD j hz).n + 1) (hs.getD j hz).c2) ∧ w.cell? ⟨gO, j * 4 + 2, none⟩ = some (.slice (hs.getD j hz).a3 ((hs.getD j hz).n + 1) (hs.getD j hz).c3) ∧ w.cell? ⟨gO, j * 4 + 3, none⟩ = some (.int .i64 (hs.getD j hz).km) := by
  refine ⟨?_, ?_, ?_, ?_⟩
  · rw [World.ownsRow.cellAt h.row (j * 4) (by omega)]; exact flat_at hs j 0 hj (by omega)
  · rw [World.ownsRow.cellAt h.row (j * 4 + 1) (by omega), flat_at hs j 1 hj (by omega)]; rfl
  · rw [World.ownsRow.cellAt h.row (j * 4 + 2) (by omega), flat_at hs j 2 hj (by omega)]; rfl
  · rw [World.ownsRow.cellAt h.row (j * 4 + 3) (by omega), flat_at hs j 3 hj (by omega)]; rfl
theorem mine_no (n s inc base step lim : Int) (oa : Option Addr) (on oc : Nat) (hno : newOk n s inc base step lim = false) : Calls Try.prog 8 #[.agg (rc n s inc base step lim oa on oc)] w fun e w' => e = .returned (.bool true) ∧ Below w.heap.size w w' := by
  generalize hW : w.alloc (.cells (rc n s inc base step lim oa on oc) 31) = W
  have hbW : Below w.heap.size w W := by rw [← hW]; exact balloc (Below.refl _ w)
  have hblk : W.heap[w.heap.size]? = some (.cells (rc n s inc base step lim oa on oc) 31 (0, 0)) := by rw [← hW]; exact heap_alloc_new w _
  obtain ⟨c0, c1, c2, c3, c4, c5, c6⟩ := run_cells hblk
  have HM := made_no (w := W) n s inc base step lim oa on oc hno
  have Hb : Hid (Below w.heap.size w W) := hbW
  unfold rc at hW HM ⊢
  clear hbW hblk hno
  go_enter Try.func8, Try.ntmps8
  go_wp2_with (first | (go_at_call 31; refine HM.mono ?_; rintro e w1 ⟨rfl, hb1⟩) | fail)
  go_ret
  exact ⟨rfl, bstep Hb.out hb1⟩
theorem rd_behind {g n : Nat} {x : Int} {xs : List Int} (h : RdI w (some ⟨g, 0, none⟩) (1 + n) (x :: xs)) : RdI w (some ⟨g, 1, none⟩) n xs := by
  obtain ⟨h1, h2⟩ := h
  refine ⟨by simp at h1; omega, ?_⟩
  rcases h2 with h2 | ⟨b, off, e, hc⟩
  · omega
  · simp at e
    obtain ⟨rfl, rfl⟩ := e
    refine .inr ⟨g, 1, rfl, fun i hi => ?_⟩
    have := hc (1 + i) (by omega)
    rw [show 0 + (1 + i) = 1 + i by omega] at this
    rw [this]
    simp [List.getD, Nat.add_comm 1 i]
theorem Du.pastD {wa w0 w2 : World} {v : Value} (h : Du D R wa B m) (hb : Below wa.heap.size wa w0) (hk : Kept w0 w2 (fun q => some q = v.ownBlock)) (hn : ∀ q, v.ownBlock = some q → ¬ D.own q ∧ ¬ R.own q) : Du D R w2 B m := by
  have h1 := h.still hb
  exact ⟨h1.d.keep hk (fun q hq e => (hn q e.symm).1 hq), h1.r.keep hk (fun q hq e => (hn q e.symm).2 hq), h1.ap, h1.sim, h1.len⟩
set_option maxHeartbeats 8000000 in
theorem mine_ok (n s : Nat) (inc base step lim : Int) (oa : Option Addr) (on oc : Nat) (os : Nat → Opx) (ho : RdOps w oa on os) (hon : on ≤ 2513169434916) (h43 : ∀ i, i < on → (os i).hn ≤ 17592186043904) (hok : newOk n s inc base step lim = true) : Calls Try.prog 8 #[.agg (rc n s inc base step lim oa on oc)] w fun e w' => e = .returned (.bool true) ∧ Below w.heap.size w w' := by
  have hn16 : n ≤ 16 := by
    have hk := hok
    unfold newOk at hk
    simp only [Bool.and_eq_true] at hk
    have := of_decide_eq_true hk.1
    omega
  generalize hW : w.alloc (.cells (rc n s inc base step lim oa on oc) 31) = W
  have hbW : Below w.heap.size w W := by rw [← hW]; exact balloc (Below.refl _ w)
  have hblk : W.heap[w.heap.size]? = some (.cells (rc n s inc base step lim oa on oc) 31 (0, 0)) := by rw [← hW]; exact heap_alloc_new w _
  obtain ⟨c0, c1, c2, c3, c4, c5, c6⟩ := run_cells hblk
  have HM := made_ok (w := W) n s inc base step lim oa on oc hok
  have Hb : Hid (Below w.heap.size w W) := hbW
  have HO : Hid (RdOps w oa on os) := ho
  have H43 : Hid (∀ i, i < on → (os i).hn ≤ 17592186043904) := h43
  have hwl := lt_heap hblk
  unfold rc at hW HM ⊢
  clear hbW hblk hok ho h43
  go_enter Try.func8, Try.ntmps8
  go_wp2_with (fail)
  refine HM.mono ?_
  rintro e w1 ⟨D, R, rfl, hb1, hDu⟩
  have B1 : Hid (Below W.heap.size W w1) := hb1
  have HDu : Hid (Du D R w1 W.heap.size 0) := hDu
  have d6 := below_at hb1 c6
  have Hd0 : Hid (w1.cell? ⟨w.heap.size, 0, none⟩ = some (.int .i64 (n : Int))) := below_at hb1 c0
  have Hd6 : Hid (w1.cell? ⟨w.heap.size, 6, none⟩ = some (.slice oa on oc)) := d6
  obtain ⟨db, hdb⟩ : ∃ x, D.b = x := ⟨_, rfl⟩
  obtain ⟨rb, hrb⟩ : ∃ x, R.b = x := ⟨_, rfl⟩
  have Hdb : Hid (D.b = db) := hdb
  have Hrb : Hid (R.b = rb) := hrb
  rw [hdb, hrb]
  clear hb1 hDu HM c0 c1 c2 c3 c4 c5 c6 hdb hrb
  go_wp2
  go_loopw [6, 7] (fun v6 v7 wr => ∃ (k : Nat) (D2 : De) (R2 : Rf) (hs : List Hn), k ≤ on ∧ k ≤ 120 ∧ hs.length ≤ k ∧ v7 = .int .i64 (k : Int) ∧ Hid (Du D2 R2 wr W.heap.size k) ∧ Hid (D2.b = db) ∧ Hid (R2.b = rb) ∧ Hid (Below W.heap.size w1 wr) ∧ Hid (Ol wr W.heap.size D2 R2 v6 hs)) (fun _ v7 _ => on - (intOf v7).toNat)
  case atStart => exact ⟨0, D, R, [], Nat.zero_le _, by omega, by simp, rfl, HDu, Hdb, Hrb, Below.refl _ _, Ol.nil⟩
  case round =>
    clear HDu Hdb Hrb
    obtain ⟨k, D2, R2, hs, hk, hk120, hsk, rfl, Hd, Hdb, Hrb, Hl, HOl⟩ := hrel
    have x6 : wr.cell? ⟨w.heap.size, 6, none⟩ = some (.slice oa on oc) := below_to Hl.out hwl Hd6.out
    have x0 : wr.cell? ⟨w.heap.size, 0, none⟩ = some (.int .i64 (n : Int)) := below_to Hl.out hwl Hd0.out
    have hlw : Below w.heap.size w wr := (bstep Hb.out B1.out).trans (Hl.out.mono (by omega))
    by_cases hlt : k < on ∧ k < 120
    · obtain ⟨ob, off, hoa, v0, v1, v2, v3, v4⟩ := HO.out.at hlw hlt.1
      have hin := HO.out.2 k hlt.1
      have h43k := H43.out k hlt.1
      have hroK : ∀ w', Below W.heap.size wr w' → RdI w' (os k).ha (os k).hn (os k).hs := fun w' hb => hin.1.still (hlw.trans (hb.mono (by omega)))
      generalize os k = o at v0 v1 v2 v3 v4 hin h43k hroK
      have i1 : (0 : Int) ≤ (k : Int) := Int.natCast_nonneg _
      have i2 : (k : Int) < (on : Int) := by omega
      have i3 : (k : Int) < 120 := by omega
      generalize hX : wr.alloc (.cells o.cs 61) = X
      have hbX : Below wr.heap.size wr X := by rw [← hX]; exact balloc (Below.refl _ wr)
      have hkX : X.heap[wr.heap.size]? = some (.cells o.cs 61 (0, 0)) := by rw [← hX]; exact heap_alloc_new wr _
      have hBr : W.heap.size ≤ wr.heap.size := Hd.out.hB
      have hdX := Hd.out.still hbX
      have HDo := does_any hdX (by omega) o (fun w' hb => hroK w' ((hbX.mono hBr).trans hb)) h43k
      rw [Hdb.out, Hrb.out] at HDo
      have y0 : X.cell? ⟨wr.heap.size, 0, none⟩ = some (.int .i64 o.k) := blk_cell hkX 0
      have y1 : X.cell? ⟨wr.heap.size, 1, none⟩ = some (.int .i64 o.q) := blk_cell hkX 1
      have y2 : X.cell? ⟨wr.heap.size, 2, none⟩ = some (.int .i64 o.inc) := blk_cell hkX 2
      have y3 : X.cell? ⟨wr.heap.size, 3, none⟩ = some (.int .i64 o.t) := blk_cell hkX 3
      have y4 : X.cell? ⟨wr.heap.size, 4, none⟩ = some (.slice o.ha o.hn o.hc) := blk_cell hkX 4
      have HdX : Hid (Du D2 R2 X W.heap.size k) := hdX
      have HkX : Hid (X.heap[wr.heap.size]? = some (.cells o.cs 61 (0, 0))) := hkX
      have HlX : Hid (Below W.heap.size w1 X) := Hl.out.trans (hbX.mono hBr)
      have HOX : Hid (Ol X W.heap.size D2 R2 u6 hs) := HOl.out.still hbX
      have hno : ¬ (D2.own wr.heap.size ∨ R2.own wr.heap.size) := fun e => by rcases e with e | e; (have := Hd.out.d.ltOwn e; omega); (have := Hd.out.r.ltOwn e; omega)
      unfold Opx.cs at hX HDo
      rw [hoa] at x6
      clear hlw hoa hin hroK hbX hkX hdX Hd Hl HOl
      go_wp2_with (fail)
      refine HDo.mono ?_
      rintro e w4 ⟨rfl, D4, R4, q4⟩
      have hk4 := q4.kept.obj HkX.out hno
      have u0 : w4.cell? ⟨wr.heap.size, 0, none⟩ = some (.int .i64 o.k) := blk_cell hk4 0
      have Hl4 : Hid (Below W.heap.size w1 w4) := HlX.out.trans (q4.lowB HdX.out)
      have HO4 : Hid (Ol w4 W.heap.size D4 R4 u6 hs) := HOX.out.step q4
      have Hd4 : Hid (Du D4 R4 w4 W.heap.size (k + 1)) := q4.du
      have Hdb4 : Hid (D4.b = db) := q4.db.trans Hdb.out
      have Hrb4 : Hid (R4.b = rb) := q4.rb.trans Hrb.out
      have hB4 : W.heap.size ≤ w4.heap.size := q4.du.hB
      generalize o.k = ok at *
      generalize wr.heap.size = gO at *
      clear q4 hk4 HDo HOX HlX HdX HkX hno Hdb Hrb y0 y1 y2 y3 y4 v0 v1 v2 v3 v4 x0 x6 hX h43k
      by_cases h4 : ok = 4
      · subst h4
        have HLi := list2_beat Hd4.out (by omega)
        rw [Hdb4.out, Hrb4.out] at HLi
        go_wp2_with (fail)
        refine HLi.mono ?_
        rintro e w9 ⟨v1', g2, c2, rfl, hc2, hrd, hb9⟩
        have HBt := beat_any (Hd4.out.still hb9).d
        rw [Hdb4.out] at HBt
        have z0 := below_at hb9 u0
        have HB9 : Hid (Below w4.heap.size w4 w9) := hb9
        have HRd : Hid (RdI w9 (some ⟨g2, 0, none⟩) (1 + D4.n) (D4.tick :: D4.hears)) := hrd
        have hD16 : D4.n ≤ 16 := by have := Hd4.out.sim.n; have := Hd4.out.r.num; omega
        have hD1 : 1 ≤ D4.n := by have := Hd4.out.sim.n; have := Hd4.out.r.num; omega
        have Hhl : Hid (D4.hears.length = D4.n) := (show _ = _ from lst_len _ _ _)
        clear hb9 hrd HLi
        go_wp2_with (fail)
        refine HBt.mono ?_
        rintro e wb ⟨va, rfl, gv, rfl, hgv, hbv, hbb⟩
        have HS9 := HB9.out.size
        generalize hY : wb.alloc (.cells #[.int .i64 D4.tick, .slice (some ⟨gv, 0, none⟩) D4.n D4.n] 38) = w6
        have hb6 : Below wb.heap.size wb w6 := by rw [← hY]; exact balloc (Below.refl _ wb)
        have hk6 : w6.heap[wb.heap.size]? = some (.cells #[.int .i64 D4.tick, .slice (some ⟨gv, 0, none⟩) D4.n D4.n] 38 (0, 0)) := by rw [← hY]; exact heap_alloc_new wb _
        have t0 : w6.cell? ⟨wb.heap.size, 0, none⟩ = some (.int .i64 D4.tick) := blk_cell hk6 0
        have t1 : w6.cell? ⟨wb.heap.size, 1, none⟩ = some (.slice (some ⟨gv, 0, none⟩) D4.n D4.n) := blk_cell hk6 1
        have hbb6 : Below w9.heap.size w9 w6 := bstep hbb hb6
        have HB6 : Hid (Below w4.heap.size w4 w6) := bstep HB9.out hbb6
        have HRow : Hid (∃ xs : List Int, w6.ownsRow w4.heap.size 3 1 (.slice (some ⟨gv, 0, none⟩) D4.n D4.n) xs.length (ints xs) ∧ xs.length ≤ 16) := ⟨D4.hears, (show World.ownsRow _ _ _ _ _ _ _ from by rw [Hhl.out]; exact (hbv.still hb6).own (by omega) Hhl.out (by unfold maxLen; omega)), by rw [Hhl.out]; exact hD16⟩
        have HSame : Hid (Calls Try.prog 30 #[.slice (some ⟨gv, 0, none⟩) D4.n D4.n, .slice (some ⟨g2, 1, none⟩) D4.n (c2 - 1)] w6 fun e w' => e = .returned (.bool true) ∧ Below w6.heap.size w6 w') := same_any ((hbv.still hb6).rd Hhl.out) (rd_behind (HRd.out.still hbb6)) (by omega)
        have q1 : (1 : Int) ≤ ((1 + D4.n : Nat) : Int) := by omega
        have q2 : (1 : Int) ≤ (c2 : Int) := by omega
        have q3 : ¬ c2 = 1 := by omega
        have q4 : 1 + D4.n - 1 = D4.n := by omega
        clear hbv hbb hb6 hk6 hbb6 HRd HB9
        generalize D4.n = dn at *
        obtain ⟨xs, hxo, hx16⟩ := HRow.out
        have HMk : Hid (∀ w7, Below w6.heap.size w6 w7 → Calls Try.prog 36 #[(.slice (some ⟨gv, 0, none⟩) dn dn), .int .i64 (10 * (k : Int) + 3)] w7 fun e w' => ∃ h : Hn, e = .returned (.agg #[.slice h.a1 h.n h.c1, .slice h.a2 (h.n + 1) h.c2, .slice h.a3 (h.n + 1) h.c3, .int .i64 h.km]) ∧ h.Ok w' (fun q => w4.heap.size ≤ q ∧ q < w'.heap.size) ∧ Below w4.heap.size w7 w') := fun w7 hb7 => by
          have h1 := marked_any (own_still hxo hb7) hx16 (by have := HB6.out.size; have := hb7.size; omega) (mk := 10 * (k : Int) + 3) (by omega) (by omega)
          refine h1.mono ?_
          rintro e w' ⟨h, he, _, h2, h3⟩
          exact ⟨h, he, h2, h3⟩
        clear hxo
        go_wp2_with fail
        refine HSame.out.mono ?_
        rintro e w7 ⟨rfl, hb7⟩
        go_wp2_with (first | (go_at_call 36; refine (HMk.out w7 hb7).mono ?_; rintro e w8 ⟨h, rfl, hh, hb8⟩; have HB8 : Hid (Below w4.heap.size w4 w8) := (HB6.out.trans (hb7.mono HB6.out.size)).trans hb8; have HH8 : Hid (h.Ok w8 (fun q => w4.heap.size ≤ q ∧ q < w8.heap.size)) := hh; have hs8 := HB8.out.size; clear hb8 hh) | (at_builtin; refine wl_pushH rfl _ _ rfl w8 h rfl W.heap.size _ hs rfl (Kept.owns (Kept.ofBelow HB8.out (fun _ => False)) HO4.out.row (fun _ _ => id)) rfl (by omega) (by omega) ?_) | fail)
        intro gP cP w5 p1 p2 p3
        have HO5 : Hid (Ol w5 W.heap.size D4 R4 (.slice (some ⟨gP, 0, none⟩) (hs.length + 1) cP) (hs ++ [h])) := HO4.out.push (Nat.le_refl _) (fun q hq => Hd4.out.d.ltOwn hq) (fun q hq => Hd4.out.r.ltOwn hq) HB8.out HH8.out p1 p2 p3
        have hk5 : Below W.heap.size w8 w5 := p2.below (by omega) (fun q hq e => by have := (World.ownsRow.lt HO4.out.row q e.symm).1; omega)
        have Hd5 : Hid (Du D4 R4 w5 W.heap.size (k + 1)) := Hd4.out.pastD HB8.out p2 (fun q hq => HO4.out.nr q hq)
        have Hl5 : Hid (Below W.heap.size w1 w5) := (Hl4.out.trans (HB8.out.mono hB4)).trans hk5
        have hB5 : W.heap.size ≤ w5.heap.size := Hd5.out.hB
        obtain ⟨hs5, hhs⟩ : ∃ x, hs ++ [h] = x := ⟨_, rfl⟩
        have hl5 : hs.length + 1 = hs5.length := by rw [← hhs]; simp
        have hsk5 : hs5.length ≤ k + 1 := by omega
        rw [hhs, hl5] at HO5
        rw [hl5]
        clear p1 p2 p3 hk5 Hd4 Hl4 HO4 HB8 HH8 HMk HSame HB6 HRow hhs hl5
        go_wp2_with fail
        go_loopw [13] (fun q wr => ∃ j : Nat, j ≤ hs5.length ∧ q = .int .i64 (j : Int) ∧ Hid (Below w5.heap.size w5 wr)) (fun q _ => hs5.length - (intOf q).toNat)
        case atStart => exact ⟨0, Nat.zero_le _, rfl, Below.refl _ _⟩
        case round =>
          obtain ⟨j, hj, rfl, HBj⟩ := hrel
          by_cases hjl : j < hs5.length
          · obtain ⟨gH, cH, hvH, _, _⟩ := HO5.out.row.form (by omega)
            simp only [Value.slice.injEq, true_and] at hvH
            first | (obtain ⟨rfl, rfl⟩ := hvH) | (simp only [Option.some.injEq, Addr.mk.injEq, true_and, and_true] at hvH; obtain ⟨rfl, rfl⟩ := hvH)
            obtain ⟨f0, f1, f2, f3⟩ := (HO5.out.still HBj.out).cells (v := .slice none 0 0) hjl
            have HSt : Hid (Calls Try.prog 37 #[.agg #[.slice (hs5.getD j hz).a1 (hs5.getD j hz).n (hs5.getD j hz).c1, .slice (hs5.getD j hz).a2 ((hs5.getD j hz).n + 1) (hs5.getD j hz).c2, .slice (hs5.getD j hz).a3 ((hs5.getD j hz).n + 1) (hs5.getD j hz).c3, .int .i64 (hs5.getD j hz).km]] wr fun e w' => e = .returned (.bool true) ∧ Below wr.heap.size wr w') := still_any ((HO5.out.still HBj.out).el j hjl)
            have j1 : (0 : Int) ≤ (j : Int) := Int.natCast_nonneg _
            have j2 : (j : Int) < (hs5.length : Int) := by omega
            generalize (hs5.getD j hz).a1 = a1 at *
            generalize (hs5.getD j hz).a2 = a2 at *
            generalize (hs5.getD j hz).a3 = a3 at *
            generalize (hs5.getD j hz).n = nn at *
            generalize (hs5.getD j hz).c1 = c1 at *
            generalize (hs5.getD j hz).c2 = c2 at *
            generalize (hs5.getD j hz).c3 = c3 at *
            generalize (hs5.getD j hz).km = km at *
            go_wp2_with (first | (go_at_call 37; refine HSt.out.mono ?_; rintro e w6 ⟨rfl, hb6⟩; have HB6 : Hid (Below w5.heap.size w5 w6) := bstep HBj.out hb6; clear hb6) | fail)
            go_roundw
            case rel => exact ⟨j + 1, by omega, by go_num, HB6⟩
            case measure => simp [intOf]; omega
          · obtain ⟨L5, hL5⟩ : ∃ L, hs5.length = L := ⟨_, rfl⟩
            have HF : Hid (∃ hs' : List Hn, hs'.length ≤ k + 1 ∧ Du D4 R4 wr W.heap.size (k + 1) ∧ Below W.heap.size w1 wr ∧ Ol wr W.heap.size D4 R4 (.slice (some ⟨gP, 0, none⟩) hs5.length cP) hs') := ⟨hs5, hsk5, Hd5.out.still HBj.out, Hl5.out.trans (HBj.out.mono hB5), HO5.out.still HBj.out⟩
            rw [hL5] at hj hjl
            obtain rfl : j = L5 := by omega
            rw [hL5] at HF ⊢
            clear HO5 Hd5 Hl5 HBj hL5 hjl hj
            go_wp2
            go_roundw
            case rel =>
              obtain ⟨hs', g1, g2, g3, g4⟩ := HF.out
              exact ⟨k + 1, D4, R4, hs', by omega, by omega, g1, by go_num, g2, Hdb4, Hrb4, g3, g4⟩
            case measure => simp [intOf]; omega
      · by_cases h57 : 5 ≤ ok ∧ ok ≤ 7
        · have o1 : (4 : Int) ≤ ok := by omega
          have o2 : ok ≤ 7 := h57.2
          have o3 : (ok == 4) = false := by rw [beq_eq_false_iff_ne]; exact h4
          have HLi := list2_57 Hd4.out (by omega) ok h57
          rw [Hdb4.out, Hrb4.out] at HLi
          clear h57 h4
          go_wp2_with (fail)
          refine HLi.mono ?_
          rintro e w6 ⟨va, vb, rfl, htw, hrow, hb6⟩
          have HB6 : Hid (Below w4.heap.size w4 w6) := hb6
          have HRow : Hid (∃ xs : List Int, w6.ownsRow w4.heap.size 3 1 va xs.length (ints xs) ∧ xs.length ≤ 16) := hrow
          have HSame : Hid (Calls Try.prog 30 #[va, vb] w6 fun e w' => e = .returned (.bool true) ∧ Below w6.heap.size w6 w') := same_two htw
          have z0 := below_at hb6 u0
          clear htw hrow hb6 HLi
          obtain ⟨xs, hxo, hx16⟩ := HRow.out
          have HMk : Hid (∀ w7, Below w6.heap.size w6 w7 → Calls Try.prog 36 #[va, .int .i64 (10 * (k : Int) + 3)] w7 fun e w' => ∃ h : Hn, e = .returned (.agg #[.slice h.a1 h.n h.c1, .slice h.a2 (h.n + 1) h.c2, .slice h.a3 (h.n + 1) h.c3, .int .i64 h.km]) ∧ h.Ok w' (fun q => w4.heap.size ≤ q ∧ q < w'.heap.size) ∧ Below w4.heap.size w7 w') := fun w7 hb7 => by
            have h1 := marked_any (own_still hxo hb7) hx16 (by have := HB6.out.size; have := hb7.size; omega) (mk := 10 * (k : Int) + 3) (by omega) (by omega)
            refine h1.mono ?_
            rintro e w' ⟨h, he, _, h2, h3⟩
            exact ⟨h, he, h2, h3⟩
          clear hxo
          go_wp2_with (first | (go_at_call 30; refine HSame.out.mono ?_; rintro e w7 ⟨rfl, hb7⟩) | (go_at_call 36; refine (HMk.out w7 hb7).mono ?_; rintro e w8 ⟨h, rfl, hh, hb8⟩; have HB8 : Hid (Below w4.heap.size w4 w8) := (HB6.out.trans (hb7.mono HB6.out.size)).trans hb8; have HH8 : Hid (h.Ok w8 (fun q => w4.heap.size ≤ q ∧ q < w8.heap.size)) := hh; have hs8 := HB8.out.size; clear hb8 hh) | (at_builtin; refine wl_pushH rfl _ _ rfl w8 h rfl W.heap.size _ hs rfl (Kept.owns (Kept.ofBelow HB8.out (fun _ => False)) HO4.out.row (fun _ _ => id)) rfl (by omega) (by omega) ?_) | fail)
          intro gP cP w5 p1 p2 p3
          have HO5 : Hid (Ol w5 W.heap.size D4 R4 (.slice (some ⟨gP, 0, none⟩) (hs.length + 1) cP) (hs ++ [h])) := HO4.out.push (Nat.le_refl _) (fun q hq => Hd4.out.d.ltOwn hq) (fun q hq => Hd4.out.r.ltOwn hq) HB8.out HH8.out p1 p2 p3
          have hk5 : Below W.heap.size w8 w5 := p2.below (by omega) (fun q hq e => by have := (World.ownsRow.lt HO4.out.row q e.symm).1; omega)
          have Hd5 : Hid (Du D4 R4 w5 W.heap.size (k + 1)) := Hd4.out.pastD HB8.out p2 (fun q hq => HO4.out.nr q hq)
          have Hl5 : Hid (Below W.heap.size w1 w5) := (Hl4.out.trans (HB8.out.mono hB4)).trans hk5
          have hB5 : W.heap.size ≤ w5.heap.size := Hd5.out.hB
          obtain ⟨hs5, hhs⟩ : ∃ x, hs ++ [h] = x := ⟨_, rfl⟩
          have hl5 : hs.length + 1 = hs5.length := by rw [← hhs]; simp
          have hsk5 : hs5.length ≤ k + 1 := by omega
          rw [hhs, hl5] at HO5
          rw [hl5]
          clear p1 p2 p3 hk5 Hd4 Hl4 HO4 HB8 HH8 HMk HSame HB6 HRow hhs hl5
          go_wp2_with fail
          go_loopw [13] (fun q wr => ∃ j : Nat, j ≤ hs5.length ∧ q = .int .i64 (j : Int) ∧ Hid (Below w5.heap.size w5 wr)) (fun q _ => hs5.length - (intOf q).toNat)
          case atStart => exact ⟨0, Nat.zero_le _, rfl, Below.refl _ _⟩
          case round =>
            obtain ⟨j, hj, rfl, HBj⟩ := hrel
            by_cases hjl : j < hs5.length
            · obtain ⟨gH, cH, hvH, _, _⟩ := HO5.out.row.form (by omega)
              simp only [Value.slice.injEq, true_and] at hvH
              first | (obtain ⟨rfl, rfl⟩ := hvH) | (simp only [Option.some.injEq, Addr.mk.injEq, true_and, and_true] at hvH; obtain ⟨rfl, rfl⟩ := hvH)
              obtain ⟨f0, f1, f2, f3⟩ := (HO5.out.still HBj.out).cells (v := .slice none 0 0) hjl
              have HSt : Hid (Calls Try.prog 37 #[.agg #[.slice (hs5.getD j hz).a1 (hs5.getD j hz).n (hs5.getD j hz).c1, .slice (hs5.getD j hz).a2 ((hs5.getD j hz).n + 1) (hs5.getD j hz).c2, .slice (hs5.getD j hz).a3 ((hs5.getD j hz).n + 1) (hs5.getD j hz).c3, .int .i64 (hs5.getD j hz).km]] wr fun e w' => e = .returned (.bool true) ∧ Below wr.heap.size wr w') := still_any ((HO5.out.still HBj.out).el j hjl)
              have j1 : (0 : Int) ≤ (j : Int) := Int.natCast_nonneg _
              have j2 : (j : Int) < (hs5.length : Int) := by omega
              generalize (hs5.getD j hz).a1 = a1 at *
              generalize (hs5.getD j hz).a2 = a2 at *
              generalize (hs5.getD j hz).a3 = a3 at *
              generalize (hs5.getD j hz).n = nn at *
              generalize (hs5.getD j hz).c1 = c1 at *
              generalize (hs5.getD j hz).c2 = c2 at *
              generalize (hs5.getD j hz).c3 = c3 at *
              generalize (hs5.getD j hz).km = km at *
              go_wp2_with (first | (go_at_call 37; refine HSt.out.mono ?_; rintro e w6 ⟨rfl, hb6⟩; have HB6 : Hid (Below w5.heap.size w5 w6) := bstep HBj.out hb6; clear hb6) | fail)
              go_roundw
              case rel => exact ⟨j + 1, by omega, by go_num, HB6⟩
              case measure => simp [intOf]; omega
            · obtain ⟨L5, hL5⟩ : ∃ L, hs5.length = L := ⟨_, rfl⟩
              have HF : Hid (∃ hs' : List Hn, hs'.length ≤ k + 1 ∧ Du D4 R4 wr W.heap.size (k + 1) ∧ Below W.heap.size w1 wr ∧ Ol wr W.heap.size D4 R4 (.slice (some ⟨gP, 0, none⟩) hs5.length cP) hs') := ⟨hs5, hsk5, Hd5.out.still HBj.out, Hl5.out.trans (HBj.out.mono hB5), HO5.out.still HBj.out⟩
              rw [hL5] at hj hjl
              obtain rfl : j = L5 := by omega
              rw [hL5] at HF ⊢
              clear HO5 Hd5 Hl5 HBj hL5 hjl hj
              go_wp2
              go_roundw
              case rel =>
                obtain ⟨hs', g1, g2, g3, g4⟩ := HF.out
                exact ⟨k + 1, D4, R4, hs', by omega, by omega, g1, by go_num, g2, Hdb4, Hrb4, g3, g4⟩
              case measure => simp [intOf]; omega
        · by_cases hk3 : ok < 4
          · have o1 : ¬ (4 : Int) ≤ ok := by omega
            clear h57 h4 hk3
            have Hd5 := Hd4
            have Hl5 := Hl4
            have HO5 := HO4
            have hB5 := hB4
            obtain ⟨hs5, hhs⟩ : ∃ x, hs = x := ⟨_, rfl⟩
            have hsk5 : hs5.length ≤ k + 1 := by rw [← hhs]; omega
            rw [hhs] at HO5
            obtain ⟨aH0, cH0, hvH0⟩ := own_slice0 HO5.out.row
            subst hvH0
            clear Hd4 Hl4 HO4 hB4 hsk hhs
            obtain ⟨w5, hw5⟩ : ∃ x, w4 = x := ⟨_, rfl⟩
            rw [hw5] at Hd5 Hl5 HO5 hB5 u0 ⊢
            clear hw5
            go_wp2_with fail
            go_loopw [13] (fun q wr => ∃ j : Nat, j ≤ hs5.length ∧ q = .int .i64 (j : Int) ∧ Hid (Below w5.heap.size w5 wr)) (fun q _ => hs5.length - (intOf q).toNat)
            case atStart => exact ⟨0, Nat.zero_le _, rfl, Below.refl _ _⟩
            case round =>
              obtain ⟨j, hj, rfl, HBj⟩ := hrel
              by_cases hjl : j < hs5.length
              · obtain ⟨gH, cH, hvH, _, _⟩ := HO5.out.row.form (by omega)
                simp only [Value.slice.injEq, true_and] at hvH
                first | (obtain ⟨rfl, rfl⟩ := hvH) | (simp only [Option.some.injEq, Addr.mk.injEq, true_and, and_true] at hvH; obtain ⟨rfl, rfl⟩ := hvH)
                obtain ⟨f0, f1, f2, f3⟩ := (HO5.out.still HBj.out).cells (v := .slice none 0 0) hjl
                have HSt : Hid (Calls Try.prog 37 #[.agg #[.slice (hs5.getD j hz).a1 (hs5.getD j hz).n (hs5.getD j hz).c1, .slice (hs5.getD j hz).a2 ((hs5.getD j hz).n + 1) (hs5.getD j hz).c2, .slice (hs5.getD j hz).a3 ((hs5.getD j hz).n + 1) (hs5.getD j hz).c3, .int .i64 (hs5.getD j hz).km]] wr fun e w' => e = .returned (.bool true) ∧ Below wr.heap.size wr w') := still_any ((HO5.out.still HBj.out).el j hjl)
                have j1 : (0 : Int) ≤ (j : Int) := Int.natCast_nonneg _
                have j2 : (j : Int) < (hs5.length : Int) := by omega
                generalize (hs5.getD j hz).a1 = a1 at *
                generalize (hs5.getD j hz).a2 = a2 at *
                generalize (hs5.getD j hz).a3 = a3 at *
                generalize (hs5.getD j hz).n = nn at *
                generalize (hs5.getD j hz).c1 = c1 at *
                generalize (hs5.getD j hz).c2 = c2 at *
                generalize (hs5.getD j hz).c3 = c3 at *
                generalize (hs5.getD j hz).km = km at *
                go_wp2_with (first | (go_at_call 37; refine HSt.out.mono ?_; rintro e w6 ⟨rfl, hb6⟩; have HB6 : Hid (Below w5.heap.size w5 w6) := bstep HBj.out hb6; clear hb6) | fail)
                go_roundw
                case rel => exact ⟨j + 1, by omega, by go_num, HB6⟩
                case measure => simp [intOf]; omega
              · obtain ⟨L5, hL5⟩ : ∃ L, hs5.length = L := ⟨_, rfl⟩
                have HF : Hid (∃ hs' : List Hn, hs'.length ≤ k + 1 ∧ Du D4 R4 wr W.heap.size (k + 1) ∧ Below W.heap.size w1 wr ∧ Ol wr W.heap.size D4 R4 (.slice aH0 hs5.length cH0) hs') := ⟨hs5, hsk5, Hd5.out.still HBj.out, Hl5.out.trans (HBj.out.mono hB5), HO5.out.still HBj.out⟩
                rw [hL5] at hj hjl
                obtain rfl : j = L5 := by omega
                rw [hL5] at HF ⊢
                clear HO5 Hd5 Hl5 HBj hL5 hjl hj
                go_wp2
                go_roundw
                case rel =>
                  obtain ⟨hs', g1, g2, g3, g4⟩ := HF.out
                  exact ⟨k + 1, D4, R4, hs', by omega, by omega, g1, by go_num, g2, Hdb4, Hrb4, g3, g4⟩
                case measure => simp [intOf]; omega
          · have o1 : (4 : Int) ≤ ok := by omega
            have o2 : ¬ ok ≤ 7 := by omega
            clear h57 h4 hk3
            have Hd5 := Hd4
            have Hl5 := Hl4
            have HO5 := HO4
            have hB5 := hB4
            obtain ⟨hs5, hhs⟩ : ∃ x, hs = x := ⟨_, rfl⟩
            have hsk5 : hs5.length ≤ k + 1 := by rw [← hhs]; omega
            rw [hhs] at HO5
            obtain ⟨aH0, cH0, hvH0⟩ := own_slice0 HO5.out.row
            subst hvH0
            clear Hd4 Hl4 HO4 hB4 hsk hhs
            obtain ⟨w5, hw5⟩ : ∃ x, w4 = x := ⟨_, rfl⟩
            rw [hw5] at Hd5 Hl5 HO5 hB5 u0 ⊢
            clear hw5
            go_wp2_with fail
            go_loopw [13] (fun q wr => ∃ j : Nat, j ≤ hs5.length ∧ q = .int .i64 (j : Int) ∧ Hid (Below w5.heap.size w5 wr)) (fun q _ => hs5.length - (intOf q).toNat)
            case atStart => exact ⟨0, Nat.zero_le _, rfl, Below.refl _ _⟩
            case round =>
              obtain ⟨j, hj, rfl, HBj⟩ := hrel
              by_cases hjl : j < hs5.length
              · obtain ⟨gH, cH, hvH, _, _⟩ := HO5.out.row.form (by omega)
                simp only [Value.slice.injEq, true_and] at hvH
                first | (obtain ⟨rfl, rfl⟩ := hvH) | (simp only [Option.some.injEq, Addr.mk.injEq, true_and, and_true] at hvH; obtain ⟨rfl, rfl⟩ := hvH)
                obtain ⟨f0, f1, f2, f3⟩ := (HO5.out.still HBj.out).cells (v := .slice none 0 0) hjl
                have HSt : Hid (Calls Try.prog 37 #[.agg #[.slice (hs5.getD j hz).a1 (hs5.getD j hz).n (hs5.getD j hz).c1, .slice (hs5.getD j hz).a2 ((hs5.getD j hz).n + 1) (hs5.getD j hz).c2, .slice (hs5.getD j hz).a3 ((hs5.getD j hz).n + 1) (hs5.getD j hz).c3, .int .i64 (hs5.getD j hz).km]] wr fun e w' => e = .returned (.bool true) ∧ Below wr.heap.size wr w') := still_any ((HO5.out.still HBj.out).el j hjl)
                have j1 : (0 : Int) ≤ (j : Int) := Int.natCast_nonneg _
                have j2 : (j : Int) < (hs5.length : Int) := by omega
                generalize (hs5.getD j hz).a1 = a1 at *
                generalize (hs5.getD j hz).a2 = a2 at *
                generalize (hs5.getD j hz).a3 = a3 at *
                generalize (hs5.getD j hz).n = nn at *
                generalize (hs5.getD j hz).c1 = c1 at *
                generalize (hs5.getD j hz).c2 = c2 at *
                generalize (hs5.getD j hz).c3 = c3 at *
                generalize (hs5.getD j hz).km = km at *
                go_wp2_with (first | (go_at_call 37; refine HSt.out.mono ?_; rintro e w6 ⟨rfl, hb6⟩; have HB6 : Hid (Below w5.heap.size w5 w6) := bstep HBj.out hb6; clear hb6) | fail)
                go_roundw
                case rel => exact ⟨j + 1, by omega, by go_num, HB6⟩
                case measure => simp [intOf]; omega
              · obtain ⟨L5, hL5⟩ : ∃ L, hs5.length = L := ⟨_, rfl⟩
                have HF : Hid (∃ hs' : List Hn, hs'.length ≤ k + 1 ∧ Du D4 R4 wr W.heap.size (k + 1) ∧ Below W.heap.size w1 wr ∧ Ol wr W.heap.size D4 R4 (.slice aH0 hs5.length cH0) hs') := ⟨hs5, hsk5, Hd5.out.still HBj.out, Hl5.out.trans (HBj.out.mono hB5), HO5.out.still HBj.out⟩
                rw [hL5] at hj hjl
                obtain rfl : j = L5 := by omega
                rw [hL5] at HF ⊢
                clear HO5 Hd5 Hl5 HBj hL5 hjl hj
                go_wp2
                go_roundw
                case rel =>
                  obtain ⟨hs', g1, g2, g3, g4⟩ := HF.out
                  exact ⟨k + 1, D4, R4, hs', by omega, by omega, g1, by go_num, g2, Hdb4, Hrb4, g3, g4⟩
                case measure => simp [intOf]; omega
    · have HAl := all_any Hd.out (by omega) n hn16
      rw [Hdb.out, Hrb.out] at HAl
      have Hlw : Hid (Below w.heap.size w wr) := hlw
      clear Hd Hl hlw HOl
      by_cases hko : k < on
      · have i2 : (k : Int) < (on : Int) := by omega
        have i3 : ¬ (k : Int) < 120 := by omega
        clear hlt
        go_wp2_with (first | (go_at_call 34; refine HAl.mono ?_; rintro e w5 ⟨rfl, hb5⟩) | fail)
        go_ret
        exact ⟨rfl, bstep Hlw.out hb5⟩
      · have i2 : ¬ (k : Int) < (on : Int) := by omega
        clear hlt
        go_wp2_with (first | (go_at_call 34; refine HAl.mono ?_; rintro e w5 ⟨rfl, hb5⟩) | fail)
        go_ret
        exact ⟨rfl, bstep Hlw.out hb5⟩
theorem mine_any (n s inc base step lim : Int) (oa : Option Addr) (on oc : Nat) (os : Nat → Opx) (ho : RdOps w oa on os) (hon : on ≤ 2513169434916) (h43 : ∀ i, i < on → (os i).hn ≤ 17592186043904) : Calls Try.prog 8 #[.agg (rc n s inc base step lim oa on oc)] w fun e w' => e = .returned (.bool true) ∧ Below w.heap.size w w' := by
  cases hok : newOk n s inc base step lim with
  | false => exact mine_no n s inc base step lim oa on oc hok
  | true =>
    have hk := hok
    unfold newOk at hk
    simp only [Bool.and_eq_true] at hk
    obtain ⟨b1, b2, _⟩ := hk
    have a1 := of_decide_eq_true b1
    have a2 := of_decide_eq_true b2
    obtain ⟨k, rfl⟩ : ∃ k : Nat, n = k := ⟨n.toNat, by omega⟩
    obtain ⟨t, rfl⟩ : ∃ t : Nat, s = t := ⟨s.toNat, by omega⟩
    exact mine_ok k t inc base step lim oa on oc os ho hon h43 hok
end
end Go.Proofs.Ytcodpjblmeckkaa.Dt
