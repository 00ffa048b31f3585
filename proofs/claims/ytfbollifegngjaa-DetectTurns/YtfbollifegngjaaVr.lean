import Derived.Test.YtfbollifegngjaaVp
namespace Go.Proofs.Ytfbollifegngjaa.Dt
open Go.RowKit
set_option linter.unusedVariables false
set_option maxRecDepth 100000
set_option linter.unusedSimpArgs false
structure Opx where
  k : Int
  q : Int
  inc : Int
  t : Int
  ha : Option Addr
  hn : Nat
  hc : Nat
  hs : List Int
def Opx.cs (o : Opx) : Array Value := #[.int .i64 o.k, .int .i64 o.q, .int .i64 o.inc, .int .i64 o.t, .slice o.ha o.hn o.hc]
def o0 : Opx := ⟨0, 0, 0, 0, none, 0, 0, []⟩
section
variable {D D' : De} {w w' W V : World} {B m : Nat}
def OpIn (w : World) (o : Opx) : Prop := RdI w o.ha o.hn o.hs ∧ o.hn ≤ 17592186044416
def RdOps (w : World) (oa : Option Addr) (n : Nat) (os : Nat → Opx) : Prop :=
  (n = 0 ∨ ∃ b off, oa = some ⟨b, off, none⟩ ∧ ∀ i, i < n → ∀ j, j < 5 → w.cell? ⟨b, off + (i * 5 + j), none⟩ = (os i).cs[j]?) ∧ ∀ i, i < n → OpIn w (os i)
theorem RdOps.at {w0 : World} {oa : Option Addr} {n k : Nat} {os : Nat → Opx} (h : RdOps w0 oa n os) (hl : Below w0.heap.size w0 w) (hk : k < n) : ∃ b off, oa = some ⟨b, off, none⟩ ∧ w.cell? ⟨b, off + k * 5, none⟩ = some (.int .i64 (os k).k) ∧ w.cell? ⟨b, off + k * 5 + 1, none⟩ = some (.int .i64 (os k).q) ∧ w.cell? ⟨b, off + k * 5 + 2, none⟩ = some (.int .i64 (os k).inc) ∧ w.cell? ⟨b, off + k * 5 + 3, none⟩ = some (.int .i64 (os k).t) ∧ w.cell? ⟨b, off + k * 5 + 4, none⟩ = some (.slice (os k).ha (os k).hn (os k).hc) := by
  rcases h.1 with h0 | ⟨b, off, ha, hc⟩
  · omega
  · exact ⟨b, off, ha, below_at hl (hc k hk 0 (by omega)), below_at hl (hc k hk 1 (by omega)), below_at hl (hc k hk 2 (by omega)), below_at hl (hc k hk 3 (by omega)), below_at hl (hc k hk 4 (by omega))⟩
structure Lk (D : De) (n s : Nat) (inc step lim : Int) (b : Nat) : Prop where
  n : D.n = n
  s : D.self = s
  inc : D.inc = inc
  step : D.step = step
  lim : D.limit = lim
  left : D.left = false
  b : D.b = b
theorem Lk.tick {n s b : Nat} {inc step lim : Int} (h : Lk D n s inc step lim b) : Lk D.ticked n s inc step lim b := ⟨h.n, h.s, h.inc, h.step, h.lim, h.left, h.b⟩
theorem Lk.after {n s b : Nat} {inc step lim : Int} (h : Lk D n s inc step lim b) (q i t : Int) (xs : List Int) : Lk (D.after q i t xs) n s inc step lim b := by
  unfold De.after
  split
  · exact ⟨h.n, h.s, h.inc, h.step, h.lim, h.left, h.b⟩
  · exact h
theorem Lk.se {n s b : Nat} {inc step lim : Int} (h : Lk D n s inc step lim b) (q : Nat) : Se D n s inc step lim b q (D.pe q) := ⟨h.n, h.s, h.inc, h.step, h.lim, h.left, h.b, rfl⟩
theorem cell_keep {P : Nat → Prop} {k i : Nat} {v : Value} (hk : Kept W V P) (hp : ¬ P k) (h : W.cell? ⟨k, i, none⟩ = some v) : V.cell? ⟨k, i, none⟩ = some v := cell_kept hk hp h

set_option maxHeartbeats 2000000 in
theorem began_any (n s : Nat) (inc base step lim : Int) (oa : Option Addr) (on oc : Nat) (os : Nat → Opx) (ho : RdOps w oa on os) (hon : on ≤ 2513169434916) (hok : newOk n s inc base step lim = true) : Calls Try.prog 5 #[.agg (rc n s inc base step lim oa on oc)] w fun e w' => ∃ D : De, e = .returned (.tuple #[.pointer (some ⟨D.b, 0, none⟩), .bool true]) ∧ Below w.heap.size w w' ∧ D.Ok w' w.heap.size on ∧ Lk D n s inc step lim D.b := by
  generalize hW : w.alloc (.cells (rc n s inc base step lim oa on oc) 31) = W
  have hbW : Below w.heap.size w W := by rw [← hW]; exact balloc (Below.refl _ w)
  have hblk : W.heap[w.heap.size]? = some (.cells (rc n s inc base step lim oa on oc) 31 (0, 0)) := by rw [← hW]; exact heap_alloc_new w _
  obtain ⟨c0, c1, c2, c3, c4, c5, c6⟩ := run_cells hblk
  have HR := rnew_ok (w := W) n s inc base step lim hok
  have HD : Hid (∀ w1, Calls Try.prog 20 #[.int .i64 n, .int .i64 s, .int .i64 inc, .int .i64 base, .int .i64 step, .int .i64 lim] w1 fun e w' => e = .returned (.tuple #[.pointer (some ⟨w1.heap.size + 1, 0, none⟩), .int .i64 0]) ∧ Below w1.heap.size w1 w' ∧ ∃ bo bt, (newDe w1 n s inc base step lim bo bt).Ok w' w1.heap.size 0) := fun w1 => new_ok n s inc base step lim hok
  have Hb : Hid (Below w.heap.size w W) := hbW
  have Hblk : Hid (W.heap[w.heap.size]? = some (.cells (rc n s inc base step lim oa on oc) 31 (0, 0))) := hblk
  have HO : Hid (RdOps w oa on os) := ho
  have hWl := lt_heap hblk
  unfold rc at hW ⊢
  clear hbW hblk hok ho
  go_enter Try.func5, Try.ntmps5
  go_wp2_with (first
    | (go_at_call 19; refine HR.mono ?_; rintro e w1 ⟨rfl, hb1, -⟩; have R1 : Hid (Below W.heap.size W w1) := hb1; obtain ⟨d0, d1, d2, d3, d4, d5, d6⟩ := run_cells ((hb1.block _ (lt_heap Hblk.out)).trans Hblk.out); clear hb1)
    | (go_at_call 20; refine (HD.out _).mono ?_; rintro e w2 ⟨rfl, hb2, bo, bt, hD⟩; have R2 : Hid (Below W.heap.size W w2) := (bstep R1.out hb2); have HDk : Hid ((newDe w1 n s inc base step lim bo bt).Ok w2 w1.heap.size 0) := hD; have hsz : Hid (W.heap.size ≤ w1.heap.size) := R1.out.size; have hs2 : Hid (w1.heap.size ≤ w2.heap.size) := hb2.size; obtain ⟨e0, e1, e2, e3, e4, e5, e6⟩ := run_cells ((R2.out.block _ (lt_heap Hblk.out)).trans Hblk.out); clear hb2 hD)
    | (go_at_call 21; refine (num_any _).mono ?_; rintro e w5 ⟨rfl, rfl⟩)
    | fail)
  have hB1 := hsz.out
  have hB2 := hs2.out
  have HL0 : Hid (Lk (newDe w1 n s inc base step lim bo bt) n s inc step lim (w1.heap.size + 1)) := ⟨rfl, rfl, rfl, rfl, rfl, rfl, rfl⟩
  generalize newDe w1 n s inc base step lim bo bt = D0 at *
  generalize hbb : w1.heap.size + 1 = b at *
  have Hx6 : Hid (w2.cell? ⟨w.heap.size, 6, none⟩ = some (.slice oa on oc)) := e6
  clear e0 e1 e2 e3 e4 e5 d0 d1 d2 d3 d4 d5 d6 c0 c1 c2 c3 c4 c5 c6 hbb
  generalize w1.heap.size = B at *
  go_loopw [8] (fun i wr => ∃ (k : Nat) (D3 : De), k ≤ on ∧ i = .int .i64 k ∧ D3.Ok wr B k ∧ Lk D3 n s inc step lim b ∧ Below B w2 wr) (fun i _ => on - (intOf i).toNat)
  case atStart => exact ⟨0, D0, Nat.zero_le _, rfl, HDk.out, HL0.out, Below.refl _ _⟩
  case round =>
    obtain ⟨k, D3, hk, rfl, hD3, hL3, hl⟩ := hrel
    have hBr : B ≤ wr.heap.size := Nat.le_trans hB2 hl.size
    have x6 : wr.cell? ⟨w.heap.size, 6, none⟩ = some (.slice oa on oc) := below_to hl (by omega) Hx6.out
    have hlw : Below w.heap.size w wr := (bstep Hb.out R2.out).trans (hl.mono (by omega))
    by_cases hlt : k < on
    · obtain ⟨ob, off, hoa, x0, x1, x2, x3, x4⟩ := HO.out.at hlw hlt
      have hin := HO.out.2 k hlt
      generalize os k = o at x0 x1 x2 x3 x4 hin
      have HD3 : Hid (D3.Ok wr B k) := hD3
      have HL3 : Hid (Lk D3 n s inc step lim b) := hL3
      have Hl : Hid (Below B w2 wr) := hl
      have i1 : (0 : Int) ≤ (k : Int) := Int.natCast_nonneg _
      have i2 : (k : Int) < (on : Int) := by omega
      generalize hX : wr.alloc (.cells o.cs 58) = X
      have hbX : Below wr.heap.size wr X := by rw [← hX]; exact balloc (Below.refl _ wr)
      have hkX : X.heap[wr.heap.size]? = some (.cells o.cs 58 (0, 0)) := by rw [← hX]; exact heap_alloc_new wr _
      have hwX := lt_heap hkX
      have y0 : X.cell? ⟨wr.heap.size, 0, none⟩ = some (.int .i64 o.k) := blk_cell hkX 0
      have y1 : X.cell? ⟨wr.heap.size, 1, none⟩ = some (.int .i64 o.q) := blk_cell hkX 1
      have y2 : X.cell? ⟨wr.heap.size, 2, none⟩ = some (.int .i64 o.inc) := blk_cell hkX 2
      have y3 : X.cell? ⟨wr.heap.size, 3, none⟩ = some (.int .i64 o.t) := blk_cell hkX 3
      have y4 : X.cell? ⟨wr.heap.size, 4, none⟩ = some (.slice o.ha o.hn o.hc) := blk_cell hkX 4
      have HbX : Hid (Below wr.heap.size wr X) := hbX
      have HCo : Hid (∀ w', Below X.heap.size X w' → Calls Try.prog 8 #[.slice o.ha o.hn o.hc] w' fun e w2 => ∃ u, e = .returned u ∧ IsI w' w2 o.hn o.hs u) := fun w' hb => copied_any ((hin.1.still (hlw.trans (hbX.mono hlw.size))).still hb) hin.2
      have HTk : Hid (Calls Try.prog 6 #[.pointer (some ⟨b, 0, none⟩)] X fun e w' => e = .returned (.tuple #[]) ∧ Dtep X w' D3 D3.ticked B k) := by
        have := tick_any (hD3.still hbX)
        rw [hL3.b] at this
        exact this
      have HHd : Hid (∀ w', Below X.heap.size X w' → ∀ g, X.heap.size ≤ g → BlkI w' g o.hs → Calls Try.prog 11 #[.pointer (some ⟨b, 0, none⟩), .int .i64 o.q, .int .i64 o.inc, .agg #[.int .i64 o.t, .slice (some ⟨g, 0, none⟩) o.hn o.hn]] w' fun e w2 => e = .returned (.int .i64 (D3.herr o.q o.inc o.t o.hs)) ∧ Dtep w' w2 D3 (D3.after o.q o.inc o.t o.hs) B (k + 1)) := fun w' hb g hg hk2 => by
        have := heard_any (c := o.hn) ((hD3.still hbX).still hb) (by omega) o.q o.inc o.t (hk2.rd hin.1.1) (fun g' ⟨off', e⟩ ho => by
          have := (hD3.still hbX).ltOwn ho
          simp only [Option.some.injEq, Addr.mk.injEq] at e
          omega)
        rw [hL3.b] at this
        exact this
      unfold Opx.cs at hX
      rw [hoa] at x6
      clear hD3 hL3 hl hlw hoa hin hbX hkX
      by_cases h1 : o.k = 1
      · rw [h1] at x0 y0 hX
        go_wp2_with (first | (go_at_call 6; refine HTk.out.mono ?_; rintro e w3 ⟨rfl, T3⟩; have y0' := cell_keep T3.kept (fun e => by have := HD3.out.ltOwn e; omega) y0; have HT3 : Hid (Dtep X w3 D3 D3.ticked B k) := T3; clear T3) | fail)
        exact ⟨⟨k + 1, D3.ticked, by omega, by go_num, HT3.out.ok.mono (Nat.le_succ _) (by omega), HL3.out.tick, Hl.out.trans ((HbX.out.mono hBr).trans (HT3.out.low (HD3.out.still HbX.out) (Nat.le_trans hBr HbX.out.size)))⟩, by simp [intOf]; omega⟩
      · by_cases h2 : o.k = 2
        · rw [h2] at x0 y0 hX
          go_wp2
          refine wp_region_held_drew (S := (fun w' => w'.cell? ⟨wr.heap.size, 1, none⟩ = some (.int .i64 o.q) ∧ w'.cell? ⟨wr.heap.size, 2, none⟩ = some (.int .i64 o.inc) ∧ w'.cell? ⟨wr.heap.size, 3, none⟩ = some (.int .i64 o.t) ∧ w'.cell? ⟨wr.heap.size, 4, none⟩ = some (.slice o.ha o.hn o.hc))) (by kernel_rfl) ⟨cell_drew y1, cell_drew y2, cell_drew y3, cell_drew y4⟩ (fun hHeld => ?_)
          simp only [Act.put, List.size_toArray, List.length_cons, List.length_nil, Nat.zero_add]
          refine wpAnyH_take (i := 0) (v := .pointer (some ⟨b, 0, none⟩)) rfl (by kernel_rfl) (by kernel_rfl) (by kernel_rfl) (fun _ _ _ h => h) (Or.inl ⟨by rfl, fun w' hS => by go_simp⟩) hHeld ?_
          simp only [Act.put, List.getElem_toArray, List.getElem_cons_zero, List.getElem_cons_succ, List.setIfInBounds_toArray, List.set_cons_zero, List.set_cons_succ]
          refine wpAnyH_take (i := 1) (v := .pointer (some ⟨wr.heap.size, 1, none⟩)) rfl (by kernel_rfl) (by kernel_rfl) (by kernel_rfl) (fun _ _ _ h => h) (Or.inl ⟨by rfl, fun w' hS => by go_simp⟩) hHeld ?_
          simp only [Act.put, List.getElem_toArray, List.getElem_cons_zero, List.getElem_cons_succ, List.setIfInBounds_toArray, List.set_cons_zero, List.set_cons_succ]
          refine wpAnyH_take (i := 2) (v := .int .i64 o.q) rfl (by kernel_rfl) (by kernel_rfl) (by kernel_rfl) (fun _ _ _ h => h) (Or.inl ⟨by rfl, fun w' hS => by (obtain ⟨s0, s1, s2, s3⟩ := hS; go_simp)⟩) hHeld ?_
          simp only [Act.put, List.getElem_toArray, List.getElem_cons_zero, List.getElem_cons_succ, List.setIfInBounds_toArray, List.set_cons_zero, List.set_cons_succ]
          refine wpAnyH_take (i := 3) (v := .pointer (some ⟨wr.heap.size, 2, none⟩)) rfl (by kernel_rfl) (by kernel_rfl) (by kernel_rfl) (fun _ _ _ h => h) (Or.inl ⟨by rfl, fun w' hS => by go_simp⟩) hHeld ?_
          simp only [Act.put, List.getElem_toArray, List.getElem_cons_zero, List.getElem_cons_succ, List.setIfInBounds_toArray, List.set_cons_zero, List.set_cons_succ]
          refine wpAnyH_take (i := 4) (v := .int .i64 o.inc) rfl (by kernel_rfl) (by kernel_rfl) (by kernel_rfl) (fun _ _ _ h => h) (Or.inl ⟨by rfl, fun w' hS => by (obtain ⟨s0, s1, s2, s3⟩ := hS; go_simp)⟩) hHeld ?_
          simp only [Act.put, List.getElem_toArray, List.getElem_cons_zero, List.getElem_cons_succ, List.setIfInBounds_toArray, List.set_cons_zero, List.set_cons_succ]
          refine wpAnyH_take (i := 5) (v := .pointer (some ⟨wr.heap.size, 3, none⟩)) rfl (by kernel_rfl) (by kernel_rfl) (by kernel_rfl) (fun _ _ _ h => h) (Or.inl ⟨by rfl, fun w' hS => by go_simp⟩) hHeld ?_
          simp only [Act.put, List.getElem_toArray, List.getElem_cons_zero, List.getElem_cons_succ, List.setIfInBounds_toArray, List.set_cons_zero, List.set_cons_succ]
          refine wpAnyH_take (i := 6) (v := .int .i64 o.t) rfl (by kernel_rfl) (by kernel_rfl) (by kernel_rfl) (fun _ _ _ h => h) (Or.inl ⟨by rfl, fun w' hS => by (obtain ⟨s0, s1, s2, s3⟩ := hS; go_simp)⟩) hHeld ?_
          simp only [Act.put, List.getElem_toArray, List.getElem_cons_zero, List.getElem_cons_succ, List.setIfInBounds_toArray, List.set_cons_zero, List.set_cons_succ]
          refine wpAnyH_take (i := 7) (v := .pointer (some ⟨wr.heap.size, 4, none⟩)) rfl (by kernel_rfl) (by kernel_rfl) (by kernel_rfl) (fun _ _ _ h => h) (Or.inl ⟨by rfl, fun w' hS => by go_simp⟩) hHeld ?_
          simp only [Act.put, List.getElem_toArray, List.getElem_cons_zero, List.getElem_cons_succ, List.setIfInBounds_toArray, List.set_cons_zero, List.set_cons_succ]
          refine wpAnyH_take (i := 8) (v := .slice o.ha o.hn o.hc) rfl (by kernel_rfl) (by kernel_rfl) (by kernel_rfl) (fun _ _ _ h => h) (Or.inl ⟨by rfl, fun w' hS => by (obtain ⟨s0, s1, s2, s3⟩ := hS; go_simp)⟩) hHeld ?_
          simp only [Act.put, List.getElem_toArray, List.getElem_cons_zero, List.getElem_cons_succ, List.setIfInBounds_toArray, List.set_cons_zero, List.set_cons_succ]
          refine wpAnyH_ready (rs := [9]) (by kernel_rfl) (by simp) ?_
          refine AllReadyH.cons rfl (fun K hK => ?_) AllReadyH.nil
          go_simp
          refine (HCo.out _ (Below.refl _ _).drew).mono ?_
          rintro e w4 ⟨u, rfl, g4, rfl, hg4, hB4, hb4⟩
          have B4 : Below X.heap.size X w4 := bstep (Below.refl _ _).drew hb4
          refine hK.out _ _ ⟨below_at B4 y1, below_at B4 y2, below_at B4 y3, below_at B4 y4⟩ (fun hHeld => ?_)
          clear hK K
          refine wpAnyH_take (i := 10) (v := .agg #[.int .i64 o.t, .slice (some ⟨g4, 0, none⟩) o.hn o.hn]) rfl (by kernel_rfl) (by kernel_rfl) (by kernel_rfl) (fun _ _ _ h => h) (Or.inl ⟨by rfl, fun w' hS => by go_simp⟩) hHeld ?_
          simp only [Act.put, List.getElem_toArray, List.getElem_cons_zero, List.getElem_cons_succ, List.setIfInBounds_toArray, List.set_cons_zero, List.set_cons_succ]
          refine wpAnyH_ready (rs := [11]) (by kernel_rfl) (by simp) ?_
          refine AllReadyH.cons rfl (fun K hK => ?_) AllReadyH.nil
          go_simp
          refine (HHd.out w4 B4 g4 (Nat.le_trans (by simp) hg4) hB4).mono ?_
          rintro e w5 ⟨rfl, T5⟩
          have hno : ¬ D3.own wr.heap.size := fun e => by have := HD3.out.ltOwn e; omega
          refine hK.out _ _ ⟨cell_keep T5.kept hno (below_at B4 y1), cell_keep T5.kept hno (below_at B4 y2), cell_keep T5.kept hno (below_at B4 y3), cell_keep T5.kept hno (below_at B4 y4)⟩ (fun hHeld => ?_)
          clear hK K
          refine wpAnyH_done (by kernel_rfl) ?_ _
          clear hHeld
          go_wp2
          exact ⟨⟨k + 1, _, by omega, by go_num, T5.ok, HL3.out.after _ _ _ _, Hl.out.trans ((HbX.out.mono hBr).trans ((B4.mono (Nat.le_trans hBr HbX.out.size)).trans (T5.low ((HD3.out.mono (Nat.le_succ _) (by omega)).still (bstep HbX.out B4)) (Nat.le_trans hBr (bstep HbX.out B4).size))))⟩, by simp [intOf]; omega⟩
        · go_wp2
          exact ⟨⟨k + 1, D3, by omega, by go_num, (HD3.out.still HbX.out).mono (Nat.le_succ _) (by omega), HL3.out, Hl.out.trans (HbX.out.mono hBr)⟩, by simp [intOf]; omega⟩
    · obtain rfl : k = on := by omega
      go_wp2
      go_ret2
      exact ⟨D3, by rw [hL3.b]; rfl, hlw, hD3.lower (by omega), by rw [hL3.b]; exact hL3⟩
end
end Go.Proofs.Ytfbollifegngjaa.Dt
