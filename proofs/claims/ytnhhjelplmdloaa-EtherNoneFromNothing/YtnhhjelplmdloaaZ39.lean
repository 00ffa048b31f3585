import Derived.Test.YtnhhjelplmdloaaZ38
namespace Go.Proofs.Ytnhhjelplmdloaa.Et
open Go.RowKit Go.Maps
set_option linter.unusedVariables false
set_option linter.unusedSimpArgs false
set_option maxRecDepth 100000
section
variable {E E1 E' : En} {w w' w1 w2 w3 : World} {B K m : Nat} {bb : Nat} {sv dv bv cv : Value} {es : List Be}
def RunQ (w w' : World) (E : En) (B K bb : Nat) : Prop := ∃ E1 sv' dv' bv' cv' es', Jm w' E1 B (K + 1) bb sv' dv' bv' cv' es' ∧ E1.b = E.b ∧ E1.nn = E.nn ∧ Below B w w'
theorem RunQ.pre (hb : Below B w w1) (h : RunQ w1 w2 E B K bb) : RunQ w w2 E B K bb := by
  obtain ⟨E1, a, b, c, d, es, h1, h2, h3, h4⟩ := h
  exact ⟨E1, a, b, c, d, es, h1, h2, h3, hb.trans h4⟩
theorem RunQ.post (h : RunQ w w1 E B K bb) (hB : B ≤ w1.heap.size) (hb : Below w1.heap.size w1 w2) : RunQ w w2 E B K bb := by
  obtain ⟨E1, a, b, c, d, es, h1, h2, h3, h4⟩ := h
  exact ⟨E1, a, b, c, d, es, h1.still hb, h2, h3, h4.trans (hb.mono hB)⟩
theorem Jm.up (h : Jm w E B K bb sv dv bv cv es) : Jm w E B (K + 1) bb sv dv bv cv es := ⟨h.e.mono (by omega), h.i.mono (by omega), h.l.up, h.b, h.r, h.d, h.hB⟩
theorem runq_none (h : Jm w E B K bb sv dv bv cv es) (hb : Below w.heap.size w w1) : RunQ w w1 E B K bb := ⟨E, _, _, _, _, _, h.up.still hb, rfl, rfl, hb.mono h.hB⟩
theorem Jm.few (h : Jm w E B K bb sv dv bv cv es) : E.fs.length ≤ 20000 := by have := h.i.few; have := h.i.r1; omega
theorem Jm.len (h : Jm w E B K bb sv dv bv cv es) : es.length ≤ K := by have := h.i.la; have := h.r.la; omega
theorem runq_still (h : Jm w E B K bb sv dv bv cv es) (s : Still w w1 E B K) : RunQ w w1 E B K bb := by
  obtain ⟨E1, st, nx, h1, h2, hl⟩ := s
  obtain ⟨a, b, c⟩ := h.net st
  exact ⟨E1, _, _, _, _, es, ⟨st.ok.mono (by omega), nx.inv, hl, a, h.r.sbx (sbx_same h2 h1), b, c⟩, nx.b, nx.nn, st.low h.e h.hB⟩
theorem Go1.low (g : Go1 w w1 E E1 B K) (h : Jm w E B K bb sv dv bv cv es) : Below B w w1 := by
  obtain ⟨⟨m1, s, _⟩, _, _⟩ := g
  exact s.kept.below h.hB (fun k hk ho => by have := h.e.geOwn ho; omega)
theorem Go1.obj (g : Go1 w w1 E E1 B K) (h : E.Ok w B m) {k : Nat} {o : Obj} (ho : w.heap[k]? = some o) (hk : ¬ E.own k) : w1.heap[k]? = some o := by
  obtain ⟨⟨m1, s, _⟩, _, _⟩ := g
  exact s.kept.obj ho hk
set_option maxHeartbeats 1000000 in
theorem run_turn (h : Jm w E B K bb sv dv bv cv es) (hK : K ≤ 2199023255551) (o : Opx) (h1 : 5 ≤ o.k) (h2 : o.k ≤ 7) : Calls Try.prog 11 #[.pointer (some ⟨bb, 0, none⟩), .pointer (some ⟨E.b, 0, none⟩), .agg o.cs] w fun e w' => e = .returned (.bool true) ∧ RunQ w w' E B K bb := by
  generalize hW : w.alloc (.cells o.cs 46) = W
  have hbW : Below w.heap.size w W := by rw [← hW]; exact balloc (Below.refl _ w)
  have hblk : W.heap[w.heap.size]? = some (.cells o.cs 46 (0, 0)) := by rw [← hW]; exact heap_alloc_new w _
  obtain ⟨d0, d1, d2, d3, d4, d5⟩ := op_cells hblk
  have Hb : Hid (Below w.heap.size w W) := hbW
  have hlow : Below B w W := hbW.mono h.hB
  have hJ := h.still hbW
  have Hlow : Hid (Below B w W) := hlow
  have HF : Hid (Calls Try.prog 15 #[.pointer (some ⟨E.b, 0, none⟩)] W fun e w1 => ∃ a n c, e = .returned (.slice a n c) ∧ Below W.heap.size W w1) := (flights2_any hJ.e hJ.few hJ.i.szE).mono fun e w1 ⟨a, L, x1, x2, x3, x4⟩ => ⟨a, _, _, x1, x4⟩
  have HOb : Hid (∀ X : World, X.heap[w.heap.size]? = some (.cells o.cs 46 (0, 0)) → X.cell? ⟨w.heap.size, 0, none⟩ = some (.int .i64 o.k) ∧ X.cell? ⟨w.heap.size, 1, none⟩ = some (.int .i64 o.p) ∧ X.cell? ⟨w.heap.size, 2, none⟩ = some (.int .i64 o.q) ∧ X.cell? ⟨w.heap.size, 3, none⟩ = some (.int .i64 o.n) ∧ X.cell? ⟨w.heap.size, 4, none⟩ = some (.slice o.ba o.bn o.bc) ∧ X.cell? ⟨w.heap.size, 5, none⟩ = some (.slice o.sa o.sn o.sc)) := fun X hX => op_cells hX
  have HBk : Hid (W.heap[w.heap.size]? = some (.cells o.cs 46 (0, 0))) := hblk
  have HT : Hid (∀ X, Below W.heap.size W X → Calls Try.prog 29 #[.pointer (some ⟨bb, 0, none⟩), .pointer (some ⟨E.b, 0, none⟩), .agg #[.int .i64 o.k, .int .i64 o.p, .int .i64 o.q, .int .i64 o.n, .slice o.ba o.bn o.bc, .slice o.sa o.sn o.sc]] X fun e w' => e = .returned (.bool true) ∧ RunQ w w' E B K bb) := fun X hX => (turn_any (hJ.still hX).e (hJ.still hX).hB h.i h.l (some ⟨bb, 0, none⟩) o h1 h2 hK).mono fun e w' ⟨x1, x2⟩ => ⟨x1, (runq_still (hJ.still hX) x2).pre (hlow.trans (hX.mono hJ.hB))⟩
  unfold Opx.cs at hW ⊢
  clear hbW hblk hlow d0 d1 d2 d3 d4 d5
  clear h hJ
  go_enter Try.func11, Try.ntmps11
  go_wp2_with (fail)
  refine HF.out.mono ?_
  rintro e w1 ⟨fa, fn, fc, rfl, hb1⟩
  have hk1 : w1.heap[w.heap.size]? = some (.cells o.cs 46 (0, 0)) := (hb1.block _ (lt_heap HBk.out)).trans HBk.out
  obtain ⟨d0, d1, d2, d3, d4, d5⟩ := HOb.out w1 hk1
  have Hk1 : Hid (w1.heap[w.heap.size]? = some (.cells o.cs 46 (0, 0))) := hk1
  have Hb1 : Hid (Below W.heap.size W w1) := hb1
  clear hk1 hb1 HF
  have HT1 := HT.out w1 Hb1.out
  clear HT
  go_wp2_with (fail)
  all_goals first | (exfalso; omega) | skip
  refine HT1.mono ?_
  rintro e w2 ⟨rfl, hr⟩
  go_wp2_with (fail)
  go_ret
  exact ⟨rfl, hr⟩
set_option maxHeartbeats 1000000 in
theorem run_else (h : Jm w E B K bb sv dv bv cv es) (o : Opx) (h1 : o.k ≠ 5 ∧ o.k ≠ 6 ∧ o.k ≠ 7 ∧ o.k ≠ 10 ∧ o.k ≠ 11 ∧ o.k ≠ 12) (h2 : ¬ (20 < o.k ∧ o.k ≤ 60)) : Calls Try.prog 11 #[.pointer (some ⟨bb, 0, none⟩), .pointer (some ⟨E.b, 0, none⟩), .agg o.cs] w fun e w' => e = .returned (.bool true) ∧ RunQ w w' E B K bb := by
  generalize hW : w.alloc (.cells o.cs 46) = W
  have hbW : Below w.heap.size w W := by rw [← hW]; exact balloc (Below.refl _ w)
  have hblk : W.heap[w.heap.size]? = some (.cells o.cs 46 (0, 0)) := by rw [← hW]; exact heap_alloc_new w _
  obtain ⟨d0, d1, d2, d3, d4, d5⟩ := op_cells hblk
  have Hb : Hid (Below w.heap.size w W) := hbW
  have hlow : Below B w W := hbW.mono h.hB
  have hJ := h.still hbW
  have Hlow : Hid (Below B w W) := hlow
  have HF : Hid (Calls Try.prog 15 #[.pointer (some ⟨E.b, 0, none⟩)] W fun e w1 => ∃ a n c, e = .returned (.slice a n c) ∧ Below W.heap.size W w1) := (flights2_any hJ.e hJ.few hJ.i.szE).mono fun e w1 ⟨a, L, x1, x2, x3, x4⟩ => ⟨a, _, _, x1, x4⟩
  have HOb : Hid (∀ X : World, X.heap[w.heap.size]? = some (.cells o.cs 46 (0, 0)) → X.cell? ⟨w.heap.size, 0, none⟩ = some (.int .i64 o.k) ∧ X.cell? ⟨w.heap.size, 1, none⟩ = some (.int .i64 o.p) ∧ X.cell? ⟨w.heap.size, 2, none⟩ = some (.int .i64 o.q) ∧ X.cell? ⟨w.heap.size, 3, none⟩ = some (.int .i64 o.n) ∧ X.cell? ⟨w.heap.size, 4, none⟩ = some (.slice o.ba o.bn o.bc) ∧ X.cell? ⟨w.heap.size, 5, none⟩ = some (.slice o.sa o.sn o.sc)) := fun X hX => op_cells hX
  have HBk : Hid (W.heap[w.heap.size]? = some (.cells o.cs 46 (0, 0))) := hblk
  have HN : Hid (∀ X, Below W.heap.size W X → RunQ w X E B K bb) := fun X hX => runq_none h (bstep hbW hX)
  obtain ⟨j1, j2, j3, j4, j5, j6⟩ := h1
  unfold Opx.cs at hW ⊢
  clear hbW hblk hlow d0 d1 d2 d3 d4 d5
  clear h hJ
  go_enter Try.func11, Try.ntmps11
  go_wp2_with (fail)
  refine HF.out.mono ?_
  rintro e w1 ⟨fa, fn, fc, rfl, hb1⟩
  have hk1 : w1.heap[w.heap.size]? = some (.cells o.cs 46 (0, 0)) := (hb1.block _ (lt_heap HBk.out)).trans HBk.out
  obtain ⟨d0, d1, d2, d3, d4, d5⟩ := HOb.out w1 hk1
  have Hk1 : Hid (w1.heap[w.heap.size]? = some (.cells o.cs 46 (0, 0))) := hk1
  have Hb1 : Hid (Below W.heap.size W w1) := hb1
  clear hk1 hb1 HF
  have HN1 : Hid (RunQ w w1 E B K bb) := HN.out w1 Hb1.out
  clear HN
  go_wp2_with (fail)
  all_goals first | (exfalso; omega) | (go_ret; exact ⟨by simp, HN1.out⟩)
set_option maxHeartbeats 1000000 in
theorem run_post (h : Jm w E B K bb sv dv bv cv es) (hK : K ≤ 2199023255551) (o : Opx) (bs : List Int) (hbb : ∀ X, Below B w X → Rd X o.ba o.bn o.bc bs) (hbn : o.bn ≤ 140737488351232) (hk : o.k = 10) : Calls Try.prog 11 #[.pointer (some ⟨bb, 0, none⟩), .pointer (some ⟨E.b, 0, none⟩), .agg o.cs] w fun e w' => e = .returned (.bool true) ∧ RunQ w w' E B K bb := by
  generalize hW : w.alloc (.cells o.cs 46) = W
  have hbW : Below w.heap.size w W := by rw [← hW]; exact balloc (Below.refl _ w)
  have hblk : W.heap[w.heap.size]? = some (.cells o.cs 46 (0, 0)) := by rw [← hW]; exact heap_alloc_new w _
  obtain ⟨d0, d1, d2, d3, d4, d5⟩ := op_cells hblk
  have Hb : Hid (Below w.heap.size w W) := hbW
  have hlow : Below B w W := hbW.mono h.hB
  have hJ := h.still hbW
  have Hlow : Hid (Below B w W) := hlow
  have HF : Hid (Calls Try.prog 15 #[.pointer (some ⟨E.b, 0, none⟩)] W fun e w1 => ∃ a n c, e = .returned (.slice a n c) ∧ Below W.heap.size W w1) := (flights2_any hJ.e hJ.few hJ.i.szE).mono fun e w1 ⟨a, L, x1, x2, x3, x4⟩ => ⟨a, _, _, x1, x4⟩
  have HOb : Hid (∀ X : World, X.heap[w.heap.size]? = some (.cells o.cs 46 (0, 0)) → X.cell? ⟨w.heap.size, 0, none⟩ = some (.int .i64 o.k) ∧ X.cell? ⟨w.heap.size, 1, none⟩ = some (.int .i64 o.p) ∧ X.cell? ⟨w.heap.size, 2, none⟩ = some (.int .i64 o.q) ∧ X.cell? ⟨w.heap.size, 3, none⟩ = some (.int .i64 o.n) ∧ X.cell? ⟨w.heap.size, 4, none⟩ = some (.slice o.ba o.bn o.bc) ∧ X.cell? ⟨w.heap.size, 5, none⟩ = some (.slice o.sa o.sn o.sc)) := fun X hX => op_cells hX
  have HBk : Hid (W.heap[w.heap.size]? = some (.cells o.cs 46 (0, 0))) := hblk
  have HP : Hid (∀ X, Below W.heap.size W X → Calls Try.prog 7 #[.pointer (some ⟨E.b, 0, none⟩), .int .i64 o.p, .int .i64 o.q, .slice o.ba o.bn o.bc] X fun e w2 => ∃ x y, e = .returned (.tuple #[.int .i64 x, .int .i64 y]) ∧ w2.heap[w.heap.size]? = some (.cells o.cs 46 (0, 0)) ∧ ((y ≠ 0 ∧ RunQ w w2 E B K bb) ∨ (y = 0 ∧ Calls Try.prog 8 #[.pointer (some ⟨bb, 0, none⟩), .int .i64 x, .int .i64 o.p, .int .i64 o.q, .slice o.ba o.bn o.bc] w2 fun e w3 => e = .returned (.bool true) ∧ RunQ w w3 E B K bb))) := fun X hX => by
    have hJX := hJ.still hX
    have hlX : Below B w X := hlow.trans (hX.mono hJ.hB)
    have hblX := (hX.block _ (lt_heap hblk)).trans hblk
    have hno : ¬ E.own w.heap.size := fun e => by have := h.e.ltOwn e; omega
    refine (post_x hJX.e hJX.hB h.i hK o.p o.q o.bn bs o.ba o.bc (hbb X hlX)).mono ?_
    rintro e w2 ⟨x, y, rfl, r⟩
    rcases r with ⟨hy, hb2⟩ | ⟨hy, E1, g, hx, ha⟩
    · exact ⟨x, y, rfl, (hb2.block _ (lt_heap hblX)).trans hblX, .inl ⟨hy, (runq_none hJX hb2).pre hlX⟩⟩
    · have hl2 := g.low hJX
      have hh := hJX.go1 g
      refine ⟨x, y, rfl, g.obj hJX.e hblX hno, .inr ⟨hy, ?_⟩⟩
      have hlen := h.len
      refine (put_any hh.b hh.hB x o.p o.q (fun Z hZ => hbb Z ((hlX.trans hl2).trans (low_of hh.b hh.hB hZ))) (by omega) (by omega)).mono ?_
      rintro e w3 ⟨r, rfl, hr, hp⟩
      have hrt : r = true := hr.2 (by rw [hx, h.r.la])
      subst hrt
      obtain ⟨sv', dv', bv', cv', a', c', hh2⟩ := hh.put (show PutQ w2 w3 B bb sv dv bv cv es o.p o.q bs from hp)
      refine ⟨rfl, E1, _, _, _, _, _, hh2.done (h.r.adx h.i hK ha a' c'), g.nx.b, g.nx.nn, (hlX.trans hl2).trans ?_⟩
      obtain ⟨_, _, _, _, _, _, _, hkp, _⟩ := hp
      exact low_of hh.b hh.hB hkp
  unfold Opx.cs at hW ⊢
  clear hbW hblk hlow d0 d1 d2 d3 d4 d5
  rw [hk] at hW ⊢
  clear h hJ hbb
  go_enter Try.func11, Try.ntmps11
  go_wp2_with (fail)
  refine HF.out.mono ?_
  rintro e w1 ⟨fa, fn, fc, rfl, hb1⟩
  have hk1 : w1.heap[w.heap.size]? = some (.cells o.cs 46 (0, 0)) := (hb1.block _ (lt_heap HBk.out)).trans HBk.out
  obtain ⟨d0, d1, d2, d3, d4, d5⟩ := HOb.out w1 hk1
  have Hk1 : Hid (w1.heap[w.heap.size]? = some (.cells o.cs 46 (0, 0))) := hk1
  have Hb1 : Hid (Below W.heap.size W w1) := hb1
  clear hk1 hb1 HF
  have HP1 := HP.out w1 Hb1.out
  clear HP
  rw [hk] at d0
  go_wp2_with (fail)
  all_goals first | (exfalso; omega) | skip
  refine HP1.mono ?_
  rintro e w2 ⟨x, y, rfl, hk2, hr⟩
  obtain ⟨d0, d1, d2, d3, d4, d5⟩ := HOb.out w2 hk2
  rw [hk] at d0
  clear hk2
  rcases hr with ⟨hy, hr⟩ | ⟨rfl, hr⟩
  · have HR : Hid (RunQ w w2 E B K bb) := hr
    clear hr
    go_wp2_with (fail)
    all_goals first | (exfalso; omega) | (go_ret; exact ⟨by simp [hy], HR.out⟩)
  · go_wp2_with (fail)
    refine hr.mono ?_
    rintro e w3 ⟨rfl, hr⟩
    go_wp2_with (fail)
    go_ret
    exact ⟨rfl, hr⟩
end
end Go.Proofs.Ytnhhjelplmdloaa.Et
