import Derived.Test.YtfbgoidhgkcgjaaAvj
namespace Go.Proofs.Ytfbgoidhgkcgjaa.Lo
open Go.RowKit Go.Maps
set_option linter.unusedVariables false
set_option linter.unusedSimpArgs false
section
variable {w w' W : World} {B : Nat} {P : Nat → Prop}
theorem ow_cell {t s n m c g i : Nat} {xs : List Value} {v : Value} (h : w.ownsRow B t s (.slice (some ⟨g, 0, none⟩) m c) n xs) (hv : xs[i]? = some v) : w.cell? ⟨g, i, none⟩ = some v := by
  rcases h.2 with ⟨e, e0⟩ | ⟨g', cap, cur, e, _, hh, hc, _, hs, ht⟩
  · cases e
  · simp only [Value.slice.injEq, Option.some.injEq, Addr.mk.injEq, and_true] at e
    obtain ⟨rfl, _, _⟩ := e
    rw [blk_cell hh]
    rw [← ht, List.getElem?_take] at hv
    split at hv
    · simpa using hv
    · cases hv
theorem flat3 (a : Nat → Int) : ∀ (n k r : Nat), k < n → r < 3 → ((List.range n).flatMap (fun i => [a i, 0, 0])).getD (k * 3 + r) 0 = [a k, 0, 0].getD r 0 := by
  intro n
  induction n with
  | zero => intro k r h; omega
  | succ n ih =>
    intro k r hk hr
    have hl : ((List.range n).flatMap (fun i => [a i, 0, 0])).length = n * 3 := by
      have : ∀ m, ((List.range m).flatMap (fun i => [a i, 0, 0])).length = m * 3 := by
        intro m
        induction m with
        | zero => rfl
        | succ m ihm => rw [List.range_succ, List.flatMap_append, List.length_append, ihm]; simp; omega
      exact this n
    rw [List.range_succ, List.flatMap_append, List.getD_eq_getElem?_getD]
    by_cases h : k < n
    · rw [List.getElem?_append_left (by omega), ← List.getD_eq_getElem?_getD]
      exact ih k r h hr
    · have : k = n := by omega
      subst this
      rw [List.getElem?_append_right (by omega), hl, show k * 3 + r - k * 3 = r by omega, ← List.getD_eq_getElem?_getD]
      simp
theorem pcQ_hi {xs : List Int} {n k r : Nat} (hl : xs.length = n * 3) (hk : k < 64) (hr : r < 3) : (pcQ xs 64).getD ((n + k) * 3 + r) 0 = [-7 - (k : Int), 0, 0].getD r 0 := by
  unfold pcQ
  rw [List.getD_eq_getElem?_getD, List.getElem?_append_right (by omega), show (n + k) * 3 + r - xs.length = k * 3 + r by omega, ← List.getD_eq_getElem?_getD]
  exact flat3 (fun i => -7 - (i : Int)) 64 k r hk hr
theorem pcQ_lo {xs : List Int} {i : Nat} (h : i < xs.length) : (pcQ xs 64).getD i 0 = xs.getD i 0 := by
  unfold pcQ
  rw [List.getD_eq_getElem?_getD, List.getElem?_append_left h, List.getD_eq_getElem?_getD]
theorem pcB_lo {xs : List Int} {i : Nat} (h : i < xs.length) : (pcB xs 64).getD i 0 = xs.getD i 0 := by
  unfold pcB
  rw [List.getD_eq_getElem?_getD, List.getElem?_append_left h, List.getD_eq_getElem?_getD]
theorem pcB_hi {xs : List Int} {n k : Nat} (hl : xs.length = n) (hk : k < 64) : (pcB xs 64).getD (n + k) 0 = 200 - (k : Int) := by
  unfold pcB
  rw [List.getD_eq_getElem?_getD, List.getElem?_append_right (by omega), show n + k - xs.length = k by omega]
  simp [hk]
theorem Lz.q {W wr : World} {B xb n : Nat} {l : List Mk} {La : Option Addr} {Lc : Nat} {Ma : Option Addr} {Mc : Nat} {Ta : Option Addr} {Tc : Nat} {Ba : Option Addr} {Bc : Nat} {l' : List Mk} {gm gt gb : Nat → Nat × Nat} (h : Lz W wr B xb l n n n n La Lc Ma Mc Ta Tc Ba Bc l' gm gt gb) {j : Nat} (hj : j < n) {i : Nat} (hi : i < (l.getD j mk0).ms.length + 192) : wr.cell? ⟨(gm j).1, i, none⟩ = some (.int .i64 ((pcQ (l.getD j mk0).ms 64).getD i 0)) :=
  ow_cell (h.fm j hj) (Mb.ints_at _ _ (by rw [pcQ_len]; omega))
theorem Lz.i {W wr : World} {B xb n : Nat} {l : List Mk} {La : Option Addr} {Lc : Nat} {Ma : Option Addr} {Mc : Nat} {Ta : Option Addr} {Tc : Nat} {Ba : Option Addr} {Bc : Nat} {l' : List Mk} {gm gt gb : Nat → Nat × Nat} (h : Lz W wr B xb l n n n n La Lc Ma Mc Ta Tc Ba Bc l' gm gt gb) {j : Nat} (hj : j < n) {i : Nat} (hi : i < (l.getD j mk0).ts.length + 64) : wr.cell? ⟨(gt j).1, i, none⟩ = some (.int .i64 ((pcL (l.getD j mk0).ts 64).getD i 0)) :=
  ow_cell (h.ft j hj) (Mb.ints_at _ _ (by rw [pcL_len]; omega))
theorem Lz.u {W wr : World} {B xb n : Nat} {l : List Mk} {La : Option Addr} {Lc : Nat} {Ma : Option Addr} {Mc : Nat} {Ta : Option Addr} {Tc : Nat} {Ba : Option Addr} {Bc : Nat} {l' : List Mk} {gm gt gb : Nat → Nat × Nat} (h : Lz W wr B xb l n n n n La Lc Ma Mc Ta Tc Ba Bc l' gm gt gb) {j : Nat} (hj : j < n) {i : Nat} (hi : i < (l.getD j mk0).bs.length + 64) : wr.cell? ⟨(gb j).1, i, none⟩ = some (.int .u8 ((pcB (l.getD j mk0).bs 64).getD i 0)) :=
  ow_cell (h.fb j hj) (Ln.byts_at _ _ (by rw [pcB_len]; omega))
theorem Lz.same {W wr : World} {B xb n : Nat} {l : List Mk} {La : Option Addr} {Lc : Nat} {Ma : Option Addr} {Mc : Nat} {Ta : Option Addr} {Tc : Nat} {Ba : Option Addr} {Bc : Nat} {l' : List Mk} {gm gt gb : Nat → Nat × Nat} (h : Lz W wr B xb l n n n n La Lc Ma Mc Ta Tc Ba Bc l' gm gt gb) {la : Option Addr} (hF : MkF wr la n l) {j : Nat} (hj : j < n) : Calls Try.prog 19 #[.agg (l'.getD j mk0).cs.toArray, .agg (l.getD j mk0).cs.toArray] wr fun r w' => r = .returned (.bool true) ∧ Below wr.heap.size wr w' := by
  rw [h.s j hj]
  have h1 := (hF.m j hj).1
  have h2 := (hF.t j hj).1
  have h3 := (hF.b j hj).1
  have hc : (l.getD j mk0).bn + 64 ≤ (gb j).2 := ow_cap (h.fb j hj)
  refine sameMk_any (l.getD j mk0) (some ⟨(gm j).1, 0, none⟩) (gm j).2 (some ⟨(gt j).1, 0, none⟩) (gt j).2 (some ⟨(gb j).1, 0, none⟩) (gb j).2 wr ⟨h1.len, fun e => (by cases e), .inr ⟨_, 0, rfl, fun i hi => ?_⟩⟩ h1 ⟨h2.1, fun e => (by cases e), .inr ⟨_, 0, rfl, fun i hi => ?_⟩⟩ h2 ⟨h3.len, by omega, fun e => (by cases e), .inr ⟨_, 0, rfl, fun i hi => ?_⟩, h3.by_⟩ h3 (by have := (hF.m j hj).2; omega) (by have := (hF.t j hj).2; omega)
  · rw [Nat.zero_add, h.q hj (by have := h1.len; omega), pcQ_lo (by have := h1.len; omega)]
  · rw [Nat.zero_add, h.i hj (by have := h2.1; omega), pcL_at (by have := h2.1; omega)]
  · rw [Nat.zero_add, h.u hj (by have := h3.len; omega), pcB_lo (by have := h3.len; omega)]
theorem fl2_at {gs : Nat → Nat × Nat} {ln : Nat → Nat} {j i : Nat} (h : i < j) : (fl2 gs ln j)[i]? = some (.slice (some ⟨(gs i).1, 0, none⟩) (ln i + 64) (gs i).2) := by simp [fl2, h]
theorem ow_addr {t s n c : Nat} {a : Option Addr} {xs : List Value} (h : w.ownsRow B t s (.slice a n c) n xs) (hn : 0 < n) : ∃ g, a = some ⟨g, 0, none⟩ := ow_some h hn
set_option maxRecDepth 100000 in
set_option maxHeartbeats 8000000 in
theorem kept_any {W w : World} {B xb n : Nat} {l : List Mk} {La : Option Addr} {Lc : Nat} {Ma : Option Addr} {Mc : Nat} {Ta : Option Addr} {Tc : Nat} {Ba : Option Addr} {Bc : Nat} {l' : List Mk} {gm gt gb : Nat → Nat × Nat} (la : Option Addr) (lc : Nat) (hL : Lz W w B xb l n n n n La Lc Ma Mc Ta Tc Ba Bc l' gm gt gb) (hF : MkF w la n l) : Calls Try.prog 9 #[.pointer (some ⟨xb, 0, none⟩), .slice la n lc] w fun r w' => r = .returned (.bool true) ∧ Below w.heap.size w w' := by
  have t0 : w.cell? ⟨xb, 0, none⟩ = some (.slice La n Lc) := blk_cell hL.t 0
  have hz := hF.z
  have HL : Hid (Lz W w B xb l n n n n La Lc Ma Mc Ta Tc Ba Bc l' gm gt gb) := hL
  have HF : Hid (MkF w la n l) := hF
  have HSm : Hid (Calls Try.prog 16 #[.slice La n Lc, .slice la n lc] w fun r w' => r = .returned (.bool true) ∧ Below w.heap.size w w') := sameMks_any La la n Lc lc l' l w hL.o.rd hF.r (by omega) (fun j hj D hD => (hL.on hD).same (hF.on hD) hj)
  clear hL hF
  go_enter Try.func9, Try.ntmps9
  go_wp2_with fail
  refine HSm.out.mono ?_
  rintro r1 w1 ⟨rfl, hb1⟩
  have HB1 : Hid (Below w.heap.size w w1) := hb1
  clear HSm hb1 t0
  go_wp2_with fail
  go_loopw [6] (fun x wr => ∃ (j : Nat), j ≤ n ∧ x = .int .i64 j ∧ Hid (Below w.heap.size w wr)) (fun x _ => n - (intOf x).toNat)
  case atStart => exact ⟨0, Nat.zero_le _, rfl, HB1⟩
  case round =>
    obtain ⟨j, hj, rfl, hb⟩ := hrel
    by_cases hjn : j < n
    · have j1 : (0 : Int) ≤ (j : Int) := Int.natCast_nonneg _
      have j3 : (j : Int) < (n : Int) := by omega
      go_wp2_with fail
      go_loopw [7] (fun x wr => ∃ (k : Nat), k ≤ 64 ∧ x = .int .i64 k ∧ Hid (Below w.heap.size w wr)) (fun x _ => 64 - (intOf x).toNat)
      case atStart => exact ⟨0, Nat.zero_le _, rfl, hb⟩
      case round =>
        obtain ⟨k, hk, rfl, hb2⟩ := hrel
        by_cases hkn : k < 64
        · have k1 : (0 : Int) ≤ (k : Int) := Int.natCast_nonneg _
          have k3 : (k : Int) < 64 := by omega
          rcases HF.out.r.row with h0 | ⟨eb, eo, hla, hrow⟩
          · omega
          obtain ⟨mb, hmb⟩ := ow_some HL.out.m (by omega)
          obtain ⟨tb, htb⟩ := ow_some HL.out.r (by omega)
          obtain ⟨bb, hbb⟩ := ow_some HL.out.y (by omega)
          subst hmb htb hbb hla
          have hm := (HF.out.m j hjn)
          have ht := (HF.out.t j hjn)
          have hd := (HF.out.b j hjn)
          have x1 : wr.cell? ⟨xb, 1, none⟩ = some (.slice (some ⟨mb, 0, none⟩) n Mc) := below_at hb2.out (blk_cell HL.out.t 1)
          have x2 : wr.cell? ⟨xb, 2, none⟩ = some (.slice (some ⟨tb, 0, none⟩) n Tc) := below_at hb2.out (blk_cell HL.out.t 2)
          have x3 : wr.cell? ⟨xb, 3, none⟩ = some (.slice (some ⟨bb, 0, none⟩) n Bc) := below_at hb2.out (blk_cell HL.out.t 3)
          have y1 : wr.cell? ⟨mb, j, none⟩ = some (.slice (some ⟨(gm j).1, 0, none⟩) ((l.getD j mk0).mn + 64) (gm j).2) := below_at hb2.out (ow_cell HL.out.m (fl2_at hjn))
          have y2 : wr.cell? ⟨tb, j, none⟩ = some (.slice (some ⟨(gt j).1, 0, none⟩) ((l.getD j mk0).tn + 64) (gt j).2) := below_at hb2.out (ow_cell HL.out.r (fl2_at hjn))
          have y3 : wr.cell? ⟨bb, j, none⟩ = some (.slice (some ⟨(gb j).1, 0, none⟩) ((l.getD j mk0).bn + 64) (gb j).2) := below_at hb2.out (ow_cell HL.out.y (fl2_at hjn))
          have p8 : wr.cell? ⟨eb, eo + j * 26 + 8, none⟩ = some (.slice (l.getD j mk0).ma (l.getD j mk0).mn (l.getD j mk0).mc) := below_at hb2.out (hrow j hjn 8 _ rfl)
          have p9 : wr.cell? ⟨eb, eo + j * 26 + 9, none⟩ = some (.slice (l.getD j mk0).ta (l.getD j mk0).tn (l.getD j mk0).tc) := below_at hb2.out (hrow j hjn 9 _ rfl)
          have p14 : wr.cell? ⟨eb, eo + j * 26 + 14, none⟩ = some (.slice (l.getD j mk0).ba (l.getD j mk0).bn (l.getD j mk0).bc) := below_at hb2.out (hrow j hjn 14 _ rfl)
          have q0 := below_at hb2.out (HL.out.q hjn (i := ((l.getD j mk0).mn + k) * 3) (by have := hm.1.len; omega))
          have q1 := below_at hb2.out (HL.out.q hjn (i := ((l.getD j mk0).mn + k) * 3 + 1) (by have := hm.1.len; omega))
          have q2 := below_at hb2.out (HL.out.q hjn (i := ((l.getD j mk0).mn + k) * 3 + 2) (by have := hm.1.len; omega))
          have i0 := below_at hb2.out (HL.out.i hjn (i := (l.getD j mk0).tn + k) (by have := ht.1.1; omega))
          have u0 := below_at hb2.out (HL.out.u hjn (i := (l.getD j mk0).bn + k) (by have := hd.1.len; omega))
          rw [show (pcQ (l.getD j mk0).ms 64).getD (((l.getD j mk0).mn + k) * 3) 0 = -7 - (k : Int) from pcQ_hi (r := 0) hm.1.len hkn (by omega)] at q0
          rw [show (pcQ (l.getD j mk0).ms 64).getD (((l.getD j mk0).mn + k) * 3 + 1) 0 = 0 from pcQ_hi (r := 1) hm.1.len hkn (by omega)] at q1
          rw [show (pcQ (l.getD j mk0).ms 64).getD (((l.getD j mk0).mn + k) * 3 + 2) 0 = 0 from pcQ_hi (r := 2) hm.1.len hkn (by omega)] at q2
          rw [show (pcL (l.getD j mk0).ts 64).getD ((l.getD j mk0).tn + k) 0 = -7 - (k : Int) from ht.1.1 ▸ pcL_hi hkn] at i0
          rw [pcB_hi hd.1.len hkn] at u0
          have hm2 := hm.2
          have ht2 := ht.2
          have hd2 := hd.2.2
          clear hrow hm ht hd
          generalize l.getD j mk0 = e at *
          generalize (gm j).1 = g1 at *
          generalize (gm j).2 = g2 at *
          generalize (gt j).1 = g3 at *
          generalize (gt j).2 = g4 at *
          generalize (gb j).1 = g5 at *
          generalize (gb j).2 = g6 at *
          have a1 : (0 : Int) ≤ (e.mn : Int) + (k : Int) := by omega
          have a2 : (e.mn : Int) + (k : Int) < ((e.mn + 64 : Nat) : Int) := by omega
          have a3 : ((e.mn : Int) + (k : Int)).toNat = e.mn + k := by omega
          have b1 : (0 : Int) ≤ (e.tn : Int) + (k : Int) := by omega
          have b2 : (e.tn : Int) + (k : Int) < ((e.tn + 64 : Nat) : Int) := by omega
          have b3 : ((e.tn : Int) + (k : Int)).toNat = e.tn + k := by omega
          have d1 : (0 : Int) ≤ (e.bn : Int) + (k : Int) := by omega
          have d2 : (e.bn : Int) + (k : Int) < ((e.bn + 64 : Nat) : Int) := by omega
          have d3 : ((e.bn : Int) + (k : Int)).toNat = e.bn + k := by omega
          have wm : IntKind.i64.wrap ((e.mn : Int) + (k : Int)) = (e.mn : Int) + (k : Int) := by rw [IntKind.wrap_i64]; omega
          have wt : IntKind.i64.wrap ((e.tn : Int) + (k : Int)) = (e.tn : Int) + (k : Int) := by rw [IntKind.wrap_i64]; omega
          have wb : IntKind.i64.wrap ((e.bn : Int) + (k : Int)) = (e.bn : Int) + (k : Int) := by rw [IntKind.wrap_i64]; omega
          have w7 : IntKind.i64.wrap (-7 - (k : Int)) = -7 - (k : Int) := by rw [IntKind.wrap_i64]; omega
          have w2 : IntKind.i64.wrap (200 - (k : Int)) = 200 - (k : Int) := by rw [IntKind.wrap_i64]; omega
          have w8 : IntKind.u8.wrap (200 - (k : Int)) = 200 - (k : Int) := by rw [IntKind.wrap_u8]; omega
          go_wp2_with fail
          go_quiet (fail)
          go_wp2_with fail
          have HB3 : Hid (Below w.heap.size w (wr.drewN nq)) := (show Below _ _ _ from hb2.out.trans (bel_dN _ _ nq))
          go_roundw
          case rel => exact ⟨k + 1, by omega, by go_num, HB3⟩
          case measure => simp [intOf]; omega
        · obtain rfl : 64 = k := by omega
          go_wp2_with fail
          go_roundw
          case rel => exact ⟨j + 1, by omega, by go_num, hb2⟩
          case measure => simp [intOf]; omega
    · obtain rfl : n = j := by omega
      go_wp2_with fail
      go_ret
      exact ⟨rfl, hb.out⟩
end
end Go.Proofs.Ytfbgoidhgkcgjaa.Lo
