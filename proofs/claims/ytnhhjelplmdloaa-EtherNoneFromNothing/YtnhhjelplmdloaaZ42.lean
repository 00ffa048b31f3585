import Derived.Test.YtnhhjelplmdloaaZ41
import Derived.Deep.MidRow
namespace Go.Proofs.Ytnhhjelplmdloaa.Et
open Go.RowKit Go.Maps
set_option linter.unusedVariables false
set_option linter.unusedSimpArgs false
set_option maxRecDepth 100000
section
variable {E E1 E' : En} {w w' w1 w2 w3 : World} {B K m : Nat} {bb : Nat} {sv dv bv cv : Value} {es : List Be}
set_option maxHeartbeats 4000000 in
theorem run_round (h : Jm w E B K bb sv dv bv cv es) (hK : K ≤ 2199023255551) (o : Opx) (hk : o.k = 11) : Calls Try.prog 11 #[.pointer (some ⟨bb, 0, none⟩), .pointer (some ⟨E.b, 0, none⟩), .agg o.cs] w fun e w' => e = .returned (.bool true) ∧ RunQ w w' E B K bb := by
  generalize hW : w.alloc (.cells o.cs 46) = W
  have hbW : Below w.heap.size w W := by rw [← hW]; exact balloc (Below.refl _ w)
  have hblk : W.heap[w.heap.size]? = some (.cells o.cs 46 (0, 0)) := by rw [← hW]; exact heap_alloc_new w _
  obtain ⟨d0, d1, d2, d3, d4, d5⟩ := op_cells hblk
  have Hb : Hid (Below w.heap.size w W) := hbW
  have hlow : Below B w W := hbW.mono h.hB
  have hJ := h.still hbW
  have Hlow : Hid (Below B w W) := hlow
  have HF : Hid (Calls Try.prog 15 #[.pointer (some ⟨E.b, 0, none⟩)] W fun e w1 => ∃ a n c, e = .returned (.slice a n c) ∧ Below W.heap.size W w1) := (flights2_any hJ.e hJ.few hJ.i.szE).mono fun e w1 ⟨a, L, x1, x2, x3, x4⟩ => ⟨a, _, _, x1, x4⟩
  have HOb : Hid (∀ X : World, X.heap[w.heap.size]? = some (.cells o.cs 46 (0, 0)) → X.cell? ⟨w.heap.size, 0, none⟩ = some (.int .i64 o.k) ∧ X.cell? ⟨w.heap.size, 1, none⟩ = some (.int .i64 o.p) ∧ X.cell? ⟨w.heap.size, 2, none⟩ = some (.int .i64 o.q) ∧ X.cell? ⟨w.heap.size, 3, none⟩ = some (.int .i64 o.n) ∧ X.cell? ⟨w.heap.size, 4, none⟩ = some (.slice o.ba o.bn o.bc) ∧ X.cell? ⟨w.heap.size, 5, none⟩ = some (.slice o.sa o.sn o.sc)) := fun X hX => op_cells hX
  have HBk : Hid (W.heap[w.heap.size]? = some (.cells o.cs 46 (0, 0))) := hblk
  have hlen := h.len
  have HR : Hid (∀ X, Below W.heap.size W X → Calls Try.prog 9 #[.pointer (some ⟨E.b, 0, none⟩)] X fun e w2 => ∃ a n c L E1 G, e = .returned (.slice a n c) ∧ E1.b = E.b ∧ E1.nn = E.nn ∧ n ≤ 20000 ∧ Rf9 E1 L n ∧ Rs9 w w2 E1 B K bb G sv dv bv cv L a n c 0 es) := by
    intro X hX
    have hlX : Below B w X := hlow.trans (hX.mono hJ.hB)
    refine (round_y (hJ.still hX) hK).mono ?_
    rintro e w2 ⟨a, n, c, L, E1, rfl, h1, h2, h3, h4, s, -⟩
    exact ⟨a, n, c, L, E1, _, rfl, h1, h2, h3, h4, s.h, s.la, s.en, s.ent, s.row, s.g, s.rd, s.rb, hlX.trans s.low⟩
  unfold Opx.cs at hW ⊢
  clear hbW hblk hlow d0 d1 d2 d3 d4 d5
  rw [hk] at hW ⊢
  clear h hJ
  go_enter Try.func11, Try.ntmps11
  go_wp2_with (fail)
  refine HF.out.mono ?_
  rintro e w1 ⟨fa, fn, fc, rfl, hb1⟩
  have hk1 : w1.heap[w.heap.size]? = some (.cells o.cs 46 (0, 0)) := (hb1.block _ (lt_heap HBk.out)).trans HBk.out
  obtain ⟨d0, d1, d2, d3, d4, d5⟩ := HOb.out w1 hk1
  have Hk1 : Hid (w1.heap[w.heap.size]? = some (.cells o.cs 46 (0, 0))) := hk1
  have Hb1 : Hid (Below W.heap.size W w1) := hb1
  clear hk1 hb1 HF
  have HP1 := HR.out w1 Hb1.out
  clear HR
  rw [hk] at d0
  go_wp2_with (fail)
  all_goals first | (exfalso; omega) | skip
  refine HP1.mono ?_
  rintro e w2 ⟨a, n, c, L, E1, G, rfl, hEb, hEn, hn, hf9, hs9⟩
  have HF9 : Hid (Rf9 E1 L n) := hf9
  have HS0 : Hid (Rs9 w w2 E1 B K bb G sv dv bv cv L a n c 0 es) := hs9
  have HEb : Hid (E1.b = E.b) := hEb
  have HEn : Hid (E1.nn = E.nn) := hEn
  clear HP1 hf9 hs9 hEb hEn d0 d1 d2 d3 d4 d5 Hk1 Hb1 HBk HOb hW hk
  go_wp2_with (fail)
  go_loopw [11] (fun i wr => ∃ (k : Nat) (es' : List Be), k ≤ n ∧ i = .int .i64 (k : Int) ∧ es'.length = es.length ∧ Rs9 w wr E1 B K bb G sv dv bv cv L a n c k es') (fun i _ => n - (intOf i).toNat)
  case atStart => exact ⟨0, es, Nat.zero_le _, rfl, rfl, HS0.out⟩
  case round =>
    obtain ⟨k, es', hk, rfl, hel, hs⟩ := hrel
    have HSk : Hid (Rs9 w wr E1 B K bb G sv dv bv cv L a n c k es') := hs
    clear hs HS0
    have i1 : (0 : Int) ≤ (k : Int) := Int.natCast_nonneg _
    by_cases hlt : k < n
    · as_aux_lemma =>
        have i2 : (k : Int) < (n : Int) := by omega
        obtain ⟨g, rfl, -⟩ := HSk.out.cells HF9.out (by omega)
        have HSx : Hid (∀ X (j : Nat) (es9 : List Be), Rs9 w X E1 B K bb G sv dv bv cv L (some ⟨g, 0, none⟩) n c j es9 → X.rangeAt g (k * 5) (L.getD k f0).cs.toList ∧ X.cell? ⟨g, k * 5 + 1, none⟩ = some (.int .i64 (L.getD k f0).src) ∧ X.cell? ⟨g, k * 5 + 2, none⟩ = some (.int .i64 (L.getD k f0).dst) ∧ X.cell? ⟨g, k * 5 + 3, none⟩ = some (.int .i64 (L.getD k f0).due)) := fun X j es9 s => by
          obtain ⟨g', e, hr⟩ := s.cells HF9.out (by omega)
          simp only [Option.some.injEq, Addr.mk.injEq, and_true] at e
          subst e
          have := hr k hlt
          exact ⟨this, this 1 _ rfl, this 2 _ rfl, this 3 _ rfl⟩
        have HOp : Hid (∀ X (es9 : List Be), Rs9 w X E1 B K bb G sv dv bv cv L (some ⟨g, 0, none⟩) n c (k + 1) es9 → Calls Try.prog 30 #[.pointer (some ⟨E.b, 0, none⟩), .int .i64 (L.getD k f0).src, .int .i64 (L.getD k f0).dst] X fun e w' => e = .returned (.bool true) ∧ Below X.heap.size X w') := fun X es9 s => HEb.out ▸ s.opens HF9.out hlt
        have HUp : Hid (∀ X (es9 : List Be), Rs9 w X E1 B K bb G sv dv bv cv L (some ⟨g, 0, none⟩) n c (k + 1) es9 → Calls Try.prog 13 #[.pointer (some ⟨E.b, 0, none⟩), .int .i64 (L.getD k f0).dst] X fun e w' => e = .returned (.bool true) ∧ X = w') := fun X es9 s => HEb.out ▸ s.ups HF9.out hlt
        have HCk : Hid (∀ X (es9 : List Be), Rs9 w X E1 B K bb G sv dv bv cv L (some ⟨g, 0, none⟩) n c (k + 1) es9 → Calls Try.prog 31 #[.pointer (some ⟨E.b, 0, none⟩)] X fun e w' => e = .returned (.int .i64 (L.getD k f0).due) ∧ X = w') := fun X es9 s => HEb.out ▸ s.clocks HF9.out hlt
        go_upto_region 12 with fail
        have HRs8 : Hid (Rs9 w wr.drew E1 B K bb G sv dv bv cv L (some ⟨g, 0, none⟩) n c k es') := HSk.out.still (Below.refl _ _).drew
        clear HSk
        refine wp_region_held_drew (S := (fun w' => w'.rangeAt g (k * 5) (L.getD k f0).cs.toList ∧ w'.cell? ⟨g, k * 5 + 1, none⟩ = some (.int .i64 (L.getD k f0).src) ∧ w'.cell? ⟨g, k * 5 + 2, none⟩ = some (.int .i64 (L.getD k f0).dst) ∧ w'.cell? ⟨g, k * 5 + 3, none⟩ = some (.int .i64 (L.getD k f0).due))) (by kernel_rfl) (HSx.out _ _ _ HRs8.out) (fun hHeld => ?_)
        simp only [Act.put, List.size_toArray, List.length_cons, List.length_nil, Nat.zero_add]
        generalize wr.drew = Wd at *
        refine wpAnyH_take (i := 0) (v := .pointer (some ⟨bb, 0, none⟩)) rfl (by kernel_rfl) (by kernel_rfl) (by kernel_rfl) (fun _ _ _ h => h) (Or.inl ⟨by rfl, fun w' hS => by go_simp⟩) hHeld ?_
        simp only [Act.put, List.getElem_toArray, List.getElem_cons_zero, List.getElem_cons_succ, List.setIfInBounds_toArray, List.set_cons_zero, List.set_cons_succ]
        refine wpAnyH_take (i := 1) (v := .slice (some ⟨g, 0, none⟩) n c) rfl (by kernel_rfl) (by kernel_rfl) (by kernel_rfl) (fun _ _ _ h => h) (Or.inl ⟨by rfl, fun w' hS => by go_simp⟩) hHeld ?_
        simp only [Act.put, List.getElem_toArray, List.getElem_cons_zero, List.getElem_cons_succ, List.setIfInBounds_toArray, List.set_cons_zero, List.set_cons_succ]
        refine wpAnyH_take (i := 2) (v := .int .i64 (k : Int)) rfl (by kernel_rfl) (by kernel_rfl) (by kernel_rfl) (fun _ _ _ h => h) (Or.inl ⟨by rfl, fun w' hS => by go_simp⟩) hHeld ?_
        simp only [Act.put, List.getElem_toArray, List.getElem_cons_zero, List.getElem_cons_succ, List.setIfInBounds_toArray, List.set_cons_zero, List.set_cons_succ]
        refine wpAnyH_take (i := 3) (v := .pointer (some ⟨g, k * 5, none⟩)) rfl (by kernel_rfl) (by kernel_rfl) (by kernel_rfl) (fun _ _ _ h => h) (Or.inl ⟨by rfl, fun w' hS => by go_simp⟩) hHeld ?_
        simp only [Act.put, List.getElem_toArray, List.getElem_cons_zero, List.getElem_cons_succ, List.setIfInBounds_toArray, List.set_cons_zero, List.set_cons_succ]
        refine wpAnyH_take (i := 4) (v := .agg (L.getD k f0).cs) rfl (by kernel_rfl) (by kernel_rfl) (by kernel_rfl) (fun _ _ _ h => h) (yieldsIf_load_mid (by rfl) _ _ rfl _ _ rfl _ _ (fun w' hS => hS.1) Try.underlying43 rfl iFl) hHeld ?_
        simp only [Act.put, List.getElem_toArray, List.getElem_cons_zero, List.getElem_cons_succ, List.setIfInBounds_toArray, List.set_cons_zero, List.set_cons_succ]
        refine wpAnyH_ready (rs := [5]) (by kernel_rfl) (by simp) ?_
        refine AllReadyH.cons rfl (fun K9 hK => ?_) AllReadyH.nil
        go_simp
        refine (HRs8.out.step HF9.out hlt (by omega)).mono ?_
        rintro e x1 ⟨rfl, es3, hl3, hs3⟩
        have HRs9 : Hid (Rs9 w x1 E1 B K bb G sv dv bv cv L (some ⟨g, 0, none⟩) n c (k + 1) es3) := hs3
        have Hl3 : Hid (es3.length = es'.length) := hl3
        clear hl3 hs3
        refine hK.out _ _ (HSx.out _ _ _ HRs9.out) (fun hHeld => ?_)
        clear hK K9
        try (simp only [Act.put, List.getElem_toArray, List.getElem_cons_zero, List.getElem_cons_succ, List.setIfInBounds_toArray, List.set_cons_zero, List.set_cons_succ])
        refine wpAnyH_take (i := 6) (v := .bool false) rfl (by kernel_rfl) (by kernel_rfl) (by kernel_rfl) (fun _ _ _ h => h) (Or.inl ⟨by rfl, fun w' hS => by go_simp⟩) hHeld ?_
        simp only [Act.put, List.getElem_toArray, List.getElem_cons_zero, List.getElem_cons_succ, List.setIfInBounds_toArray, List.set_cons_zero, List.set_cons_succ]
        refine wpAnyH_take (i := 7) (v := .bool false) rfl (by kernel_rfl) (by kernel_rfl) (by kernel_rfl) (fun _ _ _ h => h) (Or.inl ⟨by rfl, fun w' hS => by go_simp⟩) hHeld ?_
        simp only [Act.put, List.getElem_toArray, List.getElem_cons_zero, List.getElem_cons_succ, List.setIfInBounds_toArray, List.set_cons_zero, List.set_cons_succ]
        refine wpAnyH_take (i := 8) (v := .pointer (some ⟨E.b, 0, none⟩)) rfl (by kernel_rfl) (by kernel_rfl) (by kernel_rfl) (fun _ _ _ h => h) (Or.inl ⟨by rfl, fun w' hS => by go_simp⟩) hHeld ?_
        simp only [Act.put, List.getElem_toArray, List.getElem_cons_zero, List.getElem_cons_succ, List.setIfInBounds_toArray, List.set_cons_zero, List.set_cons_succ]
        refine wpAnyH_take (i := 9) (v := .slice (some ⟨g, 0, none⟩) n c) rfl (by kernel_rfl) (by kernel_rfl) (by kernel_rfl) (fun _ _ _ h => h) (Or.inl ⟨by rfl, fun w' hS => by go_simp⟩) hHeld ?_
        simp only [Act.put, List.getElem_toArray, List.getElem_cons_zero, List.getElem_cons_succ, List.setIfInBounds_toArray, List.set_cons_zero, List.set_cons_succ]
        refine wpAnyH_take (i := 10) (v := .int .i64 (k : Int)) rfl (by kernel_rfl) (by kernel_rfl) (by kernel_rfl) (fun _ _ _ h => h) (Or.inl ⟨by rfl, fun w' hS => by go_simp⟩) hHeld ?_
        simp only [Act.put, List.getElem_toArray, List.getElem_cons_zero, List.getElem_cons_succ, List.setIfInBounds_toArray, List.set_cons_zero, List.set_cons_succ]
        refine wpAnyH_take (i := 11) (v := .pointer (some ⟨g, k * 5, none⟩)) rfl (by kernel_rfl) (by kernel_rfl) (by kernel_rfl) (fun _ _ _ h => h) (Or.inl ⟨by rfl, fun w' hS => by go_simp⟩) hHeld ?_
        simp only [Act.put, List.getElem_toArray, List.getElem_cons_zero, List.getElem_cons_succ, List.setIfInBounds_toArray, List.set_cons_zero, List.set_cons_succ]
        refine wpAnyH_take (i := 12) (v := .pointer (some ⟨g, k * 5 + 1, none⟩)) rfl (by kernel_rfl) (by kernel_rfl) (by kernel_rfl) (fun _ _ _ h => h) (Or.inl ⟨by rfl, fun w' hS => by go_simp⟩) hHeld ?_
        simp only [Act.put, List.getElem_toArray, List.getElem_cons_zero, List.getElem_cons_succ, List.setIfInBounds_toArray, List.set_cons_zero, List.set_cons_succ]
        refine wpAnyH_take (i := 13) (v := .int .i64 (L.getD k f0).src) rfl (by kernel_rfl) (by kernel_rfl) (by kernel_rfl) (fun _ _ _ h => h) (Or.inl ⟨by rfl, fun w' hS => by (obtain ⟨p0, p1, p2, p3⟩ := hS; go_simp)⟩) hHeld ?_
        simp only [Act.put, List.getElem_toArray, List.getElem_cons_zero, List.getElem_cons_succ, List.setIfInBounds_toArray, List.set_cons_zero, List.set_cons_succ]
        refine wpAnyH_take (i := 14) (v := .slice (some ⟨g, 0, none⟩) n c) rfl (by kernel_rfl) (by kernel_rfl) (by kernel_rfl) (fun _ _ _ h => h) (Or.inl ⟨by rfl, fun w' hS => by go_simp⟩) hHeld ?_
        simp only [Act.put, List.getElem_toArray, List.getElem_cons_zero, List.getElem_cons_succ, List.setIfInBounds_toArray, List.set_cons_zero, List.set_cons_succ]
        refine wpAnyH_take (i := 15) (v := .int .i64 (k : Int)) rfl (by kernel_rfl) (by kernel_rfl) (by kernel_rfl) (fun _ _ _ h => h) (Or.inl ⟨by rfl, fun w' hS => by go_simp⟩) hHeld ?_
        simp only [Act.put, List.getElem_toArray, List.getElem_cons_zero, List.getElem_cons_succ, List.setIfInBounds_toArray, List.set_cons_zero, List.set_cons_succ]
        refine wpAnyH_take (i := 16) (v := .pointer (some ⟨g, k * 5, none⟩)) rfl (by kernel_rfl) (by kernel_rfl) (by kernel_rfl) (fun _ _ _ h => h) (Or.inl ⟨by rfl, fun w' hS => by go_simp⟩) hHeld ?_
        simp only [Act.put, List.getElem_toArray, List.getElem_cons_zero, List.getElem_cons_succ, List.setIfInBounds_toArray, List.set_cons_zero, List.set_cons_succ]
        refine wpAnyH_take (i := 17) (v := .pointer (some ⟨g, k * 5 + 2, none⟩)) rfl (by kernel_rfl) (by kernel_rfl) (by kernel_rfl) (fun _ _ _ h => h) (Or.inl ⟨by rfl, fun w' hS => by go_simp⟩) hHeld ?_
        simp only [Act.put, List.getElem_toArray, List.getElem_cons_zero, List.getElem_cons_succ, List.setIfInBounds_toArray, List.set_cons_zero, List.set_cons_succ]
        refine wpAnyH_take (i := 18) (v := .int .i64 (L.getD k f0).dst) rfl (by kernel_rfl) (by kernel_rfl) (by kernel_rfl) (fun _ _ _ h => h) (Or.inl ⟨by rfl, fun w' hS => by (obtain ⟨p0, p1, p2, p3⟩ := hS; go_simp)⟩) hHeld ?_
        simp only [Act.put, List.getElem_toArray, List.getElem_cons_zero, List.getElem_cons_succ, List.setIfInBounds_toArray, List.set_cons_zero, List.set_cons_succ]
        refine wpAnyH_ready (rs := [19]) (by kernel_rfl) (by simp) ?_
        refine AllReadyH.cons rfl (fun K9 hK => ?_) AllReadyH.nil
        go_simp
        refine (HOp.out _ _ HRs9.out).mono ?_
        rintro e x2 ⟨rfl, hb9⟩
        have HRt := HRs9.out.still hb9
        clear HRs9 hb9
        have HRs9 : Hid (Rs9 w x2 E1 B K bb G sv dv bv cv L (some ⟨g, 0, none⟩) n c (k + 1) es3) := HRt
        clear HRt
        refine hK.out _ _ (HSx.out _ _ _ HRs9.out) (fun hHeld => ?_)
        clear hK K9
        try (simp only [Act.put, List.getElem_toArray, List.getElem_cons_zero, List.getElem_cons_succ, List.setIfInBounds_toArray, List.set_cons_zero, List.set_cons_succ])
        refine wpAnyH_take (i := 20) (v := .bool false) rfl (by kernel_rfl) (by kernel_rfl) (by kernel_rfl) (fun _ _ _ h => h) (Or.inl ⟨by rfl, fun w' hS => by go_simp⟩) hHeld ?_
        simp only [Act.put, List.getElem_toArray, List.getElem_cons_zero, List.getElem_cons_succ, List.setIfInBounds_toArray, List.set_cons_zero, List.set_cons_succ]
        refine wpAnyH_take (i := 21) (v := .bool false) rfl (by kernel_rfl) (by kernel_rfl) (by kernel_rfl) (fun _ _ _ h => h) (Or.inl ⟨by rfl, fun w' hS => by go_simp⟩) hHeld ?_
        simp only [Act.put, List.getElem_toArray, List.getElem_cons_zero, List.getElem_cons_succ, List.setIfInBounds_toArray, List.set_cons_zero, List.set_cons_succ]
        refine wpAnyH_take (i := 22) (v := .bool false) rfl (by kernel_rfl) (by kernel_rfl) (by kernel_rfl) (fun _ _ _ h => h) (Or.inl ⟨by rfl, fun w' hS => by go_simp⟩) hHeld ?_
        simp only [Act.put, List.getElem_toArray, List.getElem_cons_zero, List.getElem_cons_succ, List.setIfInBounds_toArray, List.set_cons_zero, List.set_cons_succ]
        refine wpAnyH_take (i := 23) (v := .pointer (some ⟨E.b, 0, none⟩)) rfl (by kernel_rfl) (by kernel_rfl) (by kernel_rfl) (fun _ _ _ h => h) (Or.inl ⟨by rfl, fun w' hS => by go_simp⟩) hHeld ?_
        simp only [Act.put, List.getElem_toArray, List.getElem_cons_zero, List.getElem_cons_succ, List.setIfInBounds_toArray, List.set_cons_zero, List.set_cons_succ]
        refine wpAnyH_take (i := 24) (v := .slice (some ⟨g, 0, none⟩) n c) rfl (by kernel_rfl) (by kernel_rfl) (by kernel_rfl) (fun _ _ _ h => h) (Or.inl ⟨by rfl, fun w' hS => by go_simp⟩) hHeld ?_
        simp only [Act.put, List.getElem_toArray, List.getElem_cons_zero, List.getElem_cons_succ, List.setIfInBounds_toArray, List.set_cons_zero, List.set_cons_succ]
        refine wpAnyH_take (i := 25) (v := .int .i64 (k : Int)) rfl (by kernel_rfl) (by kernel_rfl) (by kernel_rfl) (fun _ _ _ h => h) (Or.inl ⟨by rfl, fun w' hS => by go_simp⟩) hHeld ?_
        simp only [Act.put, List.getElem_toArray, List.getElem_cons_zero, List.getElem_cons_succ, List.setIfInBounds_toArray, List.set_cons_zero, List.set_cons_succ]
        refine wpAnyH_take (i := 26) (v := .pointer (some ⟨g, k * 5, none⟩)) rfl (by kernel_rfl) (by kernel_rfl) (by kernel_rfl) (fun _ _ _ h => h) (Or.inl ⟨by rfl, fun w' hS => by go_simp⟩) hHeld ?_
        simp only [Act.put, List.getElem_toArray, List.getElem_cons_zero, List.getElem_cons_succ, List.setIfInBounds_toArray, List.set_cons_zero, List.set_cons_succ]
        refine wpAnyH_take (i := 27) (v := .pointer (some ⟨g, k * 5 + 2, none⟩)) rfl (by kernel_rfl) (by kernel_rfl) (by kernel_rfl) (fun _ _ _ h => h) (Or.inl ⟨by rfl, fun w' hS => by go_simp⟩) hHeld ?_
        simp only [Act.put, List.getElem_toArray, List.getElem_cons_zero, List.getElem_cons_succ, List.setIfInBounds_toArray, List.set_cons_zero, List.set_cons_succ]
        refine wpAnyH_take (i := 28) (v := .int .i64 (L.getD k f0).dst) rfl (by kernel_rfl) (by kernel_rfl) (by kernel_rfl) (fun _ _ _ h => h) (Or.inl ⟨by rfl, fun w' hS => by (obtain ⟨p0, p1, p2, p3⟩ := hS; go_simp)⟩) hHeld ?_
        simp only [Act.put, List.getElem_toArray, List.getElem_cons_zero, List.getElem_cons_succ, List.setIfInBounds_toArray, List.set_cons_zero, List.set_cons_succ]
        refine wpAnyH_ready (rs := [29]) (by kernel_rfl) (by simp) ?_
        refine AllReadyH.cons rfl (fun K9 hK => ?_) AllReadyH.nil
        go_simp
        refine (HUp.out _ _ HRs9.out).mono ?_
        rintro e x3 ⟨rfl, rfl⟩
        refine hK.out _ _ (HSx.out _ _ _ HRs9.out) (fun hHeld => ?_)
        clear hK K9
        try (simp only [Act.put, List.getElem_toArray, List.getElem_cons_zero, List.getElem_cons_succ, List.setIfInBounds_toArray, List.set_cons_zero, List.set_cons_succ])
        refine wpAnyH_take (i := 30) (v := .bool false) rfl (by kernel_rfl) (by kernel_rfl) (by kernel_rfl) (fun _ _ _ h => h) (Or.inl ⟨by rfl, fun w' hS => by go_simp⟩) hHeld ?_
        simp only [Act.put, List.getElem_toArray, List.getElem_cons_zero, List.getElem_cons_succ, List.setIfInBounds_toArray, List.set_cons_zero, List.set_cons_succ]
        refine wpAnyH_take (i := 31) (v := .bool false) rfl (by kernel_rfl) (by kernel_rfl) (by kernel_rfl) (fun _ _ _ h => h) (Or.inl ⟨by rfl, fun w' hS => by go_simp⟩) hHeld ?_
        simp only [Act.put, List.getElem_toArray, List.getElem_cons_zero, List.getElem_cons_succ, List.setIfInBounds_toArray, List.set_cons_zero, List.set_cons_succ]
        refine wpAnyH_take (i := 32) (v := .bool false) rfl (by kernel_rfl) (by kernel_rfl) (by kernel_rfl) (fun _ _ _ h => h) (Or.inl ⟨by rfl, fun w' hS => by go_simp⟩) hHeld ?_
        simp only [Act.put, List.getElem_toArray, List.getElem_cons_zero, List.getElem_cons_succ, List.setIfInBounds_toArray, List.set_cons_zero, List.set_cons_succ]
        refine wpAnyH_take (i := 33) (v := .slice (some ⟨g, 0, none⟩) n c) rfl (by kernel_rfl) (by kernel_rfl) (by kernel_rfl) (fun _ _ _ h => h) (Or.inl ⟨by rfl, fun w' hS => by go_simp⟩) hHeld ?_
        simp only [Act.put, List.getElem_toArray, List.getElem_cons_zero, List.getElem_cons_succ, List.setIfInBounds_toArray, List.set_cons_zero, List.set_cons_succ]
        refine wpAnyH_take (i := 34) (v := .int .i64 (k : Int)) rfl (by kernel_rfl) (by kernel_rfl) (by kernel_rfl) (fun _ _ _ h => h) (Or.inl ⟨by rfl, fun w' hS => by go_simp⟩) hHeld ?_
        simp only [Act.put, List.getElem_toArray, List.getElem_cons_zero, List.getElem_cons_succ, List.setIfInBounds_toArray, List.set_cons_zero, List.set_cons_succ]
        refine wpAnyH_take (i := 35) (v := .pointer (some ⟨g, k * 5, none⟩)) rfl (by kernel_rfl) (by kernel_rfl) (by kernel_rfl) (fun _ _ _ h => h) (Or.inl ⟨by rfl, fun w' hS => by go_simp⟩) hHeld ?_
        simp only [Act.put, List.getElem_toArray, List.getElem_cons_zero, List.getElem_cons_succ, List.setIfInBounds_toArray, List.set_cons_zero, List.set_cons_succ]
        refine wpAnyH_take (i := 36) (v := .pointer (some ⟨g, k * 5 + 3, none⟩)) rfl (by kernel_rfl) (by kernel_rfl) (by kernel_rfl) (fun _ _ _ h => h) (Or.inl ⟨by rfl, fun w' hS => by go_simp⟩) hHeld ?_
        simp only [Act.put, List.getElem_toArray, List.getElem_cons_zero, List.getElem_cons_succ, List.setIfInBounds_toArray, List.set_cons_zero, List.set_cons_succ]
        refine wpAnyH_take (i := 37) (v := .int .i64 (L.getD k f0).due) rfl (by kernel_rfl) (by kernel_rfl) (by kernel_rfl) (fun _ _ _ h => h) (Or.inl ⟨by rfl, fun w' hS => by (obtain ⟨p0, p1, p2, p3⟩ := hS; go_simp)⟩) hHeld ?_
        simp only [Act.put, List.getElem_toArray, List.getElem_cons_zero, List.getElem_cons_succ, List.setIfInBounds_toArray, List.set_cons_zero, List.set_cons_succ]
        refine wpAnyH_take (i := 38) (v := .pointer (some ⟨E.b, 0, none⟩)) rfl (by kernel_rfl) (by kernel_rfl) (by kernel_rfl) (fun _ _ _ h => h) (Or.inl ⟨by rfl, fun w' hS => by go_simp⟩) hHeld ?_
        simp only [Act.put, List.getElem_toArray, List.getElem_cons_zero, List.getElem_cons_succ, List.setIfInBounds_toArray, List.set_cons_zero, List.set_cons_succ]
        refine wpAnyH_ready (rs := [39]) (by kernel_rfl) (by simp) ?_
        refine AllReadyH.cons rfl (fun K9 hK => ?_) AllReadyH.nil
        go_simp
        refine (HCk.out _ _ HRs9.out).mono ?_
        rintro e x4 ⟨rfl, rfl⟩
        refine hK.out _ _ (HSx.out _ _ _ HRs9.out) (fun hHeld => ?_)
        clear hK K9
        try (simp only [Act.put, List.getElem_toArray, List.getElem_cons_zero, List.getElem_cons_succ, List.setIfInBounds_toArray, List.set_cons_zero, List.set_cons_succ])
        refine wpAnyH_take (i := 40) (v := .bool false) rfl (by kernel_rfl) (by kernel_rfl) (by kernel_rfl) (fun _ _ _ h => h) (Or.inl ⟨by rfl, fun w' hS => by (go_simp; try simp)⟩) hHeld ?_
        simp only [Act.put, List.getElem_toArray, List.getElem_cons_zero, List.getElem_cons_succ, List.setIfInBounds_toArray, List.set_cons_zero, List.set_cons_succ]
        refine wpAnyH_take (i := 41) (v := .bool false) rfl (by kernel_rfl) (by kernel_rfl) (by kernel_rfl) (fun _ _ _ h => h) (Or.inl ⟨by rfl, fun w' hS => by go_simp⟩) hHeld ?_
        simp only [Act.put, List.getElem_toArray, List.getElem_cons_zero, List.getElem_cons_succ, List.setIfInBounds_toArray, List.set_cons_zero, List.set_cons_succ]
        refine wpAnyH_done (by kernel_rfl) ?_ _
        clear hHeld
        go_wp2
        exact ⟨⟨k + 1, es3, by omega, by go_num, Hl3.out.trans hel, HRs9.out⟩, by simp [intOf]; omega⟩
    · obtain rfl : k = n := by omega
      go_wp2
      go_ret
      exact ⟨rfl, HSk.out.ends HEb.out HEn.out⟩
end
end Go.Proofs.Ytnhhjelplmdloaa.Et
