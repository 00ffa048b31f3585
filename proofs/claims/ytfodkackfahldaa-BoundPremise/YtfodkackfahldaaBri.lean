import Derived.Test.YtfodkackfahldaaBoa
import Derived.Test.YtfodkackfahldaaBrb
namespace Go.Proofs.Ytfodkackfahldaa.Oq
open Go.ChangeShapes Go.WideShapes Go.ChangeAt Go.RowKit Lo
set_option linter.unusedVariables false
set_option linter.unusedSimpArgs false

section
variable {H : Type} {enc : TypeId × Value → H} {W : World}
theorem cU : Try.prog.cellsOf 5 = 1 := by kernel_rfl
theorem bU : Try.prog.bytesOf 5 = 1 := by kernel_rfl
theorem cBs : Try.prog.cellsOf 32 = 1 := by kernel_rfl
theorem cSt : Try.prog.cellsOf 9 = 1 := by kernel_rfl
theorem cCmd : Try.prog.cellsOf 34 = 7 := by kernel_rfl
theorem cEvt : Try.prog.cellsOf 36 = 13 := by kernel_rfl
theorem bEvt : Try.prog.bytesOf 36 = 160 := by kernel_rfl
theorem cEvs : Try.prog.cellsOf 25 = 1 := by kernel_rfl
theorem cScr : Try.prog.cellsOf 27 = 9 := by kernel_rfl
theorem cCas : Try.prog.cellsOf 29 = 10 := by kernel_rfl
theorem open_bs {fuel : Nat} {v : Value} {x : DataW H × List MemPlace} (h : DataW.trod enc Try.prog W 0 (fun _ => true) true fuel 32 [v] = some x) (hw : Wt x.1 32) : ∃ a n c xs, v = .slice a n c ∧ Ln.Rd W a n c xs ∧ n ≤ 140737488351232 := by
  rcases open_ints Try.underlying32 Try.underlying5 cU h with ⟨hcs, _⟩ | ⟨x, l, c, zs, hcs, _, hl, hm, hz, hx3, hcell, hwz⟩
  · simp only [List.cons.injEq, and_true] at hcs
    subst hcs
    exact ⟨none, 0, 0, [], rfl, ⟨rfl, Nat.le_refl _, fun _ => rfl, .inl rfl, fun i => by simp⟩, by omega⟩
  · simp only [List.cons.injEq, and_true] at hcs
    subst hcs
    simp only [if_true] at hz
    refine ⟨some x, l, c, zs.take l, rfl, ⟨by rw [List.length_take]; omega, hl, fun e => (by cases e), row_of hl hz hcell, fun i => ?_⟩, ?_⟩
    · by_cases hi : i < (zs.take l).length
      · have hmem : (zs.take l).getD i 0 ∈ zs := by
          have : (zs.take l).getD i 0 ∈ zs.take l := by simp only [List.getD, List.getElem?_eq_getElem hi]; exact List.getElem_mem hi
          exact List.mem_of_mem_take this
        have := hwz _ hmem
        simpa [Lit.wf, IntKind.min, IntKind.max, IntKind.signed, IntKind.bits] using this
      · simp [List.getD, List.getElem?_eq_none (by omega : (zs.take l).length ≤ i)]
    · have := hw ((((lits .u8 (zs.take l) : List (DataW H)).length + (lits .u8 (zs.drop l) : List (DataW H)).length) * Try.prog.bytesOf 5)) (by rw [hx3]; simp [DataW.weights, Try.underlying32])
      rw [bU] at this
      simp only [lits, List.length_map, List.length_take, List.length_drop, reachBytes] at this
      omega
theorem open_s {fuel : Nat} {c : Value} {x : DataW H × List MemPlace} (h : DataW.trod enc Try.prog W 0 (fun _ => true) true fuel 9 [c] = some x) : ∃ v, c = .string v := by
  obtain ⟨v, e, _, _⟩ := DataW.trod_string Try.underlying9 h
  simp only [List.cons.injEq, and_true] at e
  exact ⟨v, e⟩
theorem list7 {α : Type} {l : List α} (h : l.length = 7) : ∃ c0 c1 c2 c3 c4 c5 c6, l = [c0, c1, c2, c3, c4, c5, c6] := by
  match l, h with
  | [c0, c1, c2, c3, c4, c5, c6], _ => exact ⟨c0, c1, c2, c3, c4, c5, c6, rfl⟩
theorem list13 {α : Type} {l : List α} (h : l.length = 13) : ∃ c0 c1 c2 c3 c4 c5 c6 c7 c8 c9 c10 c11 c12, l = [c0, c1, c2, c3, c4, c5, c6, c7, c8, c9, c10, c11, c12] := by
  match l, h with
  | [c0, c1, c2, c3, c4, c5, c6, c7, c8, c9, c10, c11, c12], _ => exact ⟨c0, c1, c2, c3, c4, c5, c6, c7, c8, c9, c10, c11, c12, rfl⟩
set_option maxRecDepth 100000 in
theorem open_ev {fuel : Nat} {cs : List Value} {x : DataW H × List MemPlace} (hl : cs.length = 13) (h : DataW.trod enc Try.prog W 0 (fun _ => true) true fuel 36 cs = some x) (hw : Wt x.1 36) :
    ∃ e : Em, cs = e.cs ∧ Ri W e.sa e.sn e.sc e.xs ∧ e.sn * 8 ≤ 140737488351232 ∧ Ln.Rd W e.ba e.bn e.bc e.bs ∧ e.bn ≤ 140737488351232 := by
  obtain ⟨c0, c1, c2, c3, c4, c5, c6, c7, c8, c9, c10, c11, c12, rfl⟩ := list13 hl
  obtain ⟨xs, m, hxl, hF, hW⟩ := struct_parts Try.underlying36 h hw
  obtain ⟨y0, y1, y2, y3, y4, y5, y6, rfl⟩ := list7 hxl
  have h0 : DataW.trod enc Try.prog W 0 (fun _ => true) true m 3 [c0] = some y0 := by simpa [cI] using hF 0 _ rfl
  have h1 : DataW.trod enc Try.prog W 0 (fun _ => true) true m 3 [c1] = some y1 := by simpa [cI] using hF 1 _ rfl
  have h2 : DataW.trod enc Try.prog W 0 (fun _ => true) true m 3 [c2] = some y2 := by simpa [cI] using hF 2 _ rfl
  have h3 : DataW.trod enc Try.prog W 0 (fun _ => true) true m 3 [c3] = some y3 := by simpa [cI] using hF 3 _ rfl
  have h4 : DataW.trod enc Try.prog W 0 (fun _ => true) true m 32 [c4] = some y4 := by simpa [cBs] using hF 4 _ rfl
  have h5 : DataW.trod enc Try.prog W 0 (fun _ => true) true m 34 [c5, c6, c7, c8, c9, c10, c11] = some y5 := by simpa [cCmd] using hF 5 _ rfl
  have h6 : DataW.trod enc Try.prog W 0 (fun _ => true) true m 22 [c12] = some y6 := by simpa [cIs] using hF 6 _ rfl
  obtain ⟨zs, m2, hzl, hF2, hW2⟩ := struct_parts Try.underlying34 h5 (hW 5 _ _ rfl rfl)
  obtain ⟨z0, z1, z2, z3, z4, z5, z6, rfl⟩ := list7 hzl
  have g0 : DataW.trod enc Try.prog W 0 (fun _ => true) true m2 3 [c5] = some z0 := by simpa [cI] using hF2 0 _ rfl
  have g1 : DataW.trod enc Try.prog W 0 (fun _ => true) true m2 3 [c6] = some z1 := by simpa [cI] using hF2 1 _ rfl
  have g2 : DataW.trod enc Try.prog W 0 (fun _ => true) true m2 3 [c7] = some z2 := by simpa [cI] using hF2 2 _ rfl
  have g3 : DataW.trod enc Try.prog W 0 (fun _ => true) true m2 3 [c8] = some z3 := by simpa [cI] using hF2 3 _ rfl
  have g4 : DataW.trod enc Try.prog W 0 (fun _ => true) true m2 9 [c9] = some z4 := by simpa [cSt] using hF2 4 _ rfl
  have g5 : DataW.trod enc Try.prog W 0 (fun _ => true) true m2 9 [c10] = some z5 := by simpa [cSt] using hF2 5 _ rfl
  have g6 : DataW.trod enc Try.prog W 0 (fun _ => true) true m2 9 [c11] = some z6 := by simpa [cSt] using hF2 6 _ rfl
  obtain ⟨k, rfl⟩ := open_i h0
  obtain ⟨a, rfl⟩ := open_i h1
  obtain ⟨b, rfl⟩ := open_i h2
  obtain ⟨n, rfl⟩ := open_i h3
  obtain ⟨ba, bn, bc, bs, rfl, hb1, hb2⟩ := open_bs h4 (hW 4 _ _ rfl rfl)
  obtain ⟨v5, rfl⟩ := open_i g0
  obtain ⟨v6, rfl⟩ := open_i g1
  obtain ⟨v7, rfl⟩ := open_i g2
  obtain ⟨v8, rfl⟩ := open_i g3
  obtain ⟨v9, rfl⟩ := open_s g4
  obtain ⟨v10, rfl⟩ := open_s g5
  obtain ⟨v11, rfl⟩ := open_s g6
  obtain ⟨sa, sn, sc, xs, rfl, ho⟩ := open_is h6 (hW 6 _ _ rfl rfl)
  exact ⟨⟨k, a, b, n, ba, bn, bc, bs, v5, v6, v7, v8, v9, v10, v11, sa, sn, sc, xs⟩, rfl, ho.1, ho.2, hb1, hb2⟩
theorem open_evs {fuel : Nat} {v : Value} {x : DataW H × List MemPlace} (h : DataW.trod enc Try.prog W 0 (fun _ => true) true fuel 25 [v] = some x) (hw : Wt x.1 25) : ∃ ea en ec es, v = .slice ea en ec ∧ EvF W ea en es := by
  rcases slice_parts Try.underlying25 cEvt (by omega) h hw with rfl | ⟨ad, len, cap, n, D, Pl, rfl, hb, hel⟩
  · exact ⟨none, 0, 0, [], rfl, ⟨rfl, .inl rfl, fun i hi => by omega⟩, fun i hi => by omega, fun i hi => by omega, by omega⟩
  · rw [bEvt] at hb
    have hch : ∀ i : Nat, ∃ e : Em, i < len → (∀ j v, e.cs[j]? = some v → W.cell? (ad.add (i * 13 + j)) = some v) ∧ Ri W e.sa e.sn e.sc e.xs ∧ e.sn * 8 ≤ 140737488351232 ∧ Ln.Rd W e.ba e.bn e.bc e.bs ∧ e.bn ≤ 140737488351232 := by
      intro i
      by_cases hi : i < len
      · obtain ⟨hwt, cs', hl, hc, ht⟩ := hel i hi
        obtain ⟨e, rfl, h1, h2, h3, h4⟩ := open_ev hl ht hwt
        refine ⟨e, fun _ => ⟨fun j v hv => ?_, h1, h2, h3, h4⟩⟩
        have hj : j < 13 := by have := (List.getElem?_eq_some_iff.1 hv).1; rwa [cs_len] at this
        rw [hc j hj, hv]
      · exact ⟨em0, fun h => absurd h hi⟩
    obtain ⟨E, hE⟩ := Classical.axiomOfChoice hch
    have hget : ∀ i, i < len → ((List.range len).map E).getD i em0 = E i := fun i hi => by simp [List.getD, hi]
    refine ⟨some ad, len, cap, (List.range len).map E, rfl, ⟨by simp, ?_, fun i hi => ?_⟩, fun i hi => ?_, fun i hi => ?_, hb⟩
    · by_cases h0 : len = 0
      · exact .inl h0
      · obtain ⟨b, off, spot⟩ := ad
        have hspot : spot = none := by
          have := (hE 0 (by omega)).1 0 _ rfl
          have := World.cell?_spot this
          simpa [Addr.add] using this
        subst hspot
        refine .inr ⟨b, off, rfl, fun i hi j v hv => ?_⟩
        rw [hget i hi] at hv
        have := (hE i hi).1 j v hv
        rw [Addr.add_mid] at this
        rw [show off + i * 13 + j = off + (i * 13 + j) by omega]
        exact this
    · rw [hget i hi]
      exact ⟨(hE i hi).2.1, by have := (hE i hi).2.2.1; omega⟩
    · rw [hget i hi]
      have h3 := (hE i hi).2.2.2.1
      exact ⟨h3, fun e => by have h1 := h3.nil e; have h2 := h3.cap; omega, (hE i hi).2.2.2.2⟩
    · rw [hget i hi]
      exact (hE i hi).2.2.1
theorem list10 {α : Type} {l : List α} (h : l.length = 10) : ∃ c0 c1 c2 c3 c4 c5 c6 c7 c8 c9, l = [c0, c1, c2, c3, c4, c5, c6, c7, c8, c9] := by
  match l, h with
  | [c0, c1, c2, c3, c4, c5, c6, c7, c8, c9], _ => exact ⟨c0, c1, c2, c3, c4, c5, c6, c7, c8, c9, rfl⟩
set_option maxRecDepth 100000 in
theorem open_case {base : Nat} {v : Value} {d : DataW H} {p : List MemPlace} (hv : Value.okWide Try.prog W .any base 29 v) (h : DataW.Trod enc Try.prog W 0 (fun _ => true) true 29 v d p) (hw : Wt d 29) :
    ∃ (no wi ba st ca ro fl : Int) (va : Option Addr) (vn vc : Nat) (vs : List Int) (ea : Option Addr) (en ec : Nat) (es : List Em) (so : Option Addr) (sn sc : Nat) (ss : List Int), v = .agg #[.int .i64 no, .int .i64 wi, .int .i64 ba, .int .i64 st, .int .i64 ca, .int .i64 ro, .int .i64 fl, .slice va vn vc, .slice ea en ec, .slice so sn sc] ∧ OI W va vn vc vs ∧ EvF W ea en es ∧ OI W so sn sc ss := by
  obtain ⟨cs, rfl, hsz⟩ := okWide_struct Try.underlying29 hv
  rw [cCas] at hsz
  obtain ⟨l⟩ := cs
  obtain ⟨c0, c1, c2, c3, c4, c5, c6, c7, c8, c9, rfl⟩ := list10 hsz
  obtain ⟨fuel, hf⟩ := h
  obtain ⟨xs, m, hxl, hF, hW⟩ := struct_parts Try.underlying29 hf hw
  obtain ⟨y0, y1, rfl⟩ := list2 hxl
  have h0 : DataW.trod enc Try.prog W 0 (fun _ => true) true m 27 [c0, c1, c2, c3, c4, c5, c6, c7, c8] = some y0 := by simpa [Value.cells, cScr] using hF 0 _ rfl
  have h1 : DataW.trod enc Try.prog W 0 (fun _ => true) true m 22 [c9] = some y1 := by simpa [Value.cells, cIs] using hF 1 _ rfl
  obtain ⟨zs, m2, hzl, hF2, hW2⟩ := struct_parts Try.underlying27 h0 (hW 0 _ _ rfl rfl)
  obtain ⟨z0, z1, rfl⟩ := list2 hzl
  have g0 : DataW.trod enc Try.prog W 0 (fun _ => true) true m2 24 [c0, c1, c2, c3, c4, c5, c6, c7] = some z0 := by simpa [cC] using hF2 0 _ rfl
  have g1 : DataW.trod enc Try.prog W 0 (fun _ => true) true m2 25 [c8] = some z1 := by simpa [cEvs] using hF2 1 _ rfl
  obtain ⟨no, wi, ba, st, ca, ro, fl, a, n, c, vs, hcs, ho⟩ := open_cfg (by rfl) g0 (hW2 0 _ _ rfl rfl)
  obtain ⟨ea, en, ec, es, rfl, he⟩ := open_evs g1 (hW2 1 _ _ rfl rfl)
  obtain ⟨so, sn, sc, ss, rfl, hs⟩ := open_is h1 (hW 1 _ _ rfl rfl)
  simp only [List.cons.injEq, and_true] at hcs
  obtain ⟨rfl, rfl, rfl, rfl, rfl, rfl, rfl, rfl⟩ := hcs
  exact ⟨no, wi, ba, st, ca, ro, fl, a, n, c, vs, ea, en, ec, es, so, sn, sc, ss, rfl, ho, he, hs⟩
end
end Go.Proofs.Ytfodkackfahldaa.Oq
