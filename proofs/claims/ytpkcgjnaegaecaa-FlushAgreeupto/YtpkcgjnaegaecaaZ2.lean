import Derived.Test.YtpkcgjnaegaecaaZm
import Derived.Test.YtpkcgjnaegaecaaZp
import Derived.Test.YtpkcgjnaegaecaaY9
namespace Go.Proofs.Ytpkcgjnaegaecaa.Of
open Go.ChangeShapes Go.WideShapes Go.ChangeAt Go.RowKit Mb Fm
set_option linter.unusedVariables false
set_option linter.unusedSimpArgs false
set_option maxRecDepth 100000
section
variable {H : Type} {enc : TypeId × Value → H} {W : World}
theorem open_u {fuel : Nat} {c : Value} {x : DataW H × List MemPlace} (h : DataW.trod enc Try.prog W 0 (fun _ => true) true fuel 5 [c] = some x) : ∃ v : Int, c = .int .u8 v ∧ 0 ≤ v ∧ v ≤ 255 := by
  obtain ⟨v, e, _, hw⟩ := DataW.trod_int Try.underlying5 h
  simp only [List.cons.injEq, and_true] at e
  refine ⟨v, e, ?_⟩
  simpa [Lit.wf, IntKind.min, IntKind.max, IntKind.signed, IntKind.bits] using hw
theorem cU : Try.prog.cellsOf 5 = 1 := by kernel_rfl
theorem cBs : Try.prog.cellsOf 83 = 1 := by kernel_rfl
theorem cD : Try.prog.cellsOf 85 = 4 := by kernel_rfl
theorem cDs : Try.prog.cellsOf 44 = 1 := by kernel_rfl
theorem cCa : Try.prog.cellsOf 58 = 13 := by kernel_rfl
theorem list13 {α : Type} {l : List α} (h : l.length = 13) : ∃ c0 c1 c2 c3 c4 c5 c6 c7 c8 c9 c10 c11 c12, l = [c0, c1, c2, c3, c4, c5, c6, c7, c8, c9, c10, c11, c12] := by
  match l, h with
  | [c0, c1, c2, c3, c4, c5, c6, c7, c8, c9, c10, c11, c12], _ => exact ⟨c0, c1, c2, c3, c4, c5, c6, c7, c8, c9, c10, c11, c12, rfl⟩
theorem open_bytes {fuel : Nat} {v : Value} {x : DataW H × List MemPlace} (h : DataW.trod enc Try.prog W 0 (fun _ => true) true fuel 83 [v] = some x) (hw : Sm x.1) : ∃ a xs c, v = .slice a (xs : List Int).length c ∧ RdB W a xs ∧ xs.length ≤ 1048576 ∧ (a = none → xs.length = 0 ∧ c = 0) ∧ ∀ i, i < xs.length → 0 ≤ xs.getD i 0 ∧ xs.getD i 0 ≤ 255 := by
  rcases slice_parts Try.underlying83 cU (by decide) h hw with rfl | ⟨ad, len, cap, n, D, Pl, rfl, hb, hel⟩
  · exact ⟨none, [], 0, rfl, .inl rfl, by simp, fun _ => ⟨rfl, rfl⟩, fun i hi => by simp at hi⟩
  · have each : ∀ i, ∃ y : Int, i < len → W.cell? (ad.add i) = some (.int .u8 y) ∧ 0 ≤ y ∧ y ≤ 255 := fun i => by
      by_cases hi : i < len
      · obtain ⟨_, cs', hl, hcell, htr⟩ := hel i hi
        obtain ⟨c0, rfl⟩ := list1 hl
        obtain ⟨y, rfl, hy⟩ := open_u htr
        exact ⟨y, fun _ => ⟨by have := hcell 0 (by decide); simpa using this, hy⟩⟩
      · exact ⟨0, fun h => absurd h hi⟩
    obtain ⟨f, hf⟩ := Classical.axiomOfChoice each
    have hl : ((List.range len).map f).length = len := by simp
    refine ⟨some ad, (List.range len).map f, cap, by rw [hl], ?_, by rw [hl]; exact hb, (fun h => by cases h), fun i hi => ?_⟩
    · unfold RdB Row
      rw [hl]
      by_cases h0 : len = 0
      · exact .inl h0
      · obtain ⟨b, off, rfl⟩ := ad_plain (hf 0 (by omega)).1
        refine .inr ⟨b, off, rfl, fun i hi => ?_⟩
        have := (hf i (by omega)).1
        rw [Addr.add_lit] at this
        rw [this]
        simp [List.getD, show i < len by omega]
    · rw [hl] at hi
      have := (hf i hi).2
      simpa [List.getD, hi] using this
structure DxIn (d : Dx) (W : World) : Prop where
  rd : d.Rd W
  z : d.ba = none → d.bs.length = 0 ∧ d.bc = 0
  n : d.bs.length ≤ 1048576
  u : ∀ i, i < d.bs.length → 0 ≤ d.bs.getD i 0 ∧ d.bs.getD i 0 ≤ 255
theorem open_data {n : Nat} {c0 c1 c2 c3 : Value} {x : DataW H × List MemPlace} (h : DataW.trod enc Try.prog W 0 (fun _ => true) true n 85 [c0, c1, c2, c3] = some x) (hw : Sm x.1) : ∃ f : Dx, f.cs = [c0, c1, c2, c3] ∧ DxIn f W := by
  obtain ⟨xs, n', hxl, hF, hS⟩ := struct_parts Try.underlying85 h hw
  obtain ⟨y0, y1, y2, y3, rfl⟩ := list4 hxl
  have h0 : DataW.trod enc Try.prog W 0 (fun _ => true) true n' 3 [c0] = some y0 := by simpa [cI, cBs] using hF 0 _ rfl
  have h1 : DataW.trod enc Try.prog W 0 (fun _ => true) true n' 3 [c1] = some y1 := by simpa [cI, cBs] using hF 1 _ rfl
  have h2 : DataW.trod enc Try.prog W 0 (fun _ => true) true n' 3 [c2] = some y2 := by simpa [cI, cBs] using hF 2 _ rfl
  have h3 : DataW.trod enc Try.prog W 0 (fun _ => true) true n' 83 [c3] = some y3 := by simpa [cI, cBs] using hF 3 _ rfl
  obtain ⟨a, rfl, ha⟩ := open_i h0
  obtain ⟨b, rfl, hb⟩ := open_i h1
  obtain ⟨c, rfl, _⟩ := open_i h2
  obtain ⟨ba, bs, bc, rfl, r1, r2, r3, r4⟩ := open_bytes h3 (hS 3 _ rfl)
  exact ⟨⟨(a, b), c, ba, bc, bs⟩, rfl, ⟨r1, ha, hb⟩, r3, r2, r4⟩
theorem open_datas {fuel : Nat} {v : Value} {x : DataW H × List MemPlace} (h : DataW.trod enc Try.prog W 0 (fun _ => true) true fuel 44 [v] = some x) (hw : Sm x.1) : ∃ a ds c, v = .slice a (ds : List Dx).length c ∧ RdDs W a ds ∧ ds.length ≤ 1048576 ∧ ∀ k, k < ds.length → DxIn (ds.getD k dx0) W := by
  rcases slice_parts Try.underlying44 cD (by decide) h hw with rfl | ⟨ad, len, cap, n, D, Pl, rfl, hb, hel⟩
  · exact ⟨none, [], 0, rfl, ⟨.inl rfl, fun i hi => by simp at hi⟩, by simp, fun k hk => by simp at hk⟩
  · have each : ∀ i, ∃ f : Dx, i < len → (∀ j, j < 4 → W.cell? (ad.add (i * 4 + j)) = f.cs[j]?) ∧ DxIn f W := fun i => by
      by_cases hi : i < len
      · obtain ⟨hs, cs', hl, hcell, htr⟩ := hel i hi
        obtain ⟨c0, c1, c2, c3, rfl⟩ := list4 hl
        obtain ⟨f, hf, hin⟩ := open_data htr hs
        exact ⟨f, fun _ => ⟨fun j hj => by rw [hf]; exact hcell j hj, hin⟩⟩
      · exact ⟨dx0, fun h => absurd h hi⟩
    obtain ⟨f, hf⟩ := Classical.axiomOfChoice each
    have hl : ((List.range len).map f).length = len := by simp
    have hg : ∀ i, i < len → ((List.range len).map f).getD i dx0 = f i := fun i hi => by simp [List.getD, hi]
    refine ⟨some ad, (List.range len).map f, cap, by rw [hl], ⟨?_, fun i hi => ?_⟩, by rw [hl]; exact hb, fun k hk => ?_⟩
    · unfold Row
      rw [hl]
      by_cases h0 : len = 0
      · exact .inl h0
      · obtain ⟨b, off, rfl⟩ := ad_plain (v := .int .i64 (f 0).s.1) (by have := (hf 0 (by omega)).1 0 (by decide); simp only [Nat.zero_mul, Nat.zero_add] at this; exact this)
        refine .inr ⟨b, off, rfl, fun i hi => ?_⟩
        have h3 := (hf (i / 4) (by omega)).1 (i % 4) (by omega)
        rw [show i / 4 * 4 + i % 4 = i by omega, Addr.add_lit] at h3
        unfold dxC
        rw [hg _ (by omega), h3, List.getD]
        rw [List.getElem?_eq_getElem (by rw [Dx.cs_len]; omega)]
        rfl
    · rw [hl] at hi
      rw [hg i hi]
      exact (hf i hi).2.rd
    · rw [hl] at hk
      rw [hg k hk]
      exact (hf k hk).2
theorem open_case {base : Nat} {v : Value} {d : DataW H} {p : List MemPlace} (hv : Value.okWide Try.prog W .any base 58 v) (h : DataW.Trod enc Try.prog W 0 (fun _ => true) true 58 v d p) (hw : Sm d) :
    ∃ (k : Ca) (who : List Int) (ds : List Dx), v = .agg k.cs.toArray ∧ RdFs W k.ao k.fs ∧ k.fs.length ≤ 1048576 ∧ (∀ i, i < k.fs.length → (k.fs.getD i fl0).In W) ∧ k.own.In W ∧ RdI W k.wa who ∧ who.length = k.wn ∧ who.length ≤ 1048576 ∧ (k.wa = none → who.length = 0 ∧ k.wc = 0) ∧ RdDs W k.ma ds ∧ ds.length = k.mn ∧ ds.length ≤ 1048576 ∧ (∀ i, i < ds.length → DxIn (ds.getD i dx0) W) := by
  obtain ⟨cs, rfl, hsz⟩ := okWide_struct Try.underlying58 hv
  rw [cCa] at hsz
  obtain ⟨l⟩ := cs
  obtain ⟨c0, c1, c2, c3, c4, c5, c6, c7, c8, c9, c10, c11, c12, rfl⟩ := list13 hsz
  obtain ⟨fuel, hf⟩ := h
  obtain ⟨xs, m, hxl, hF, hS⟩ := struct_parts Try.underlying58 hf hw
  obtain ⟨y0, y1, y2, y3, y4, y5, y6, rfl⟩ := list7 hxl
  have h0 : DataW.trod enc Try.prog W 0 (fun _ => true) true m 22 [c0] = some y0 := by simpa [Value.cells, cFs] using hF 0 _ rfl
  have h1 : DataW.trod enc Try.prog W 0 (fun _ => true) true m 35 [c1, c2, c3, c4, c5, c6, c7] = some y1 := by simpa [Value.cells, cF] using hF 1 _ rfl
  have h2 : DataW.trod enc Try.prog W 0 (fun _ => true) true m 3 [c8] = some y2 := by simpa [Value.cells, cI] using hF 2 _ rfl
  have h3 : DataW.trod enc Try.prog W 0 (fun _ => true) true m 28 [c9] = some y3 := by simpa [Value.cells, cIs] using hF 3 _ rfl
  have h4 : DataW.trod enc Try.prog W 0 (fun _ => true) true m 3 [c10] = some y4 := by simpa [Value.cells, cI] using hF 4 _ rfl
  have h5 : DataW.trod enc Try.prog W 0 (fun _ => true) true m 3 [c11] = some y5 := by simpa [Value.cells, cI] using hF 5 _ rfl
  have h6 : DataW.trod enc Try.prog W 0 (fun _ => true) true m 44 [c12] = some y6 := by simpa [Value.cells, cDs] using hF 6 _ rfl
  obtain ⟨ao, fs, cp, rfl, r1, r2, r3⟩ := open_flushes h0 (hS 0 _ rfl)
  obtain ⟨f, hfc, hin⟩ := open_flush h1 (hS 1 _ rfl)
  obtain ⟨dn, rfl, _⟩ := open_i h2
  obtain ⟨wa, who, wc, rfl, s1, s2, s3⟩ := open_ints h3 (hS 3 _ rfl)
  obtain ⟨se, rfl, _⟩ := open_i h4
  obtain ⟨qq, rfl, _⟩ := open_i h5
  obtain ⟨ma, ds, mc, rfl, t1, t2, t3⟩ := open_datas h6 (hS 6 _ rfl)
  simp only [Fl.cs, List.cons.injEq, and_true] at hfc
  obtain ⟨rfl, rfl, rfl, rfl, rfl, rfl, rfl⟩ := hfc
  exact ⟨⟨ao, cp, fs, f, dn, wa, who.length, wc, se, qq, ma, ds.length, mc⟩, who, ds, rfl, r1, r2, r3, hin, s1, rfl, s2, s3, t1, rfl, t2, t3⟩
end
end Go.Proofs.Ytpkcgjnaegaecaa.Of
