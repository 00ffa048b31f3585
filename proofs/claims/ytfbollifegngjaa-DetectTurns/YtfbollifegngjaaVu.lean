import Derived.Test.YtfbollifegngjaaVq
import Derived.Test.YtfbollifegngjaaVr
namespace Go.Proofs.Ytfbollifegngjaa.Oe
open Go.ChangeShapes Go.WideShapes Go.ChangeAt Go.RowKit Dt
set_option linter.unusedVariables false
set_option linter.unusedSimpArgs false
section
variable {H : Type} {enc : TypeId × Value → H} {W : World}
theorem cOs : Try.prog.cellsOf 29 = 1 := by kernel_rfl
theorem cO : Try.prog.cellsOf 58 = 5 := by kernel_rfl
theorem bO : Try.prog.bytesOf 58 = 56 := by kernel_rfl
theorem cRn : Try.prog.cellsOf 31 = 7 := by kernel_rfl
theorem open_ops {fuel : Nat} {v : Value} {x : DataW H × List MemPlace} (h : DataW.trod enc Try.prog W 0 (fun _ => true) true fuel 29 [v] = some x) (hw : Wt x.1 29) : ∃ a n c os, v = .slice a n c ∧ RdOps W a n os ∧ n ≤ 2513169434916 := by
  rcases slice_parts Try.underlying29 cO (by decide) h hw with rfl | ⟨ad, len, cap, n, D, Pl, rfl, hb, hel⟩
  · exact ⟨none, 0, 0, (fun _ => o0), rfl, ⟨.inl rfl, fun i hi => by omega⟩, by omega⟩
  · rw [bO] at hb
    have each : ∀ i, ∃ o : Opx, i < len → (∀ j, j < 5 → W.cell? (ad.add (i * 5 + j)) = o.cs[j]?) ∧ OpIn W o := by
      intro i
      by_cases hi : i < len
      · obtain ⟨hwD, cs', hl, hcell, htr⟩ := hel i hi
        obtain ⟨c0, c1, c2, c3, c4, rfl⟩ := list5 hl
        obtain ⟨xs, n', hxl, hF, hWf⟩ := struct_parts Try.underlying58 htr hwD
        obtain ⟨y0, y1, y2, y3, y4, rfl⟩ := list5 hxl
        have h0 : DataW.trod enc Try.prog W 0 (fun _ => true) true n' 3 [c0] = some y0 := by simpa [cI] using hF 0 _ rfl
        have h1 : DataW.trod enc Try.prog W 0 (fun _ => true) true n' 3 [c1] = some y1 := by simpa [cI] using hF 1 _ rfl
        have h2 : DataW.trod enc Try.prog W 0 (fun _ => true) true n' 3 [c2] = some y2 := by simpa [cI] using hF 2 _ rfl
        have h3 : DataW.trod enc Try.prog W 0 (fun _ => true) true n' 3 [c3] = some y3 := by simpa [cI] using hF 3 _ rfl
        have h4 : DataW.trod enc Try.prog W 0 (fun _ => true) true n' 25 [c4] = some y4 := by simpa [cIs] using hF 4 _ rfl
        obtain ⟨v0, rfl, _⟩ := open_i h0
        obtain ⟨v1, rfl, _⟩ := open_i h1
        obtain ⟨v2, rfl, _⟩ := open_i h2
        obtain ⟨v3, rfl, _⟩ := open_i h3
        obtain ⟨a2, m2, c2', zs, rfl, ho2⟩ := open_is h4 (hWf 4 _ y4 rfl rfl)
        have hm2 := ho2.2
        refine ⟨⟨v0, v1, v2, v3, a2, m2, c2', zs⟩, fun _ => ⟨fun j hj => ?_, ho2.1, by show m2 ≤ _; omega⟩⟩
        rw [hcell j hj]
        simp [Opx.cs]
      · exact ⟨o0, fun h => absurd h hi⟩
    obtain ⟨f, hf⟩ := Classical.axiomOfChoice each
    refine ⟨some ad, len, cap, f, rfl, ⟨?_, fun i hi => (hf i hi).2⟩, by unfold reachBytes at hb; omega⟩
    by_cases h0 : len = 0
    · exact .inl h0
    · obtain ⟨b, off, rfl⟩ := ad_plain (v := .int .i64 (f 0).k) (by have h9 := (hf 0 (by omega)).1 0 (by decide); simp only [Nat.zero_mul, Nat.zero_add] at h9; exact h9)
      refine .inr ⟨b, off, rfl, fun i hi j hj => ?_⟩
      have := (hf i hi).1 j hj
      rw [Addr.add_lit] at this
      exact this
theorem run_parts {n : Nat} {c0 c1 c2 c3 c4 c5 c6 : Value} {x : DataW H × List MemPlace} (hf : DataW.trod enc Try.prog W 0 (fun _ => true) true n 31 [c0, c1, c2, c3, c4, c5, c6] = some x) (hw : Wt x.1 31) : ∃ v0 v1 v2 v3 v4 v5 oa on oc os, c0 = .int .i64 v0 ∧ c1 = .int .i64 v1 ∧ c2 = .int .i64 v2 ∧ c3 = .int .i64 v3 ∧ c4 = .int .i64 v4 ∧ c5 = .int .i64 v5 ∧ c6 = .slice oa on oc ∧ RdOps W oa on os ∧ on ≤ 2513169434916 ∧ v0 ≤ 9223372036854775807 := by
  obtain ⟨xs, n, hxl, hF, hWf⟩ := struct_parts Try.underlying31 hf hw
  obtain ⟨y0, y1, y2, y3, y4, y5, y6, rfl⟩ := list7 hxl
  have h0 : DataW.trod enc Try.prog W 0 (fun _ => true) true n 3 [c0] = some y0 := by simpa [Value.cells, cI, cOs] using hF 0 _ rfl
  have h1 : DataW.trod enc Try.prog W 0 (fun _ => true) true n 3 [c1] = some y1 := by simpa [Value.cells, cI, cOs] using hF 1 _ rfl
  have h2 : DataW.trod enc Try.prog W 0 (fun _ => true) true n 3 [c2] = some y2 := by simpa [Value.cells, cI, cOs] using hF 2 _ rfl
  have h3 : DataW.trod enc Try.prog W 0 (fun _ => true) true n 3 [c3] = some y3 := by simpa [Value.cells, cI, cOs] using hF 3 _ rfl
  have h4 : DataW.trod enc Try.prog W 0 (fun _ => true) true n 3 [c4] = some y4 := by simpa [Value.cells, cI, cOs] using hF 4 _ rfl
  have h5 : DataW.trod enc Try.prog W 0 (fun _ => true) true n 3 [c5] = some y5 := by simpa [Value.cells, cI, cOs] using hF 5 _ rfl
  have h6 : DataW.trod enc Try.prog W 0 (fun _ => true) true n 29 [c6] = some y6 := by simpa [Value.cells, cI, cOs] using hF 6 _ rfl
  obtain ⟨v0, rfl, _, hv0⟩ := open_i h0
  obtain ⟨v1, rfl, _⟩ := open_i h1
  obtain ⟨v2, rfl, _⟩ := open_i h2
  obtain ⟨v3, rfl, _⟩ := open_i h3
  obtain ⟨v4, rfl, _⟩ := open_i h4
  obtain ⟨v5, rfl, _⟩ := open_i h5
  obtain ⟨a, m, c, os, rfl, ho, hn⟩ := open_ops h6 (hWf 6 _ y6 rfl rfl)
  exact ⟨v0, v1, v2, v3, v4, v5, a, m, c, os, rfl, rfl, rfl, rfl, rfl, rfl, rfl, ho, hn, hv0⟩
set_option maxRecDepth 100000 in
theorem open_run {base : Nat} {v : Value} {d : DataW H} {p : List MemPlace} (hok : Value.okWide Try.prog W .any base 31 v) (h : DataW.Trod enc Try.prog W 0 (fun _ => true) true 31 v d p) (hw : Wt d 31) : ∃ v0 v1 v2 v3 v4 v5 oa on oc os, v = .agg (rc v0 v1 v2 v3 v4 v5 oa on oc) ∧ RdOps W oa on os ∧ on ≤ 2513169434916 ∧ v0 ≤ 9223372036854775807 := by
  obtain ⟨cs, rfl, hsz⟩ := okWide_struct Try.underlying31 hok
  rw [cRn] at hsz
  obtain ⟨c0, c1, c2, c3, c4, c5, c6, hcs⟩ := list7 (show cs.toList.length = 7 by simpa using hsz)
  obtain rfl : cs = #[c0, c1, c2, c3, c4, c5, c6] := by
    apply Array.ext'
    rw [hcs]
  obtain ⟨fuel, hf⟩ := h
  obtain ⟨v0, v1, v2, v3, v4, v5, oa, on, oc, os, rfl, rfl, rfl, rfl, rfl, rfl, rfl, h1, h2, h3⟩ := run_parts (by simpa [Value.cells] using hf) hw
  exact ⟨v0, v1, v2, v3, v4, v5, oa, on, oc, os, rfl, h1, h2, h3⟩
end
end Go.Proofs.Ytfbollifegngjaa.Oe
