import Derived.Test.YtihcaopcfhbofaaX52
import Derived.Test.YtihcaopcfhbofaaX50
namespace Go.Proofs.Ytihcaopcfhbofaa.Of
open Go.ChangeShapes Go.WideShapes Go.ChangeAt Go.RowKit Mb Fm
set_option linter.unusedVariables false
set_option linter.unusedSimpArgs false
set_option maxRecDepth 100000
section
variable {H : Type} {enc : TypeId × Value → H} {W : World}
open Fm in
theorem open_cin {base : Nat} {v : Value} {d : DataW H} {p : List MemPlace} (hv : Value.okWide Try.prog W .any base 31 v) (h : DataW.Trod enc Try.prog W 0 (fun _ => true) true 31 v d p) (hw : Sm d) : ∃ (k : Ca) (who : List Int) (ds : List Dx), v = .agg k.cs.toArray ∧ Fm.Cin k who ds W := by
  obtain ⟨cs, rfl, hsz⟩ := okWide_struct Try.underlying31 hv
  rw [cCa] at hsz
  obtain ⟨l⟩ := cs
  obtain ⟨c0, c1, c2, c3, c4, c5, c6, c7, c8, c9, c10, c11, c12, rfl⟩ := list13 hsz
  obtain ⟨fuel, hf⟩ := h
  obtain ⟨xs, m, hxl, hF, hS⟩ := struct_parts Try.underlying31 hf hw
  obtain ⟨y0, y1, y2, y3, y4, y5, y6, rfl⟩ := list7 hxl
  have h0 : DataW.trod enc Try.prog W 0 (fun _ => true) true m 22 [c0] = some y0 := by simpa [Value.cells, cFs] using hF 0 _ rfl
  have h1 : DataW.trod enc Try.prog W 0 (fun _ => true) true m 28 [c1, c2, c3, c4, c5, c6, c7] = some y1 := by simpa [Value.cells, cF] using hF 1 _ rfl
  have h2 : DataW.trod enc Try.prog W 0 (fun _ => true) true m 3 [c8] = some y2 := by simpa [Value.cells, cI] using hF 2 _ rfl
  have h3 : DataW.trod enc Try.prog W 0 (fun _ => true) true m 26 [c9] = some y3 := by simpa [Value.cells, cIs] using hF 3 _ rfl
  have h4 : DataW.trod enc Try.prog W 0 (fun _ => true) true m 3 [c10] = some y4 := by simpa [Value.cells, cI] using hF 4 _ rfl
  have h5 : DataW.trod enc Try.prog W 0 (fun _ => true) true m 3 [c11] = some y5 := by simpa [Value.cells, cI] using hF 5 _ rfl
  have h6 : DataW.trod enc Try.prog W 0 (fun _ => true) true m 29 [c12] = some y6 := by simpa [Value.cells, cDs] using hF 6 _ rfl
  obtain ⟨ao, fs, cp, rfl, r1, r2, r3⟩ := open_flushes h0 (hS 0 _ rfl)
  obtain ⟨f, hfc, hin⟩ := open_flush h1 (hS 1 _ rfl)
  obtain ⟨dn, rfl, _⟩ := open_i h2
  obtain ⟨wa, who, wc, rfl, s1, s2, s3⟩ := open_ints h3 (hS 3 _ rfl)
  obtain ⟨se, rfl, _⟩ := open_i h4
  obtain ⟨qq, rfl, _⟩ := open_i h5
  obtain ⟨ma, ds, mc, rfl, t1, t2, t3⟩ := open_datas h6 (hS 6 _ rfl)
  simp only [Fl.cs, List.cons.injEq, and_true] at hfc
  obtain ⟨rfl, rfl, rfl, rfl, rfl, rfl, rfl⟩ := hfc
  have hcp : fs.length ≤ cp ∧ cp ≤ 9223372036854775807 ∧ (ao = none → fs.length = 0 ∧ cp = 0) := by
    rcases DataW.trod_slice Try.underlying22 h0 with ⟨e, _⟩ | ⟨a9, l9, c9, _, _, _, _, e, _, _, hl9, hc9, _⟩
    · simp only [List.cons.injEq, Value.slice.injEq, and_true] at e
      obtain ⟨e1, e2, e3⟩ := e
      exact ⟨by omega, by omega, fun _ => ⟨e2, e3⟩⟩
    · simp only [List.cons.injEq, Value.slice.injEq, and_true] at e
      obtain ⟨e1, e2, e3⟩ := e
      subst e2 e3
      unfold maxLen at hc9
      exact ⟨hl9, by omega, fun e9 => by rw [e1] at e9; cases e9⟩
  exact ⟨⟨ao, cp, fs, f, dn, wa, who.length, wc, se, qq, ma, ds.length, mc⟩, who, ds, rfl, ⟨r1, r3, r2, ⟨hcp.1, hcp.2.1⟩, hcp.2.2, hin, s1, rfl, s2, s3, t1, rfl, t2, t3⟩⟩
end
end Go.Proofs.Ytihcaopcfhbofaa.Of
