import Derived.Test.YtcieinejjkddfaaPe
import Derived.Test.YtcieinejjkddfaaPw
namespace Go.Proofs.Ytcieinejjkddfaa.Oe
open Go.ChangeShapes Go.WideShapes Go.ChangeAt Go.RowKit Qm Mb
set_option linter.unusedVariables false
set_option linter.unusedSimpArgs false
set_option maxRecDepth 100000
section
variable {H : Type} {enc : TypeId × Value → H} {W w w' : World}
theorem cS : Try.prog.cellsOf 30 = 3 := by kernel_rfl
theorem bS : Try.prog.bytesOf 30 = 24 := by kernel_rfl
theorem ad_plain {ad : Addr} {v : Value} (h : W.cell? ad = some v) : ∃ b off, ad = ⟨b, off, none⟩ := by
  obtain ⟨b, off, spot⟩ := ad
  have hspot : spot = none := World.cell?_spot h
  subst hspot
  exact ⟨b, off, rfl⟩
theorem open_st {n : Nat} {c0 c1 c2 : Value} {x : DataW H × List MemPlace} (hf : DataW.trod enc Try.prog W 0 (fun _ => true) true n 30 [c0, c1, c2] = some x) (hw : Wt x.1 30) : ∃ t : St, c0 = .int .i64 t.p ∧ c1 = .int .i64 t.e ∧ c2 = .int .i64 t.l := by
  obtain ⟨xs, n, hxl, hF, hWf⟩ := struct_parts Try.underlying30 hf hw
  obtain ⟨y0, y1, y2, rfl⟩ := list3 hxl
  have h0 : DataW.trod enc Try.prog W 0 (fun _ => true) true n 3 [c0] = some y0 := by simpa [cI] using hF 0 _ rfl
  have h1 : DataW.trod enc Try.prog W 0 (fun _ => true) true n 3 [c1] = some y1 := by simpa [cI] using hF 1 _ rfl
  have h2 : DataW.trod enc Try.prog W 0 (fun _ => true) true n 3 [c2] = some y2 := by simpa [cI] using hF 2 _ rfl
  obtain ⟨a, rfl, _⟩ := open_i h0
  obtain ⟨b, rfl, _⟩ := open_i h1
  obtain ⟨c, rfl, _⟩ := open_i h2
  exact ⟨⟨a, b, c⟩, rfl, rfl, rfl⟩
theorem open_sts {fuel : Nat} {v : Value} {x : DataW H × List MemPlace} (h : DataW.trod enc Try.prog W 0 (fun _ => true) true fuel 22 [v] = some x) (hw : Wt x.1 22) (hcap : ∀ a n c, v = .slice a n c → n ≤ c ∧ (a = none → c = 0)) : ∃ a n c ts, v = .slice a n c ∧ Rd3 W a n c ts ∧ n ≤ 5864062014634 := by
  rcases slice_parts Try.underlying22 cS (by decide) h hw with rfl | ⟨ad, len, cap, n, D, Pl, rfl, hb, hel⟩
  · exact ⟨none, 0, 0, [], rfl, ⟨rfl, Nat.le_refl _, fun _ => rfl, .inl rfl⟩, by omega⟩
  · rw [bS] at hb
    have each : ∀ i, ∃ t : St, i < len → ∀ j, j < 3 → W.cell? (ad.add (i * 3 + j)) = (ints t.li)[j]? := by
      intro i
      by_cases hi : i < len
      · obtain ⟨hwD, cs', hl, hcell, htr⟩ := hel i hi
        obtain ⟨c0, c1, c2, rfl⟩ := list3 hl
        obtain ⟨t, rfl, rfl, rfl⟩ := open_st htr hwD
        exact ⟨t, fun _ j hj => (hcell j hj).trans rfl⟩
      · exact ⟨z3, fun h => absurd h hi⟩
    obtain ⟨f, hf⟩ := Classical.axiomOfChoice each
    have hgd : ∀ i, i < len → ((List.range len).map f).getD i z3 = f i := fun i hi => by simp [List.getD, hi]
    refine ⟨some ad, len, cap, (List.range len).map f, rfl, ⟨by simp, (hcap _ _ _ rfl).1, by simp, ?_⟩, by unfold reachBytes at hb; omega⟩
    by_cases h0 : len = 0
    · exact .inl h0
    · obtain ⟨b, off, rfl⟩ := ad_plain (v := .int .i64 (f 0).p) (W := W) (ad := ad) (by have h9 := hf 0 (by omega) 0 (by decide); simp only [Nat.zero_mul, Nat.zero_add] at h9; exact h9)
      refine .inr ⟨b, off, rfl, fun i hi j v hj => ?_⟩
      have hj3 : j < 3 := by
        have := (List.getElem?_eq_some_iff.1 hj).1
        rw [Mb.ints_len, St.li_len] at this
        exact this
      have := hf i hi j hj3
      rw [Addr.add_lit] at this
      rw [hgd i hi] at hj
      rw [Nat.add_assoc, this, hj]
theorem arg_sts {base : Nat} {v : Value} {d : DataW H} {p : List MemPlace} (hok : Value.okWide Try.prog W .any base 22 v) (h : DataW.Trod enc Try.prog W 0 (fun _ => true) true 22 v d p) (hw : Wt d 22) : ∃ a n c ts, v = .slice a n c ∧ Rd3 W a n c ts ∧ n ≤ 5864062014634 := by
  obtain ⟨a, n, c, rfl⟩ := okWide_slice Try.underlying22 hok
  obtain ⟨fuel, hf⟩ := h
  have hf2 : DataW.trod enc Try.prog W 0 (fun _ => true) true fuel 22 [.slice a n c] = some (d, p) := by simpa [Value.cells] using hf
  refine open_sts hf2 hw ?_
  intro a' n' c' e
  rcases Deep.open_slice Try.underlying22 hf2 with ⟨hcs, _⟩ | ⟨a1, len, cap, m, n1, D, Pl, hcs, _, hl, _⟩
  · rw [e] at hcs
    simp only [List.cons.injEq, and_true, Value.slice.injEq] at hcs
    exact ⟨by omega, fun _ => hcs.2.2⟩
  · rw [e] at hcs
    simp only [List.cons.injEq, and_true, Value.slice.injEq] at hcs
    exact ⟨by omega, fun h => by rw [h] at hcs; exact absurd hcs.1 (by simp)⟩
end
end Go.Proofs.Ytcieinejjkddfaa.Oe
