import Derived.Test.YtcieinejjkddfabPe
import Derived.Test.YtcieinejjkddfabPt2
namespace Go.Proofs.Ytcieinejjkddfab.Oe
open Go.ChangeShapes Go.WideShapes Go.ChangeAt Go.RowKit Qm Mb
set_option linter.unusedVariables false
set_option linter.unusedSimpArgs false
set_option maxRecDepth 100000
section
variable {H : Type} {enc : TypeId × Value → H} {W w w' : World}
theorem cM : Try.prog.cellsOf 115 = 3 := by kernel_rfl
theorem bM : Try.prog.bytesOf 115 = 24 := by kernel_rfl
theorem cMs : Try.prog.cellsOf 50 = 1 := by kernel_rfl
theorem cVid : Try.prog.cellsOf 49 = 4 := by kernel_rfl
theorem cVw : Try.prog.cellsOf 52 = 5 := by kernel_rfl
theorem cOp : Try.prog.cellsOf 54 = 6 := by kernel_rfl
theorem bOp : Try.prog.bytesOf 54 = 64 := by kernel_rfl
theorem cOps : Try.prog.cellsOf 40 = 1 := by kernel_rfl
theorem cWat : Try.prog.cellsOf 42 = 2 := by kernel_rfl
theorem list6 {α : Type} {l : List α} (h : l.length = 6) : ∃ c0 c1 c2 c3 c4 c5, l = [c0, c1, c2, c3, c4, c5] := by
  match l, h with
  | [c0, c1, c2, c3, c4, c5], _ => exact ⟨c0, c1, c2, c3, c4, c5, rfl⟩
theorem ad_plain {ad : Addr} {v : Value} (h : W.cell? ad = some v) : ∃ b off, ad = ⟨b, off, none⟩ := by
  obtain ⟨b, off, spot⟩ := ad
  have hspot : spot = none := World.cell?_spot h
  subst hspot
  exact ⟨b, off, rfl⟩
theorem open_mb {n : Nat} {c0 c1 c2 : Value} {x : DataW H × List MemPlace} (hf : DataW.trod enc Try.prog W 0 (fun _ => true) true n 115 [c0, c1, c2] = some x) (hw : Wt x.1 115) : ∃ t : St, c0 = .int .i64 t.p ∧ c1 = .int .i64 t.e ∧ c2 = .int .i64 t.l := by
  obtain ⟨xs, n, hxl, hF, hWf⟩ := struct_parts Try.underlying115 hf hw
  obtain ⟨y0, y1, y2, rfl⟩ := list3 hxl
  have h0 : DataW.trod enc Try.prog W 0 (fun _ => true) true n 3 [c0] = some y0 := by simpa [cI] using hF 0 _ rfl
  have h1 : DataW.trod enc Try.prog W 0 (fun _ => true) true n 3 [c1] = some y1 := by simpa [cI] using hF 1 _ rfl
  have h2 : DataW.trod enc Try.prog W 0 (fun _ => true) true n 3 [c2] = some y2 := by simpa [cI] using hF 2 _ rfl
  obtain ⟨a, rfl, _⟩ := open_i h0
  obtain ⟨b, rfl, _⟩ := open_i h1
  obtain ⟨c, rfl, _⟩ := open_i h2
  exact ⟨⟨a, b, c⟩, rfl, rfl, rfl⟩
theorem caps {t e : TypeId} {fuel : Nat} {v : Value} {x : DataW H × List MemPlace} (ht : Try.prog.underlying t = some (.slice e)) (h : DataW.trod enc Try.prog W 0 (fun _ => true) true fuel t [v] = some x) : ∀ a n c, v = .slice a n c → n ≤ c ∧ (a = none → c = 0) := by
  intro a' n' c' e
  rcases Deep.open_slice ht h with ⟨hcs, _⟩ | ⟨a1, len, cap, m, n1, D, Pl, hcs, _, hl, _⟩
  · rw [e] at hcs
    simp only [List.cons.injEq, and_true, Value.slice.injEq] at hcs
    exact ⟨by omega, fun _ => hcs.2.2⟩
  · rw [e] at hcs
    simp only [List.cons.injEq, and_true, Value.slice.injEq] at hcs
    exact ⟨by omega, fun h => by rw [h] at hcs; exact absurd hcs.1 (by simp)⟩
theorem open_mbs {fuel : Nat} {v : Value} {x : DataW H × List MemPlace} (h : DataW.trod enc Try.prog W 0 (fun _ => true) true fuel 50 [v] = some x) (hw : Wt x.1 50) : ∃ a n c ts, v = .slice a n c ∧ Rd3 W a n c ts ∧ n ≤ 5864062014634 := by
  have hcap := caps Try.underlying50 h
  rcases slice_parts Try.underlying50 cM (by decide) h hw with rfl | ⟨ad, len, cap, n, D, Pl, rfl, hb, hel⟩
  · exact ⟨none, 0, 0, [], rfl, ⟨rfl, Nat.le_refl _, fun _ => rfl, .inl rfl⟩, by omega⟩
  · rw [bM] at hb
    have each : ∀ i, ∃ t : St, i < len → ∀ j, j < 3 → W.cell? (ad.add (i * 3 + j)) = (ints t.li)[j]? := by
      intro i
      by_cases hi : i < len
      · obtain ⟨hwD, cs', hl, hcell, htr⟩ := hel i hi
        obtain ⟨c0, c1, c2, rfl⟩ := list3 hl
        obtain ⟨t, rfl, rfl, rfl⟩ := open_mb htr hwD
        exact ⟨t, fun _ j hj => (hcell j hj).trans rfl⟩
      · exact ⟨z3, fun h => absurd h hi⟩
    obtain ⟨f, hf⟩ := Classical.axiomOfChoice each
    have hgd : ∀ i, i < len → ((List.range len).map f).getD i z3 = f i := fun i hi => by simp [List.getD, hi]
    refine ⟨some ad, len, cap, (List.range len).map f, rfl, ⟨by simp, (hcap _ _ _ rfl).1, by simp, ?_⟩, by unfold reachBytes at hb; omega⟩
    by_cases h0 : len = 0
    · exact .inl h0
    · obtain ⟨b, off, rfl⟩ := ad_plain (v := .int .i64 (f 0).p) (W := W) (ad := ad) (by have h9 := hf 0 (by omega) 0 (by decide); simp only [Nat.zero_mul, Nat.zero_add] at h9; exact h9)
      refine .inr ⟨b, off, rfl, fun i hi j v hj => ?_⟩
      have hj3 : j < 3 := by
        have := (List.getElem?_eq_some_iff.1 hj).1
        rw [Mb.ints_len, St.li_len] at this
        exact this
      have := hf i hi j hj3
      rw [Addr.add_lit] at this
      rw [hgd i hi] at hj
      rw [Nat.add_assoc, this, hj]
theorem open_op {n : Nat} {c0 c1 c2 c3 c4 c5 : Value} {x : DataW H × List MemPlace} (hf : DataW.trod enc Try.prog W 0 (fun _ => true) true n 54 [c0, c1, c2, c3, c4, c5] = some x) (hw : Wt x.1 54) : ∃ o : Ow, [c0, c1, c2, c3, c4, c5] = o.cs ∧ Rd3 W o.mo o.mn o.mc o.v.ms ∧ o.mn ≤ 5864062014634 := by
  obtain ⟨xs, n1, hxl, hF, hWf⟩ := struct_parts Try.underlying54 hf hw
  obtain ⟨y0, y1, rfl⟩ := list2 hxl
  have h0 : DataW.trod enc Try.prog W 0 (fun _ => true) true n1 3 [c0] = some y0 := by simpa [cI] using hF 0 _ rfl
  have h1 : DataW.trod enc Try.prog W 0 (fun _ => true) true n1 52 [c1, c2, c3, c4, c5] = some y1 := by simpa [cVw] using hF 1 _ rfl
  obtain ⟨k, rfl, _⟩ := open_i h0
  obtain ⟨xs2, n2, hxl2, hF2, hWf2⟩ := struct_parts Try.underlying52 h1 (hWf 1 _ y1 rfl rfl)
  obtain ⟨z0, z1, rfl⟩ := list2 hxl2
  have g0 : DataW.trod enc Try.prog W 0 (fun _ => true) true n2 49 [c1, c2, c3, c4] = some z0 := by simpa [cVid] using hF2 0 _ rfl
  have g1 : DataW.trod enc Try.prog W 0 (fun _ => true) true n2 50 [c5] = some z1 := by simpa [cMs] using hF2 1 _ rfl
  obtain ⟨xs3, n3, hxl3, hF3, hWf3⟩ := struct_parts Try.underlying49 g0 (hWf2 0 _ z0 rfl rfl)
  obtain ⟨u0, u1, u2, u3, rfl⟩ := list4 hxl3
  have e0 : DataW.trod enc Try.prog W 0 (fun _ => true) true n3 3 [c1] = some u0 := by simpa [cI] using hF3 0 _ rfl
  have e1 : DataW.trod enc Try.prog W 0 (fun _ => true) true n3 3 [c2] = some u1 := by simpa [cI] using hF3 1 _ rfl
  have e2 : DataW.trod enc Try.prog W 0 (fun _ => true) true n3 3 [c3] = some u2 := by simpa [cI] using hF3 2 _ rfl
  have e3 : DataW.trod enc Try.prog W 0 (fun _ => true) true n3 3 [c4] = some u3 := by simpa [cI] using hF3 3 _ rfl
  obtain ⟨a, rfl, _⟩ := open_i e0
  obtain ⟨b, rfl, _⟩ := open_i e1
  obtain ⟨c, rfl, _⟩ := open_i e2
  obtain ⟨d, rfl, _⟩ := open_i e3
  obtain ⟨mo, mn, mc, ts, rfl, hr, hb⟩ := open_mbs g1 (hWf2 1 _ z1 rfl rfl)
  exact ⟨⟨k, ⟨a, b, c, d, ts⟩, mo, mn, mc⟩, rfl, hr, hb⟩
theorem open_ops {fuel : Nat} {v : Value} {x : DataW H × List MemPlace} (h : DataW.trod enc Try.prog W 0 (fun _ => true) true fuel 40 [v] = some x) (hw : Wt x.1 40) : ∃ (a : Option Addr) (m d : Nat) (f : Nat → Ow), v = .slice a m d ∧ RdOw W a m d f ∧ m ≤ 2299999999999 := by
  have hcap := caps Try.underlying40 h
  rcases slice_parts Try.underlying40 cOp (by decide) h hw with rfl | ⟨ad, len, cap, n, D, Pl, rfl, hb, hel⟩
  · exact ⟨none, 0, 0, fun _ => ⟨0, ⟨0, 0, 0, 0, []⟩, none, 0, 0⟩, rfl, ⟨Nat.le_refl _, .inl rfl, fun i hi => by omega⟩, by omega⟩
  · rw [bOp] at hb
    have each : ∀ i, ∃ o : Ow, i < len → (∀ j, j < 6 → W.cell? (ad.add (i * 6 + j)) = o.cs[j]?) ∧ Rd3 W o.mo o.mn o.mc o.v.ms ∧ o.mn ≤ 5864062014634 := by
      intro i
      by_cases hi : i < len
      · obtain ⟨hwD, cs', hl, hcell, htr⟩ := hel i hi
        obtain ⟨c0, c1, c2, c3, c4, c5, rfl⟩ := list6 hl
        obtain ⟨o, ho, hr, hm⟩ := open_op htr hwD
        exact ⟨o, fun _ => ⟨fun j hj => by rw [← ho]; exact hcell j hj, hr, hm⟩⟩
      · exact ⟨⟨0, ⟨0, 0, 0, 0, []⟩, none, 0, 0⟩, fun h => absurd h hi⟩
    obtain ⟨f, hf⟩ := Classical.axiomOfChoice each
    refine ⟨some ad, len, cap, f, rfl, ⟨(hcap _ _ _ rfl).1, ?_, fun i hi => (hf i hi).2⟩, by unfold reachBytes at hb; omega⟩
    by_cases h0 : len = 0
    · exact .inl h0
    · obtain ⟨b, off, rfl⟩ := ad_plain (v := .int .i64 (f 0).k) (W := W) (ad := ad) (by have h9 := (hf 0 (by omega)).1 0 (by decide); simp only [Nat.zero_mul, Nat.zero_add] at h9; exact h9)
      refine .inr ⟨b, off, rfl, fun i hi j v hj => ?_⟩
      have hj6 : j < 6 := (List.getElem?_eq_some_iff.1 hj).1
      have := (hf i hi).1 j hj6
      rw [Addr.add_lit] at this
      rw [Nat.add_assoc, this, hj]
structure Wat where
  ao : Option Addr
  n : Nat
  c : Nat
  xs : List Int
  oo : Option Addr
  m : Nat
  d : Nat
  f : Nat → Ow
structure Wat.Rd (X : Wat) (W : World) : Prop where
  r : RdI W X.ao X.n X.c X.xs
  n : X.n ≤ 17592186043904
  o : RdOw W X.oo X.m X.d X.f
  m : X.m ≤ 2299999999999
def Wat.val (X : Wat) : Value := .agg #[.slice X.ao X.n X.c, .slice X.oo X.m X.d]
theorem arg_wat {base : Nat} {v : Value} {d : DataW H} {p : List MemPlace} (hok : Value.okWide Try.prog W .any base 42 v) (h : DataW.Trod enc Try.prog W 0 (fun _ => true) true 42 v d p) (hw : Wt d 42) : ∃ X : Wat, v = X.val ∧ X.Rd W := by
  obtain ⟨cs, rfl, hsz⟩ := okWide_struct Try.underlying42 hok
  rw [cWat] at hsz
  obtain ⟨c0, c1, hcs⟩ := list2 (show cs.toList.length = 2 by simpa using hsz)
  obtain rfl : cs = #[c0, c1] := by
    apply Array.ext'
    rw [hcs]
  obtain ⟨fuel, hf⟩ := h
  obtain ⟨xs, n, hxl, hF, hWf⟩ := struct_parts Try.underlying42 (cs := [c0, c1]) (by simpa [Value.cells] using hf) hw
  obtain ⟨y0, y1, rfl⟩ := list2 hxl
  have h0 : DataW.trod enc Try.prog W 0 (fun _ => true) true n 22 [c0] = some y0 := by simpa [Value.cells, cI, cIs, cOps] using hF 0 _ rfl
  have h1 : DataW.trod enc Try.prog W 0 (fun _ => true) true n 40 [c1] = some y1 := by simpa [Value.cells, cI, cIs, cOps] using hF 1 _ rfl
  obtain ⟨a, m, c, zs, rfl, hr, hm, _⟩ := open_is h0 (hWf 0 _ y0 rfl rfl)
  obtain ⟨a2, m2, d2, f, rfl, hr2, hm2⟩ := open_ops h1 (hWf 1 _ y1 rfl rfl)
  exact ⟨⟨a, m, c, zs, a2, m2, d2, f⟩, rfl, hr, hm, hr2, hm2⟩
theorem watch_wat {X : Wat} (h : X.Rd W) : Calls Try.prog 5 #[X.val] W fun e w' => e = .returned (.bool true) ∧ Below W.heap.size W w' := watch_law h.r h.n h.o h.m
end
end Go.Proofs.Ytcieinejjkddfab.Oe
