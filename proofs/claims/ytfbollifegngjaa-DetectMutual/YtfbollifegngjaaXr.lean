import Derived.Test.YtfbollifegngjaaXq
import Derived.Test.YtfbollifegngjaaVq
namespace Go.Proofs.Ytfbollifegngjaa.Dt
open Go.RowKit
set_option linter.unusedVariables false
set_option maxRecDepth 100000
set_option linter.unusedSimpArgs false
section
variable {w w' W V : World} {B m : Nat}
theorem began_q (s : Nat) (hs : s < 2) (inc base step lim : Int) : Calls Try.prog 5 #[.agg (rc 2 (s : Int) inc base step lim none 0 0)] w fun e w' => ∃ q : Option Addr, e = .returned (.tuple #[.pointer q, .bool true]) ∧ Below w.heap.size w w' ∧ (newOk 2 (s : Int) inc base step lim = false → q = none) ∧ (newOk 2 (s : Int) inc base step lim = true → ∃ b, q = some ⟨b, 0, none⟩) := by
  cases h : newOk 2 (s : Int) inc base step lim with
  | false => exact (began_no 2 (s : Int) inc base step lim none 0 0 h).mono fun e w' ⟨h1, h2⟩ => ⟨none, h1, h2, fun _ => rfl, fun h => by cases h⟩
  | true => exact (began_new 2 s inc base step lim none 0 h).mono fun e w' ⟨D, h1, h2, _⟩ => ⟨_, h1, h2, fun h => (by cases h), fun _ => ⟨D.b, rfl⟩⟩
set_option maxHeartbeats 4000000 in
theorem mutual_no (i0 i1 base step lim : Int) (oa : Option Addr) (on oc : Nat) (h : newOk 2 0 i0 base step lim = false ∨ newOk 2 1 i1 base step lim = false) : Calls Try.prog 3 #[.agg (tk i0 i1 base step lim oa on oc)] w fun e w' => e = .returned (.bool true) ∧ Below w.heap.size w w' := by
  generalize hW : w.alloc (.cells (tk i0 i1 base step lim oa on oc) 24) = W
  have hbW : Below w.heap.size w W := by rw [← hW]; exact balloc (Below.refl _ w)
  have hblk : W.heap[w.heap.size]? = some (.cells (tk i0 i1 base step lim oa on oc) 24 (0, 0)) := by rw [← hW]; exact heap_alloc_new w _
  obtain ⟨c0, c1, c2, c3, c4, c5⟩ := tk_cells hblk
  generalize hI : W.alloc (.cells #[.int .i64 i0, .int .i64 i1] 3) = I
  have hbI : Below W.heap.size W I := by rw [← hI]; exact balloc (Below.refl _ W)
  have hblkI := (hbI.block _ (lt_heap hblk)).trans hblk
  obtain ⟨d0, d1, d2, d3, d4, d5⟩ := tk_cells hblkI
  have HA : Hid (∀ w1, Calls Try.prog 5 #[.agg (rc 2 0 i0 base step lim none 0 0)] w1 fun e w' => ∃ q : Option Addr, e = .returned (.tuple #[.pointer q, .bool true]) ∧ Below w1.heap.size w1 w' ∧ (newOk 2 0 i0 base step lim = false → q = none) ∧ (newOk 2 0 i0 base step lim = true → ∃ b, q = some ⟨b, 0, none⟩)) := fun w1 => began_q 0 (by omega) i0 base step lim
  have HB : Hid (∀ w1, Calls Try.prog 5 #[.agg (rc 2 1 i1 base step lim none 0 0)] w1 fun e w' => ∃ q : Option Addr, e = .returned (.tuple #[.pointer q, .bool true]) ∧ Below w1.heap.size w1 w' ∧ (newOk 2 1 i1 base step lim = false → q = none) ∧ (newOk 2 1 i1 base step lim = true → ∃ b, q = some ⟨b, 0, none⟩)) := fun w1 => began_q 1 (by omega) i1 base step lim
  have HbI : Hid (Below w.heap.size w I) := bstep hbW hbI
  have HkT : Hid (I.heap[w.heap.size]? = some (.cells (tk i0 i1 base step lim oa on oc) 24 (0, 0))) := hblkI
  have H : Hid (newOk 2 0 i0 base step lim = false ∨ newOk 2 1 i1 base step lim = false) := h
  unfold tk at hW ⊢
  unfold rc at HA HB
  clear hbW hblk hbI hblkI h
  go_enter Try.func3, Try.ntmps3
  go_wp2_with (fail)
  refine (HA.out _).mono ?_
  rintro e w1 ⟨q, rfl, hb1, hq1, hq2⟩
  have Hq : Hid ((newOk 2 0 i0 base step lim = false → q = none) ∧ (newOk 2 0 i0 base step lim = true → ∃ b, q = some ⟨b, 0, none⟩)) := ⟨hq1, hq2⟩
  obtain ⟨e0, e1, e2, e3, e4, e5⟩ := tk_cells ((hb1.block _ (lt_heap HkT.out)).trans HkT.out)
  have Hb1 : Hid (Below w.heap.size w w1) := bstep HbI.out hb1
  clear hb1 hq1 hq2 c0 c1 c2 c3 c4 c5 d0 d1 d2 d3 d4 d5
  go_wp2_with (fail)
  refine (HB.out _).mono ?_
  rintro e w2 ⟨r, rfl, hb2, hr1, hr2⟩
  have Hr : Hid (newOk 2 1 i1 base step lim = false → r = none) := hr1
  have Hb2 : Hid (Below w.heap.size w w2) := bstep Hb1.out hb2
  clear hb2 hr1 hr2 e0 e1 e2 e3 e4 e5
  cases hn : newOk 2 0 i0 base step lim with
  | false =>
    obtain rfl := Hq.out.1 hn
    clear hn
    go_wp2_with (fail)
    go_ret
    exact ⟨rfl, Hb2.out⟩
  | true =>
    obtain ⟨b, rfl⟩ := Hq.out.2 hn
    obtain rfl := Hr.out (H.out.resolve_left (by rw [hn]; decide))
    clear hn
    go_wp2_with (fail)
    go_ret
    exact ⟨rfl, Hb2.out⟩
theorem mutual_any (i0 i1 base step lim : Int) (oa : Option Addr) (on oc : Nat) (os : Nat → Sx) (hro : RdSays w oa on os) (hoc : on ≤ oc) : Calls Try.prog 3 #[.agg (tk i0 i1 base step lim oa on oc)] w fun e w' => e = .returned (.bool true) ∧ Below w.heap.size w w' := by
  cases ha : newOk 2 0 i0 base step lim with
  | false => exact mutual_no i0 i1 base step lim oa on oc (.inl ha)
  | true =>
    cases hb : newOk 2 1 i1 base step lim with
    | false => exact mutual_no i0 i1 base step lim oa on oc (.inr hb)
    | true => exact mutual_ok i0 i1 base step lim oa on oc os hro hoc ha hb
end
end Go.Proofs.Ytfbollifegngjaa.Dt
namespace Go.Proofs.Ytfbollifegngjaa.Oe
open Go.ChangeShapes Go.WideShapes Go.ChangeAt Go.RowKit Dt
set_option linter.unusedVariables false
set_option linter.unusedSimpArgs false
section
variable {H : Type} {enc : TypeId × Value → H} {W : World}
theorem slice_parts2 {t e : TypeId} {fuel k : Nat} {v : Value} {x : DataW H × List MemPlace} (ht : Try.prog.underlying t = some (.slice e)) (hc : Try.prog.cellsOf e = k) (h : DataW.trod enc Try.prog W 0 (fun _ => true) true fuel t [v] = some x) :
    v = .slice none 0 0 ∨ ∃ (ad : Addr) (len cap n : Nat) (D : Nat → DataW H) (Pl : Nat → List MemPlace), v = .slice (some ad) len cap ∧ len ≤ cap ∧ ∀ i, i < len → ∃ cs', cs'.length = k ∧ (∀ j, j < k → W.cell? (ad.add (i * k + j)) = cs'[j]?) ∧ DataW.trod enc Try.prog W 0 (fun _ => true) true n e cs' = some (D i, Pl i) := by
  rcases Deep.open_slice ht h with ⟨hcs, _⟩ | ⟨a, len, cap, m, n, D, Pl, hcs, _, hl, _, hm, hx, hel⟩
  · simp only [List.cons.injEq, and_true] at hcs
    exact .inl hcs
  · simp only [List.cons.injEq, and_true] at hcs
    simp only [if_true] at hm
    refine .inr ⟨a, len, cap, n, D, Pl, hcs, hl, fun i hi => ?_⟩
    obtain ⟨cs', h1, h2⟩ := hel i (by omega)
    rw [hc] at h1
    obtain ⟨_, hlen, hcell⟩ := World.cells?_some h1
    refine ⟨cs', hlen, fun j hj => ?_, h2⟩
    have := hcell j (by omega)
    rw [Addr.add_add] at this
    exact this
theorem cSay : Try.prog.cellsOf 36 = 3 := by kernel_rfl
theorem cSays : Try.prog.cellsOf 22 = 1 := by kernel_rfl
theorem cTalk : Try.prog.cellsOf 24 = 6 := by kernel_rfl
theorem open_says {fuel : Nat} {v : Value} {x : DataW H × List MemPlace} (h : DataW.trod enc Try.prog W 0 (fun _ => true) true fuel 22 [v] = some x) : ∃ a n c os, v = .slice a n c ∧ RdSays W a n os ∧ n ≤ c := by
  rcases slice_parts2 Try.underlying22 cSay h with rfl | ⟨ad, len, cap, n, D, Pl, rfl, hl, hel⟩
  · exact ⟨none, 0, 0, (fun _ => ⟨0, 0, 0⟩), rfl, .inl rfl, Nat.le_refl _⟩
  · have each : ∀ i, ∃ o : Sx, i < len → ∀ j, j < 3 → W.cell? (ad.add (i * 3 + j)) = o.cs[j]? := by
      intro i
      by_cases hi : i < len
      · obtain ⟨cs', hl, hcell, htr⟩ := hel i hi
        obtain ⟨c0, c1, c2, rfl⟩ := list3 hl
        obtain ⟨xs, n', _, hx, _, hxl, hF⟩ := DataW.trod_struct Try.underlying36 htr
        obtain ⟨y0, y1, y2, rfl⟩ := list3 hxl
        have h0 : DataW.trod enc Try.prog W 0 (fun _ => true) true n' 3 [c0] = some y0 := by simpa [cI] using hF 0 _ rfl
        have h1 : DataW.trod enc Try.prog W 0 (fun _ => true) true n' 3 [c1] = some y1 := by simpa [cI] using hF 1 _ rfl
        have h2 : DataW.trod enc Try.prog W 0 (fun _ => true) true n' 3 [c2] = some y2 := by simpa [cI] using hF 2 _ rfl
        obtain ⟨v0, rfl, _⟩ := open_i h0
        obtain ⟨v1, rfl, _⟩ := open_i h1
        obtain ⟨v2, rfl, _⟩ := open_i h2
        refine ⟨⟨v0, v1, v2⟩, fun _ j hj => ?_⟩
        rw [hcell j hj]
        simp [Sx.cs]
      · exact ⟨⟨0, 0, 0⟩, fun h => absurd h hi⟩
    obtain ⟨f, hf⟩ := Classical.axiomOfChoice each
    refine ⟨some ad, len, cap, f, rfl, ?_, hl⟩
    by_cases h0 : len = 0
    · exact .inl h0
    · obtain ⟨b, off, rfl⟩ := ad_plain (v := .int .i64 (f 0).k) (by have h9 := hf 0 (by omega) 0 (by decide); simp only [Nat.zero_mul, Nat.zero_add] at h9; exact h9)
      refine .inr ⟨b, off, rfl, fun i hi j hj => ?_⟩
      have := hf i hi j hj
      rw [Addr.add_lit] at this
      exact this
set_option maxRecDepth 100000 in
theorem open_talk {base : Nat} {v : Value} {d : DataW H} {p : List MemPlace} (hok : Value.okWide Try.prog W .any base 24 v) (h : DataW.Trod enc Try.prog W 0 (fun _ => true) true 24 v d p) : ∃ v0 v1 v2 v3 v4 oa on oc os, v = .agg (tk v0 v1 v2 v3 v4 oa on oc) ∧ RdSays W oa on os ∧ on ≤ oc := by
  obtain ⟨cs, rfl, hsz⟩ := okWide_struct Try.underlying24 hok
  rw [cTalk] at hsz
  obtain ⟨c0, c1, c2, c3, c4, c5, hcs⟩ := list6 (show cs.toList.length = 6 by simpa using hsz)
  obtain rfl : cs = #[c0, c1, c2, c3, c4, c5] := by
    apply Array.ext'
    rw [hcs]
  obtain ⟨fuel, hf⟩ := h
  have hf' : DataW.trod enc Try.prog W 0 (fun _ => true) true fuel 24 [c0, c1, c2, c3, c4, c5] = some (d, p) := by simpa [Value.cells] using hf
  obtain ⟨xs, n, _, hx, _, hxl, hF⟩ := DataW.trod_struct Try.underlying24 hf'
  obtain ⟨y0, y1, y2, y3, y4, y5, rfl⟩ := list6 hxl
  have h0 : DataW.trod enc Try.prog W 0 (fun _ => true) true n 3 [c0] = some y0 := by simpa [Value.cells, cI, cSays] using hF 0 _ rfl
  have h1 : DataW.trod enc Try.prog W 0 (fun _ => true) true n 3 [c1] = some y1 := by simpa [Value.cells, cI, cSays] using hF 1 _ rfl
  have h2 : DataW.trod enc Try.prog W 0 (fun _ => true) true n 3 [c2] = some y2 := by simpa [Value.cells, cI, cSays] using hF 2 _ rfl
  have h3 : DataW.trod enc Try.prog W 0 (fun _ => true) true n 3 [c3] = some y3 := by simpa [Value.cells, cI, cSays] using hF 3 _ rfl
  have h4 : DataW.trod enc Try.prog W 0 (fun _ => true) true n 3 [c4] = some y4 := by simpa [Value.cells, cI, cSays] using hF 4 _ rfl
  have h5 : DataW.trod enc Try.prog W 0 (fun _ => true) true n 22 [c5] = some y5 := by simpa [Value.cells, cI, cSays] using hF 5 _ rfl
  obtain ⟨v0, rfl, _⟩ := open_i h0
  obtain ⟨v1, rfl, _⟩ := open_i h1
  obtain ⟨v2, rfl, _⟩ := open_i h2
  obtain ⟨v3, rfl, _⟩ := open_i h3
  obtain ⟨v4, rfl, _⟩ := open_i h4
  obtain ⟨a, m, c, os, rfl, ho, hn⟩ := open_says h5
  exact ⟨v0, v1, v2, v3, v4, a, m, c, os, rfl, ho, hn⟩
end
end Go.Proofs.Ytfbollifegngjaa.Oe
