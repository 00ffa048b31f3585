import Derived.Test.YtbjpbcanmpimnabOq1
namespace Go.Proofs.Ytbjpbcanmpimnab.Oq
open Go.ChangeShapes Go.WideShapes Go.ChangeAt Go.RowKit Lo
set_option linter.unusedVariables false
set_option linter.unusedSimpArgs false

section
variable {H : Type} {enc : TypeId × Value → H} {W : World}

theorem ad_spot {x : Addr} {j : Nat} {v : Value} (h : W.cell? (x.add j) = some v) : x.spot = none ∨ x.spot ≠ none := by
  exact Classical.em _

theorem ad_plain {x : Addr} {v : Value} (h : W.cell? (x.add 0) = some v) : ∃ b off, x = ⟨b, off, none⟩ := by
  obtain ⟨b, off, spot⟩ := x
  have hspot : spot = none := by simpa [Addr.add] using World.cell?_spot h
  subst hspot
  exact ⟨b, off, rfl⟩

theorem open_ss {fuel : Nat} {v : Value} {x : DataW H × List MemPlace} (h : DataW.trod enc Try.prog W 0 (fun _ => true) true fuel 59 [v] = some x) (hw : Wt x.1 59) : ∃ a n c sl, v = .slice a n c ∧ OS W a n c sl := by
  rcases slice_parts Try.underlying59 cS (by decide) h hw with rfl | ⟨ad, len, cap, n, D, Pl, rfl, hb, hel⟩
  · exact ⟨none, 0, 0, [], rfl, ⟨rfl, .inl rfl⟩, fun _ => ⟨rfl, rfl⟩, by omega⟩
  · rw [bS] at hb
    have each : ∀ i, ∃ p : Int × Int, i < len → W.cell? (ad.add (i * 2)) = some (.int .i64 p.1) ∧ W.cell? (ad.add (i * 2 + 1)) = some (.int .i64 p.2) := by
      intro i
      by_cases hi : i < len
      · obtain ⟨hwD, cs', hl, hcell, htr⟩ := hel i hi
        obtain ⟨c0, c1, rfl⟩ := list2 hl
        obtain ⟨xs, n', hxl, hF, hWf⟩ := struct_parts Try.underlying26 htr hwD
        obtain ⟨y0, y1, rfl⟩ := list2 hxl
        have h0 : DataW.trod enc Try.prog W 0 (fun _ => true) true n' 3 [c0] = some y0 := by simpa [cI] using hF 0 _ rfl
        have h1 : DataW.trod enc Try.prog W 0 (fun _ => true) true n' 3 [c1] = some y1 := by simpa [cI] using hF 1 _ rfl
        obtain ⟨v0, rfl⟩ := open_i h0
        obtain ⟨v1, rfl⟩ := open_i h1
        exact ⟨(v0, v1), fun _ => ⟨by simpa using hcell 0 (by decide), by simpa using hcell 1 (by decide)⟩⟩
      · exact ⟨(0, 0), fun h => absurd h hi⟩
    obtain ⟨f, hf⟩ := Classical.axiomOfChoice each
    refine ⟨some ad, len, cap, (List.range len).map f, rfl, ⟨by simp, ?_⟩, by simp, by unfold reachBytes at hb; omega⟩
    by_cases h0 : len = 0
    · exact .inl h0
    · obtain ⟨b, off, rfl⟩ := ad_plain (by simpa using (hf 0 (by omega)).1)
      refine .inr ⟨b, off, rfl, fun i hi => ?_⟩
      have := hf i hi
      rw [Addr.add_lit, Addr.add_lit] at this
      have e : ((List.range len).map f).getD i (0, 0) = f i := by simp [List.getD, hi]
      rw [e]
      exact ⟨this.1, by rw [Nat.add_assoc]; exact this.2⟩

theorem open_ds {fuel : Nat} {v : Value} {x : DataW H × List MemPlace} (h : DataW.trod enc Try.prog W 0 (fun _ => true) true fuel 68 [v] = some x) (hw : Wt x.1 68) : ∃ a n c ds bb, v = .slice a n c ∧ OD W a n c ds bb := by
  rcases slice_parts Try.underlying68 cD (by decide) h hw with rfl | ⟨ad, len, cap, n, D, Pl, rfl, hb, hel⟩
  · exact ⟨none, 0, 0, [], [], rfl, ⟨rfl, .inl rfl⟩, fun i hi => by omega, by omega⟩
  · rw [bD] at hb
    have each : ∀ i, ∃ p : Dt × List Int, i < len → (W.cell? (ad.add (i * 4)) = some (.int .i64 p.1.s) ∧ W.cell? (ad.add (i * 4 + 1)) = some (.int .i64 p.1.q) ∧ W.cell? (ad.add (i * 4 + 2)) = some (.int .i64 p.1.st) ∧ W.cell? (ad.add (i * 4 + 3)) = some (.slice p.1.a p.1.n p.1.c)) ∧ OB W p.1.a p.1.n p.1.c p.2 := by
      intro i
      by_cases hi : i < len
      · obtain ⟨hwD, cs', hl, hcell, htr⟩ := hel i hi
        obtain ⟨c0, c1, c2, c3, rfl⟩ := list4 hl
        obtain ⟨xs, n', hxl, hF, hWf⟩ := struct_parts Try.underlying24 htr hwD
        obtain ⟨y0, y1, y2, y3, rfl⟩ := list4 hxl
        have h0 : DataW.trod enc Try.prog W 0 (fun _ => true) true n' 3 [c0] = some y0 := by simpa [cI] using hF 0 _ rfl
        have h1 : DataW.trod enc Try.prog W 0 (fun _ => true) true n' 3 [c1] = some y1 := by simpa [cI] using hF 1 _ rfl
        have h2 : DataW.trod enc Try.prog W 0 (fun _ => true) true n' 3 [c2] = some y2 := by simpa [cI] using hF 2 _ rfl
        have h3 : DataW.trod enc Try.prog W 0 (fun _ => true) true n' 22 [c3] = some y3 := by simpa [cB] using hF 3 _ rfl
        obtain ⟨v0, rfl⟩ := open_i h0
        obtain ⟨v1, rfl⟩ := open_i h1
        obtain ⟨v2, rfl⟩ := open_i h2
        obtain ⟨a, m, c, bs, rfl, ho⟩ := open_bs h3 (hWf 3 _ y3 rfl rfl)
        exact ⟨(⟨v0, v1, v2, a, m, c⟩, bs), fun _ => ⟨⟨by simpa using hcell 0 (by decide), by simpa using hcell 1 (by decide), by simpa using hcell 2 (by decide), by simpa using hcell 3 (by decide)⟩, ho⟩⟩
      · exact ⟨(dt0, []), fun h => absurd h hi⟩
    obtain ⟨f, hf⟩ := Classical.axiomOfChoice each
    refine ⟨some ad, len, cap, (List.range len).map fun i => (f i).1, (List.range len).map fun i => (f i).2, rfl, ⟨by simp, ?_⟩, fun i hi => ?_, by unfold reachBytes at hb; omega⟩
    · by_cases h0 : len = 0
      · exact .inl h0
      · obtain ⟨b, off, rfl⟩ := ad_plain (by simpa using (hf 0 (by omega)).1.1)
        refine .inr ⟨b, off, rfl, fun i hi => ?_⟩
        have := (hf i hi).1
        simp only [Addr.add_lit] at this
        have e : ((List.range len).map fun i => (f i).1).getD i dt0 = (f i).1 := by simp [List.getD, hi]
        rw [e]
        simp only [Nat.add_assoc] at this ⊢
        exact this
    · have e : ((List.range len).map fun i => (f i).1).getD i dt0 = (f i).1 := by simp [List.getD, hi]
      have e2 : ((List.range len).map fun i => (f i).2).getD i [] = (f i).2 := by simp [List.getD, hi]
      rw [e, e2]
      exact (hf i hi).2

theorem list3 {α : Type} {l : List α} (h : l.length = 3) : ∃ c0 c1 c2, l = [c0, c1, c2] := by
  match l, h with
  | [c0, c1, c2], _ => exact ⟨c0, c1, c2, rfl⟩
theorem list5 {α : Type} {l : List α} (h : l.length = 5) : ∃ c0 c1 c2 c3 c4, l = [c0, c1, c2, c3, c4] := by
  match l, h with
  | [c0, c1, c2, c3, c4], _ => exact ⟨c0, c1, c2, c3, c4, rfl⟩
theorem list6 {α : Type} {l : List α} (h : l.length = 6) : ∃ c0 c1 c2 c3 c4 c5, l = [c0, c1, c2, c3, c4, c5] := by
  match l, h with
  | [c0, c1, c2, c3, c4, c5], _ => exact ⟨c0, c1, c2, c3, c4, c5, rfl⟩
theorem list8 {α : Type} {l : List α} (h : l.length = 8) : ∃ c0 c1 c2 c3 c4 c5 c6 c7, l = [c0, c1, c2, c3, c4, c5, c6, c7] := by
  match l, h with
  | [c0, c1, c2, c3, c4, c5, c6, c7], _ => exact ⟨c0, c1, c2, c3, c4, c5, c6, c7, rfl⟩

theorem open_view {fuel : Nat} {c0 c1 c2 c3 : Value} {x : DataW H × List MemPlace} (h : DataW.trod enc Try.prog W 0 (fun _ => true) true fuel 56 [c0, c1, c2, c3] = some x) (hw : Wt x.1 56) : ∃ e l i c, c0 = .int .i64 e ∧ c1 = .int .i64 l ∧ c2 = .int .i64 i ∧ c3 = .int .i64 c := by
  obtain ⟨xs, n, hxl, hF, hWf⟩ := struct_parts Try.underlying56 h hw
  obtain ⟨y0, y1, y2, y3, rfl⟩ := list4 hxl
  have h0 : DataW.trod enc Try.prog W 0 (fun _ => true) true n 3 [c0] = some y0 := by simpa [cI] using hF 0 _ rfl
  have h1 : DataW.trod enc Try.prog W 0 (fun _ => true) true n 3 [c1] = some y1 := by simpa [cI] using hF 1 _ rfl
  have h2 : DataW.trod enc Try.prog W 0 (fun _ => true) true n 3 [c2] = some y2 := by simpa [cI] using hF 2 _ rfl
  have h3 : DataW.trod enc Try.prog W 0 (fun _ => true) true n 3 [c3] = some y3 := by simpa [cI] using hF 3 _ rfl
  obtain ⟨v0, rfl⟩ := open_i h0
  obtain ⟨v1, rfl⟩ := open_i h1
  obtain ⟨v2, rfl⟩ := open_i h2
  obtain ⟨v3, rfl⟩ := open_i h3
  exact ⟨v0, v1, v2, v3, rfl, rfl, rfl, rfl⟩

theorem open_head {fuel : Nat} {c0 c1 c2 c3 c4 : Value} {x : DataW H × List MemPlace} (h : DataW.trod enc Try.prog W 0 (fun _ => true) true fuel 51 [c0, c1, c2, c3, c4] = some x) (hw : Wt x.1 51) :
    ∃ (k : Int) (src : Int) (si : Int) (dst : Int) (di : Int), c0 = .int .i64 k ∧ c1 = .int .i64 src ∧ c2 = .int .i64 si ∧ c3 = .int .i64 dst ∧ c4 = .int .i64 di := by
  obtain ⟨xs, n, hxl, hF, hWf⟩ := struct_parts Try.underlying51 h hw
  obtain ⟨y0, y1, y2, y3, y4, rfl⟩ := list5 hxl
  have h0 : DataW.trod enc Try.prog W 0 (fun _ => true) true n 3 [c0] = some y0 := by simpa [cI, cV, cIs, cB, cSs, cDs] using hF 0 _ rfl
  obtain ⟨k, rfl⟩ := open_i h0
  have h1 : DataW.trod enc Try.prog W 0 (fun _ => true) true n 3 [c1] = some y1 := by simpa [cI, cV, cIs, cB, cSs, cDs] using hF 1 _ rfl
  obtain ⟨src, rfl⟩ := open_i h1
  have h2 : DataW.trod enc Try.prog W 0 (fun _ => true) true n 3 [c2] = some y2 := by simpa [cI, cV, cIs, cB, cSs, cDs] using hF 2 _ rfl
  obtain ⟨si, rfl⟩ := open_i h2
  have h3 : DataW.trod enc Try.prog W 0 (fun _ => true) true n 3 [c3] = some y3 := by simpa [cI, cV, cIs, cB, cSs, cDs] using hF 3 _ rfl
  obtain ⟨dst, rfl⟩ := open_i h3
  have h4 : DataW.trod enc Try.prog W 0 (fun _ => true) true n 3 [c4] = some y4 := by simpa [cI, cV, cIs, cB, cSs, cDs] using hF 4 _ rfl
  obtain ⟨di, rfl⟩ := open_i h4
  exact ⟨k, src, si, dst, di, rfl, rfl, rfl, rfl, rfl⟩

theorem open_beat {fuel : Nat} {c0 c1 : Value} {x : DataW H × List MemPlace} (h : DataW.trod enc Try.prog W 0 (fun _ => true) true fuel 54 [c0, c1] = some x) (hw : Wt x.1 54) :
    ∃ (bt : Int) (hA : Option Addr) (hN : Nat) (hC : Nat) (hx : List Int), c0 = .int .i64 bt ∧ c1 = .slice hA hN hC ∧ OI W hA hN hC hx := by
  obtain ⟨xs, n, hxl, hF, hWf⟩ := struct_parts Try.underlying54 h hw
  obtain ⟨y0, y1, rfl⟩ := list2 hxl
  have h0 : DataW.trod enc Try.prog W 0 (fun _ => true) true n 3 [c0] = some y0 := by simpa [cI, cV, cIs, cB, cSs, cDs] using hF 0 _ rfl
  obtain ⟨bt, rfl⟩ := open_i h0
  have h1 : DataW.trod enc Try.prog W 0 (fun _ => true) true n 52 [c1] = some y1 := by simpa [cI, cV, cIs, cB, cSs, cDs] using hF 1 _ rfl
  obtain ⟨hA, hN, hC, hx, rfl, o1⟩ := open_is h1 (hWf 1 _ y1 rfl rfl)
  exact ⟨bt, hA, hN, hC, hx, rfl, rfl, o1⟩

theorem open_propose {fuel : Nat} {c0 c1 c2 c3 c4 c5 c6 c7 c8 : Value} {x : DataW H × List MemPlace} (h : DataW.trod enc Try.prog W 0 (fun _ => true) true fuel 58 [c0, c1, c2, c3, c4, c5, c6, c7, c8] = some x) (hw : Wt x.1 58) :
    ∃ (psA : Option Addr) (psN : Nat) (psC : Nat) (psx : List Int) (pd : Int) (pr : Int) (pt : Int) (pe : Int) (pl : Int) (pi : Int) (pc : Int) (pvA : Option Addr) (pvN : Nat) (pvC : Nat) (pvx : List Int), c0 = .slice psA psN psC ∧ c1 = .int .i64 pd ∧ c2 = .int .i64 pr ∧ c3 = .int .i64 pt ∧ c4 = .int .i64 pe ∧ c5 = .int .i64 pl ∧ c6 = .int .i64 pi ∧ c7 = .int .i64 pc ∧ c8 = .slice pvA pvN pvC ∧ OI W psA psN psC psx ∧ OI W pvA pvN pvC pvx := by
  obtain ⟨xs, n, hxl, hF, hWf⟩ := struct_parts Try.underlying58 h hw
  obtain ⟨y0, y1, y2, y3, y4, y5, rfl⟩ := list6 hxl
  have h0 : DataW.trod enc Try.prog W 0 (fun _ => true) true n 52 [c0] = some y0 := by simpa [cI, cV, cIs, cB, cSs, cDs] using hF 0 _ rfl
  obtain ⟨psA, psN, psC, psx, rfl, o0⟩ := open_is h0 (hWf 0 _ y0 rfl rfl)
  have h1 : DataW.trod enc Try.prog W 0 (fun _ => true) true n 3 [c1] = some y1 := by simpa [cI, cV, cIs, cB, cSs, cDs] using hF 1 _ rfl
  obtain ⟨pd, rfl⟩ := open_i h1
  have h2 : DataW.trod enc Try.prog W 0 (fun _ => true) true n 3 [c2] = some y2 := by simpa [cI, cV, cIs, cB, cSs, cDs] using hF 2 _ rfl
  obtain ⟨pr, rfl⟩ := open_i h2
  have h3 : DataW.trod enc Try.prog W 0 (fun _ => true) true n 3 [c3] = some y3 := by simpa [cI, cV, cIs, cB, cSs, cDs] using hF 3 _ rfl
  obtain ⟨pt, rfl⟩ := open_i h3
  have h4 : DataW.trod enc Try.prog W 0 (fun _ => true) true n 56 [c4, c5, c6, c7] = some y4 := by simpa [cI, cV, cIs, cB, cSs, cDs] using hF 4 _ rfl
  obtain ⟨pe, pl, pi, pc, rfl, rfl, rfl, rfl⟩ := open_view h4 (hWf 4 _ y4 rfl rfl)
  have h5 : DataW.trod enc Try.prog W 0 (fun _ => true) true n 52 [c8] = some y5 := by simpa [cI, cV, cIs, cB, cSs, cDs] using hF 5 _ rfl
  obtain ⟨pvA, pvN, pvC, pvx, rfl, o5⟩ := open_is h5 (hWf 5 _ y5 rfl rfl)
  exact ⟨psA, psN, psC, psx, pd, pr, pt, pe, pl, pi, pc, pvA, pvN, pvC, pvx, rfl, rfl, rfl, rfl, rfl, rfl, rfl, rfl, rfl, o0, o5⟩

theorem open_flush {fuel : Nat} {c0 c1 c2 c3 c4 c5 c6 : Value} {x : DataW H × List MemPlace} (h : DataW.trod enc Try.prog W 0 (fun _ => true) true fuel 61 [c0, c1, c2, c3, c4, c5, c6] = some x) (hw : Wt x.1 61) :
    ∃ (fe : Int) (fl : Int) (fi : Int) (fc : Int) (fb : Int) (fsA : Option Addr) (fsN : Nat) (fsC : Nat) (fsx : List (Int × Int)) (fhA : Option Addr) (fhN : Nat) (fhC : Nat) (fhx : List Int), c0 = .int .i64 fe ∧ c1 = .int .i64 fl ∧ c2 = .int .i64 fi ∧ c3 = .int .i64 fc ∧ c4 = .int .i64 fb ∧ c5 = .slice fsA fsN fsC ∧ c6 = .slice fhA fhN fhC ∧ OS W fsA fsN fsC fsx ∧ OI W fhA fhN fhC fhx := by
  obtain ⟨xs, n, hxl, hF, hWf⟩ := struct_parts Try.underlying61 h hw
  obtain ⟨y0, y1, y2, y3, rfl⟩ := list4 hxl
  have h0 : DataW.trod enc Try.prog W 0 (fun _ => true) true n 56 [c0, c1, c2, c3] = some y0 := by simpa [cI, cV, cIs, cB, cSs, cDs] using hF 0 _ rfl
  obtain ⟨fe, fl, fi, fc, rfl, rfl, rfl, rfl⟩ := open_view h0 (hWf 0 _ y0 rfl rfl)
  have h1 : DataW.trod enc Try.prog W 0 (fun _ => true) true n 3 [c4] = some y1 := by simpa [cI, cV, cIs, cB, cSs, cDs] using hF 1 _ rfl
  obtain ⟨fb, rfl⟩ := open_i h1
  have h2 : DataW.trod enc Try.prog W 0 (fun _ => true) true n 59 [c5] = some y2 := by simpa [cI, cV, cIs, cB, cSs, cDs] using hF 2 _ rfl
  obtain ⟨fsA, fsN, fsC, fsx, rfl, o2⟩ := open_ss h2 (hWf 2 _ y2 rfl rfl)
  have h3 : DataW.trod enc Try.prog W 0 (fun _ => true) true n 52 [c6] = some y3 := by simpa [cI, cV, cIs, cB, cSs, cDs] using hF 3 _ rfl
  obtain ⟨fhA, fhN, fhC, fhx, rfl, o3⟩ := open_is h3 (hWf 3 _ y3 rfl rfl)
  exact ⟨fe, fl, fi, fc, fb, fsA, fsN, fsC, fsx, fhA, fhN, fhC, fhx, rfl, rfl, rfl, rfl, rfl, rfl, rfl, o2, o3⟩

theorem open_stable {fuel : Nat} {c0 c1 c2 c3 c4 c5 : Value} {x : DataW H × List MemPlace} (h : DataW.trod enc Try.prog W 0 (fun _ => true) true fuel 63 [c0, c1, c2, c3, c4, c5] = some x) (hw : Wt x.1 63) :
    ∃ (ze : Int) (zl : Int) (zi : Int) (zc : Int) (sd : Int) (sp : Int), c0 = .int .i64 ze ∧ c1 = .int .i64 zl ∧ c2 = .int .i64 zi ∧ c3 = .int .i64 zc ∧ c4 = .int .i64 sd ∧ c5 = .int .i64 sp := by
  obtain ⟨xs, n, hxl, hF, hWf⟩ := struct_parts Try.underlying63 h hw
  obtain ⟨y0, y1, y2, rfl⟩ := list3 hxl
  have h0 : DataW.trod enc Try.prog W 0 (fun _ => true) true n 56 [c0, c1, c2, c3] = some y0 := by simpa [cI, cV, cIs, cB, cSs, cDs] using hF 0 _ rfl
  obtain ⟨ze, zl, zi, zc, rfl, rfl, rfl, rfl⟩ := open_view h0 (hWf 0 _ y0 rfl rfl)
  have h1 : DataW.trod enc Try.prog W 0 (fun _ => true) true n 3 [c4] = some y1 := by simpa [cI, cV, cIs, cB, cSs, cDs] using hF 1 _ rfl
  obtain ⟨sd, rfl⟩ := open_i h1
  have h2 : DataW.trod enc Try.prog W 0 (fun _ => true) true n 3 [c5] = some y2 := by simpa [cI, cV, cIs, cB, cSs, cDs] using hF 2 _ rfl
  obtain ⟨sp, rfl⟩ := open_i h2
  exact ⟨ze, zl, zi, zc, sd, sp, rfl, rfl, rfl, rfl, rfl, rfl⟩

theorem open_frame {fuel : Nat} {c0 c1 c2 c3 c4 c5 : Value} {x : DataW H × List MemPlace} (h : DataW.trod enc Try.prog W 0 (fun _ => true) true fuel 65 [c0, c1, c2, c3, c4, c5] = some x) (hw : Wt x.1 65) :
    ∃ (te : Int) (tl : Int) (ti : Int) (tc : Int) (ts : Int) (tbA : Option Addr) (tbN : Nat) (tbC : Nat) (tbx : List Int), c0 = .int .i64 te ∧ c1 = .int .i64 tl ∧ c2 = .int .i64 ti ∧ c3 = .int .i64 tc ∧ c4 = .int .i64 ts ∧ c5 = .slice tbA tbN tbC ∧ OB W tbA tbN tbC tbx := by
  obtain ⟨xs, n, hxl, hF, hWf⟩ := struct_parts Try.underlying65 h hw
  obtain ⟨y0, y1, y2, rfl⟩ := list3 hxl
  have h0 : DataW.trod enc Try.prog W 0 (fun _ => true) true n 56 [c0, c1, c2, c3] = some y0 := by simpa [cI, cV, cIs, cB, cSs, cDs] using hF 0 _ rfl
  obtain ⟨te, tl, ti, tc, rfl, rfl, rfl, rfl⟩ := open_view h0 (hWf 0 _ y0 rfl rfl)
  have h1 : DataW.trod enc Try.prog W 0 (fun _ => true) true n 3 [c4] = some y1 := by simpa [cI, cV, cIs, cB, cSs, cDs] using hF 1 _ rfl
  obtain ⟨ts, rfl⟩ := open_i h1
  have h2 : DataW.trod enc Try.prog W 0 (fun _ => true) true n 22 [c5] = some y2 := by simpa [cI, cV, cIs, cB, cSs, cDs] using hF 2 _ rfl
  obtain ⟨tbA, tbN, tbC, tbx, rfl, o2⟩ := open_bs h2 (hWf 2 _ y2 rfl rfl)
  exact ⟨te, tl, ti, tc, ts, tbA, tbN, tbC, tbx, rfl, rfl, rfl, rfl, rfl, rfl, o2⟩

theorem open_ack {fuel : Nat} {c0 c1 c2 c3 c4 : Value} {x : DataW H × List MemPlace} (h : DataW.trod enc Try.prog W 0 (fun _ => true) true fuel 67 [c0, c1, c2, c3, c4] = some x) (hw : Wt x.1 67) :
    ∃ (ae : Int) (al : Int) (ai : Int) (ac : Int) (au : Int), c0 = .int .i64 ae ∧ c1 = .int .i64 al ∧ c2 = .int .i64 ai ∧ c3 = .int .i64 ac ∧ c4 = .int .i64 au := by
  obtain ⟨xs, n, hxl, hF, hWf⟩ := struct_parts Try.underlying67 h hw
  obtain ⟨y0, y1, rfl⟩ := list2 hxl
  have h0 : DataW.trod enc Try.prog W 0 (fun _ => true) true n 56 [c0, c1, c2, c3] = some y0 := by simpa [cI, cV, cIs, cB, cSs, cDs] using hF 0 _ rfl
  obtain ⟨ae, al, ai, ac, rfl, rfl, rfl, rfl⟩ := open_view h0 (hWf 0 _ y0 rfl rfl)
  have h1 : DataW.trod enc Try.prog W 0 (fun _ => true) true n 3 [c4] = some y1 := by simpa [cI, cV, cIs, cB, cSs, cDs] using hF 1 _ rfl
  obtain ⟨au, rfl⟩ := open_i h1
  exact ⟨ae, al, ai, ac, au, rfl, rfl, rfl, rfl, rfl⟩

theorem open_forward {fuel : Nat} {c0 c1 c2 c3 c4 : Value} {x : DataW H × List MemPlace} (h : DataW.trod enc Try.prog W 0 (fun _ => true) true fuel 70 [c0, c1, c2, c3, c4] = some x) (hw : Wt x.1 70) :
    ∃ (we : Int) (wl : Int) (wi : Int) (wc : Int) (wmA : Option Addr) (wmN : Nat) (wmC : Nat) (wmx : List Dt) (wmy : List (List Int)), c0 = .int .i64 we ∧ c1 = .int .i64 wl ∧ c2 = .int .i64 wi ∧ c3 = .int .i64 wc ∧ c4 = .slice wmA wmN wmC ∧ OD W wmA wmN wmC wmx wmy := by
  obtain ⟨xs, n, hxl, hF, hWf⟩ := struct_parts Try.underlying70 h hw
  obtain ⟨y0, y1, rfl⟩ := list2 hxl
  have h0 : DataW.trod enc Try.prog W 0 (fun _ => true) true n 56 [c0, c1, c2, c3] = some y0 := by simpa [cI, cV, cIs, cB, cSs, cDs] using hF 0 _ rfl
  obtain ⟨we, wl, wi, wc, rfl, rfl, rfl, rfl⟩ := open_view h0 (hWf 0 _ y0 rfl rfl)
  have h1 : DataW.trod enc Try.prog W 0 (fun _ => true) true n 68 [c4] = some y1 := by simpa [cI, cV, cIs, cB, cSs, cDs] using hF 1 _ rfl
  obtain ⟨wmA, wmN, wmC, wmx, wmy, rfl, o1⟩ := open_ds h1 (hWf 1 _ y1 rfl rfl)
  exact ⟨we, wl, wi, wc, wmA, wmN, wmC, wmx, wmy, rfl, rfl, rfl, rfl, rfl, o1⟩

theorem cons_of {α : Type} {l : List α} {n : Nat} (h : l.length = n + 1) : ∃ a l', l = a :: l' ∧ l'.length = n := by
  cases l with
  | nil => simp at h
  | cons a l => exact ⟨a, l, rfl, by simpa using h⟩

theorem array45 {α : Type} {cs : Array α} (h : cs.size = 45) : ∃ c0 c1 c2 c3 c4 c5 c6 c7 c8 c9 c10 c11 c12 c13 c14 c15 c16 c17 c18 c19 c20 c21 c22 c23 c24 c25 c26 c27 c28 c29 c30 c31 c32 c33 c34 c35 c36 c37 c38 c39 c40 c41 c42 c43 c44, cs = #[c0, c1, c2, c3, c4, c5, c6, c7, c8, c9, c10, c11, c12, c13, c14, c15, c16, c17, c18, c19, c20, c21, c22, c23, c24, c25, c26, c27, c28, c29, c30, c31, c32, c33, c34, c35, c36, c37, c38, c39, c40, c41, c42, c43, c44] := by
  obtain ⟨l⟩ := cs
  have h0 : l.length = 45 := h
  obtain ⟨c0, l0, e0, h1⟩ := cons_of h0
  obtain ⟨c1, l1, e1, h2⟩ := cons_of h1
  obtain ⟨c2, l2, e2, h3⟩ := cons_of h2
  obtain ⟨c3, l3, e3, h4⟩ := cons_of h3
  obtain ⟨c4, l4, e4, h5⟩ := cons_of h4
  obtain ⟨c5, l5, e5, h6⟩ := cons_of h5
  obtain ⟨c6, l6, e6, h7⟩ := cons_of h6
  obtain ⟨c7, l7, e7, h8⟩ := cons_of h7
  obtain ⟨c8, l8, e8, h9⟩ := cons_of h8
  obtain ⟨c9, l9, e9, h10⟩ := cons_of h9
  obtain ⟨c10, l10, e10, h11⟩ := cons_of h10
  obtain ⟨c11, l11, e11, h12⟩ := cons_of h11
  obtain ⟨c12, l12, e12, h13⟩ := cons_of h12
  obtain ⟨c13, l13, e13, h14⟩ := cons_of h13
  obtain ⟨c14, l14, e14, h15⟩ := cons_of h14
  obtain ⟨c15, l15, e15, h16⟩ := cons_of h15
  obtain ⟨c16, l16, e16, h17⟩ := cons_of h16
  obtain ⟨c17, l17, e17, h18⟩ := cons_of h17
  obtain ⟨c18, l18, e18, h19⟩ := cons_of h18
  obtain ⟨c19, l19, e19, h20⟩ := cons_of h19
  obtain ⟨c20, l20, e20, h21⟩ := cons_of h20
  obtain ⟨c21, l21, e21, h22⟩ := cons_of h21
  obtain ⟨c22, l22, e22, h23⟩ := cons_of h22
  obtain ⟨c23, l23, e23, h24⟩ := cons_of h23
  obtain ⟨c24, l24, e24, h25⟩ := cons_of h24
  obtain ⟨c25, l25, e25, h26⟩ := cons_of h25
  obtain ⟨c26, l26, e26, h27⟩ := cons_of h26
  obtain ⟨c27, l27, e27, h28⟩ := cons_of h27
  obtain ⟨c28, l28, e28, h29⟩ := cons_of h28
  obtain ⟨c29, l29, e29, h30⟩ := cons_of h29
  obtain ⟨c30, l30, e30, h31⟩ := cons_of h30
  obtain ⟨c31, l31, e31, h32⟩ := cons_of h31
  obtain ⟨c32, l32, e32, h33⟩ := cons_of h32
  obtain ⟨c33, l33, e33, h34⟩ := cons_of h33
  obtain ⟨c34, l34, e34, h35⟩ := cons_of h34
  obtain ⟨c35, l35, e35, h36⟩ := cons_of h35
  obtain ⟨c36, l36, e36, h37⟩ := cons_of h36
  obtain ⟨c37, l37, e37, h38⟩ := cons_of h37
  obtain ⟨c38, l38, e38, h39⟩ := cons_of h38
  obtain ⟨c39, l39, e39, h40⟩ := cons_of h39
  obtain ⟨c40, l40, e40, h41⟩ := cons_of h40
  obtain ⟨c41, l41, e41, h42⟩ := cons_of h41
  obtain ⟨c42, l42, e42, h43⟩ := cons_of h42
  obtain ⟨c43, l43, e43, h44⟩ := cons_of h43
  obtain ⟨c44, l44, e44, h45⟩ := cons_of h44
  have e45 : l44 = [] := List.eq_nil_of_length_eq_zero h45
  subst e45
  subst e44
  subst e43
  subst e42
  subst e41
  subst e40
  subst e39
  subst e38
  subst e37
  subst e36
  subst e35
  subst e34
  subst e33
  subst e32
  subst e31
  subst e30
  subst e29
  subst e28
  subst e27
  subst e26
  subst e25
  subst e24
  subst e23
  subst e22
  subst e21
  subst e20
  subst e19
  subst e18
  subst e17
  subst e16
  subst e15
  subst e14
  subst e13
  subst e12
  subst e11
  subst e10
  subst e9
  subst e8
  subst e7
  subst e6
  subst e5
  subst e4
  subst e3
  subst e2
  subst e1
  subst e0
  exact ⟨c0, c1, c2, c3, c4, c5, c6, c7, c8, c9, c10, c11, c12, c13, c14, c15, c16, c17, c18, c19, c20, c21, c22, c23, c24, c25, c26, c27, c28, c29, c30, c31, c32, c33, c34, c35, c36, c37, c38, c39, c40, c41, c42, c43, c44, rfl⟩

set_option maxRecDepth 100000 in
set_option maxHeartbeats 2000000 in
theorem open_packet {base : Nat} {v : Value} {d : DataW H} {p : List MemPlace} (hv : Value.okWide Try.prog W .any base 72 v) (h : DataW.Trod enc Try.prog W 0 (fun _ => true) true 72 v d p) (hw : Wt d 72) :
    ∃ (P : Pk) (xs ss vs hs bs : List Int) (sl : List (Int × Int)) (ds : List Dt) (bb : List (List Int)), v = .agg P.cs ∧ OI W P.hA P.hN P.hC xs ∧ OI W P.psA P.psN P.psC ss ∧ OI W P.pvA P.pvN P.pvC vs ∧ OS W P.fsA P.fsN P.fsC sl ∧ OI W P.fhA P.fhN P.fhC hs ∧ OB W P.tbA P.tbN P.tbC bs ∧ OD W P.wmA P.wmN P.wmC ds bb := by
  obtain ⟨cs, rfl, hsz⟩ := okWide_struct Try.underlying72 hv
  rw [cPacket] at hsz
  obtain ⟨c0, c1, c2, c3, c4, c5, c6, c7, c8, c9, c10, c11, c12, c13, c14, c15, c16, c17, c18, c19, c20, c21, c22, c23, c24, c25, c26, c27, c28, c29, c30, c31, c32, c33, c34, c35, c36, c37, c38, c39, c40, c41, c42, c43, c44, rfl⟩ := array45 hsz
  obtain ⟨fuel, hf⟩ := h
  obtain ⟨xs, n, hxl, hF, hWf⟩ := struct_parts Try.underlying72 hf hw
  obtain ⟨y0, y1, y2, y3, y4, y5, y6, y7, rfl⟩ := list8 hxl
  have h0 : DataW.trod enc Try.prog W 0 (fun _ => true) true n 51 [c0, c1, c2, c3, c4] = some y0 := by simpa [Value.cells, cHead, cBeat, cPropose, cFlush, cStable, cFrame, cAck, cForward] using hF 0 _ rfl
  obtain ⟨k, src, si, dst, di, rfl, rfl, rfl, rfl, rfl⟩ := open_head h0 (hWf 0 _ y0 rfl rfl)
  have h1 : DataW.trod enc Try.prog W 0 (fun _ => true) true n 54 [c5, c6] = some y1 := by simpa [Value.cells, cHead, cBeat, cPropose, cFlush, cStable, cFrame, cAck, cForward] using hF 1 _ rfl
  obtain ⟨bt, hA, hN, hC, hx, rfl, rfl, q1_0⟩ := open_beat h1 (hWf 1 _ y1 rfl rfl)
  have h2 : DataW.trod enc Try.prog W 0 (fun _ => true) true n 58 [c7, c8, c9, c10, c11, c12, c13, c14, c15] = some y2 := by simpa [Value.cells, cHead, cBeat, cPropose, cFlush, cStable, cFrame, cAck, cForward] using hF 2 _ rfl
  obtain ⟨psA, psN, psC, psx, pd, pr, pt, pe, pl, pi, pc, pvA, pvN, pvC, pvx, rfl, rfl, rfl, rfl, rfl, rfl, rfl, rfl, rfl, q2_0, q2_1⟩ := open_propose h2 (hWf 2 _ y2 rfl rfl)
  have h3 : DataW.trod enc Try.prog W 0 (fun _ => true) true n 61 [c16, c17, c18, c19, c20, c21, c22] = some y3 := by simpa [Value.cells, cHead, cBeat, cPropose, cFlush, cStable, cFrame, cAck, cForward] using hF 3 _ rfl
  obtain ⟨fe, fl, fi, fc, fb, fsA, fsN, fsC, fsx, fhA, fhN, fhC, fhx, rfl, rfl, rfl, rfl, rfl, rfl, rfl, q3_0, q3_1⟩ := open_flush h3 (hWf 3 _ y3 rfl rfl)
  have h4 : DataW.trod enc Try.prog W 0 (fun _ => true) true n 63 [c23, c24, c25, c26, c27, c28] = some y4 := by simpa [Value.cells, cHead, cBeat, cPropose, cFlush, cStable, cFrame, cAck, cForward] using hF 4 _ rfl
  obtain ⟨ze, zl, zi, zc, sd, sp, rfl, rfl, rfl, rfl, rfl, rfl⟩ := open_stable h4 (hWf 4 _ y4 rfl rfl)
  have h5 : DataW.trod enc Try.prog W 0 (fun _ => true) true n 65 [c29, c30, c31, c32, c33, c34] = some y5 := by simpa [Value.cells, cHead, cBeat, cPropose, cFlush, cStable, cFrame, cAck, cForward] using hF 5 _ rfl
  obtain ⟨te, tl, ti, tc, ts, tbA, tbN, tbC, tbx, rfl, rfl, rfl, rfl, rfl, rfl, q5_0⟩ := open_frame h5 (hWf 5 _ y5 rfl rfl)
  have h6 : DataW.trod enc Try.prog W 0 (fun _ => true) true n 67 [c35, c36, c37, c38, c39] = some y6 := by simpa [Value.cells, cHead, cBeat, cPropose, cFlush, cStable, cFrame, cAck, cForward] using hF 6 _ rfl
  obtain ⟨ae, al, ai, ac, au, rfl, rfl, rfl, rfl, rfl⟩ := open_ack h6 (hWf 6 _ y6 rfl rfl)
  have h7 : DataW.trod enc Try.prog W 0 (fun _ => true) true n 70 [c40, c41, c42, c43, c44] = some y7 := by simpa [Value.cells, cHead, cBeat, cPropose, cFlush, cStable, cFrame, cAck, cForward] using hF 7 _ rfl
  obtain ⟨we, wl, wi, wc, wmA, wmN, wmC, wmx, wmy, rfl, rfl, rfl, rfl, rfl, q7_0⟩ := open_forward h7 (hWf 7 _ y7 rfl rfl)
  exact ⟨⟨k, src, si, dst, di, bt, hA, hN, hC, psA, psN, psC, pd, pr, pt, pe, pl, pi, pc, pvA, pvN, pvC, fe, fl, fi, fc, fb, fsA, fsN, fsC, fhA, fhN, fhC, ze, zl, zi, zc, sd, sp, te, tl, ti, tc, ts, tbA, tbN, tbC, ae, al, ai, ac, au, we, wl, wi, wc, wmA, wmN, wmC⟩, hx, psx, pvx, fhx, tbx, fsx, wmx, wmy, rfl, q1_0, q2_0, q2_1, q3_0, q3_1, q5_0, q7_0⟩

end
end Go.Proofs.Ytbjpbcanmpimnab.Oq
