import Derived.Test.YtbjpbcanmpimnabLoose
import Derived.SizedLaws
import Derived.WalkKit
import Derived.ProofKit
import Derived.OpenShut
import Derived.ShutString
import Derived.ChangeOld
import Derived.Below
namespace Go.Proofs.Ytbjpbcanmpimnab.Op
open Go.ChangeShapes Go.WideShapes Go.ChangeAt Go.RowKit
set_option linter.unusedVariables false

theorem own : ownKnob Try.prog.godebug = none := by kernel_rfl
theorem laidOut : laidOutB Try.prog = true := by kernel_rfl

def IsRow (k : IntKind) (w : World) (a : Option Addr) (len cap : Nat) (zs : List Int) : Prop :=
  (a = none ∧ len = 0 ∧ cap = 0 ∧ zs = []) ∨
  ∃ x, a = some x ∧ len ≤ cap ∧ cap ≤ maxLen ∧ zs.length = cap ∧ (∀ i, i < zs.length → w.cell? (x.add i) = some (.int k (zs.getD i 0))) ∧ ∀ n ∈ zs, (Lit.int k n).wf = true

theorem rd_of_row {w : World} {a0 : Option Addr} {len0 cap0 : Nat} {z0 : List Int} (w0 : IsRow .u8 w a0 len0 cap0 z0) : Lo.Rd w a0 (z0.take len0).length cap0 (z0.take len0) ∧ (z0.take len0).length = len0 := by
  rcases w0 with ⟨rfl, rfl, rfl, rfl⟩ | ⟨x, rfl, hl, hm, hz, hcell, hwz⟩
  · exact ⟨⟨rfl, fun _ => ⟨rfl, rfl⟩, .inl rfl, by simp⟩, rfl⟩
  · have hlen : (z0.take len0).length = len0 := by rw [List.length_take]; omega
    refine ⟨⟨rfl, by simp, ?_, ?_⟩, hlen⟩
    · by_cases h0 : len0 = 0
      · exact .inl (by omega)
      · obtain ⟨b, off, spot⟩ := x
        have hc := hcell 0 (by omega)
        have hspot : spot = none := by simpa [Addr.add] using World.cell?_spot hc
        subst hspot
        refine .inr ⟨b, off, rfl, fun i hi => ?_⟩
        have := hcell i (by omega)
        rw [Addr.add_lit] at this
        rw [this]
        have h1 : i < len0 := by omega
        simp [List.getD, h1]
    · intro i
      by_cases hi : i < (z0.take len0).length
      · have hmem : (z0.take len0).getD i 0 ∈ z0 := by
          have : (z0.take len0).getD i 0 ∈ z0.take len0 := by simp only [List.getD, List.getElem?_eq_getElem hi]; exact List.getElem_mem hi
          exact List.mem_of_mem_take this
        have := hwz _ hmem
        simpa [Lit.wf, IntKind.min, IntKind.max, IntKind.signed, IntKind.bits] using this
      · simp [List.getD, List.getElem?_eq_none (by omega : (z0.take len0).length ≤ i)]

theorem array9 {α : Type} {cs : Array α} (h : cs.size = 9) : ∃ c0 c1 c2 c3 c4 c5 c6 c7 c8, cs = #[c0, c1, c2, c3, c4, c5, c6, c7, c8] := by
  obtain ⟨l⟩ := cs
  match l, h with
  | [c0, c1, c2, c3, c4, c5, c6, c7, c8], _ => exact ⟨c0, c1, c2, c3, c4, c5, c6, c7, c8, rfl⟩

theorem list5 {α : Type} {l : List α} (h : l.length = 5) : ∃ c0 c1 c2 c3 c4, l = [c0, c1, c2, c3, c4] := by
  match l, h with
  | [c0, c1, c2, c3, c4], _ => exact ⟨c0, c1, c2, c3, c4, rfl⟩
theorem list4 {α : Type} {l : List α} (h : l.length = 4) : ∃ c0 c1 c2 c3, l = [c0, c1, c2, c3] := by
  match l, h with
  | [c0, c1, c2, c3], _ => exact ⟨c0, c1, c2, c3, rfl⟩
theorem list2 {α : Type} {l : List α} (h : l.length = 2) : ∃ c0 c1, l = [c0, c1] := by
  match l, h with
  | [c0, c1], _ => exact ⟨c0, c1, rfl⟩

theorem cells3 : Try.prog.cellsOf 3 = 1 := by kernel_rfl
theorem cells22 : Try.prog.cellsOf 22 = 1 := by kernel_rfl
theorem cells24 : Try.prog.cellsOf 24 = 4 := by kernel_rfl
theorem cells26 : Try.prog.cellsOf 26 = 2 := by kernel_rfl
theorem cells28 : Try.prog.cellsOf 28 = 9 := by kernel_rfl
theorem cells5 : Try.prog.cellsOf 5 = 1 := by kernel_rfl
theorem bytes5 : Try.prog.bytesOf 5 = 1 := by kernel_rfl

set_option maxRecDepth 100000 in
theorem open_item {H : Type} {enc : TypeId × Value → H} {W : World} {base : Nat} {v : Value} {d : DataW H} {p : List MemPlace} (hv : Value.okWide Try.prog W .any base 28 v) (h : DataW.Trod enc Try.prog W 0 (fun _ => true) true 28 v d p) :
    ∃ (k s q st : Int) (a : Option Addr) (len cap : Nat) (zs : List Int) (po st2 ss sq : Int), v = .agg #[.int .i64 k, .int .i64 s, .int .i64 q, .int .i64 st, .slice a len cap, .int .i64 po, .int .i64 st2, .int .i64 ss, .int .i64 sq] ∧ IsRow .u8 W a len cap zs ∧ (Lit.int .i64 po).wf = true ∧ ((d.weights Try.prog 28).all (· ≤ reachBytes) = true → cap ≤ 140737488351232) := by
  obtain ⟨cs, rfl, hsz⟩ := okWide_struct Try.underlying28 hv
  rw [cells28] at hsz
  obtain ⟨c0, c1, c2, c3, c4, c5, c6, c7, c8, rfl⟩ := array9 hsz
  obtain ⟨fuel, hf⟩ := h
  obtain ⟨xs, n, _, hx, _, hxl, hF⟩ := DataW.trod_struct Try.underlying28 hf
  obtain ⟨y0, y1, y2, y3, y4, rfl⟩ := list5 hxl
  have h0 : DataW.trod enc Try.prog W 0 (fun _ => true) true n 3 [c0] = some y0 := by simpa [Value.cells, cells3] using hF 0 _ rfl
  have h1 : DataW.trod enc Try.prog W 0 (fun _ => true) true n 24 [c1, c2, c3, c4] = some y1 := by simpa [Value.cells, cells24] using hF 1 _ rfl
  have h2 : DataW.trod enc Try.prog W 0 (fun _ => true) true n 3 [c5] = some y2 := by simpa [Value.cells, cells3] using hF 2 _ rfl
  have h3 : DataW.trod enc Try.prog W 0 (fun _ => true) true n 3 [c6] = some y3 := by simpa [Value.cells, cells3] using hF 3 _ rfl
  have h4 : DataW.trod enc Try.prog W 0 (fun _ => true) true n 26 [c7, c8] = some y4 := by simpa [Value.cells, cells26] using hF 4 _ rfl
  obtain ⟨k, e0, rfl, _⟩ := DataW.trod_int Try.underlying3 h0
  obtain ⟨po, e5, rfl, wpo⟩ := DataW.trod_int Try.underlying3 h2
  obtain ⟨st2, e6, rfl, _⟩ := DataW.trod_int Try.underlying3 h3
  obtain ⟨us, n1, _, hu, _, hul, hU⟩ := DataW.trod_struct Try.underlying24 h1
  obtain ⟨u0, u1, u2, u3, rfl⟩ := list4 hul
  have g0 : DataW.trod enc Try.prog W 0 (fun _ => true) true n1 3 [c1] = some u0 := by simpa [Value.cells, cells3] using hU 0 _ rfl
  have g1 : DataW.trod enc Try.prog W 0 (fun _ => true) true n1 3 [c2] = some u1 := by simpa [Value.cells, cells3] using hU 1 _ rfl
  have g2 : DataW.trod enc Try.prog W 0 (fun _ => true) true n1 3 [c3] = some u2 := by simpa [Value.cells, cells3] using hU 2 _ rfl
  have g3 : DataW.trod enc Try.prog W 0 (fun _ => true) true n1 22 [c4] = some u3 := by simpa [Value.cells, cells22] using hU 3 _ rfl
  obtain ⟨s, e1, rfl, _⟩ := DataW.trod_int Try.underlying3 g0
  obtain ⟨q, e2, rfl, _⟩ := DataW.trod_int Try.underlying3 g1
  obtain ⟨st, e3, rfl, _⟩ := DataW.trod_int Try.underlying3 g2
  obtain ⟨us', n2, _, hu', _, hul', hU'⟩ := DataW.trod_struct Try.underlying26 h4
  obtain ⟨u4, u5, rfl⟩ := list2 hul'
  have g4 : DataW.trod enc Try.prog W 0 (fun _ => true) true n2 3 [c7] = some u4 := by simpa [Value.cells, cells3] using hU' 0 _ rfl
  have g5 : DataW.trod enc Try.prog W 0 (fun _ => true) true n2 3 [c8] = some u5 := by simpa [Value.cells, cells3] using hU' 1 _ rfl
  obtain ⟨ss, e7, rfl, _⟩ := DataW.trod_int Try.underlying3 g4
  obtain ⟨sq, e8, rfl, _⟩ := DataW.trod_int Try.underlying3 g5
  simp only [List.cons.injEq, and_true] at e0 e1 e2 e3 e5 e6 e7 e8
  subst e0 e1 e2 e3 e5 e6 e7 e8
  rcases open_ints Try.underlying22 Try.underlying5 cells5 g3 with ⟨hcs, _⟩ | ⟨x, l, c, zs, hcs, _, hl, hm, hz, hx3, hcell, hwz⟩
  · simp only [List.cons.injEq, and_true] at hcs
    subst hcs
    exact ⟨k, s, q, st, none, 0, 0, [], po, st2, ss, sq, rfl, .inl ⟨rfl, rfl, rfl, rfl⟩, wpo, fun _ => Nat.zero_le _⟩
  · simp only [List.cons.injEq, and_true] at hcs
    subst hcs
    refine ⟨k, s, q, st, some x, l, c, zs, po, st2, ss, sq, rfl, .inr ⟨x, rfl, hl, hm, by simpa using hz, hcell, hwz⟩, wpo, fun hw => ?_⟩
    simp only [Prod.mk.injEq] at hx
    obtain ⟨rfl, _⟩ := hx
    have hmem : (((lits .u8 (zs.take l) : List (DataW H)).length + (lits .u8 (zs.drop l) : List (DataW H)).length) * Try.prog.bytesOf 5) ≤ reachBytes := by
      have := List.all_eq_true.1 hw (((lits .u8 (zs.take l) : List (DataW H)).length + (lits .u8 (zs.drop l) : List (DataW H)).length) * Try.prog.bytesOf 5) (by
        rw [hu, hu', hx3]
        simp [DataW.weights, DataW.weightsEach, Try.underlying28, Try.underlying24, Try.underlying22])
      simpa using this
    rw [bytes5] at hmem
    simp only [lits, List.length_map, List.length_take, List.length_drop, reachBytes] at hmem
    simp only [if_true] at hz
    omega

end Go.Proofs.Ytbjpbcanmpimnab.Op
