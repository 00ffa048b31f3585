import Derived.Test.YtfodkackfahldaaBna
import Derived.WalkKit
import Derived.ProofKit
import Derived.OpenShut
import Derived.ShutString
import Derived.ChangeOld
import Derived.Below
import Derived.Deep.Slices
import Derived.SizedLaws
namespace Go.Proofs.Ytfodkackfahldaa.Oq
open Go.ChangeShapes Go.WideShapes Go.ChangeAt Go.RowKit Lo
set_option linter.unusedVariables false
set_option linter.unusedSimpArgs false

section
variable {H : Type} {enc : TypeId × Value → H} {W : World}

def Wt (d : DataW H) (t : TypeId) : Prop := ∀ m ∈ d.weights Try.prog t, m ≤ reachBytes

theorem struct_parts {t : TypeId} {fs : Array Field} {fuel : Nat} {cs : List Value} {x : DataW H × List MemPlace} (ht : Try.prog.underlying t = some (.struct fs)) (h : DataW.trod enc Try.prog W 0 (fun _ => true) true fuel t cs = some x) (hw : Wt x.1 t) :
    ∃ (xs : List (DataW H × List MemPlace)) (n : Nat), xs.length = fs.size ∧ (∀ (i : Nat) (f : Field), fs[i]? = some f → DataW.trod enc Try.prog W 0 (fun _ => true) true n f.type ((cs.drop f.offset).take (Try.prog.cellsOf f.type)) = xs[i]?) ∧ ∀ (i : Nat) (f : Field) y, fs[i]? = some f → xs[i]? = some y → Wt y.1 f.type := by
  obtain ⟨xs, n, _, hx, _, hl, hF⟩ := DataW.trod_struct ht h
  refine ⟨xs, n, hl, hF, fun i f y hf hy m hm => hw m ?_⟩
  rw [hx]
  simp only [DataW.weights, ht]
  exact DataW.weights_mem_each (j := i) (by rw [List.getElem?_map, Array.getElem?_toList, hf]; rfl) (by rw [List.getElem?_map, hy]; rfl) m hm

def OI (W : World) (a : Option Addr) (n c : Nat) (xs : List Int) : Prop := Ri W a n c xs ∧ n * 8 ≤ 140737488351232

theorem cI : Try.prog.cellsOf 3 = 1 := by kernel_rfl
theorem cIs : Try.prog.cellsOf 22 = 1 := by kernel_rfl
theorem cC : Try.prog.cellsOf 24 = 8 := by kernel_rfl
theorem bI : Try.prog.bytesOf 3 = 8 := by kernel_rfl

theorem open_i {fuel : Nat} {c : Value} {x : DataW H × List MemPlace} (h : DataW.trod enc Try.prog W 0 (fun _ => true) true fuel 3 [c] = some x) : ∃ v, c = .int .i64 v := by
  obtain ⟨v, e, _, _⟩ := DataW.trod_int Try.underlying3 h
  simp only [List.cons.injEq, and_true] at e
  exact ⟨v, e⟩

theorem row_of {k : IntKind} {x : Addr} {l c : Nat} {zs : List Int} (hl : l ≤ c) (hz : zs.length = c) (hcell : ∀ i, i < zs.length → W.cell? (x.add i) = some (.int k (zs.getD i 0))) : l = 0 ∨ ∃ b off, some x = some (⟨b, off, none⟩ : Addr) ∧ ∀ i, i < l → W.cell? ⟨b, off + i, none⟩ = some (.int k ((zs.take l).getD i 0)) := by
  by_cases h0 : l = 0
  · exact .inl h0
  · obtain ⟨b, off, spot⟩ := x
    have hc := hcell 0 (by omega)
    have hspot : spot = none := by simpa [Addr.add] using World.cell?_spot hc
    subst hspot
    refine .inr ⟨b, off, rfl, fun i hi => ?_⟩
    have := hcell i (by omega)
    rw [Addr.add_lit] at this
    rw [this]
    simp [List.getD, hi]

theorem open_is {fuel : Nat} {v : Value} {x : DataW H × List MemPlace} (h : DataW.trod enc Try.prog W 0 (fun _ => true) true fuel 22 [v] = some x) (hw : Wt x.1 22) : ∃ a n c xs, v = .slice a n c ∧ OI W a n c xs := by
  rcases open_ints Try.underlying22 Try.underlying3 cI h with ⟨hcs, _⟩ | ⟨x, l, c, zs, hcs, _, hl, hm, hz, hx3, hcell, hwz⟩
  · simp only [List.cons.injEq, and_true] at hcs
    subst hcs
    exact ⟨none, 0, 0, [], rfl, ⟨rfl, fun _ => ⟨rfl, rfl⟩, .inl rfl⟩, by omega⟩
  · simp only [List.cons.injEq, and_true] at hcs
    subst hcs
    simp only [if_true] at hz
    refine ⟨some x, l, c, zs.take l, rfl, ⟨by rw [List.length_take]; omega, by simp, row_of hl hz hcell⟩, ?_⟩
    have := hw ((((lits .i64 (zs.take l) : List (DataW H)).length + (lits .i64 (zs.drop l) : List (DataW H)).length) * Try.prog.bytesOf 3)) (by rw [hx3]; simp [DataW.weights, Try.underlying22])
    rw [bI] at this
    simp only [lits, List.length_map, List.length_take, List.length_drop, reachBytes] at this
    omega

theorem wAll {e : TypeId} : ∀ {l : List (DataW H)} {d : DataW H}, d ∈ l → ∀ m ∈ d.weights Try.prog e, m ∈ DataW.weightsAll Try.prog e l
  | d0 :: l, d, hd, m, hm => by
    simp only [DataW.weightsAll, List.mem_append]
    rcases List.mem_cons.1 hd with rfl | hd
    · exact .inl hm
    · exact .inr (wAll hd m hm)

theorem list2 {α : Type} {l : List α} (h : l.length = 2) : ∃ c0 c1, l = [c0, c1] := by
  match l, h with
  | [c0, c1], _ => exact ⟨c0, c1, rfl⟩
theorem list4 {α : Type} {l : List α} (h : l.length = 4) : ∃ c0 c1 c2 c3, l = [c0, c1, c2, c3] := by
  match l, h with
  | [c0, c1, c2, c3], _ => exact ⟨c0, c1, c2, c3, rfl⟩

theorem slice_parts {t e : TypeId} {fuel k : Nat} {v : Value} {x : DataW H × List MemPlace} (ht : Try.prog.underlying t = some (.slice e)) (hc : Try.prog.cellsOf e = k) (hk : 0 < k) (h : DataW.trod enc Try.prog W 0 (fun _ => true) true fuel t [v] = some x) (hw : Wt x.1 t) :
    v = .slice none 0 0 ∨ ∃ (ad : Addr) (len cap n : Nat) (D : Nat → DataW H) (Pl : Nat → List MemPlace), v = .slice (some ad) len cap ∧ len * Try.prog.bytesOf e ≤ reachBytes ∧ ∀ i, i < len → Wt (D i) e ∧ ∃ cs', cs'.length = k ∧ (∀ j, j < k → W.cell? (ad.add (i * k + j)) = cs'[j]?) ∧ DataW.trod enc Try.prog W 0 (fun _ => true) true n e cs' = some (D i, Pl i) := by
  rcases Deep.open_slice ht h with ⟨hcs, _⟩ | ⟨a, len, cap, m, n, D, Pl, hcs, _, hl, _, hm, hx, hel⟩
  · simp only [List.cons.injEq, and_true] at hcs
    exact .inl hcs
  · simp only [List.cons.injEq, and_true] at hcs
    simp only [if_true] at hm
    have hx1 : x.1 = .slice ((List.range len).map D) ((List.range (m - len)).map fun j => D (len + j)) := by rw [hx]
    refine .inr ⟨a, len, cap, n, D, Pl, hcs, ?_, fun i hi => ⟨fun w hw' => hw w ?_, ?_⟩⟩
    · have := hw (((((List.range len).map D).length + ((List.range (m - len)).map fun j => D (len + j)).length)) * Try.prog.bytesOf e) (by rw [hx1]; simp [DataW.weights, ht])
      simp only [List.length_map, List.length_range] at this
      refine Nat.le_trans (Nat.mul_le_mul_right _ ?_) this
      omega
    · rw [hx1]
      simp only [DataW.weights, ht, List.mem_cons, List.mem_append]
      exact .inr (.inl (wAll (List.mem_map.2 ⟨i, List.mem_range.2 hi, rfl⟩) w hw'))
    · obtain ⟨cs', h1, h2⟩ := hel i (by omega)
      rw [hc] at h1
      obtain ⟨_, hlen, hcell⟩ := World.cells?_some h1
      refine ⟨cs', hlen, fun j hj => ?_, h2⟩
      have := hcell j (by omega)
      rw [Addr.add_add] at this
      exact this


theorem list8 {α : Type} {l : List α} (h : l.length = 8) : ∃ c0 c1 c2 c3 c4 c5 c6 c7, l = [c0, c1, c2, c3, c4, c5, c6, c7] := by
  match l, h with
  | [c0, c1, c2, c3, c4, c5, c6, c7], _ => exact ⟨c0, c1, c2, c3, c4, c5, c6, c7, rfl⟩
theorem list3 {α : Type} {l : List α} (h : l.length = 3) : ∃ c0 c1 c2, l = [c0, c1, c2] := by
  match l, h with
  | [c0, c1, c2], _ => exact ⟨c0, c1, c2, rfl⟩

set_option maxRecDepth 100000 in
theorem open_cfg {fuel : Nat} {cs : List Value} {x : DataW H × List MemPlace} (hl : cs.length = 8) (h : DataW.trod enc Try.prog W 0 (fun _ => true) true fuel 24 cs = some x) (hw : Wt x.1 24) :
    ∃ (no wi ba st ca ro fl : Int) (a : Option Addr) (n c : Nat) (xs : List Int), cs = [.int .i64 no, .int .i64 wi, .int .i64 ba, .int .i64 st, .int .i64 ca, .int .i64 ro, .int .i64 fl, .slice a n c] ∧ OI W a n c xs := by
  obtain ⟨c0, c1, c2, c3, c4, c5, c6, c7, rfl⟩ := list8 hl
  obtain ⟨xs, m, hxl, hF, hW⟩ := struct_parts Try.underlying24 h hw
  obtain ⟨y0, y1, y2, y3, y4, y5, y6, y7, rfl⟩ := list8 hxl
  have h0 : DataW.trod enc Try.prog W 0 (fun _ => true) true m 3 [c0] = some y0 := by simpa [cI] using hF 0 _ rfl
  have h1 : DataW.trod enc Try.prog W 0 (fun _ => true) true m 3 [c1] = some y1 := by simpa [cI] using hF 1 _ rfl
  have h2 : DataW.trod enc Try.prog W 0 (fun _ => true) true m 3 [c2] = some y2 := by simpa [cI] using hF 2 _ rfl
  have h3 : DataW.trod enc Try.prog W 0 (fun _ => true) true m 3 [c3] = some y3 := by simpa [cI] using hF 3 _ rfl
  have h4 : DataW.trod enc Try.prog W 0 (fun _ => true) true m 3 [c4] = some y4 := by simpa [cI] using hF 4 _ rfl
  have h5 : DataW.trod enc Try.prog W 0 (fun _ => true) true m 3 [c5] = some y5 := by simpa [cI] using hF 5 _ rfl
  have h6 : DataW.trod enc Try.prog W 0 (fun _ => true) true m 3 [c6] = some y6 := by simpa [cI] using hF 6 _ rfl
  have h7 : DataW.trod enc Try.prog W 0 (fun _ => true) true m 22 [c7] = some y7 := by simpa [cIs] using hF 7 _ rfl
  obtain ⟨no, rfl⟩ := open_i h0
  obtain ⟨wi, rfl⟩ := open_i h1
  obtain ⟨ba, rfl⟩ := open_i h2
  obtain ⟨st, rfl⟩ := open_i h3
  obtain ⟨ca, rfl⟩ := open_i h4
  obtain ⟨ro, rfl⟩ := open_i h5
  obtain ⟨fl, rfl⟩ := open_i h6
  obtain ⟨a, n, c, zs, rfl, ho⟩ := open_is h7 (hW 7 _ _ rfl rfl)
  exact ⟨no, wi, ba, st, ca, ro, fl, a, n, c, zs, rfl, ho⟩
end
end Go.Proofs.Ytfodkackfahldaa.Oq
