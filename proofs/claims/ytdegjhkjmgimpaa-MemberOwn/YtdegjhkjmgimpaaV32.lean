import Derived.Test.YtdegjhkjmgimpaaV24
import Derived.WalkKit
import Derived.ProofKit
import Derived.OpenShut
import Derived.ShutString
import Derived.ChangeOld
import Derived.Below
import Derived.Deep.Slices
import Derived.SizedLaws
namespace Go.Proofs.Ytdegjhkjmgimpaa.Oe
open Go.ChangeShapes Go.WideShapes Go.ChangeAt Go.RowKit Mb
set_option linter.unusedVariables false
set_option linter.unusedSimpArgs false
set_option maxRecDepth 100000
section
variable {H : Type} {enc : TypeId × Value → H} {W : World}
def Wt (d : DataW H) (t : TypeId) : Prop := ∀ m ∈ d.weights Try.prog t, m ≤ reachBytes
theorem struct_parts {t : TypeId} {fs : Array Field} {fuel : Nat} {cs : List Value} {x : DataW H × List MemPlace} (ht : Try.prog.underlying t = some (.struct fs)) (h : DataW.trod enc Try.prog W 0 (fun _ => true) true fuel t cs = some x) (hw : Wt x.1 t) :
    ∃ (xs : List (DataW H × List MemPlace)) (n : Nat), xs.length = fs.size ∧ (∀ (i : Nat) (f : Field), fs[i]? = some f → DataW.trod enc Try.prog W 0 (fun _ => true) true n f.type ((cs.drop f.offset).take (Try.prog.cellsOf f.type)) = xs[i]?) ∧ ∀ (i : Nat) (f : Field) y, fs[i]? = some f → xs[i]? = some y → Wt y.1 f.type := by
  obtain ⟨xs, n, _, hx, _, hl, hF⟩ := DataW.trod_struct ht h
  refine ⟨xs, n, hl, hF, fun i f y hf hy m hm => hw m ?_⟩
  rw [hx]
  simp only [DataW.weights, ht]
  exact DataW.weights_mem_each (j := i) (by rw [List.getElem?_map, Array.getElem?_toList, hf]; rfl) (by rw [List.getElem?_map, hy]; rfl) m hm
def OI (W : World) (a : Option Addr) (n : Nat) (xs : List Int) : Prop := RdI W a n xs ∧ n * 8 ≤ 140737488351232
theorem cI : Try.prog.cellsOf 3 = 1 := by kernel_rfl
theorem cIs : Try.prog.cellsOf 29 = 1 := by kernel_rfl
theorem bI : Try.prog.bytesOf 3 = 8 := by kernel_rfl
theorem open_i {fuel : Nat} {c : Value} {x : DataW H × List MemPlace} (h : DataW.trod enc Try.prog W 0 (fun _ => true) true fuel 3 [c] = some x) : ∃ v : Int, c = .int .i64 v ∧ -9223372036854775808 ≤ v ∧ v ≤ 9223372036854775807 := by
  obtain ⟨v, e, _, hw⟩ := DataW.trod_int Try.underlying3 h
  simp only [List.cons.injEq, and_true] at e
  refine ⟨v, e, ?_⟩
  have h2 : -9223372036854775808 ≤ v ∧ v ≤ 9223372036854775807 := by simpa [Lit.wf, IntKind.min, IntKind.max, IntKind.signed, IntKind.bits] using hw
  exact h2
theorem row_of {k : IntKind} {x : Addr} {l c : Nat} {zs : List Int} (hl : l ≤ c) (hz : zs.length = c) (hcell : ∀ i, i < zs.length → W.cell? (x.add i) = some (.int k (zs.getD i 0))) : l = 0 ∨ ∃ b off, some x = some (⟨b, off, none⟩ : Addr) ∧ ∀ i, i < l → W.cell? ⟨b, off + i, none⟩ = some (.int k ((zs.take l).getD i 0)) := by
  by_cases h0 : l = 0
  · exact .inl h0
  · obtain ⟨b, off, spot⟩ := x
    have hc := hcell 0 (by omega)
    have hspot : spot = none := by simpa [Addr.add] using World.cell?_spot hc
    subst hspot
    refine .inr ⟨b, off, rfl, fun i hi => ?_⟩
    have := hcell i (by omega)
    rw [Addr.add_lit] at this
    rw [this]
    simp [List.getD, hi]
theorem open_is {fuel : Nat} {v : Value} {x : DataW H × List MemPlace} (h : DataW.trod enc Try.prog W 0 (fun _ => true) true fuel 29 [v] = some x) (hw : Wt x.1 29) : ∃ a n c xs, v = .slice a n c ∧ OI W a n xs := by
  rcases open_ints Try.underlying29 Try.underlying3 cI h with ⟨hcs, _⟩ | ⟨x, l, c, zs, hcs, _, hl, hm, hz, hx3, hcell, hwz⟩
  · simp only [List.cons.injEq, and_true] at hcs
    subst hcs
    exact ⟨none, 0, 0, [], rfl, ⟨rfl, .inl rfl⟩, by omega⟩
  · simp only [List.cons.injEq, and_true] at hcs
    subst hcs
    simp only [if_true] at hz
    refine ⟨some x, l, c, zs.take l, rfl, ⟨by rw [List.length_take]; omega, row_of hl hz hcell⟩, ?_⟩
    have := hw ((((lits .i64 (zs.take l) : List (DataW H)).length + (lits .i64 (zs.drop l) : List (DataW H)).length) * Try.prog.bytesOf 3)) (by rw [hx3]; simp [DataW.weights, Try.underlying29])
    rw [bI] at this
    simp only [lits, List.length_map, List.length_take, List.length_drop, reachBytes] at this
    omega
theorem wAll {e : TypeId} : ∀ {l : List (DataW H)} {d : DataW H}, d ∈ l → ∀ m ∈ d.weights Try.prog e, m ∈ DataW.weightsAll Try.prog e l
  | d0 :: l, d, hd, m, hm => by
    simp only [DataW.weightsAll, List.mem_append]
    rcases List.mem_cons.1 hd with rfl | hd
    · exact .inl hm
    · exact .inr (wAll hd m hm)
theorem list4 {α : Type} {l : List α} (h : l.length = 4) : ∃ c0 c1 c2 c3, l = [c0, c1, c2, c3] := by
  match l, h with
  | [c0, c1, c2, c3], _ => exact ⟨c0, c1, c2, c3, rfl⟩
theorem list13 {α : Type} {l : List α} (h : l.length = 13) : ∃ c0 c1 c2 c3 c4 c5 c6 c7 c8 c9 c10 c11 c12, l = [c0, c1, c2, c3, c4, c5, c6, c7, c8, c9, c10, c11, c12] := by
  match l, h with
  | [c0, c1, c2, c3, c4, c5, c6, c7, c8, c9, c10, c11, c12], _ => exact ⟨c0, c1, c2, c3, c4, c5, c6, c7, c8, c9, c10, c11, c12, rfl⟩
theorem list5 {α : Type} {l : List α} (h : l.length = 5) : ∃ c0 c1 c2 c3 c4, l = [c0, c1, c2, c3, c4] := by
  match l, h with
  | [c0, c1, c2, c3, c4], _ => exact ⟨c0, c1, c2, c3, c4, rfl⟩
theorem list6 {α : Type} {l : List α} (h : l.length = 6) : ∃ c0 c1 c2 c3 c4 c5, l = [c0, c1, c2, c3, c4, c5] := by
  match l, h with
  | [c0, c1, c2, c3, c4, c5], _ => exact ⟨c0, c1, c2, c3, c4, c5, rfl⟩
theorem slice_parts {t e : TypeId} {fuel k : Nat} {v : Value} {x : DataW H × List MemPlace} (ht : Try.prog.underlying t = some (.slice e)) (hc : Try.prog.cellsOf e = k) (hk : 0 < k) (h : DataW.trod enc Try.prog W 0 (fun _ => true) true fuel t [v] = some x) (hw : Wt x.1 t) :
    v = .slice none 0 0 ∨ ∃ (ad : Addr) (len cap n : Nat) (D : Nat → DataW H) (Pl : Nat → List MemPlace), v = .slice (some ad) len cap ∧ len * Try.prog.bytesOf e ≤ reachBytes ∧ ∀ i, i < len → Wt (D i) e ∧ ∃ cs', cs'.length = k ∧ (∀ j, j < k → W.cell? (ad.add (i * k + j)) = cs'[j]?) ∧ DataW.trod enc Try.prog W 0 (fun _ => true) true n e cs' = some (D i, Pl i) := by
  rcases Deep.open_slice ht h with ⟨hcs, _⟩ | ⟨a, len, cap, m, n, D, Pl, hcs, _, hl, _, hm, hx, hel⟩
  · simp only [List.cons.injEq, and_true] at hcs
    exact .inl hcs
  · simp only [List.cons.injEq, and_true] at hcs
    simp only [if_true] at hm
    have hx1 : x.1 = .slice ((List.range len).map D) ((List.range (m - len)).map fun j => D (len + j)) := by rw [hx]
    refine .inr ⟨a, len, cap, n, D, Pl, hcs, ?_, fun i hi => ⟨fun w hw' => hw w ?_, ?_⟩⟩
    · have := hw (((((List.range len).map D).length + ((List.range (m - len)).map fun j => D (len + j)).length)) * Try.prog.bytesOf e) (by rw [hx1]; simp [DataW.weights, ht])
      simp only [List.length_map, List.length_range] at this
      refine Nat.le_trans (Nat.mul_le_mul_right _ ?_) this
      omega
    · rw [hx1]
      simp only [DataW.weights, ht, List.mem_cons, List.mem_append]
      exact .inr (.inl (wAll (List.mem_map.2 ⟨i, List.mem_range.2 hi, rfl⟩) w hw'))
    · obtain ⟨cs', h1, h2⟩ := hel i (by omega)
      rw [hc] at h1
      obtain ⟨_, hlen, hcell⟩ := World.cells?_some h1
      refine ⟨cs', hlen, fun j hj => ?_, h2⟩
      have := hcell j (by omega)
      rw [Addr.add_add] at this
      exact this
theorem ad_plain {x : Addr} {v : Value} (h : W.cell? (x.add 0) = some v) : ∃ b off, x = ⟨b, off, none⟩ := by
  obtain ⟨b, off, spot⟩ := x
  have hspot : spot = none := by simpa [Addr.add] using World.cell?_spot h
  subst hspot
  exact ⟨b, off, rfl⟩
theorem cOs : Try.prog.cellsOf 22 = 1 := by kernel_rfl
theorem cO : Try.prog.cellsOf 44 = 13 := by kernel_rfl
theorem bO : Try.prog.bytesOf 44 = 152 := by kernel_rfl
theorem cP : Try.prog.cellsOf 33 = 9 := by kernel_rfl
theorem cID : Try.prog.cellsOf 31 = 4 := by kernel_rfl
theorem cC : Try.prog.cellsOf 24 = 5 := by kernel_rfl
def RdOps (W : World) (a : Option Addr) (n : Nat) (os : Nat → Opx) : Prop := (n = 0 ∨ ∃ b off, a = some (⟨b, off, none⟩ : Addr) ∧ ∀ i, i < n → ∀ j, j < 13 → W.cell? ⟨b, off + (i * 13 + j), none⟩ = (os i).cs[j]?) ∧ ∀ i, i < n → (os i).Rd W
def p0 : Pq := ⟨none, 0, 0, [], 0, 0, 0, [0, 0, 0, 0], none, 0, 0, []⟩
def o0 : Opx := ⟨0, 0, 0, none, 0, 0, [], p0⟩
theorem open_id {n : Nat} {c0 c1 c2 c3 : Value} {x : DataW H × List MemPlace} (h : DataW.trod enc Try.prog W 0 (fun _ => true) true n 31 [c0, c1, c2, c3] = some x) (hw : Wt x.1 31) : ∃ v0 v1 v2 v3 : Int, c0 = .int .i64 v0 ∧ c1 = .int .i64 v1 ∧ c2 = .int .i64 v2 ∧ c3 = .int .i64 v3 := by
  obtain ⟨xs, n', hxl, hF, hWf⟩ := struct_parts Try.underlying31 h hw
  obtain ⟨y0, y1, y2, y3, rfl⟩ := list4 hxl
  have h0 : DataW.trod enc Try.prog W 0 (fun _ => true) true n' 3 [c0] = some y0 := by simpa [cI] using hF 0 _ rfl
  have h1 : DataW.trod enc Try.prog W 0 (fun _ => true) true n' 3 [c1] = some y1 := by simpa [cI] using hF 1 _ rfl
  have h2 : DataW.trod enc Try.prog W 0 (fun _ => true) true n' 3 [c2] = some y2 := by simpa [cI] using hF 2 _ rfl
  have h3 : DataW.trod enc Try.prog W 0 (fun _ => true) true n' 3 [c3] = some y3 := by simpa [cI] using hF 3 _ rfl
  obtain ⟨v0, rfl, _⟩ := open_i h0
  obtain ⟨v1, rfl, _⟩ := open_i h1
  obtain ⟨v2, rfl, _⟩ := open_i h2
  obtain ⟨v3, rfl, _⟩ := open_i h3
  exact ⟨v0, v1, v2, v3, rfl, rfl, rfl, rfl⟩
theorem open_prop {n : Nat} {c0 c1 c2 c3 c4 c5 c6 c7 c8 : Value} {x : DataW H × List MemPlace} (h : DataW.trod enc Try.prog W 0 (fun _ => true) true n 33 [c0, c1, c2, c3, c4, c5, c6, c7, c8] = some x) (hw : Wt x.1 33) : ∃ p : Pq, p.cs = #[c0, c1, c2, c3, c4, c5, c6, c7, c8] ∧ p.Rd W := by
  obtain ⟨xs, n', hxl, hF, hWf⟩ := struct_parts Try.underlying33 h hw
  obtain ⟨y0, y1, y2, y3, y4, y5, rfl⟩ := list6 hxl
  have h0 : DataW.trod enc Try.prog W 0 (fun _ => true) true n' 29 [c0] = some y0 := by simpa [cI, cIs, cID] using hF 0 _ rfl
  have h1 : DataW.trod enc Try.prog W 0 (fun _ => true) true n' 3 [c1] = some y1 := by simpa [cI, cIs, cID] using hF 1 _ rfl
  have h2 : DataW.trod enc Try.prog W 0 (fun _ => true) true n' 3 [c2] = some y2 := by simpa [cI, cIs, cID] using hF 2 _ rfl
  have h3 : DataW.trod enc Try.prog W 0 (fun _ => true) true n' 3 [c3] = some y3 := by simpa [cI, cIs, cID] using hF 3 _ rfl
  have h4 : DataW.trod enc Try.prog W 0 (fun _ => true) true n' 31 [c4, c5, c6, c7] = some y4 := by simpa [cI, cIs, cID] using hF 4 _ rfl
  have h5 : DataW.trod enc Try.prog W 0 (fun _ => true) true n' 29 [c8] = some y5 := by simpa [cI, cIs, cID] using hF 5 _ rfl
  obtain ⟨a1, m1, k1, z1, rfl, o1⟩ := open_is h0 (hWf 0 _ y0 rfl rfl)
  obtain ⟨v1, rfl, _⟩ := open_i h1
  obtain ⟨v2, rfl, _⟩ := open_i h2
  obtain ⟨v3, rfl, _⟩ := open_i h3
  obtain ⟨u0, u1, u2, u3, rfl, rfl, rfl, rfl⟩ := open_id h4 (hWf 4 _ y4 rfl rfl)
  obtain ⟨a2, m2, k2, z2, rfl, o2⟩ := open_is h5 (hWf 5 _ y5 rfl rfl)
  have q1 := o1.2
  have q2 := o2.2
  exact ⟨⟨a1, m1, k1, z1, v1, v2, v3, [u0, u1, u2, u3], a2, m2, k2, z2⟩, rfl, o1.1, o2.1, rfl, by show m1 ≤ _; omega, by show m2 ≤ _; omega⟩
theorem open_ops {fuel : Nat} {v : Value} {x : DataW H × List MemPlace} (h : DataW.trod enc Try.prog W 0 (fun _ => true) true fuel 22 [v] = some x) (hw : Wt x.1 22) : ∃ a n c os, v = .slice a n c ∧ RdOps W a n os ∧ n ≤ 925904528653 := by
  rcases slice_parts Try.underlying22 cO (by decide) h hw with rfl | ⟨ad, len, cap, n, D, Pl, rfl, hb, hel⟩
  · exact ⟨none, 0, 0, (fun _ => o0), rfl, ⟨.inl rfl, fun i hi => by omega⟩, by omega⟩
  · rw [bO] at hb
    have each : ∀ i, ∃ o : Opx, i < len → (∀ j, j < 13 → W.cell? (ad.add (i * 13 + j)) = o.cs[j]?) ∧ o.Rd W := by
      intro i
      by_cases hi : i < len
      · obtain ⟨hwD, cs', hl, hcell, htr⟩ := hel i hi
        obtain ⟨c0, c1, c2, c3, c4, c5, c6, c7, c8, c9, c10, c11, c12, rfl⟩ := list13 hl
        obtain ⟨xs, n', hxl, hF, hWf⟩ := struct_parts Try.underlying44 htr hwD
        obtain ⟨y0, y1, y2, y3, y4, rfl⟩ := list5 hxl
        have h0 : DataW.trod enc Try.prog W 0 (fun _ => true) true n' 3 [c0] = some y0 := by simpa [cI, cIs, cP] using hF 0 _ rfl
        have h1 : DataW.trod enc Try.prog W 0 (fun _ => true) true n' 3 [c1] = some y1 := by simpa [cI, cIs, cP] using hF 1 _ rfl
        have h2 : DataW.trod enc Try.prog W 0 (fun _ => true) true n' 3 [c2] = some y2 := by simpa [cI, cIs, cP] using hF 2 _ rfl
        have h3 : DataW.trod enc Try.prog W 0 (fun _ => true) true n' 29 [c3] = some y3 := by simpa [cI, cIs, cP] using hF 3 _ rfl
        have h4 : DataW.trod enc Try.prog W 0 (fun _ => true) true n' 33 [c4, c5, c6, c7, c8, c9, c10, c11, c12] = some y4 := by simpa [cI, cIs, cP] using hF 4 _ rfl
        obtain ⟨v0, rfl, _⟩ := open_i h0
        obtain ⟨v1, rfl, _⟩ := open_i h1
        obtain ⟨v2, rfl, _⟩ := open_i h2
        obtain ⟨a2, m2, k2, zs, rfl, ho2⟩ := open_is h3 (hWf 3 _ y3 rfl rfl)
        obtain ⟨p, hpc, hpr⟩ := open_prop h4 (hWf 4 _ y4 rfl rfl)
        have hm2 := ho2.2
        refine ⟨⟨v0, v1, v2, a2, m2, k2, zs, p⟩, fun _ => ⟨fun j hj => ?_, ho2.1, by show m2 ≤ _; omega, hpr⟩⟩
        rw [hcell j hj]
        have e : (⟨v0, v1, v2, a2, m2, k2, zs, p⟩ : Opx).cs = #[.int .i64 v0, .int .i64 v1, .int .i64 v2, .slice a2 m2 k2] ++ p.cs := rfl
        rw [e, hpc]
        simp
      · exact ⟨o0, fun h => absurd h hi⟩
    obtain ⟨f, hf⟩ := Classical.axiomOfChoice each
    refine ⟨some ad, len, cap, f, rfl, ⟨?_, fun i hi => (hf i hi).2⟩, by unfold reachBytes at hb; omega⟩
    by_cases h0 : len = 0
    · exact .inl h0
    · obtain ⟨b, off, rfl⟩ := ad_plain (v := .int .i64 (f 0).kind) (by have h9 := (hf 0 (by omega)).1 0 (by decide); simp only [Nat.zero_mul, Nat.zero_add] at h9; exact h9)
      refine .inr ⟨b, off, rfl, fun i hi j hj => ?_⟩
      have := (hf i hi).1 j hj
      rw [Addr.add_lit] at this
      exact this
theorem open_case {base : Nat} {v : Value} {d : DataW H} {p : List MemPlace} (hok : Value.okWide Try.prog W .any base 24 v) (h : DataW.Trod enc Try.prog W 0 (fun _ => true) true 24 v d p) (hw : Wt d 24) : ∃ v0 v1 v2 v3 oa on oc os, v = .agg #[.int .i64 v0, .int .i64 v1, .int .i64 v2, .int .i64 v3, .slice oa on oc] ∧ RdOps W oa on os ∧ on ≤ 925904528653 ∧ (-9223372036854775808 ≤ v0 ∧ v0 ≤ 9223372036854775807) := by
  obtain ⟨cs, rfl, hsz⟩ := okWide_struct Try.underlying24 hok
  rw [cC] at hsz
  obtain ⟨c0, c1, c2, c3, c4, hcs⟩ := list5 (show cs.toList.length = 5 by simpa using hsz)
  obtain rfl : cs = #[c0, c1, c2, c3, c4] := by
    apply Array.ext'
    rw [hcs]
  obtain ⟨fuel, hf⟩ := h
  obtain ⟨xs, n, hxl, hF, hWf⟩ := struct_parts Try.underlying24 hf hw
  obtain ⟨y0, y1, y2, y3, y4, rfl⟩ := list5 hxl
  have h0 : DataW.trod enc Try.prog W 0 (fun _ => true) true n 3 [c0] = some y0 := by simpa [Value.cells, cI, cOs] using hF 0 _ rfl
  have h1 : DataW.trod enc Try.prog W 0 (fun _ => true) true n 3 [c1] = some y1 := by simpa [Value.cells, cI, cOs] using hF 1 _ rfl
  have h2 : DataW.trod enc Try.prog W 0 (fun _ => true) true n 3 [c2] = some y2 := by simpa [Value.cells, cI, cOs] using hF 2 _ rfl
  have h3 : DataW.trod enc Try.prog W 0 (fun _ => true) true n 3 [c3] = some y3 := by simpa [Value.cells, cI, cOs] using hF 3 _ rfl
  have h4 : DataW.trod enc Try.prog W 0 (fun _ => true) true n 22 [c4] = some y4 := by simpa [Value.cells, cI, cOs] using hF 4 _ rfl
  obtain ⟨v0, rfl, hv0⟩ := open_i h0
  obtain ⟨v1, rfl, _⟩ := open_i h1
  obtain ⟨v2, rfl, _⟩ := open_i h2
  obtain ⟨v3, rfl, _⟩ := open_i h3
  obtain ⟨a, m, c, os, rfl, ho, hn⟩ := open_ops h4 (hWf 4 _ y4 rfl rfl)
  exact ⟨v0, v1, v2, v3, a, m, c, os, rfl, ho, hn, hv0⟩
end
end Go.Proofs.Ytdegjhkjmgimpaa.Oe
