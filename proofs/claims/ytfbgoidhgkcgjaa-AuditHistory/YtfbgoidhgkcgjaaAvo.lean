import Derived.Test.YtfbgoidhgkcgjaaAvh
import Derived.WalkKit
import Derived.ProofKit
import Derived.OpenShut
import Derived.ShutString
import Derived.ChangeOld
import Derived.Below
import Derived.Deep.Slices
import Derived.SizedLaws
namespace Go.Proofs.Ytfbgoidhgkcgjaa.Oq
open Go.ChangeShapes Go.WideShapes Go.ChangeAt Go.RowKit Lo
set_option linter.unusedVariables false
set_option linter.unusedSimpArgs false

section
variable {H : Type} {enc : TypeId × Value → H} {W : World}
theorem wf_i64 {v : Int} (h : (Lit.int .i64 v).wf = true) : i64B v := by
  simp [Lit.wf, IntKind.min, IntKind.max, IntKind.signed, IntKind.bits] at h
  unfold i64B
  omega
def Wt (d : DataW H) (t : TypeId) : Prop := ∀ m ∈ d.weights Try.prog t, m ≤ reachBytes
theorem struct_parts {t : TypeId} {fs : Array Field} {fuel : Nat} {cs : List Value} {x : DataW H × List MemPlace} (ht : Try.prog.underlying t = some (.struct fs)) (h : DataW.trod enc Try.prog W 0 (fun _ => true) true fuel t cs = some x) (hw : Wt x.1 t) :
    ∃ (xs : List (DataW H × List MemPlace)) (n : Nat), xs.length = fs.size ∧ (∀ (i : Nat) (f : Field), fs[i]? = some f → DataW.trod enc Try.prog W 0 (fun _ => true) true n f.type ((cs.drop f.offset).take (Try.prog.cellsOf f.type)) = xs[i]?) ∧ ∀ (i : Nat) (f : Field) y, fs[i]? = some f → xs[i]? = some y → Wt y.1 f.type := by
  obtain ⟨xs, n, _, hx, _, hl, hF⟩ := DataW.trod_struct ht h
  refine ⟨xs, n, hl, hF, fun i f y hf hy m hm => hw m ?_⟩
  rw [hx]
  simp only [DataW.weights, ht]
  exact DataW.weights_mem_each (j := i) (by rw [List.getElem?_map, Array.getElem?_toList, hf]; rfl) (by rw [List.getElem?_map, hy]; rfl) m hm
def OI (W : World) (a : Option Addr) (n c : Nat) (xs : List Int) : Prop := Ri W a n c xs ∧ n * 8 ≤ 140737488351232
theorem cI : Try.prog.cellsOf 3 = 1 := by kernel_rfl
theorem cIs : Try.prog.cellsOf 23 = 1 := by kernel_rfl
theorem bI : Try.prog.bytesOf 3 = 8 := by kernel_rfl
theorem open_i {fuel : Nat} {c : Value} {x : DataW H × List MemPlace} (h : DataW.trod enc Try.prog W 0 (fun _ => true) true fuel 3 [c] = some x) : ∃ v, c = .int .i64 v ∧ i64B v := by
  obtain ⟨v, e, _, hwf⟩ := DataW.trod_int Try.underlying3 h
  simp only [List.cons.injEq, and_true] at e
  exact ⟨v, e, wf_i64 hwf⟩
theorem row_of {k : IntKind} {x : Addr} {l c : Nat} {zs : List Int} (hl : l ≤ c) (hz : zs.length = c) (hcell : ∀ i, i < zs.length → W.cell? (x.add i) = some (.int k (zs.getD i 0))) : l = 0 ∨ ∃ b off, some x = some (⟨b, off, none⟩ : Addr) ∧ ∀ i, i < l → W.cell? ⟨b, off + i, none⟩ = some (.int k ((zs.take l).getD i 0)) := by
  by_cases h0 : l = 0
  · exact .inl h0
  · obtain ⟨b, off, spot⟩ := x
    have hc := hcell 0 (by omega)
    have hspot : spot = none := by simpa [Addr.add] using World.cell?_spot hc
    subst hspot
    refine .inr ⟨b, off, rfl, fun i hi => ?_⟩
    have := hcell i (by omega)
    rw [Addr.add_lit] at this
    rw [this]
    simp [List.getD, hi]
theorem open_is {fuel : Nat} {v : Value} {x : DataW H × List MemPlace} (h : DataW.trod enc Try.prog W 0 (fun _ => true) true fuel 23 [v] = some x) (hw : Wt x.1 23) : ∃ a n c xs, v = .slice a n c ∧ OI W a n c xs := by
  rcases open_ints Try.underlying23 Try.underlying3 cI h with ⟨hcs, _⟩ | ⟨x, l, c, zs, hcs, _, hl, hm, hz, hx3, hcell, hwz⟩
  · simp only [List.cons.injEq, and_true] at hcs
    subst hcs
    exact ⟨none, 0, 0, [], rfl, ⟨rfl, fun _ => ⟨rfl, rfl⟩, .inl rfl⟩, by omega⟩
  · simp only [List.cons.injEq, and_true] at hcs
    subst hcs
    simp only [if_true] at hz
    refine ⟨some x, l, c, zs.take l, rfl, ⟨by rw [List.length_take]; omega, by simp, row_of hl hz hcell⟩, ?_⟩
    have := hw ((((lits .i64 (zs.take l) : List (DataW H)).length + (lits .i64 (zs.drop l) : List (DataW H)).length) * Try.prog.bytesOf 3)) (by rw [hx3]; simp [DataW.weights, Try.underlying23])
    rw [bI] at this
    simp only [lits, List.length_map, List.length_take, List.length_drop, reachBytes] at this
    omega
theorem wAll {e : TypeId} : ∀ {l : List (DataW H)} {d : DataW H}, d ∈ l → ∀ m ∈ d.weights Try.prog e, m ∈ DataW.weightsAll Try.prog e l
  | d0 :: l, d, hd, m, hm => by
    simp only [DataW.weightsAll, List.mem_append]
    rcases List.mem_cons.1 hd with rfl | hd
    · exact .inl hm
    · exact .inr (wAll hd m hm)
theorem slice_parts {t e : TypeId} {fuel k : Nat} {v : Value} {x : DataW H × List MemPlace} (ht : Try.prog.underlying t = some (.slice e)) (hc : Try.prog.cellsOf e = k) (hk : 0 < k) (h : DataW.trod enc Try.prog W 0 (fun _ => true) true fuel t [v] = some x) (hw : Wt x.1 t) :
    v = .slice none 0 0 ∨ ∃ (ad : Addr) (len cap n : Nat) (D : Nat → DataW H) (Pl : Nat → List MemPlace), v = .slice (some ad) len cap ∧ len ≤ cap ∧ len * Try.prog.bytesOf e ≤ reachBytes ∧ ∀ i, i < len → Wt (D i) e ∧ ∃ cs', cs'.length = k ∧ (∀ j, j < k → W.cell? (ad.add (i * k + j)) = cs'[j]?) ∧ DataW.trod enc Try.prog W 0 (fun _ => true) true n e cs' = some (D i, Pl i) := by
  rcases Deep.open_slice ht h with ⟨hcs, _⟩ | ⟨a, len, cap, m, n, D, Pl, hcs, _, hl, _, hm, hx, hel⟩
  · simp only [List.cons.injEq, and_true] at hcs
    exact .inl hcs
  · simp only [List.cons.injEq, and_true] at hcs
    simp only [if_true] at hm
    have hx1 : x.1 = .slice ((List.range len).map D) ((List.range (m - len)).map fun j => D (len + j)) := by rw [hx]
    refine .inr ⟨a, len, cap, n, D, Pl, hcs, hl, ?_, fun i hi => ⟨fun w hw' => hw w ?_, ?_⟩⟩
    · have := hw (((((List.range len).map D).length + ((List.range (m - len)).map fun j => D (len + j)).length)) * Try.prog.bytesOf e) (by rw [hx1]; simp [DataW.weights, ht])
      simp only [List.length_map, List.length_range] at this
      refine Nat.le_trans (Nat.mul_le_mul_right _ ?_) this
      omega
    · rw [hx1]
      simp only [DataW.weights, ht, List.mem_cons, List.mem_append]
      exact .inr (.inl (wAll (List.mem_map.2 ⟨i, List.mem_range.2 hi, rfl⟩) w hw'))
    · obtain ⟨cs', h1, h2⟩ := hel i (by omega)
      rw [hc] at h1
      obtain ⟨_, hlen, hcell⟩ := World.cells?_some h1
      refine ⟨cs', hlen, fun j hj => ?_, h2⟩
      have := hcell j (by omega)
      rw [Addr.add_add] at this
      exact this
theorem cU : Try.prog.cellsOf 5 = 1 := by kernel_rfl
theorem bU : Try.prog.bytesOf 5 = 1 := by kernel_rfl
theorem cBs : Try.prog.cellsOf 45 = 1 := by kernel_rfl
theorem cSt : Try.prog.cellsOf 9 = 1 := by kernel_rfl
theorem cCmd : Try.prog.cellsOf 38 = 7 := by kernel_rfl
theorem open_bs {fuel : Nat} {v : Value} {x : DataW H × List MemPlace} (h : DataW.trod enc Try.prog W 0 (fun _ => true) true fuel 45 [v] = some x) (hw : Wt x.1 45) : ∃ a n c xs, v = .slice a n c ∧ Ln.Rd W a n c xs ∧ n ≤ 140737488351232 := by
  rcases open_ints Try.underlying45 Try.underlying5 cU h with ⟨hcs, _⟩ | ⟨x, l, c, zs, hcs, _, hl, hm, hz, hx3, hcell, hwz⟩
  · simp only [List.cons.injEq, and_true] at hcs
    subst hcs
    exact ⟨none, 0, 0, [], rfl, ⟨rfl, Nat.le_refl _, fun _ => rfl, .inl rfl, fun i => by simp⟩, by omega⟩
  · simp only [List.cons.injEq, and_true] at hcs
    subst hcs
    simp only [if_true] at hz
    refine ⟨some x, l, c, zs.take l, rfl, ⟨by rw [List.length_take]; omega, hl, fun e => (by cases e), row_of hl hz hcell, fun i => ?_⟩, ?_⟩
    · by_cases hi : i < (zs.take l).length
      · have hmem : (zs.take l).getD i 0 ∈ zs := by
          have : (zs.take l).getD i 0 ∈ zs.take l := by simp only [List.getD, List.getElem?_eq_getElem hi]; exact List.getElem_mem hi
          exact List.mem_of_mem_take this
        have := hwz _ hmem
        simpa [Lit.wf, IntKind.min, IntKind.max, IntKind.signed, IntKind.bits] using this
      · simp [List.getD, List.getElem?_eq_none (by omega : (zs.take l).length ≤ i)]
    · have := hw ((((lits .u8 (zs.take l) : List (DataW H)).length + (lits .u8 (zs.drop l) : List (DataW H)).length) * Try.prog.bytesOf 5)) (by rw [hx3]; simp [DataW.weights, Try.underlying45])
      rw [bU] at this
      simp only [lits, List.length_map, List.length_take, List.length_drop, reachBytes] at this
      omega
theorem open_s {fuel : Nat} {c : Value} {x : DataW H × List MemPlace} (h : DataW.trod enc Try.prog W 0 (fun _ => true) true fuel 9 [c] = some x) (hw : Wt x.1 9) : ∃ v, c = .string v ∧ v.size ≤ 281474976710656 := by
  obtain ⟨v, e, hx, _⟩ := DataW.trod_string Try.underlying9 h
  simp only [List.cons.injEq, and_true] at e
  have := hw v.data.toList.length (by rw [hx]; simp [DataW.weights])
  refine ⟨v, e, ?_⟩
  have h2 : v.size = v.data.toList.length := rfl
  rw [h2]
  exact Nat.le_trans this (by decide)
theorem list3 {α : Type} {l : List α} (h : l.length = 3) : ∃ c0 c1 c2, l = [c0, c1, c2] := by
  match l, h with
  | [c0, c1, c2], _ => exact ⟨c0, c1, c2, rfl⟩
theorem list4 {α : Type} {l : List α} (h : l.length = 4) : ∃ c0 c1 c2 c3, l = [c0, c1, c2, c3] := by
  match l, h with
  | [c0, c1, c2, c3], _ => exact ⟨c0, c1, c2, c3, rfl⟩
theorem list7 {α : Type} {l : List α} (h : l.length = 7) : ∃ c0 c1 c2 c3 c4 c5 c6, l = [c0, c1, c2, c3, c4, c5, c6] := by
  match l, h with
  | [c0, c1, c2, c3, c4, c5, c6], _ => exact ⟨c0, c1, c2, c3, c4, c5, c6, rfl⟩
theorem list15 {α : Type} {l : List α} (h : l.length = 15) : ∃ c0 c1 c2 c3 c4 c5 c6 c7 c8 c9 c10 c11 c12 c13 c14, l = [c0, c1, c2, c3, c4, c5, c6, c7, c8, c9, c10, c11, c12, c13, c14] := by
  match l, h with
  | [c0, c1, c2, c3, c4, c5, c6, c7, c8, c9, c10, c11, c12, c13, c14], _ => exact ⟨c0, c1, c2, c3, c4, c5, c6, c7, c8, c9, c10, c11, c12, c13, c14, rfl⟩
theorem list26 {α : Type} {l : List α} (h : l.length = 26) : ∃ c0 c1 c2 c3 c4 c5 c6 c7 c8 c9 c10 c11 c12 c13 c14 c15 c16 c17 c18 c19 c20 c21 c22 c23 c24 c25, l = [c0, c1, c2, c3, c4, c5, c6, c7, c8, c9, c10, c11, c12, c13, c14, c15, c16, c17, c18, c19, c20, c21, c22, c23, c24, c25] := by
  match l, h with
  | [c0, c1, c2, c3, c4, c5, c6, c7, c8, c9, c10, c11, c12, c13, c14, c15, c16, c17, c18, c19, c20, c21, c22, c23, c24, c25], _ => exact ⟨c0, c1, c2, c3, c4, c5, c6, c7, c8, c9, c10, c11, c12, c13, c14, c15, c16, c17, c18, c19, c20, c21, c22, c23, c24, c25, rfl⟩
theorem cVid : Try.prog.cellsOf 43 = 4 := by kernel_rfl
theorem cMs : Try.prog.cellsOf 44 = 1 := by kernel_rfl
theorem cMb : Try.prog.cellsOf 52 = 3 := by kernel_rfl
theorem bMb : Try.prog.bytesOf 52 = 24 := by kernel_rfl
theorem cRes : Try.prog.cellsOf 47 = 3 := by kernel_rfl
theorem cErr : Try.prog.cellsOf 48 = 1 := by kernel_rfl
theorem cMk : Try.prog.cellsOf 50 = 26 := by kernel_rfl
theorem bMk : Try.prog.bytesOf 50 = 288 := by kernel_rfl
theorem cMks : Try.prog.cellsOf 22 = 1 := by kernel_rfl
theorem cCas : Try.prog.cellsOf 25 = 3 := by kernel_rfl
theorem open_er {fuel : Nat} {c : Value} {x : DataW H × List MemPlace} (h : DataW.trod enc Try.prog W 0 (fun _ => true) true fuel 48 [c] = some x) : ∃ v, c = .int .i64 v := by
  obtain ⟨v, e, _, hwf⟩ := DataW.trod_int Try.underlying48 h
  simp only [List.cons.injEq, and_true] at e
  exact ⟨v, e⟩
theorem open_mb {fuel : Nat} {cs : List Value} {x : DataW H × List MemPlace} (hl : cs.length = 3) (h : DataW.trod enc Try.prog W 0 (fun _ => true) true fuel 52 cs = some x) (hw : Wt x.1 52) : ∃ a b c : Int, cs = [.int .i64 a, .int .i64 b, .int .i64 c] := by
  obtain ⟨c0, c1, c2, rfl⟩ := list3 hl
  obtain ⟨xs, m, hxl, hF, hW⟩ := struct_parts Try.underlying52 h hw
  obtain ⟨y0, y1, y2, rfl⟩ := list3 hxl
  have h0 : DataW.trod enc Try.prog W 0 (fun _ => true) true m 3 [c0] = some y0 := by simpa [cI] using hF 0 _ rfl
  have h1 : DataW.trod enc Try.prog W 0 (fun _ => true) true m 3 [c1] = some y1 := by simpa [cI] using hF 1 _ rfl
  have h2 : DataW.trod enc Try.prog W 0 (fun _ => true) true m 3 [c2] = some y2 := by simpa [cI] using hF 2 _ rfl
  obtain ⟨a, rfl, _⟩ := open_i h0
  obtain ⟨b, rfl, _⟩ := open_i h1
  obtain ⟨c, rfl, _⟩ := open_i h2
  exact ⟨a, b, c, rfl⟩
theorem open_ms {fuel : Nat} {v : Value} {x : DataW H × List MemPlace} (h : DataW.trod enc Try.prog W 0 (fun _ => true) true fuel 44 [v] = some x) (hw : Wt x.1 44) : ∃ a n c xs, v = .slice a n c ∧ RdM W a n c xs ∧ n * 24 ≤ 140737488351232 := by
  rcases slice_parts Try.underlying44 cMb (by omega) h hw with rfl | ⟨ad, len, cap, n, D, Pl, rfl, hlc, hb, hel⟩
  · exact ⟨none, 0, 0, [], rfl, ⟨rfl, fun _ => ⟨rfl, rfl⟩, .inl rfl⟩, by omega⟩
  · rw [bMb] at hb
    have hch : ∀ i : Nat, ∃ t : Int × Int × Int, i < len → W.cell? (ad.add (i * 3)) = some (.int .i64 t.1) ∧ W.cell? (ad.add (i * 3 + 1)) = some (.int .i64 t.2.1) ∧ W.cell? (ad.add (i * 3 + 2)) = some (.int .i64 t.2.2) := by
      intro i
      by_cases hi : i < len
      · obtain ⟨hwt, cs', hl, hc, ht⟩ := hel i hi
        obtain ⟨a, b, c, rfl⟩ := open_mb hl ht hwt
        exact ⟨(a, b, c), fun _ => ⟨hc 0 (by omega), hc 1 (by omega), hc 2 (by omega)⟩⟩
      · exact ⟨(0, 0, 0), fun h => absurd h hi⟩
    obtain ⟨E, hE⟩ := Classical.axiomOfChoice hch
    refine ⟨some ad, len, cap, (List.range (len * 3)).map (fun q => if q % 3 = 0 then (E (q / 3)).1 else if q % 3 = 1 then (E (q / 3)).2.1 else (E (q / 3)).2.2), rfl, ⟨by simp, fun e => (by cases e), ?_⟩, by simpa [reachBytes] using hb⟩
    by_cases h0 : len = 0
    · exact .inl h0
    · obtain ⟨b, off, spot⟩ := ad
      have hspot : spot = none := by
        have := (hE 0 (by omega)).1
        have := World.cell?_spot this
        simpa [Addr.add] using this
      subst hspot
      refine .inr ⟨b, off, rfl, fun i hi => ?_⟩
      have hx : ((List.range (len * 3)).map (fun q => if q % 3 = 0 then (E (q / 3)).1 else if q % 3 = 1 then (E (q / 3)).2.1 else (E (q / 3)).2.2)).getD i 0 = if i % 3 = 0 then (E (i / 3)).1 else if i % 3 = 1 then (E (i / 3)).2.1 else (E (i / 3)).2.2 := by simp [List.getD, hi]
      rw [hx]
      obtain ⟨q1, q2, q3⟩ := hE (i / 3) (by omega)
      rw [Addr.add_mid] at q1 q2 q3
      by_cases r0 : i % 3 = 0
      · rw [if_pos r0, ← q1, show i / 3 * 3 = i by omega]
      · rw [if_neg r0]
        by_cases r1 : i % 3 = 1
        · rw [if_pos r1, ← q2, show i / 3 * 3 + 1 = i by omega]
        · rw [if_neg r1, ← q3, show i / 3 * 3 + 2 = i by omega]
set_option maxRecDepth 100000 in
theorem open_mk {fuel : Nat} {cs : List Value} {x : DataW H × List MemPlace} (hl : cs.length = 26) (h : DataW.trod enc Try.prog W 0 (fun _ => true) true fuel 50 cs = some x) (hw : Wt x.1 50) :
    ∃ e : Mk, cs = e.cs ∧ RdM W e.ma e.mn e.mc e.ms ∧ e.mn * 24 ≤ 140737488351232 ∧ Ri W e.ta e.tn e.tc e.ts ∧ e.tn * 8 ≤ 140737488351232 ∧ Ln.Rd W e.ba e.bn e.bc e.bs ∧ e.bn ≤ 140737488351232 ∧ Okm e := by
  obtain ⟨c0, c1, c2, c3, c4, c5, c6, c7, c8, c9, c10, c11, c12, c13, c14, c15, c16, c17, c18, c19, c20, c21, c22, c23, c24, c25, rfl⟩ := list26 hl
  obtain ⟨xs, m, hxl, hF, hW⟩ := struct_parts Try.underlying50 h hw
  obtain ⟨y0, y1, y2, y3, y4, y5, y6, y7, y8, y9, y10, y11, y12, y13, y14, rfl⟩ := list15 hxl
  have h0 : DataW.trod enc Try.prog W 0 (fun _ => true) true m 3 [c0] = some y0 := by simpa [cI] using hF 0 _ rfl
  have h1 : DataW.trod enc Try.prog W 0 (fun _ => true) true m 3 [c1] = some y1 := by simpa [cI] using hF 1 _ rfl
  have h2 : DataW.trod enc Try.prog W 0 (fun _ => true) true m 3 [c2] = some y2 := by simpa [cI] using hF 2 _ rfl
  have h3 : DataW.trod enc Try.prog W 0 (fun _ => true) true m 3 [c3] = some y3 := by simpa [cI] using hF 3 _ rfl
  have h4 : DataW.trod enc Try.prog W 0 (fun _ => true) true m 43 [c4, c5, c6, c7] = some y4 := by simpa [cVid] using hF 4 _ rfl
  have h5 : DataW.trod enc Try.prog W 0 (fun _ => true) true m 44 [c8] = some y5 := by simpa [cMs] using hF 5 _ rfl
  have h6 : DataW.trod enc Try.prog W 0 (fun _ => true) true m 23 [c9] = some y6 := by simpa [cIs] using hF 6 _ rfl
  have h7 : DataW.trod enc Try.prog W 0 (fun _ => true) true m 3 [c10] = some y7 := by simpa [cI] using hF 7 _ rfl
  have h8 : DataW.trod enc Try.prog W 0 (fun _ => true) true m 3 [c11] = some y8 := by simpa [cI] using hF 8 _ rfl
  have h9 : DataW.trod enc Try.prog W 0 (fun _ => true) true m 3 [c12] = some y9 := by simpa [cI] using hF 9 _ rfl
  have h10 : DataW.trod enc Try.prog W 0 (fun _ => true) true m 3 [c13] = some y10 := by simpa [cI] using hF 10 _ rfl
  have h11 : DataW.trod enc Try.prog W 0 (fun _ => true) true m 45 [c14] = some y11 := by simpa [cBs] using hF 11 _ rfl
  have h12 : DataW.trod enc Try.prog W 0 (fun _ => true) true m 38 [c15, c16, c17, c18, c19, c20, c21] = some y12 := by simpa [cCmd] using hF 12 _ rfl
  have h13 : DataW.trod enc Try.prog W 0 (fun _ => true) true m 47 [c22, c23, c24] = some y13 := by simpa [cRes] using hF 13 _ rfl
  have h14 : DataW.trod enc Try.prog W 0 (fun _ => true) true m 48 [c25] = some y14 := by simpa [cErr] using hF 14 _ rfl
  obtain ⟨zs, m2, zl, zF, zW⟩ := struct_parts Try.underlying43 h4 (hW 4 _ _ rfl rfl)
  obtain ⟨z0, z1, z2, z3, rfl⟩ := list4 zl
  have g0 : DataW.trod enc Try.prog W 0 (fun _ => true) true m2 3 [c4] = some z0 := by simpa [cI] using zF 0 _ rfl
  have g1 : DataW.trod enc Try.prog W 0 (fun _ => true) true m2 3 [c5] = some z1 := by simpa [cI] using zF 1 _ rfl
  have g2 : DataW.trod enc Try.prog W 0 (fun _ => true) true m2 3 [c6] = some z2 := by simpa [cI] using zF 2 _ rfl
  have g3 : DataW.trod enc Try.prog W 0 (fun _ => true) true m2 3 [c7] = some z3 := by simpa [cI] using zF 3 _ rfl
  obtain ⟨us, m3, ul, uF, uW⟩ := struct_parts Try.underlying38 h12 (hW 12 _ _ rfl rfl)
  obtain ⟨u0, u1, u2, u3, u4, u5, u6, rfl⟩ := list7 ul
  have k0 : DataW.trod enc Try.prog W 0 (fun _ => true) true m3 3 [c15] = some u0 := by simpa [cI] using uF 0 _ rfl
  have k1 : DataW.trod enc Try.prog W 0 (fun _ => true) true m3 3 [c16] = some u1 := by simpa [cI] using uF 1 _ rfl
  have k2 : DataW.trod enc Try.prog W 0 (fun _ => true) true m3 3 [c17] = some u2 := by simpa [cI] using uF 2 _ rfl
  have k3 : DataW.trod enc Try.prog W 0 (fun _ => true) true m3 3 [c18] = some u3 := by simpa [cI] using uF 3 _ rfl
  have k4 : DataW.trod enc Try.prog W 0 (fun _ => true) true m3 9 [c19] = some u4 := by simpa [cSt] using uF 4 _ rfl
  have k5 : DataW.trod enc Try.prog W 0 (fun _ => true) true m3 9 [c20] = some u5 := by simpa [cSt] using uF 5 _ rfl
  have k6 : DataW.trod enc Try.prog W 0 (fun _ => true) true m3 9 [c21] = some u6 := by simpa [cSt] using uF 6 _ rfl
  obtain ⟨qs, m4, ql, qF, qW⟩ := struct_parts Try.underlying47 h13 (hW 13 _ _ rfl rfl)
  obtain ⟨q0, q1, q2, rfl⟩ := list3 ql
  have r0 : DataW.trod enc Try.prog W 0 (fun _ => true) true m4 3 [c22] = some q0 := by simpa [cI] using qF 0 _ rfl
  have r1 : DataW.trod enc Try.prog W 0 (fun _ => true) true m4 9 [c23] = some q1 := by simpa [cSt] using qF 1 _ rfl
  have r2 : DataW.trod enc Try.prog W 0 (fun _ => true) true m4 3 [c24] = some q2 := by simpa [cI] using qF 2 _ rfl
  obtain ⟨e0, rfl, e0b⟩ := open_i h0
  obtain ⟨e1, rfl, e1b⟩ := open_i h1
  obtain ⟨e2, rfl, e2b⟩ := open_i h2
  obtain ⟨e3, rfl, e3b⟩ := open_i h3
  obtain ⟨e4, rfl, e4b⟩ := open_i g0
  obtain ⟨e5, rfl, e5b⟩ := open_i g1
  obtain ⟨e6, rfl, e6b⟩ := open_i g2
  obtain ⟨e7, rfl, e7b⟩ := open_i g3
  obtain ⟨ma, mn, mc, ms, rfl, hM1, hM2⟩ := open_ms h5 (hW 5 _ _ rfl rfl)
  obtain ⟨ta, tn, tc, ts, rfl, hT⟩ := open_is h6 (hW 6 _ _ rfl rfl)
  obtain ⟨e10, rfl, e10b⟩ := open_i h7
  obtain ⟨e11, rfl, e11b⟩ := open_i h8
  obtain ⟨e12, rfl, e12b⟩ := open_i h9
  obtain ⟨e13, rfl, e13b⟩ := open_i h10
  obtain ⟨ba, bn, bc, bs, rfl, hB1, hB2⟩ := open_bs h11 (hW 11 _ _ rfl rfl)
  obtain ⟨e15, rfl, e15b⟩ := open_i k0
  obtain ⟨e16, rfl, e16b⟩ := open_i k1
  obtain ⟨e17, rfl, e17b⟩ := open_i k2
  obtain ⟨e18, rfl, e18b⟩ := open_i k3
  obtain ⟨s19, rfl, s19s⟩ := open_s k4 (uW 4 _ _ rfl rfl)
  obtain ⟨s20, rfl, s20s⟩ := open_s k5 (uW 5 _ _ rfl rfl)
  obtain ⟨s21, rfl, s21s⟩ := open_s k6 (uW 6 _ _ rfl rfl)
  obtain ⟨e22, rfl, e22b⟩ := open_i r0
  obtain ⟨s23, rfl, s23s⟩ := open_s r1 (qW 1 _ _ rfl rfl)
  obtain ⟨e24, rfl, e24b⟩ := open_i r2
  obtain ⟨e25, rfl⟩ := open_er h14
  exact ⟨⟨e0, e1, e2, e3, e4, e5, e6, e7, ma, mn, mc, ms, ta, tn, tc, ts, e10, e11, e12, e13, ba, bn, bc, bs, ⟨e15, e16, e17, e18, s19, s20, s21⟩, e22, s23, e24, e25⟩, rfl, hM1, hM2, hT.1, hT.2, hB1, hB2, ⟨e13b, s19s, s20s, s21s⟩⟩
theorem open_mks {fuel : Nat} {v : Value} {x : DataW H × List MemPlace} (h : DataW.trod enc Try.prog W 0 (fun _ => true) true fuel 22 [v] = some x) (hw : Wt x.1 22) : ∃ la n lc l, v = .slice la n lc ∧ MkF W la n l ∧ (∀ e ∈ l, Okm e) ∧ n ≤ lc ∧ (la = none → n = 0 ∧ lc = 0) := by
  rcases slice_parts Try.underlying22 cMk (by omega) h hw with rfl | ⟨ad, len, cap, n, D, Pl, rfl, hlc, hb, hel⟩
  · exact ⟨none, 0, 0, [], rfl, ⟨⟨rfl, .inl rfl⟩, fun i hi => by omega, fun i hi => by omega, fun i hi => by omega, by omega⟩, (by intro e he; cases he), Nat.le_refl _, fun _ => ⟨rfl, rfl⟩⟩
  · rw [bMk] at hb
    have hch : ∀ i : Nat, ∃ e : Mk, i < len → (∀ j v, e.cs[j]? = some v → W.cell? (ad.add (i * 26 + j)) = some v) ∧ RdM W e.ma e.mn e.mc e.ms ∧ e.mn * 24 ≤ 140737488351232 ∧ Ri W e.ta e.tn e.tc e.ts ∧ e.tn * 8 ≤ 140737488351232 ∧ Ln.Rd W e.ba e.bn e.bc e.bs ∧ e.bn ≤ 140737488351232 ∧ Okm e := by
      intro i
      by_cases hi : i < len
      · obtain ⟨hwt, cs', hl, hc, ht⟩ := hel i hi
        obtain ⟨e, rfl, hp⟩ := open_mk hl ht hwt
        refine ⟨e, fun _ => ⟨fun j v hv => ?_, hp⟩⟩
        have hj : j < 26 := by have := (List.getElem?_eq_some_iff.1 hv).1; rwa [Mk.len] at this
        rw [hc j hj, hv]
      · exact ⟨mk0, fun h => absurd h hi⟩
    obtain ⟨E, hE⟩ := Classical.axiomOfChoice hch
    have hget : ∀ i, i < len → ((List.range len).map E).getD i mk0 = E i := fun i hi => by simp [List.getD, hi]
    refine ⟨some ad, len, cap, (List.range len).map E, rfl, ⟨⟨by simp, ?_⟩, fun i hi => ?_, fun i hi => ?_, fun i hi => ?_, by simpa [reachBytes] using hb⟩, ?_, hlc, fun e => (by cases e)⟩
    · by_cases h0 : len = 0
      · exact .inl h0
      · obtain ⟨b, off, spot⟩ := ad
        have hspot : spot = none := by
          have := (hE 0 (by omega)).1 0 _ rfl
          have := World.cell?_spot this
          simpa [Addr.add] using this
        subst hspot
        refine .inr ⟨b, off, rfl, fun i hi j v hv => ?_⟩
        rw [hget i hi] at hv
        have := (hE i hi).1 j v hv
        rw [Addr.add_mid] at this
        rw [show off + i * 26 + j = off + (i * 26 + j) by omega]
        exact this
    · rw [hget i hi]
      exact ⟨(hE i hi).2.1, (hE i hi).2.2.1⟩
    · rw [hget i hi]
      exact ⟨(hE i hi).2.2.2.1, (hE i hi).2.2.2.2.1⟩
    · rw [hget i hi]
      have h3 := (hE i hi).2.2.2.2.2.1
      exact ⟨h3, fun e => by have h1 := h3.nil e; have h2 := h3.cap; omega, (hE i hi).2.2.2.2.2.2.1⟩
    · intro e he
      obtain ⟨i, hi, rfl⟩ := List.mem_map.1 he
      exact (hE i (List.mem_range.1 hi)).2.2.2.2.2.2.2
set_option maxRecDepth 100000 in
theorem open_case {base : Nat} {v : Value} {d : DataW H} {p : List MemPlace} (hv : Value.okWide Try.prog W .any base 25 v) (h : DataW.Trod enc Try.prog W 0 (fun _ => true) true 25 v d p) (hw : Wt d 25) :
    ∃ (la : Option Addr) (n lc : Nat) (l : List Mk) (va : Option Addr) (vn vc : Nat) (kk : Int), v = .agg #[.slice la n lc, .slice va vn vc, .int .i64 kk] ∧ MkF W la n l ∧ (∀ e ∈ l, Okm e) ∧ n ≤ lc ∧ (la = none → n = 0 ∧ lc = 0) := by
  obtain ⟨cs, rfl, hsz⟩ := okWide_struct Try.underlying25 hv
  rw [cCas] at hsz
  obtain ⟨l⟩ := cs
  obtain ⟨c0, c1, c2, rfl⟩ := list3 hsz
  obtain ⟨fuel, hf⟩ := h
  obtain ⟨xs, m, hxl, hF, hW⟩ := struct_parts Try.underlying25 hf hw
  obtain ⟨y0, y1, y2, rfl⟩ := list3 hxl
  have h0 : DataW.trod enc Try.prog W 0 (fun _ => true) true m 22 [c0] = some y0 := by simpa [Value.cells, cMks] using hF 0 _ rfl
  have h1 : DataW.trod enc Try.prog W 0 (fun _ => true) true m 23 [c1] = some y1 := by simpa [Value.cells, cIs] using hF 1 _ rfl
  have h2 : DataW.trod enc Try.prog W 0 (fun _ => true) true m 3 [c2] = some y2 := by simpa [Value.cells, cI] using hF 2 _ rfl
  obtain ⟨la, n, lc, l, rfl, hm1, hm2, hm3, hm4⟩ := open_mks h0 (hW 0 _ _ rfl rfl)
  obtain ⟨va, vn, vc, vs, rfl, _⟩ := open_is h1 (hW 1 _ _ rfl rfl)
  obtain ⟨kk, rfl, _⟩ := open_i h2
  exact ⟨la, n, lc, l, va, vn, vc, kk, rfl, hm1, hm2, hm3, hm4⟩
end
end Go.Proofs.Ytfbgoidhgkcgjaa.Oq
