import Derived.Test.YtghihdenbdnnjaaLka
import Derived.WalkKit
import Derived.ProofKit
import Derived.OpenShut
import Derived.ShutString
import Derived.ChangeOld
import Derived.Below
import Derived.Deep.Slices
import Derived.SizedLaws
namespace Go.Proofs.Ytghihdenbdnnjaa.Ln
open Go.RowKit Mb
structure Ac where
  side : Int
  kind : Int
  n : Int
  bs : List Int
def Ac.cs (x : Ac) (a : Option Addr) (n c : Nat) : List Value := [.int .i64 x.side, .int .i64 x.kind, .int .i64 x.n, .slice a n c]
def i64 (v : Int) : Prop := -9223372036854775808 ≤ v ∧ v ≤ 9223372036854775807
structure ActIn (W : World) (b o : Nat) (x : Ac) : Prop where
  out : ∃ aa m c, (∀ j, j < 4 → W.cell? ⟨b, o + j, none⟩ = (x.cs aa m c)[j]?) ∧ Rd W aa m c x.bs
  side : i64 x.side
  n : i64 x.n
def RdA (W : World) (a : Option Addr) (n : Nat) (xs : List Ac) : Prop := xs.length = n ∧ (n = 0 ∨ ∃ b off, a = some ⟨b, off, none⟩ ∧ ∀ i x, xs[i]? = some x → ActIn W b (off + i * 4) x)
end Go.Proofs.Ytghihdenbdnnjaa.Ln
namespace Go.Proofs.Ytghihdenbdnnjaa.Oe
open Go.ChangeShapes Go.WideShapes Go.ChangeAt Go.RowKit Ln Mb
set_option linter.unusedVariables false
set_option linter.unusedSimpArgs false

section
variable {H : Type} {enc : TypeId × Value → H} {W : World}

def Wt (d : DataW H) (t : TypeId) : Prop := ∀ m ∈ d.weights Try.prog t, m ≤ reachBytes

theorem struct_parts {t : TypeId} {fs : Array Field} {fuel : Nat} {cs : List Value} {x : DataW H × List MemPlace} (ht : Try.prog.underlying t = some (.struct fs)) (h : DataW.trod enc Try.prog W 0 (fun _ => true) true fuel t cs = some x) (hw : Wt x.1 t) :
    ∃ (xs : List (DataW H × List MemPlace)) (n : Nat), xs.length = fs.size ∧ (∀ (i : Nat) (f : Field), fs[i]? = some f → DataW.trod enc Try.prog W 0 (fun _ => true) true n f.type ((cs.drop f.offset).take (Try.prog.cellsOf f.type)) = xs[i]?) ∧ ∀ (i : Nat) (f : Field) y, fs[i]? = some f → xs[i]? = some y → Wt y.1 f.type := by
  obtain ⟨xs, n, _, hx, _, hl, hF⟩ := DataW.trod_struct ht h
  refine ⟨xs, n, hl, hF, fun i f y hf hy m hm => hw m ?_⟩
  rw [hx]
  simp only [DataW.weights, ht]
  exact DataW.weights_mem_each (j := i) (by rw [List.getElem?_map, Array.getElem?_toList, hf]; rfl) (by rw [List.getElem?_map, hy]; rfl) m hm


theorem cI : Try.prog.cellsOf 3 = 1 := by kernel_rfl
theorem cU : Try.prog.cellsOf 5 = 1 := by kernel_rfl
theorem cB : Try.prog.cellsOf 25 = 1 := by kernel_rfl
theorem cAs : Try.prog.cellsOf 22 = 1 := by kernel_rfl
theorem cA : Try.prog.cellsOf 47 = 4 := by kernel_rfl
theorem cID : Try.prog.cellsOf 24 = 4 := by kernel_rfl
theorem cT : Try.prog.cellsOf 27 = 10 := by kernel_rfl
theorem bU : Try.prog.bytesOf 5 = 1 := by kernel_rfl
theorem bA : Try.prog.bytesOf 47 = 48 := by kernel_rfl

theorem open_i {fuel : Nat} {c : Value} {x : DataW H × List MemPlace} (h : DataW.trod enc Try.prog W 0 (fun _ => true) true fuel 3 [c] = some x) : ∃ v : Int, c = .int .i64 v ∧ i64 v := by
  obtain ⟨v, e, _, hw⟩ := DataW.trod_int Try.underlying3 h
  simp only [List.cons.injEq, and_true] at e
  refine ⟨v, e, ?_⟩
  have h2 : -9223372036854775808 ≤ v ∧ v ≤ 9223372036854775807 := by simpa [Lit.wf, IntKind.min, IntKind.max, IntKind.signed, IntKind.bits] using hw
  exact h2
theorem row_of {k : IntKind} {x : Addr} {l c : Nat} {zs : List Int} (hl : l ≤ c) (hz : zs.length = c) (hcell : ∀ i, i < zs.length → W.cell? (x.add i) = some (.int k (zs.getD i 0))) : l = 0 ∨ ∃ b off, some x = some (⟨b, off, none⟩ : Addr) ∧ ∀ i, i < l → W.cell? ⟨b, off + i, none⟩ = some (.int k ((zs.take l).getD i 0)) := by
  by_cases h0 : l = 0
  · exact .inl h0
  · obtain ⟨b, off, spot⟩ := x
    have hc := hcell 0 (by omega)
    have hspot : spot = none := by simpa [Addr.add] using World.cell?_spot hc
    subst hspot
    refine .inr ⟨b, off, rfl, fun i hi => ?_⟩
    have := hcell i (by omega)
    rw [Addr.add_lit] at this
    rw [this]
    simp [List.getD, hi]


theorem open_bs {fuel : Nat} {v : Value} {x : DataW H × List MemPlace} (h : DataW.trod enc Try.prog W 0 (fun _ => true) true fuel 25 [v] = some x) (hw : Wt x.1 25) : ∃ a n c xs, v = .slice a n c ∧ Rd W a n c xs ∧ n ≤ 140737488351232 := by
  rcases open_ints Try.underlying25 Try.underlying5 cU h with ⟨hcs, _⟩ | ⟨x, l, c, zs, hcs, _, hl, hm, hz, hx3, hcell, hwz⟩
  · simp only [List.cons.injEq, and_true] at hcs
    subst hcs
    exact ⟨none, 0, 0, [], rfl, ⟨rfl, Nat.le_refl _, fun _ => rfl, .inl rfl, fun i => by simp⟩, by omega⟩
  · simp only [List.cons.injEq, and_true] at hcs
    subst hcs
    simp only [if_true] at hz
    refine ⟨some x, l, c, zs.take l, rfl, ⟨by rw [List.length_take]; omega, hl, fun e => (by cases e), row_of hl hz hcell, fun i => ?_⟩, ?_⟩
    · by_cases hi : i < (zs.take l).length
      · have hmem : (zs.take l).getD i 0 ∈ zs := by
          have : (zs.take l).getD i 0 ∈ zs.take l := by simp only [List.getD, List.getElem?_eq_getElem hi]; exact List.getElem_mem hi
          exact List.mem_of_mem_take this
        have := hwz _ hmem
        simpa [Lit.wf, IntKind.min, IntKind.max, IntKind.signed, IntKind.bits] using this
      · simp [List.getD, List.getElem?_eq_none (by omega : (zs.take l).length ≤ i)]
    · have := hw ((((lits .u8 (zs.take l) : List (DataW H)).length + (lits .u8 (zs.drop l) : List (DataW H)).length) * Try.prog.bytesOf 5)) (by rw [hx3]; simp [DataW.weights, Try.underlying25])
      rw [bU] at this
      simp only [lits, List.length_map, List.length_take, List.length_drop, reachBytes] at this
      omega
theorem wAll {e : TypeId} : ∀ {l : List (DataW H)} {d : DataW H}, d ∈ l → ∀ m ∈ d.weights Try.prog e, m ∈ DataW.weightsAll Try.prog e l
  | d0 :: l, d, hd, m, hm => by
    simp only [DataW.weightsAll, List.mem_append]
    rcases List.mem_cons.1 hd with rfl | hd
    · exact .inl hm
    · exact .inr (wAll hd m hm)


theorem list4 {α : Type} {l : List α} (h : l.length = 4) : ∃ c0 c1 c2 c3, l = [c0, c1, c2, c3] := by
  match l, h with
  | [c0, c1, c2, c3], _ => exact ⟨c0, c1, c2, c3, rfl⟩
theorem list7 {α : Type} {l : List α} (h : l.length = 7) : ∃ c0 c1 c2 c3 c4 c5 c6, l = [c0, c1, c2, c3, c4, c5, c6] := by
  match l, h with
  | [c0, c1, c2, c3, c4, c5, c6], _ => exact ⟨c0, c1, c2, c3, c4, c5, c6, rfl⟩
theorem list10 {α : Type} {l : List α} (h : l.length = 10) : ∃ c0 c1 c2 c3 c4 c5 c6 c7 c8 c9, l = [c0, c1, c2, c3, c4, c5, c6, c7, c8, c9] := by
  match l, h with
  | [c0, c1, c2, c3, c4, c5, c6, c7, c8, c9], _ => exact ⟨c0, c1, c2, c3, c4, c5, c6, c7, c8, c9, rfl⟩
theorem slice_parts {t e : TypeId} {fuel k : Nat} {v : Value} {x : DataW H × List MemPlace} (ht : Try.prog.underlying t = some (.slice e)) (hc : Try.prog.cellsOf e = k) (hk : 0 < k) (h : DataW.trod enc Try.prog W 0 (fun _ => true) true fuel t [v] = some x) (hw : Wt x.1 t) :
    v = .slice none 0 0 ∨ ∃ (ad : Addr) (len cap n : Nat) (D : Nat → DataW H) (Pl : Nat → List MemPlace), v = .slice (some ad) len cap ∧ len * Try.prog.bytesOf e ≤ reachBytes ∧ ∀ i, i < len → Wt (D i) e ∧ ∃ cs', cs'.length = k ∧ (∀ j, j < k → W.cell? (ad.add (i * k + j)) = cs'[j]?) ∧ DataW.trod enc Try.prog W 0 (fun _ => true) true n e cs' = some (D i, Pl i) := by
  rcases Deep.open_slice ht h with ⟨hcs, _⟩ | ⟨a, len, cap, m, n, D, Pl, hcs, _, hl, _, hm, hx, hel⟩
  · simp only [List.cons.injEq, and_true] at hcs
    exact .inl hcs
  · simp only [List.cons.injEq, and_true] at hcs
    simp only [if_true] at hm
    have hx1 : x.1 = .slice ((List.range len).map D) ((List.range (m - len)).map fun j => D (len + j)) := by rw [hx]
    refine .inr ⟨a, len, cap, n, D, Pl, hcs, ?_, fun i hi => ⟨fun w hw' => hw w ?_, ?_⟩⟩
    · have := hw (((((List.range len).map D).length + ((List.range (m - len)).map fun j => D (len + j)).length)) * Try.prog.bytesOf e) (by rw [hx1]; simp [DataW.weights, ht])
      simp only [List.length_map, List.length_range] at this
      refine Nat.le_trans (Nat.mul_le_mul_right _ ?_) this
      omega
    · rw [hx1]
      simp only [DataW.weights, ht, List.mem_cons, List.mem_append]
      exact .inr (.inl (wAll (List.mem_map.2 ⟨i, List.mem_range.2 hi, rfl⟩) w hw'))
    · obtain ⟨cs', h1, h2⟩ := hel i (by omega)
      rw [hc] at h1
      obtain ⟨_, hlen, hcell⟩ := World.cells?_some h1
      refine ⟨cs', hlen, fun j hj => ?_, h2⟩
      have := hcell j (by omega)
      rw [Addr.add_add] at this
      exact this


theorem ad_plain {x : Addr} {v : Value} (h : W.cell? (x.add 0) = some v) : ∃ b off, x = ⟨b, off, none⟩ := by
  obtain ⟨b, off, spot⟩ := x
  have hspot : spot = none := by simpa [Addr.add] using World.cell?_spot h
  subst hspot
  exact ⟨b, off, rfl⟩

theorem open_acts {fuel : Nat} {v : Value} {x : DataW H × List MemPlace} (h : DataW.trod enc Try.prog W 0 (fun _ => true) true fuel 22 [v] = some x) (hw : Wt x.1 22) : ∃ a n c xs, v = .slice a n c ∧ RdA W a n xs ∧ n ≤ 140737488351232 := by
  rcases slice_parts Try.underlying22 cA (by decide) h hw with rfl | ⟨ad, len, cap, n, D, Pl, rfl, hb, hel⟩
  · exact ⟨none, 0, 0, [], rfl, ⟨rfl, .inl rfl⟩, by omega⟩
  · rw [bA] at hb
    have each : ∀ i, ∃ o : Ac, i < len → (∃ aa m c, (∀ j, j < 4 → W.cell? (ad.add (i * 4 + j)) = (o.cs aa m c)[j]?) ∧ Rd W aa m c o.bs) ∧ i64 o.side ∧ i64 o.n := by
      intro i
      by_cases hi : i < len
      · obtain ⟨hwD, cs', hl, hcell, htr⟩ := hel i hi
        obtain ⟨c0, c1, c2, c3, rfl⟩ := list4 hl
        obtain ⟨xs, n', hxl, hF, hWf⟩ := struct_parts Try.underlying47 htr hwD
        obtain ⟨y0, y1, y2, y3, rfl⟩ := list4 hxl
        have h0 : DataW.trod enc Try.prog W 0 (fun _ => true) true n' 3 [c0] = some y0 := by simpa [cI] using hF 0 _ rfl
        have h1 : DataW.trod enc Try.prog W 0 (fun _ => true) true n' 3 [c1] = some y1 := by simpa [cI] using hF 1 _ rfl
        have h2 : DataW.trod enc Try.prog W 0 (fun _ => true) true n' 3 [c2] = some y2 := by simpa [cI] using hF 2 _ rfl
        have h3 : DataW.trod enc Try.prog W 0 (fun _ => true) true n' 25 [c3] = some y3 := by simpa [cB] using hF 3 _ rfl
        obtain ⟨v0, rfl, k0⟩ := open_i h0
        obtain ⟨v1, rfl, _⟩ := open_i h1
        obtain ⟨v2, rfl, k2⟩ := open_i h2
        obtain ⟨a, m, c, bs, rfl, ho, _⟩ := open_bs h3 (hWf 3 _ y3 rfl rfl)
        refine ⟨⟨v0, v1, v2, bs⟩, fun _ => ⟨⟨a, m, c, fun j hj => ?_, ho⟩, k0, k2⟩⟩
        rw [hcell j hj]
        simp [Ac.cs]
      · exact ⟨⟨0, 0, 0, []⟩, fun h => absurd h hi⟩
    obtain ⟨f, hf⟩ := Classical.axiomOfChoice each
    refine ⟨some ad, len, cap, (List.range len).map f, rfl, ⟨by simp, ?_⟩, by unfold reachBytes at hb; omega⟩
    by_cases h0 : len = 0
    · exact .inl h0
    · obtain ⟨b, off, rfl⟩ := ad_plain (v := .int .i64 (f 0).side) (by obtain ⟨⟨aa, m, c, h9, _⟩, _⟩ := hf 0 (by omega); have h10 := h9 0 (by decide); simp only [Nat.zero_mul, Nat.zero_add] at h10; exact h10)
      refine .inr ⟨b, off, rfl, fun i x hx => ?_⟩
      have hi : i < len := by
        by_cases hi : i < len
        · exact hi
        · rw [List.getElem?_eq_none (by simp; omega)] at hx; cases hx
      have hx2 : x = f i := by
        rw [List.getElem?_map, List.getElem?_range hi] at hx
        cases hx; rfl
      subst hx2
      obtain ⟨⟨aa, m, c, h9, h10⟩, k0, k2⟩ := hf i hi
      refine ⟨⟨aa, m, c, fun j hj => ?_, h10⟩, k0, k2⟩
      have := h9 j hj
      rw [Addr.add_lit] at this
      rw [Nat.add_assoc]
      exact this

structure Tk where
  wi : Int
  rm : Int
  ba : Option Addr
  bn : Nat
  bc : Nat
  bx : List Ac
  aa : Option Addr
  an : Nat
  ac : Nat
  ax : List Ac
  o0 : Int
  o1 : Int
  o2 : Int
  o3 : Int
  sq : Int
  da : Option Addr
  dn : Nat
  dc : Nat
  ds : List Int
def Tk.cs (t : Tk) : Array Value := #[.int .i64 t.wi, .int .i64 t.rm, .slice t.ba t.bn t.bc, .slice t.aa t.an t.ac, .int .i64 t.o0, .int .i64 t.o1, .int .i64 t.o2, .int .i64 t.o3, .int .i64 t.sq, .slice t.da t.dn t.dc]
structure TkIn (W : World) (t : Tk) : Prop where
  wi : i64 t.wi
  rm : i64 t.rm
  sq : i64 t.sq
  o0 : i64 t.o0
  o1 : i64 t.o1
  o2 : i64 t.o2
  o3 : i64 t.o3
  bx : RdA W t.ba t.bn t.bx
  bn : t.bn ≤ 140737488351232
  ax : RdA W t.aa t.an t.ax
  an : t.an ≤ 140737488351232
  ds : Rd W t.da t.dn t.dc t.ds
  dn : t.dn ≤ 140737488351232
set_option maxRecDepth 100000 in
theorem open_talk {base : Nat} {v : Value} {d : DataW H} {p : List MemPlace} (hok : Value.okWide Try.prog W .any base 27 v) (h : DataW.Trod enc Try.prog W 0 (fun _ => true) true 27 v d p) (hw : Wt d 27) : ∃ t : Tk, v = .agg t.cs ∧ TkIn W t := by
  obtain ⟨cs, rfl, hsz⟩ := okWide_struct Try.underlying27 hok
  rw [cT] at hsz
  obtain ⟨c0, c1, c2, c3, c4, c5, c6, c7, c8, c9, hcs⟩ := list10 (show cs.toList.length = 10 by simpa using hsz)
  obtain rfl : cs = #[c0, c1, c2, c3, c4, c5, c6, c7, c8, c9] := by
    apply Array.ext'
    rw [hcs]
  obtain ⟨fuel, hf⟩ := h
  obtain ⟨xs, n, hxl, hF, hWf⟩ := struct_parts Try.underlying27 hf hw
  obtain ⟨y0, y1, y2, y3, y4, y5, y6, rfl⟩ := list7 hxl
  have h0 : DataW.trod enc Try.prog W 0 (fun _ => true) true n 3 [c0] = some y0 := by simpa [Value.cells, cI] using hF 0 _ rfl
  have h1 : DataW.trod enc Try.prog W 0 (fun _ => true) true n 3 [c1] = some y1 := by simpa [Value.cells, cI] using hF 1 _ rfl
  have h2 : DataW.trod enc Try.prog W 0 (fun _ => true) true n 22 [c2] = some y2 := by simpa [Value.cells, cAs] using hF 2 _ rfl
  have h3 : DataW.trod enc Try.prog W 0 (fun _ => true) true n 22 [c3] = some y3 := by simpa [Value.cells, cAs] using hF 3 _ rfl
  have h4 : DataW.trod enc Try.prog W 0 (fun _ => true) true n 24 [c4, c5, c6, c7] = some y4 := by simpa [Value.cells, cID] using hF 4 _ rfl
  have h5 : DataW.trod enc Try.prog W 0 (fun _ => true) true n 3 [c8] = some y5 := by simpa [Value.cells, cI] using hF 5 _ rfl
  have h6 : DataW.trod enc Try.prog W 0 (fun _ => true) true n 25 [c9] = some y6 := by simpa [Value.cells, cB] using hF 6 _ rfl
  obtain ⟨v0, rfl, k0⟩ := open_i h0
  obtain ⟨v1, rfl, k1⟩ := open_i h1
  obtain ⟨a2, m2, b2, x2, rfl, r2, z2⟩ := open_acts h2 (hWf 2 _ y2 rfl rfl)
  obtain ⟨a3, m3, b3, x3, rfl, r3, z3⟩ := open_acts h3 (hWf 3 _ y3 rfl rfl)
  obtain ⟨us, n', hul, hG, _⟩ := struct_parts Try.underlying24 h4 (hWf 4 _ y4 rfl rfl)
  obtain ⟨u0, u1, u2, u3, rfl⟩ := list4 hul
  have g0 : DataW.trod enc Try.prog W 0 (fun _ => true) true n' 3 [c4] = some u0 := by simpa [cI] using hG 0 _ rfl
  have g1 : DataW.trod enc Try.prog W 0 (fun _ => true) true n' 3 [c5] = some u1 := by simpa [cI] using hG 1 _ rfl
  have g2 : DataW.trod enc Try.prog W 0 (fun _ => true) true n' 3 [c6] = some u2 := by simpa [cI] using hG 2 _ rfl
  have g3 : DataW.trod enc Try.prog W 0 (fun _ => true) true n' 3 [c7] = some u3 := by simpa [cI] using hG 3 _ rfl
  obtain ⟨v4, rfl, k4⟩ := open_i g0
  obtain ⟨v5, rfl, k5⟩ := open_i g1
  obtain ⟨v6, rfl, k6⟩ := open_i g2
  obtain ⟨v7, rfl, k7⟩ := open_i g3
  obtain ⟨v8, rfl, k8⟩ := open_i h5
  obtain ⟨a9, m9, b9, x9, rfl, r9, z9⟩ := open_bs h6 (hWf 6 _ y6 rfl rfl)
  exact ⟨⟨v0, v1, a2, m2, b2, x2, a3, m3, b3, x3, v4, v5, v6, v7, v8, a9, m9, b9, x9⟩, rfl, ⟨k0, k1, k8, k4, k5, k6, k7, r2, z2, r3, z3, r9, z9⟩⟩
end
end Go.Proofs.Ytghihdenbdnnjaa.Oe
