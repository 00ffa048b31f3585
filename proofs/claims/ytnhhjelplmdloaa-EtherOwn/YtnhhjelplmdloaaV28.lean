import Derived.Test.YtnhhjelplmdloaaV27
import Derived.WalkKit
import Derived.ProofKit
import Derived.OpenShut
import Derived.ShutString
import Derived.ChangeOld
import Derived.Below
import Derived.Deep.Slices
import Derived.SizedLaws
namespace Go.Proofs.Ytnhhjelplmdloaa.Et
open Go.RowKit Go.Maps
set_option linter.unusedVariables false
set_option linter.unusedSimpArgs false
set_option maxRecDepth 100000
section
variable {E E' : En} {R R' : Rn} {w w' w1 w2 w3 : World} {B K m : Nat}
theorem Fx.byt.lower {f : Fx} {B' : Nat} (h : f.byt w B) (hB : B' ≤ B) : f.byt w B' := ⟨own_lower h.1 hB, h.2⟩
theorem En.Ok.lower {B' : Nat} (h : E.Ok w B m) (hB : B' ≤ B) : E.Ok w B' m :=
  ⟨h.blk, h.nod, h.cut, h.del, ⟨own_lower h.fls.row hB, fun f hf => (h.fls.byt f hf).lower hB, h.fls.apt⟩, ⟨Nat.le_trans hB h.ge.1, Nat.le_trans hB h.ge.2.1, Nat.le_trans hB h.ge.2.2.1, Nat.le_trans hB h.ge.2.2.2⟩, h.ne, h.n16, h.pth, h.dly⟩
def OpIn (w : World) (o : Opx) : Prop := (∃ bs, Rd w o.ba o.bn o.bc bs) ∧ (∃ xs, RdI w o.sa o.sn o.sc xs) ∧ o.bn ≤ 140737488351232 ∧ o.sn ≤ 17592186043904 ∧ o.n ≤ 9223372036854775807
def o0 : Opx := ⟨0, 0, 0, 0, none, 0, 0, none, 0, 0⟩
def RdOps (w : World) (oa : Option Addr) (n : Nat) (os : Nat → Opx) : Prop :=
  (n = 0 ∨ ∃ b off, oa = some ⟨b, off, none⟩ ∧ ∀ i, i < n → ∀ j, j < 6 → w.cell? ⟨b, off + (i * 6 + j), none⟩ = (os i).cs[j]?) ∧ ∀ i, i < n → OpIn w (os i)
theorem op_cs (o : Opx) (j : Nat) (hj : j < 6) : ∃ u, o.cs[j]? = some u := ⟨_, Array.getElem?_eq_getElem (by show j < o.cs.size; exact hj)⟩
theorem OpIn.low {w0 : World} {o : Opx} (h : OpIn w0 o) (hl : Below w0.heap.size w0 w) : (∃ bs, ∀ w', Below w0.heap.size w w' → Rd w' o.ba o.bn o.bc bs) ∧ (∃ xs, ∀ w', Below w0.heap.size w w' → RdI w' o.sa o.sn o.sc xs) := by
  obtain ⟨⟨bs, hb⟩, ⟨xs, hx⟩, _⟩ := h
  exact ⟨⟨bs, fun w' hl' => hb.still (hl.trans hl')⟩, ⟨xs, fun w' hl' => hx.still (hl.trans hl')⟩⟩
theorem RdOps.at {w0 : World} {oa : Option Addr} {n k : Nat} {os : Nat → Opx} (h : RdOps w0 oa n os) (hl : Below w0.heap.size w0 w) (hk : k < n) : ∃ b off, oa = some ⟨b, off, none⟩ ∧ w.cell? ⟨b, off + k * 6, none⟩ = some (.int .i64 (os k).k) ∧ w.cell? ⟨b, off + k * 6 + 1, none⟩ = some (.int .i64 (os k).p) ∧ w.cell? ⟨b, off + k * 6 + 2, none⟩ = some (.int .i64 (os k).q) ∧ w.cell? ⟨b, off + k * 6 + 3, none⟩ = some (.int .i64 (os k).n) ∧ w.cell? ⟨b, off + k * 6 + 4, none⟩ = some (.slice (os k).ba (os k).bn (os k).bc) ∧ w.cell? ⟨b, off + k * 6 + 5, none⟩ = some (.slice (os k).sa (os k).sn (os k).sc) := by
  rcases h.1 with h0 | ⟨b, off, ha, hc⟩
  · omega
  · refine ⟨b, off, ha, ?_, ?_, ?_, ?_, ?_, ?_⟩
    · exact below_at hl (hc k hk 0 (by omega))
    · exact below_at hl (hc k hk 1 (by omega))
    · exact below_at hl (hc k hk 2 (by omega))
    · exact below_at hl (hc k hk 3 (by omega))
    · exact below_at hl (hc k hk 4 (by omega))
    · exact below_at hl (hc k hk 5 (by omega))
def kc (nd rm : Int) (oa : Option Addr) (n oc : Nat) : Array Value := #[.int .i64 nd, .int .i64 rm, .slice oa n oc]
end
end Go.Proofs.Ytnhhjelplmdloaa.Et
namespace Go.Proofs.Ytnhhjelplmdloaa.Oe
open Go.ChangeShapes Go.WideShapes Go.ChangeAt Go.RowKit Et
set_option linter.unusedVariables false
set_option linter.unusedSimpArgs false
section
variable {H : Type} {enc : TypeId × Value → H} {W : World}
def Wt (d : DataW H) (t : TypeId) : Prop := ∀ m ∈ d.weights Try.prog t, m ≤ reachBytes
theorem struct_parts {t : TypeId} {fs : Array Field} {fuel : Nat} {cs : List Value} {x : DataW H × List MemPlace} (ht : Try.prog.underlying t = some (.struct fs)) (h : DataW.trod enc Try.prog W 0 (fun _ => true) true fuel t cs = some x) (hw : Wt x.1 t) :
    ∃ (xs : List (DataW H × List MemPlace)) (n : Nat), xs.length = fs.size ∧ (∀ (i : Nat) (f : Field), fs[i]? = some f → DataW.trod enc Try.prog W 0 (fun _ => true) true n f.type ((cs.drop f.offset).take (Try.prog.cellsOf f.type)) = xs[i]?) ∧ ∀ (i : Nat) (f : Field) y, fs[i]? = some f → xs[i]? = some y → Wt y.1 f.type := by
  obtain ⟨xs, n, _, hx, _, hl, hF⟩ := DataW.trod_struct ht h
  refine ⟨xs, n, hl, hF, fun i f y hf hy m hm => hw m ?_⟩
  rw [hx]
  simp only [DataW.weights, ht]
  exact DataW.weights_mem_each (j := i) (by rw [List.getElem?_map, Array.getElem?_toList, hf]; rfl) (by rw [List.getElem?_map, hy]; rfl) m hm
def OI (W : World) (a : Option Addr) (n c : Nat) (xs : List Int) : Prop := RdI W a n c xs ∧ n * 8 ≤ 140737488351232
def OB (W : World) (a : Option Addr) (n c : Nat) (xs : List Int) : Prop := Rd W a n c xs ∧ n ≤ 140737488351232
theorem cI : Try.prog.cellsOf 3 = 1 := by kernel_rfl
theorem cU : Try.prog.cellsOf 5 = 1 := by kernel_rfl
theorem cB : Try.prog.cellsOf 35 = 1 := by kernel_rfl
theorem cIs : Try.prog.cellsOf 30 = 1 := by kernel_rfl
theorem cOs : Try.prog.cellsOf 22 = 1 := by kernel_rfl
theorem cO : Try.prog.cellsOf 46 = 6 := by kernel_rfl
theorem cC : Try.prog.cellsOf 24 = 3 := by kernel_rfl
theorem bI : Try.prog.bytesOf 3 = 8 := by kernel_rfl
theorem bU : Try.prog.bytesOf 5 = 1 := by kernel_rfl
theorem bO : Try.prog.bytesOf 46 = 80 := by kernel_rfl
theorem open_i {fuel : Nat} {c : Value} {x : DataW H × List MemPlace} (h : DataW.trod enc Try.prog W 0 (fun _ => true) true fuel 3 [c] = some x) : ∃ v : Int, c = .int .i64 v ∧ v ≤ 9223372036854775807 := by
  obtain ⟨v, e, _, hw⟩ := DataW.trod_int Try.underlying3 h
  simp only [List.cons.injEq, and_true] at e
  refine ⟨v, e, ?_⟩
  have h2 : -9223372036854775808 ≤ v ∧ v ≤ 9223372036854775807 := by simpa [Lit.wf, IntKind.min, IntKind.max, IntKind.signed, IntKind.bits] using hw
  exact h2.2
theorem row_of {k : IntKind} {x : Addr} {l c : Nat} {zs : List Int} (hl : l ≤ c) (hz : zs.length = c) (hcell : ∀ i, i < zs.length → W.cell? (x.add i) = some (.int k (zs.getD i 0))) : l = 0 ∨ ∃ b off, some x = some (⟨b, off, none⟩ : Addr) ∧ ∀ i, i < l → W.cell? ⟨b, off + i, none⟩ = some (.int k ((zs.take l).getD i 0)) := by
  by_cases h0 : l = 0
  · exact .inl h0
  · obtain ⟨b, off, spot⟩ := x
    have hc := hcell 0 (by omega)
    have hspot : spot = none := by simpa [Addr.add] using World.cell?_spot hc
    subst hspot
    refine .inr ⟨b, off, rfl, fun i hi => ?_⟩
    have := hcell i (by omega)
    rw [Addr.add_lit] at this
    rw [this]
    simp [List.getD, hi]
theorem open_is {fuel : Nat} {v : Value} {x : DataW H × List MemPlace} (h : DataW.trod enc Try.prog W 0 (fun _ => true) true fuel 30 [v] = some x) (hw : Wt x.1 30) : ∃ a n c xs, v = .slice a n c ∧ OI W a n c xs := by
  rcases open_ints Try.underlying30 Try.underlying3 cI h with ⟨hcs, _⟩ | ⟨x, l, c, zs, hcs, _, hl, hm, hz, hx3, hcell, hwz⟩
  · simp only [List.cons.injEq, and_true] at hcs
    subst hcs
    exact ⟨none, 0, 0, [], rfl, ⟨rfl, fun _ => ⟨rfl, rfl⟩, .inl rfl⟩, by omega⟩
  · simp only [List.cons.injEq, and_true] at hcs
    subst hcs
    simp only [if_true] at hz
    refine ⟨some x, l, c, zs.take l, rfl, ⟨by rw [List.length_take]; omega, by simp, row_of hl hz hcell⟩, ?_⟩
    have := hw ((((lits .i64 (zs.take l) : List (DataW H)).length + (lits .i64 (zs.drop l) : List (DataW H)).length) * Try.prog.bytesOf 3)) (by rw [hx3]; simp [DataW.weights, Try.underlying30])
    rw [bI] at this
    simp only [lits, List.length_map, List.length_take, List.length_drop, reachBytes] at this
    omega
theorem open_bs {fuel : Nat} {v : Value} {x : DataW H × List MemPlace} (h : DataW.trod enc Try.prog W 0 (fun _ => true) true fuel 35 [v] = some x) (hw : Wt x.1 35) : ∃ a n c xs, v = .slice a n c ∧ OB W a n c xs := by
  rcases open_ints Try.underlying35 Try.underlying5 cU h with ⟨hcs, _⟩ | ⟨x, l, c, zs, hcs, _, hl, hm, hz, hx3, hcell, hwz⟩
  · simp only [List.cons.injEq, and_true] at hcs
    subst hcs
    exact ⟨none, 0, 0, [], rfl, ⟨rfl, fun _ => ⟨rfl, rfl⟩, .inl rfl, by simp⟩, by omega⟩
  · simp only [List.cons.injEq, and_true] at hcs
    subst hcs
    simp only [if_true] at hz
    refine ⟨some x, l, c, zs.take l, rfl, ⟨by rw [List.length_take]; omega, by simp, row_of hl hz hcell, fun i => ?_⟩, ?_⟩
    · by_cases hi : i < (zs.take l).length
      · have hmem : (zs.take l).getD i 0 ∈ zs := by
          have : (zs.take l).getD i 0 ∈ zs.take l := by simp only [List.getD, List.getElem?_eq_getElem hi]; exact List.getElem_mem hi
          exact List.mem_of_mem_take this
        have := hwz _ hmem
        simpa [Lit.wf, IntKind.min, IntKind.max, IntKind.signed, IntKind.bits] using this
      · simp [List.getD, List.getElem?_eq_none (by omega : (zs.take l).length ≤ i)]
    · have := hw ((((lits .u8 (zs.take l) : List (DataW H)).length + (lits .u8 (zs.drop l) : List (DataW H)).length) * Try.prog.bytesOf 5)) (by rw [hx3]; simp [DataW.weights, Try.underlying35])
      rw [bU] at this
      simp only [lits, List.length_map, List.length_take, List.length_drop, reachBytes] at this
      omega
theorem wAll {e : TypeId} : ∀ {l : List (DataW H)} {d : DataW H}, d ∈ l → ∀ m ∈ d.weights Try.prog e, m ∈ DataW.weightsAll Try.prog e l
  | d0 :: l, d, hd, m, hm => by
    simp only [DataW.weightsAll, List.mem_append]
    rcases List.mem_cons.1 hd with rfl | hd
    · exact .inl hm
    · exact .inr (wAll hd m hm)
theorem list3 {α : Type} {l : List α} (h : l.length = 3) : ∃ c0 c1 c2, l = [c0, c1, c2] := by
  match l, h with
  | [c0, c1, c2], _ => exact ⟨c0, c1, c2, rfl⟩
theorem list6 {α : Type} {l : List α} (h : l.length = 6) : ∃ c0 c1 c2 c3 c4 c5, l = [c0, c1, c2, c3, c4, c5] := by
  match l, h with
  | [c0, c1, c2, c3, c4, c5], _ => exact ⟨c0, c1, c2, c3, c4, c5, rfl⟩
theorem slice_parts {t e : TypeId} {fuel k : Nat} {v : Value} {x : DataW H × List MemPlace} (ht : Try.prog.underlying t = some (.slice e)) (hc : Try.prog.cellsOf e = k) (hk : 0 < k) (h : DataW.trod enc Try.prog W 0 (fun _ => true) true fuel t [v] = some x) (hw : Wt x.1 t) :
    v = .slice none 0 0 ∨ ∃ (ad : Addr) (len cap n : Nat) (D : Nat → DataW H) (Pl : Nat → List MemPlace), v = .slice (some ad) len cap ∧ len * Try.prog.bytesOf e ≤ reachBytes ∧ ∀ i, i < len → Wt (D i) e ∧ ∃ cs', cs'.length = k ∧ (∀ j, j < k → W.cell? (ad.add (i * k + j)) = cs'[j]?) ∧ DataW.trod enc Try.prog W 0 (fun _ => true) true n e cs' = some (D i, Pl i) := by
  rcases Deep.open_slice ht h with ⟨hcs, _⟩ | ⟨a, len, cap, m, n, D, Pl, hcs, _, hl, _, hm, hx, hel⟩
  · simp only [List.cons.injEq, and_true] at hcs
    exact .inl hcs
  · simp only [List.cons.injEq, and_true] at hcs
    simp only [if_true] at hm
    have hx1 : x.1 = .slice ((List.range len).map D) ((List.range (m - len)).map fun j => D (len + j)) := by rw [hx]
    refine .inr ⟨a, len, cap, n, D, Pl, hcs, ?_, fun i hi => ⟨fun w hw' => hw w ?_, ?_⟩⟩
    · have := hw (((((List.range len).map D).length + ((List.range (m - len)).map fun j => D (len + j)).length)) * Try.prog.bytesOf e) (by rw [hx1]; simp [DataW.weights, ht])
      simp only [List.length_map, List.length_range] at this
      refine Nat.le_trans (Nat.mul_le_mul_right _ ?_) this
      omega
    · rw [hx1]
      simp only [DataW.weights, ht, List.mem_cons, List.mem_append]
      exact .inr (.inl (wAll (List.mem_map.2 ⟨i, List.mem_range.2 hi, rfl⟩) w hw'))
    · obtain ⟨cs', h1, h2⟩ := hel i (by omega)
      rw [hc] at h1
      obtain ⟨_, hlen, hcell⟩ := World.cells?_some h1
      refine ⟨cs', hlen, fun j hj => ?_, h2⟩
      have := hcell j (by omega)
      rw [Addr.add_add] at this
      exact this
theorem ad_plain {x : Addr} {v : Value} (h : W.cell? (x.add 0) = some v) : ∃ b off, x = ⟨b, off, none⟩ := by
  obtain ⟨b, off, spot⟩ := x
  have hspot : spot = none := by simpa [Addr.add] using World.cell?_spot h
  subst hspot
  exact ⟨b, off, rfl⟩
theorem open_ops {fuel : Nat} {v : Value} {x : DataW H × List MemPlace} (h : DataW.trod enc Try.prog W 0 (fun _ => true) true fuel 22 [v] = some x) (hw : Wt x.1 22) : ∃ a n c os, v = .slice a n c ∧ RdOps W a n os ∧ n ≤ 1759218604390 := by
  rcases slice_parts Try.underlying22 cO (by decide) h hw with rfl | ⟨ad, len, cap, n, D, Pl, rfl, hb, hel⟩
  · exact ⟨none, 0, 0, (fun _ => o0), rfl, ⟨.inl rfl, fun i hi => by omega⟩, by omega⟩
  · rw [bO] at hb
    have each : ∀ i, ∃ o : Opx, i < len → (∀ j, j < 6 → W.cell? (ad.add (i * 6 + j)) = o.cs[j]?) ∧ OpIn W o := by
      intro i
      by_cases hi : i < len
      · obtain ⟨hwD, cs', hl, hcell, htr⟩ := hel i hi
        obtain ⟨c0, c1, c2, c3, c4, c5, rfl⟩ := list6 hl
        obtain ⟨xs, n', hxl, hF, hWf⟩ := struct_parts Try.underlying46 htr hwD
        obtain ⟨y0, y1, y2, y3, y4, y5, rfl⟩ := list6 hxl
        have h0 : DataW.trod enc Try.prog W 0 (fun _ => true) true n' 3 [c0] = some y0 := by simpa [cI] using hF 0 _ rfl
        have h1 : DataW.trod enc Try.prog W 0 (fun _ => true) true n' 3 [c1] = some y1 := by simpa [cI] using hF 1 _ rfl
        have h2 : DataW.trod enc Try.prog W 0 (fun _ => true) true n' 3 [c2] = some y2 := by simpa [cI] using hF 2 _ rfl
        have h3 : DataW.trod enc Try.prog W 0 (fun _ => true) true n' 3 [c3] = some y3 := by simpa [cI] using hF 3 _ rfl
        have h4 : DataW.trod enc Try.prog W 0 (fun _ => true) true n' 35 [c4] = some y4 := by simpa [cB] using hF 4 _ rfl
        have h5 : DataW.trod enc Try.prog W 0 (fun _ => true) true n' 30 [c5] = some y5 := by simpa [cIs] using hF 5 _ rfl
        obtain ⟨v0, rfl, _⟩ := open_i h0
        obtain ⟨v1, rfl, _⟩ := open_i h1
        obtain ⟨v2, rfl, _⟩ := open_i h2
        obtain ⟨v3, rfl, hv3⟩ := open_i h3
        obtain ⟨a, m, c, bs, rfl, ho⟩ := open_bs h4 (hWf 4 _ y4 rfl rfl)
        obtain ⟨a2, m2, c2', zs, rfl, ho2⟩ := open_is h5 (hWf 5 _ y5 rfl rfl)
        have hm2 := ho2.2
        refine ⟨⟨v0, v1, v2, v3, a, m, c, a2, m2, c2'⟩, fun _ => ⟨fun j hj => ?_, ⟨bs, ho.1⟩, ⟨zs, ho2.1⟩, ho.2, by show m2 ≤ _; omega, hv3⟩⟩
        rw [hcell j hj]
        simp [Opx.cs]
      · exact ⟨o0, fun h => absurd h hi⟩
    obtain ⟨f, hf⟩ := Classical.axiomOfChoice each
    refine ⟨some ad, len, cap, f, rfl, ⟨?_, fun i hi => (hf i hi).2⟩, by unfold reachBytes at hb; omega⟩
    by_cases h0 : len = 0
    · exact .inl h0
    · obtain ⟨b, off, rfl⟩ := ad_plain (v := .int .i64 (f 0).k) (by have h9 := (hf 0 (by omega)).1 0 (by decide); simp only [Nat.zero_mul, Nat.zero_add] at h9; exact h9)
      refine .inr ⟨b, off, rfl, fun i hi j hj => ?_⟩
      have := (hf i hi).1 j hj
      rw [Addr.add_lit] at this
      exact this
set_option maxRecDepth 100000 in
theorem open_case {base : Nat} {v : Value} {d : DataW H} {p : List MemPlace} (hok : Value.okWide Try.prog W .any base 24 v) (h : DataW.Trod enc Try.prog W 0 (fun _ => true) true 24 v d p) (hw : Wt d 24) : ∃ nd rm oa n oc os, v = .agg (kc nd rm oa n oc) ∧ RdOps W oa n os ∧ n ≤ 1759218604390 := by
  obtain ⟨cs, rfl, hsz⟩ := okWide_struct Try.underlying24 hok
  rw [cC] at hsz
  obtain ⟨c0, c1, c2, hcs⟩ := list3 (show cs.toList.length = 3 by simpa using hsz)
  obtain rfl : cs = #[c0, c1, c2] := by
    apply Array.ext'
    rw [hcs]
  obtain ⟨fuel, hf⟩ := h
  obtain ⟨xs, n, hxl, hF, hWf⟩ := struct_parts Try.underlying24 hf hw
  obtain ⟨y0, y1, y2, rfl⟩ := list3 hxl
  have h0 : DataW.trod enc Try.prog W 0 (fun _ => true) true n 3 [c0] = some y0 := by simpa [Value.cells, cI, cOs] using hF 0 _ rfl
  have h1 : DataW.trod enc Try.prog W 0 (fun _ => true) true n 3 [c1] = some y1 := by simpa [Value.cells, cI, cOs] using hF 1 _ rfl
  have h2 : DataW.trod enc Try.prog W 0 (fun _ => true) true n 22 [c2] = some y2 := by simpa [Value.cells, cI, cOs] using hF 2 _ rfl
  obtain ⟨v0, rfl, _⟩ := open_i h0
  obtain ⟨v1, rfl, _⟩ := open_i h1
  obtain ⟨a, m, c, os, rfl, ho, hn⟩ := open_ops h2 (hWf 2 _ y2 rfl rfl)
  exact ⟨v0, v1, a, m, c, os, rfl, ho, hn⟩
end
end Go.Proofs.Ytnhhjelplmdloaa.Oe
