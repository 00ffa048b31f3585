import Derived.Test.YtihcaopcfhbofaaX17
import Derived.WalkKit
import Derived.ProofKit
import Derived.OpenShut
import Derived.ShutString
import Derived.ChangeOld
import Derived.Below
import Derived.Deep.Slices
import Derived.SizedLaws
namespace Go.Proofs.Ytihcaopcfhbofaa.Of
open Go.ChangeShapes Go.WideShapes Go.ChangeAt Go.RowKit Mb Fm
set_option linter.unusedVariables false
set_option linter.unusedSimpArgs false
set_option maxRecDepth 100000
section
variable {H : Type} {enc : TypeId × Value → H} {W : World}
theorem one_le (d : DataW H) : 1 ≤ Rows.uptoBulk d := by
  cases d with
  | lit l => cases l <;> simp [Rows.uptoBulk]
  | nil => simp [Rows.uptoBulk]
  | ptr d => simp [Rows.uptoBulk]
  | slice elems spare => simp [Rows.uptoBulk]
  | agg parts => simp [Rows.uptoBulk]
  | iface t d => simp [Rows.uptoBulk]
  | map entries => simp [Rows.uptoBulk]
  | held h => simp [Rows.uptoBulk]
theorem part_le {d : DataW H} {l : List (DataW H)} (h : d ∈ l) : Rows.uptoBulk d ≤ Rows.uptoBulkAll l := by
  induction l with
  | nil => cases h
  | cons x r ih =>
    simp only [Rows.uptoBulkAll]
    cases List.mem_cons.1 h with
    | inl e => subst e; omega
    | inr e => have := ih e; omega
theorem length_le (l : List (DataW H)) : l.length ≤ Rows.uptoBulkAll l := by
  induction l with
  | nil => simp [Rows.uptoBulkAll]
  | cons x r ih => have := one_le x; simp only [Rows.uptoBulkAll, List.length_cons]; omega
def Sm (d : DataW H) : Prop := Rows.uptoBulk d ≤ 1048576
theorem sm_agg {l : List (DataW H)} {d : DataW H} (h : Sm (.agg l : DataW H)) (hd : d ∈ l) : Sm d := by
  have := part_le hd
  unfold Sm at *
  simp only [Rows.uptoBulk] at h
  omega
theorem sm_slice {l r : List (DataW H)} (h : Sm (.slice l r : DataW H)) : l.length ≤ 1048576 ∧ ∀ d ∈ l, Sm d := by
  have h1 := length_le l
  unfold Sm at *
  simp only [Rows.uptoBulk] at h
  exact ⟨by omega, fun d hd => by have := part_le hd; omega⟩
theorem struct_parts {t : TypeId} {fs : Array Field} {fuel : Nat} {cs : List Value} {x : DataW H × List MemPlace} (ht : Try.prog.underlying t = some (.struct fs)) (h : DataW.trod enc Try.prog W 0 (fun _ => true) true fuel t cs = some x) (hw : Sm x.1) :
    ∃ (xs : List (DataW H × List MemPlace)) (n : Nat), xs.length = fs.size ∧ (∀ (i : Nat) (f : Field), fs[i]? = some f → DataW.trod enc Try.prog W 0 (fun _ => true) true n f.type ((cs.drop f.offset).take (Try.prog.cellsOf f.type)) = xs[i]?) ∧ ∀ (i : Nat) y, xs[i]? = some y → Sm y.1 := by
  obtain ⟨xs, n, _, hx, _, hl, hF⟩ := DataW.trod_struct ht h
  refine ⟨xs, n, hl, hF, fun i y hy => ?_⟩
  rw [hx] at hw
  exact sm_agg hw (List.mem_map.2 ⟨y, List.mem_of_getElem? hy, rfl⟩)
theorem slice_parts {t e : TypeId} {fuel k : Nat} {v : Value} {x : DataW H × List MemPlace} (ht : Try.prog.underlying t = some (.slice e)) (hc : Try.prog.cellsOf e = k) (hk : 0 < k) (h : DataW.trod enc Try.prog W 0 (fun _ => true) true fuel t [v] = some x) (hw : Sm x.1) :
    v = .slice none 0 0 ∨ ∃ (ad : Addr) (len cap n : Nat) (D : Nat → DataW H) (Pl : Nat → List MemPlace), v = .slice (some ad) len cap ∧ len ≤ 1048576 ∧ ∀ i, i < len → Sm (D i) ∧ ∃ cs', cs'.length = k ∧ (∀ j, j < k → W.cell? (ad.add (i * k + j)) = cs'[j]?) ∧ DataW.trod enc Try.prog W 0 (fun _ => true) true n e cs' = some (D i, Pl i) := by
  rcases Deep.open_slice ht h with ⟨hcs, _⟩ | ⟨a, len, cap, m, n, D, Pl, hcs, _, hl, _, hm, hx, hel⟩
  · simp only [List.cons.injEq, and_true] at hcs
    exact .inl hcs
  · simp only [List.cons.injEq, and_true] at hcs
    simp only [if_true] at hm
    have hx1 : x.1 = .slice ((List.range len).map D) ((List.range (m - len)).map fun j => D (len + j)) := by rw [hx]
    rw [hx1] at hw
    obtain ⟨h1, h2⟩ := sm_slice hw
    refine .inr ⟨a, len, cap, n, D, Pl, hcs, by simpa using h1, fun i hi => ⟨h2 _ (List.mem_map.2 ⟨i, List.mem_range.2 hi, rfl⟩), ?_⟩⟩
    obtain ⟨cs', h1, h2⟩ := hel i (by omega)
    rw [hc] at h1
    obtain ⟨_, hlen, hcell⟩ := World.cells?_some h1
    refine ⟨cs', hlen, fun j hj => ?_, h2⟩
    have := hcell j (by omega)
    rw [Addr.add_add] at this
    exact this
theorem open_i {fuel : Nat} {c : Value} {x : DataW H × List MemPlace} (h : DataW.trod enc Try.prog W 0 (fun _ => true) true fuel 3 [c] = some x) : ∃ v : Int, c = .int .i64 v ∧ i64B v := by
  obtain ⟨v, e, _, hw⟩ := DataW.trod_int Try.underlying3 h
  simp only [List.cons.injEq, and_true] at e
  refine ⟨v, e, ?_⟩
  have h2 : -9223372036854775808 ≤ v ∧ v ≤ 9223372036854775807 := by simpa [Lit.wf, IntKind.min, IntKind.max, IntKind.signed, IntKind.bits] using hw
  exact h2
theorem ad_plain {x : Addr} {v : Value} (h : W.cell? (x.add 0) = some v) : ∃ b off, x = ⟨b, off, none⟩ := by
  obtain ⟨b, off, spot⟩ := x
  have hspot : spot = none := by simpa [Addr.add] using World.cell?_spot h
  subst hspot
  exact ⟨b, off, rfl⟩
theorem cI : Try.prog.cellsOf 3 = 1 := by kernel_rfl
theorem cS : Try.prog.cellsOf 70 = 2 := by kernel_rfl
theorem cID : Try.prog.cellsOf 24 = 4 := by kernel_rfl
theorem cIs : Try.prog.cellsOf 26 = 1 := by kernel_rfl
theorem cSs : Try.prog.cellsOf 25 = 1 := by kernel_rfl
theorem cF : Try.prog.cellsOf 28 = 7 := by kernel_rfl
theorem cFs : Try.prog.cellsOf 22 = 1 := by kernel_rfl
theorem list2 {α : Type} {l : List α} (h : l.length = 2) : ∃ c0 c1, l = [c0, c1] := by
  match l, h with
  | [c0, c1], _ => exact ⟨c0, c1, rfl⟩
theorem list1 {α : Type} {l : List α} (h : l.length = 1) : ∃ c0, l = [c0] := by
  match l, h with
  | [c0], _ => exact ⟨c0, rfl⟩
theorem list4 {α : Type} {l : List α} (h : l.length = 4) : ∃ c0 c1 c2 c3, l = [c0, c1, c2, c3] := by
  match l, h with
  | [c0, c1, c2, c3], _ => exact ⟨c0, c1, c2, c3, rfl⟩
theorem list7 {α : Type} {l : List α} (h : l.length = 7) : ∃ c0 c1 c2 c3 c4 c5 c6, l = [c0, c1, c2, c3, c4, c5, c6] := by
  match l, h with
  | [c0, c1, c2, c3, c4, c5, c6], _ => exact ⟨c0, c1, c2, c3, c4, c5, c6, rfl⟩
theorem open_ints {fuel : Nat} {v : Value} {x : DataW H × List MemPlace} (h : DataW.trod enc Try.prog W 0 (fun _ => true) true fuel 26 [v] = some x) (hw : Sm x.1) : ∃ a xs c, v = .slice a (xs : List Int).length c ∧ RdI W a xs ∧ xs.length ≤ 1048576 ∧ (a = none → xs.length = 0 ∧ c = 0) := by
  rcases slice_parts Try.underlying26 cI (by decide) h hw with rfl | ⟨ad, len, cap, n, D, Pl, rfl, hb, hel⟩
  · exact ⟨none, [], 0, rfl, .inl rfl, by simp, fun _ => ⟨rfl, rfl⟩⟩
  · have each : ∀ i, ∃ y : Int, i < len → W.cell? (ad.add i) = some (.int .i64 y) := fun i => by
      by_cases hi : i < len
      · obtain ⟨_, cs', hl, hcell, htr⟩ := hel i hi
        obtain ⟨c0, rfl⟩ := list1 hl
        obtain ⟨y, rfl, _⟩ := open_i htr
        exact ⟨y, fun _ => by have := hcell 0 (by decide); simpa using this⟩
      · exact ⟨0, fun h => absurd h hi⟩
    obtain ⟨f, hf⟩ := Classical.axiomOfChoice each
    have hl : ((List.range len).map f).length = len := by simp
    refine ⟨some ad, (List.range len).map f, cap, by rw [hl], ?_, by rw [hl]; exact hb, fun h => by cases h⟩
    unfold RdI Row
    rw [hl]
    by_cases h0 : len = 0
    · exact .inl h0
    · obtain ⟨b, off, rfl⟩ := ad_plain (hf 0 (by omega))
      refine .inr ⟨b, off, rfl, fun i hi => ?_⟩
      have := hf i (by omega)
      rw [Addr.add_lit] at this
      rw [this]
      simp [List.getD, show i < len by omega]
theorem open_slots {fuel : Nat} {v : Value} {x : DataW H × List MemPlace} (h : DataW.trod enc Try.prog W 0 (fun _ => true) true fuel 25 [v] = some x) (hw : Sm x.1) : ∃ a ss c, v = .slice a (ss : List (Int × Int)).length c ∧ RdS W a ss ∧ ss.length ≤ 1048576 ∧ (a = none → ss.length = 0 ∧ c = 0) ∧ ∀ i, i < ss.length → i64B (ss.getD i z2).1 ∧ i64B (ss.getD i z2).2 := by
  rcases slice_parts Try.underlying25 cS (by decide) h hw with rfl | ⟨ad, len, cap, n, D, Pl, rfl, hb, hel⟩
  · exact ⟨none, [], 0, rfl, .inl rfl, by simp, fun _ => ⟨rfl, rfl⟩, fun i hi => by simp at hi⟩
  · have each : ∀ i, ∃ y : Int × Int, i < len → W.cell? (ad.add (i * 2)) = some (.int .i64 y.1) ∧ W.cell? (ad.add (i * 2 + 1)) = some (.int .i64 y.2) ∧ i64B y.1 ∧ i64B y.2 := fun i => by
      by_cases hi : i < len
      · obtain ⟨hs, cs', hl, hcell, htr⟩ := hel i hi
        obtain ⟨c0, c1, rfl⟩ := list2 hl
        obtain ⟨xs, n', hxl, hF, _⟩ := struct_parts Try.underlying70 htr hs
        obtain ⟨y0, y1, rfl⟩ := list2 hxl
        have h0 : DataW.trod enc Try.prog W 0 (fun _ => true) true n' 3 [c0] = some y0 := by simpa [cI] using hF 0 _ rfl
        have h1 : DataW.trod enc Try.prog W 0 (fun _ => true) true n' 3 [c1] = some y1 := by simpa [cI] using hF 1 _ rfl
        obtain ⟨a0, rfl, r0⟩ := open_i h0
        obtain ⟨a1, rfl, r1⟩ := open_i h1
        exact ⟨(a0, a1), fun _ => ⟨by have := hcell 0 (by decide); simpa using this, by have := hcell 1 (by decide); simpa using this, r0, r1⟩⟩
      · exact ⟨z2, fun h => absurd h hi⟩
    obtain ⟨f, hf⟩ := Classical.axiomOfChoice each
    have hl : ((List.range len).map f).length = len := by simp
    have hg : ∀ i, i < len → ((List.range len).map f).getD i z2 = f i := fun i hi => by simp [List.getD, hi]
    refine ⟨some ad, (List.range len).map f, cap, by rw [hl], ?_, by rw [hl]; exact hb, (fun h => by cases h), fun i hi => by rw [hl] at hi; rw [hg i hi]; exact (hf i hi).2.2⟩
    unfold RdS Row
    rw [hl]
    by_cases h0 : len = 0
    · exact .inl h0
    · obtain ⟨b, off, rfl⟩ := ad_plain (by simpa using (hf 0 (by omega)).1)
      refine .inr ⟨b, off, rfl, fun i hi => ?_⟩
      have h2 := hf (i / 2) (by omega)
      unfold slotC
      rw [hg _ (by omega)]
      rcases Nat.mod_two_eq_zero_or_one i with e | e
      · have h3 := h2.1
        rw [show i / 2 * 2 = i by omega, Addr.add_lit] at h3
        rw [h3, e]
        rfl
      · have h3 := h2.2.1
        rw [show i / 2 * 2 + 1 = i by omega, Addr.add_lit] at h3
        rw [h3, e]
        rfl
theorem open_flush {n : Nat} {c0 c1 c2 c3 c4 c5 c6 : Value} {x : DataW H × List MemPlace} (h : DataW.trod enc Try.prog W 0 (fun _ => true) true n 28 [c0, c1, c2, c3, c4, c5, c6] = some x) (hw : Sm x.1) : ∃ f : Fl, f.cs = [c0, c1, c2, c3, c4, c5, c6] ∧ f.In W := by
  obtain ⟨xs, n', hxl, hF, hS⟩ := struct_parts Try.underlying28 h hw
  obtain ⟨y0, y1, y2, y3, rfl⟩ := list4 hxl
  have h0 : DataW.trod enc Try.prog W 0 (fun _ => true) true n' 24 [c0, c1, c2, c3] = some y0 := by simpa [cI, cIs, cSs, cID] using hF 0 _ rfl
  have h1 : DataW.trod enc Try.prog W 0 (fun _ => true) true n' 3 [c4] = some y1 := by simpa [cI, cIs, cSs, cID] using hF 1 _ rfl
  have h2 : DataW.trod enc Try.prog W 0 (fun _ => true) true n' 25 [c5] = some y2 := by simpa [cI, cIs, cSs, cID] using hF 2 _ rfl
  have h3 : DataW.trod enc Try.prog W 0 (fun _ => true) true n' 26 [c6] = some y3 := by simpa [cI, cIs, cSs, cID] using hF 3 _ rfl
  obtain ⟨xs2, n2, hxl2, hF2, _⟩ := struct_parts Try.underlying24 h0 (hS 0 _ rfl)
  obtain ⟨z0, z1, z2', z3, rfl⟩ := list4 hxl2
  have k0 : DataW.trod enc Try.prog W 0 (fun _ => true) true n2 3 [c0] = some z0 := by simpa [cI] using hF2 0 _ rfl
  have k1 : DataW.trod enc Try.prog W 0 (fun _ => true) true n2 3 [c1] = some z1 := by simpa [cI] using hF2 1 _ rfl
  have k2 : DataW.trod enc Try.prog W 0 (fun _ => true) true n2 3 [c2] = some z2' := by simpa [cI] using hF2 2 _ rfl
  have k3 : DataW.trod enc Try.prog W 0 (fun _ => true) true n2 3 [c3] = some z3 := by simpa [cI] using hF2 3 _ rfl
  obtain ⟨e, rfl, _⟩ := open_i k0
  obtain ⟨l, rfl, _⟩ := open_i k1
  obtain ⟨i, rfl, _⟩ := open_i k2
  obtain ⟨c, rfl, _⟩ := open_i k3
  obtain ⟨bs, rfl, hbs⟩ := open_i h1
  obtain ⟨sa, ss, sc, rfl, rs, ls, zs, gs⟩ := open_slots h2 (hS 2 _ rfl)
  obtain ⟨ha, hs, hc, rfl, ri, li, zi⟩ := open_ints h3 (hS 3 _ rfl)
  exact ⟨⟨⟨⟨e, l, i, c⟩, bs, ss, hs⟩, sa, sc, ha, hc⟩, rfl, ⟨rs, ri, gs, hbs, by show ss.length ≤ _; omega, by show hs.length ≤ _; omega⟩, zs, zi, ls, li⟩
theorem open_flushes {fuel : Nat} {v : Value} {x : DataW H × List MemPlace} (h : DataW.trod enc Try.prog W 0 (fun _ => true) true fuel 22 [v] = some x) (hw : Sm x.1) : ∃ a fs c, v = .slice a (fs : List Fl).length c ∧ RdFs W a fs ∧ fs.length ≤ 1048576 ∧ ∀ k, k < fs.length → (fs.getD k fl0).In W := by
  rcases slice_parts Try.underlying22 cF (by decide) h hw with rfl | ⟨ad, len, cap, n, D, Pl, rfl, hb, hel⟩
  · exact ⟨none, [], 0, rfl, ⟨.inl rfl, fun i hi => by simp at hi⟩, by simp, fun k hk => by simp at hk⟩
  · have each : ∀ i, ∃ f : Fl, i < len → (∀ j, j < 7 → W.cell? (ad.add (i * 7 + j)) = f.cs[j]?) ∧ f.In W := fun i => by
      by_cases hi : i < len
      · obtain ⟨hs, cs', hl, hcell, htr⟩ := hel i hi
        obtain ⟨c0, c1, c2, c3, c4, c5, c6, rfl⟩ := list7 hl
        obtain ⟨f, hf, hin⟩ := open_flush htr hs
        exact ⟨f, fun _ => ⟨fun j hj => by rw [hf]; exact hcell j hj, hin⟩⟩
      · exact ⟨fl0, fun h => absurd h hi⟩
    obtain ⟨f, hf⟩ := Classical.axiomOfChoice each
    have hl : ((List.range len).map f).length = len := by simp
    have hg : ∀ i, i < len → ((List.range len).map f).getD i fl0 = f i := fun i hi => by simp [List.getD, hi]
    refine ⟨some ad, (List.range len).map f, cap, by rw [hl], ⟨?_, fun i hi => ?_⟩, by rw [hl]; exact hb, fun k hk => ?_⟩
    · unfold Row
      rw [hl]
      by_cases h0 : len = 0
      · exact .inl h0
      · obtain ⟨b, off, rfl⟩ := ad_plain (v := .int .i64 (f 0).c.id.e) (by have := (hf 0 (by omega)).1 0 (by decide); simp only [Nat.zero_mul, Nat.zero_add] at this; exact this)
        refine .inr ⟨b, off, rfl, fun i hi => ?_⟩
        have h3 := (hf (i / 7) (by omega)).1 (i % 7) (by omega)
        rw [show i / 7 * 7 + i % 7 = i by omega, Addr.add_lit] at h3
        unfold flC
        rw [hg _ (by omega), h3, List.getD]
        rw [List.getElem?_eq_getElem (by rw [Fl.cs_len]; omega)]
        rfl
    · rw [hl] at hi
      rw [hg i hi]
      exact (hf i hi).2.rd
    · rw [hl] at hk
      rw [hg k hk]
      exact (hf k hk).2
end
end Go.Proofs.Ytihcaopcfhbofaa.Of
