import Derived.Test.YtmkopbbbonggdaaJrh
import Derived.WalkKit
import Derived.ProofKit
import Derived.OpenShut
import Derived.ShutString
import Derived.ChangeOld
import Derived.Below
import Derived.Deep.Slices
import Derived.SizedLaws
namespace Go.Proofs.Ytmkopbbbonggdaa.Oj
open Go.ChangeShapes Go.WideShapes Go.ChangeAt Go.RowKit Mb Fg Jn
set_option linter.unusedVariables false
set_option linter.unusedSimpArgs false
set_option maxRecDepth 100000
section
variable {H : Type} {enc : TypeId × Value → H} {W : World}
theorem one_le (d : DataW H) : 1 ≤ Rows.uptoBulk d := by
  cases d with
  | lit l => cases l <;> simp [Rows.uptoBulk]
  | nil => simp [Rows.uptoBulk]
  | ptr d => simp [Rows.uptoBulk]
  | slice elems spare => simp [Rows.uptoBulk]
  | agg parts => simp [Rows.uptoBulk]
  | iface t d => simp [Rows.uptoBulk]
  | map entries => simp [Rows.uptoBulk]
  | held h => simp [Rows.uptoBulk]
theorem part_le {d : DataW H} {l : List (DataW H)} (h : d ∈ l) : Rows.uptoBulk d ≤ Rows.uptoBulkAll l := by
  induction l with
  | nil => cases h
  | cons x r ih =>
    simp only [Rows.uptoBulkAll]
    cases List.mem_cons.1 h with
    | inl e => subst e; omega
    | inr e => have := ih e; omega
theorem length_le (l : List (DataW H)) : l.length ≤ Rows.uptoBulkAll l := by
  induction l with
  | nil => simp [Rows.uptoBulkAll]
  | cons x r ih => have := one_le x; simp only [Rows.uptoBulkAll, List.length_cons]; omega
theorem all_app (a b : List (DataW H)) : Rows.uptoBulkAll (a ++ b) = Rows.uptoBulkAll a + Rows.uptoBulkAll b := by
  induction a with
  | nil => simp [Rows.uptoBulkAll]
  | cons x r ih => simp only [List.cons_append, Rows.uptoBulkAll, ih]; omega
theorem cI : Try.prog.cellsOf 3 = 1 := by kernel_rfl
theorem cU : Try.prog.cellsOf 5 = 1 := by kernel_rfl
theorem cB : Try.prog.cellsOf 22 = 1 := by kernel_rfl
theorem cBl : Try.prog.cellsOf 4 = 1 := by kernel_rfl
theorem cW : Try.prog.cellsOf 28 = 3 := by kernel_rfl
theorem cD : Try.prog.cellsOf 24 = 2 := by kernel_rfl
theorem open_i {fuel : Nat} {c : Value} {x : DataW H × List MemPlace} (h : DataW.trod enc Try.prog W 0 (fun _ => true) true fuel 3 [c] = some x) : ∃ v : Int, c = .int .i64 v ∧ -9223372036854775808 ≤ v ∧ v ≤ 9223372036854775807 := by
  obtain ⟨v, e, _, hw⟩ := DataW.trod_int Try.underlying3 h
  simp only [List.cons.injEq, and_true] at e
  refine ⟨v, e, ?_⟩
  simpa [Lit.wf, IntKind.min, IntKind.max, IntKind.signed, IntKind.bits] using hw
theorem open_b {fuel : Nat} {c : Value} {x : DataW H × List MemPlace} (h : DataW.trod enc Try.prog W 0 (fun _ => true) true fuel 4 [c] = some x) : ∃ v : Bool, c = .bool v := by
  obtain ⟨v, e, _⟩ := DataW.trod_bool Try.underlying4 h
  simp only [List.cons.injEq, and_true] at e
  exact ⟨v, e⟩
theorem row_of {k : IntKind} {x : Addr} {l c : Nat} {zs : List Int} (hl : l ≤ c) (hz : zs.length = c) (hcell : ∀ i, i < zs.length → W.cell? (x.add i) = some (.int k (zs.getD i 0))) : l = 0 ∨ ∃ b off, some x = some (⟨b, off, none⟩ : Addr) ∧ ∀ i, i < l → W.cell? ⟨b, off + i, none⟩ = some (.int k ((zs.take l).getD i 0)) := by
  by_cases h0 : l = 0
  · exact .inl h0
  · obtain ⟨b, off, spot⟩ := x
    have hc := hcell 0 (by omega)
    have hspot : spot = none := by simpa [Addr.add] using World.cell?_spot hc
    subst hspot
    refine .inr ⟨b, off, rfl, fun i hi => ?_⟩
    have := hcell i (by omega)
    rw [Addr.add_lit] at this
    rw [this]
    simp [List.getD, hi]
theorem open_bs {fuel : Nat} {v : Value} {x : DataW H × List MemPlace} (h : DataW.trod enc Try.prog W 0 (fun _ => true) true fuel 22 [v] = some x) : ∃ a n c xs, v = .slice a n c ∧ Rd W a n c xs ∧ n ≤ Rows.uptoBulk x.1 := by
  rcases open_ints Try.underlying22 Try.underlying5 cU h with ⟨hcs, _⟩ | ⟨ad, l, c, zs, hcs, _, hl, hm, hz, hx3, hcell, hwz⟩
  · simp only [List.cons.injEq, and_true] at hcs
    subst hcs
    exact ⟨none, 0, 0, [], rfl, rd_nil W, by omega⟩
  · simp only [List.cons.injEq, and_true] at hcs
    subst hcs
    simp only [if_true] at hz
    refine ⟨some ad, l, c, zs.take l, rfl, ⟨by rw [List.length_take]; omega, hl, by simp, row_of hl hz hcell, By.of fun y hy => ?_⟩, ?_⟩
    · have := hwz _ (List.mem_of_mem_take hy)
      simpa [Lit.wf, IntKind.min, IntKind.max, IntKind.signed, IntKind.bits] using this
    · rw [hx3]
      simp only [Rows.uptoBulk]
      have := length_le (lits .u8 (zs.take l) : List (DataW H))
      simp only [lits, List.length_map, List.length_take] at this ⊢
      omega
theorem list2 {α : Type} {l : List α} (h : l.length = 2) : ∃ c0 c1, l = [c0, c1] := by
  match l, h with
  | [a, b], _ => exact ⟨a, b, rfl⟩
theorem list3 {α : Type} {l : List α} (h : l.length = 3) : ∃ c0 c1 c2, l = [c0, c1, c2] := by
  match l, h with
  | [a, b, c], _ => exact ⟨a, b, c, rfl⟩
theorem open_wr {n : Nat} {c0 c1 c2 : Value} {x : DataW H × List MemPlace} (h : DataW.trod enc Try.prog W 0 (fun _ => true) true n 28 [c0, c1, c2] = some x) : ∃ y : Wr, [c0, c1, c2] = y.cs ∧ Rd W y.ao y.n y.c y.bs ∧ y.bs.length ≤ Rows.uptoBulk x.1 := by
  obtain ⟨xs, n1, _, hx, _, hxl, hF⟩ := DataW.trod_struct Try.underlying28 h
  obtain ⟨y0, y1, y2, rfl⟩ := list3 hxl
  have h0 : DataW.trod enc Try.prog W 0 (fun _ => true) true n1 3 [c0] = some y0 := by simpa [cI, cB, cBl] using hF 0 _ rfl
  have h1 : DataW.trod enc Try.prog W 0 (fun _ => true) true n1 4 [c1] = some y1 := by simpa [cI, cB, cBl] using hF 1 _ rfl
  have h2 : DataW.trod enc Try.prog W 0 (fun _ => true) true n1 22 [c2] = some y2 := by simpa [cI, cB, cBl] using hF 2 _ rfl
  obtain ⟨f, rfl, _⟩ := open_i h0
  obtain ⟨st, rfl⟩ := open_b h1
  obtain ⟨a, m, c, bs, rfl, hr, hb⟩ := open_bs h2
  refine ⟨⟨f, st, a, m, c, bs⟩, rfl, hr, ?_⟩
  rw [hx]
  simp only [Rows.uptoBulk]
  have := part_le (d := y2.1) (l := [y0, y1, y2].map (·.1)) (by simp)
  have := hr.len
  show bs.length ≤ _
  omega
theorem tot_le {f : Nat → Wr} {D : Nat → DataW H} : ∀ n, (∀ i, i < n → (f i).bs.length ≤ Rows.uptoBulk (D i)) → tot ((List.range n).map f) ≤ Rows.uptoBulkAll ((List.range n).map D)
  | 0, _ => by simp [tot]
  | n + 1, h => by
      have := tot_le n (fun i hi => h i (by omega))
      have := h n (by omega)
      rw [List.range_succ, List.map_append, List.map_append, tot_app, all_app]
      simp only [List.map_cons, List.map_nil, tot, Rows.uptoBulkAll]
      omega
theorem ad_plain {x : Addr} {v : Value} (h : W.cell? (x.add 0) = some v) : ∃ b off, x = ⟨b, off, none⟩ := by
  obtain ⟨b, off, spot⟩ := x
  have hspot : spot = none := by simpa [Addr.add] using World.cell?_spot h
  subst hspot
  exact ⟨b, off, rfl⟩
theorem open_ws {fuel : Nat} {v : Value} {x : DataW H × List MemPlace} (h : DataW.trod enc Try.prog W 0 (fun _ => true) true fuel 25 [v] = some x) : ∃ a m c l, v = .slice a m c ∧ RdWs W a m l ∧ m ≤ Rows.uptoBulk x.1 ∧ tot l ≤ Rows.uptoBulk x.1 := by
  rcases Deep.open_slice Try.underlying25 h with ⟨hcs, _⟩ | ⟨ad, len, cap, mm, n, D, Pl, hcs, _, hl, _, hm, hx, hel⟩
  · simp only [List.cons.injEq, and_true] at hcs
    subst hcs
    exact ⟨none, 0, 0, [], rfl, ⟨rfl, .inl rfl, fun i hi => by omega⟩, by omega, by simp [tot]⟩
  · simp only [List.cons.injEq, and_true] at hcs
    subst hcs
    simp only [if_true] at hm
    have each : ∀ i, ∃ y : Wr, i < len → (∀ j, j < 3 → W.cell? (ad.add (i * 3 + j)) = y.cs[j]?) ∧ Rd W y.ao y.n y.c y.bs ∧ y.bs.length ≤ Rows.uptoBulk (D i) := by
      intro i
      by_cases hi : i < len
      · obtain ⟨cs', h1, h2⟩ := hel i (by omega)
        rw [cW] at h1
        obtain ⟨_, hlen, hcell⟩ := World.cells?_some h1
        obtain ⟨c0, c1, c2, rfl⟩ := list3 hlen
        obtain ⟨y, hy, hr, hb⟩ := open_wr h2
        refine ⟨y, fun _ => ⟨fun j hj => ?_, hr, hb⟩⟩
        have := hcell j (by simpa using hj)
        rw [Addr.add_add] at this
        rw [this, hy]
      · exact ⟨wr0, fun h => absurd h hi⟩
    obtain ⟨f, hf⟩ := Classical.axiomOfChoice each
    have hgd : ∀ i, i < len → ((List.range len).map f).getD i wr0 = f i := fun i hi => by simp [List.getD, hi]
    have hx1 : Rows.uptoBulk x.1 = Rows.uptoBulkAll ((List.range len).map D) + Rows.uptoBulkAll ((List.range (mm - len)).map fun j => D (len + j)) + 1 := by rw [hx]; simp only [Rows.uptoBulk]
    have hlt := length_le ((List.range len).map D)
    rw [List.length_map, List.length_range] at hlt
    have htt := tot_le (f := f) (D := D) len (fun i hi => (hf i hi).2.2)
    refine ⟨some ad, len, cap, (List.range len).map f, rfl, ⟨by simp, ?_, fun i hi => by rw [hgd i hi]; exact (hf i hi).2.1⟩, by omega, by omega⟩
    by_cases h0 : len = 0
    · exact .inl h0
    · obtain ⟨b, off, rfl⟩ := ad_plain (v := .int .i64 (f 0).f) (W := W) (x := ad) (by have h9 := (hf 0 (by omega)).1 0 (by decide); simp only [Nat.zero_mul, Nat.zero_add] at h9; exact h9)
      refine .inr ⟨b, off, rfl, fun i hi j v hj => ?_⟩
      rw [hgd i hi] at hj
      have hj3 : j < 3 := (List.getElem?_eq_some_iff.1 hj).1
      have := (hf i hi).1 j hj3
      rw [Addr.add_lit] at this
      rw [Nat.add_assoc, this, hj]
theorem open_dk {fuel : Nat} {c0 c1 : Value} {x : DataW H × List MemPlace} (h : DataW.trod enc Try.prog W 0 (fun _ => true) true fuel 24 [c0, c1] = some x) : ∃ a n c xs b m e ys, c0 = .slice a n c ∧ Rd W a n c xs ∧ c1 = .slice b m e ∧ Rd W b m e ys ∧ n + m ≤ Rows.uptoBulk x.1 := by
  obtain ⟨xs, n1, _, hx, _, hxl, hF⟩ := DataW.trod_struct Try.underlying24 h
  obtain ⟨y0, y1, rfl⟩ := list2 hxl
  have h0 : DataW.trod enc Try.prog W 0 (fun _ => true) true n1 22 [c0] = some y0 := by simpa [cI, cB, cBl] using hF 0 _ rfl
  have h1 : DataW.trod enc Try.prog W 0 (fun _ => true) true n1 22 [c1] = some y1 := by simpa [cI, cB, cBl] using hF 1 _ rfl
  obtain ⟨a, n, c, xs, rfl, hr, hb⟩ := open_bs h0
  obtain ⟨b, m, e, ys, rfl, hr2, hb2⟩ := open_bs h1
  refine ⟨a, n, c, xs, b, m, e, ys, rfl, hr, rfl, hr2, ?_⟩
  rw [hx]
  simp only [Rows.uptoBulk, List.map_cons, List.map_nil, Rows.uptoBulkAll]
  omega
end
end Go.Proofs.Ytmkopbbbonggdaa.Oj
