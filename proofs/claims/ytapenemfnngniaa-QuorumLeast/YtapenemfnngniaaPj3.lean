import Derived.Test.YtapenemfnngniaaPi3
namespace Go.Proofs.Ytapenemfnngniaa.Qm
open Go.RowKit Mb Go.Shelf
set_option linter.unusedVariables false
set_option maxRecDepth 100000
set_option linter.unusedSimpArgs false
section
variable {w w' W : World} {B : Nat}
theorem kept_sort {α : Type} [Inhabited α] (enc : α → Value) (w : World) (g n : Nat) (d : Array α) (os : Array Obj) : Kept w (sortWorld enc w g 0 n d os) (fun j => j = g) := by
  refine ⟨rfl, rfl, rfl, by simp [sortWorld, Sort.grow, Sort.ahead], fun k hk hne => ?_⟩
  unfold sortWorld
  rw [Sort.heap_grow_old _ _ (by simpa [Sort.ahead] using hk)]
  have : g ≠ k := fun e => hne e.symm
  simp [Sort.putRow, Sort.mapBlock, Sort.ahead, Array.getElem?_modify, this]
theorem heap_sort {α : Type} [Inhabited α] (enc : α → Value) {w : World} {g n : Nat} {os : Array Obj} {cur : Array Value} {e : TypeId} {fr : Nat × Nat} (d : Array α) (hb : w.heap[g]? = some (.cells cur e fr)) : (sortWorld enc w g 0 n d os).heap[g]? = some (.cells (Sort.putCells enc 0 d cur) e fr) := by
  have hg : g < w.heap.size := (Array.getElem?_eq_some_iff.1 hb).1
  unfold sortWorld
  rw [Sort.heap_grow_old _ _ (by simpa [Sort.ahead] using hg)]
  simp [Sort.putRow, Sort.mapBlock, Sort.ahead, Array.getElem?_modify, hb, Sort.onCells]
theorem El.kept {base n : Nat} {v : Value} {E : List El} {g : Nat} (h : Ll w base n v E) (hg : v.ownBlock = some g) (k : Kept w w' (fun j => j = g)) {e : El} (he : e ∈ E) : w'.ownsRow base 3 1 e.v (listN e.s n).length (ints (zi (listN e.s n))) :=
  own_keepT (h.el e he) k (fun g2 cur hg2 e2 => by
    obtain ⟨c3, h4⟩ := own_type h.row hg
    exact ty_ne hg2 h4 (by decide) e2)
theorem ext_full {α : Type} (d : Array α) {m : Nat} (h : d.size ≤ m) : d.extract 0 m = d := by
  apply Array.ext_getElem?
  intro j
  rw [Array.getElem?_extract]
  by_cases hj : j < d.size
  · simp [hj]; omega
  · simp [hj]
theorem mem_getD {E : List El} {i : Nat} (h : i < E.length) : E.getD i el0 ∈ E := by simp [List.getD, h]
theorem map_ofFn (E : List El) : (Array.ofFn (fun i : Fin E.length => i)).toList.map (fun i => E.getD i.1 el0) = E := by
  apply List.ext_getElem?
  intro j
  by_cases hj : j < E.length
  · simp [hj, List.getD]
  · simp [hj]
theorem sort_any2 {base n : Nat} {E : List El} {g c : Nat} (h : Ll w base n (.slice (some ⟨g, 0, none⟩) E.length c) E) (hN : E.length ≠ 0) (hm : E.length ≤ 100000) (hnb : n ≤ 16) : Calls Try.prog 37 #[.slice (some ⟨g, 0, none⟩) E.length c, .func (.func 38) #[] #[]] w fun e w' => e = .returned (.tuple #[]) ∧ ∃ E', E'.Perm E ∧ Ll w' base n (.slice (some ⟨g, 0, none⟩) E'.length c) E' ∧ Kept w w' (fun j => j = g) ∧ (E'.map El.s).Pairwise (fun s t => ¬ cmpL (zi (listN t n)) (zi (listN s n)) < 0) := by
  haveI : Inhabited (Fin E.length) := ⟨⟨0, by omega⟩⟩
  let enc : Fin E.length → Value := fun i => (E.getD i.1 el0).v
  let cf : Fin E.length → Fin E.length → Int := fun i j => cmpL (zi (listN (E.getD i.1 el0).s n)) (zi (listN (E.getD j.1 el0).s n))
  let d : Array (Fin E.length) := Array.ofFn (fun i => i)
  have hd : d.size = E.length := by simp [d]
  have hO : Sort.SWO (ltOf cf) := ⟨fun x => by unfold ltOf; simp only [cf, cmpL_self]; rfl,
    fun x y z h1 h2 => by unfold ltOf at *; exact decide_eq_true (cmpL_trans _ _ _ (of_decide_eq_true h1) (of_decide_eq_true h2)),
    fun x y z h1 h2 => by unfold ltOf at *; exact decide_eq_false (cmpL_ntrans _ _ _ (of_decide_eq_false h1) (of_decide_eq_false h2))⟩
  have eg : ∀ args w, (callFunc 38 args).run Try.prog w = .ok (.enter 38 args) w := enters_of Try.func38 (by kernel_rfl) rfl
  have hgl : (Value.slice (some ⟨g, 0, none⟩) E.length c).ownBlock = some g := rfl
  obtain ⟨cur, hcur⟩ := own_type h.row hgl
  have hcmp : CmpReads Try.prog 38 #[] enc cf g 0 d.size w := fun m os dk hs x y => by
    have k := kept_sort enc w g m dk os
    have h1 := El.kept h hgl k (mem_getD x.2)
    have h2 := El.kept h hgl k (mem_getD y.2)
    obtain ⟨a1, c1, e1⟩ := own_shape h1
    obtain ⟨a2, c2, e2⟩ := own_shape h2
    have r1 := h1
    have r2 := h2
    rw [e1] at r1
    rw [e2] at r2
    have l1 := listN_len (E.getD x.1 el0).s n
    have hcc := compare_any (own_rd r1) (own_rd r2) (by omega) (by have := listN_len (E.getD y.1 el0).s n; omega)
    have e3 : (#[enc x, enc y] ++ #[] : Array Value) = #[.slice a1 (listN (E.getD x.1 el0).s n).length c1, .slice a2 (listN (E.getD y.1 el0).s n).length c2] := by
      show (#[(E.getD x.1 el0).v, (E.getD y.1 el0).v] ++ #[] : Array Value) = _
      rw [e1, e2]
      simp
    rw [e3]
    exact hcc.mono fun e w' ⟨he, hw⟩ => ⟨he, 0, hw.symm⟩
  have hlt := World.ownsRow.lt h.row g hgl
  have hH : Sort.Holds enc w g 0 d := fun j hj => by
    rw [hd] at hj
    have hdj : d[j]! = ⟨j, hj⟩ := by simp [d, hj]
    rw [hdj, Nat.zero_add]
    refine ⟨?_, frozen_of_row w _ j _ _ hcur⟩
    have := World.ownsRow.cellAt h.row j (by omega)
    rw [this]
    simp [enc, List.getD, hj]
  have hS := Any.slices_SortFunc Try.sortL enc (fun _ => rfl) cf hO 38 #[] g 0 c d w eg hcmp.lays hH hlt.2 (by omega)
  change Calls Try.prog 37 _ _ _ at hS
  rw [hd] at hS
  refine hS.mono ?_
  rintro e w' ⟨rfl, d', m, os, hp, hso, rfl⟩
  refine ⟨rfl, d'.toList.map (fun i => E.getD i.1 el0), ?_, ?_, kept_sort enc w g m d' os, ?_⟩
  · have hp2 := hp.2.2
    have e1 : d'.extract 0 E.length = d' := ext_full d' (by have := hp.1; omega)
    have e2 : d.extract 0 E.length = d := ext_full d (by omega)
    rw [e1, e2] at hp2
    have := hp2.map (fun i : Fin E.length => E.getD i.1 el0)
    rw [map_ofFn] at this
    exact this
  · have hlen : (d'.toList.map (fun i => E.getD i.1 el0)).length = E.length := by have := hp.1; rw [hd] at this; simp [this]
    refine ⟨?_, fun e he => ?_⟩
    · rw [hlen]
      rcases h.row.2 with ⟨h1, h2⟩ | ⟨g', cap, cur', hv, hB, hg, hnc, hcm, hcs, htk⟩
      · cases h1
      · simp only [Value.slice.injEq, Option.some.injEq, Addr.mk.injEq] at hv
        obtain ⟨⟨rfl, -, -⟩, -, rfl⟩ := hv
        refine ⟨by rw [List.length_map, hlen, Nat.mul_one], .inr ⟨g, c, _, rfl, hB, heap_sort enc d' hg, hnc, hcm, by simp [Sort.putCells, hcs], ?_⟩⟩
        have hds : d'.size = E.length := by have := hp.1; rw [hd] at this; exact this
        apply List.ext_getElem?
        intro j
        by_cases hj : j < E.length
        · rw [List.getElem?_take_of_lt (by omega), Array.getElem?_toList]
          simp [Sort.putCells, hds, hj, show j < cur'.size by omega, enc, El.v]
        · rw [List.getElem?_take_eq_none (by omega), List.getElem?_eq_none (by simp [hds]; omega)]
    · obtain ⟨i, _, rfl⟩ := List.mem_map.1 he
      exact El.kept h hgl (kept_sort enc w g m d' os) (mem_getD i.2)
  · have hds : d'.size = E.length := by have := hp.1; rw [hd] at this; exact this
    rw [List.map_map, List.pairwise_iff_getElem]
    intro i j hi hj hij
    simp only [List.length_map, Array.length_toList] at hi hj
    have := hso i j (Nat.zero_le _) hij (by omega)
    unfold ltOf at this
    have := of_decide_eq_false this
    simp only [cf] at this
    simpa [hi, hj] using this
theorem sort_any {base n : Nat} {E : List El} {g c : Nat} (h : Ll w base n (.slice (some ⟨g, 0, none⟩) E.length c) E) (hN : E.length ≠ 0) (hm : E.length ≤ 100000) (hnb : n ≤ 16) : Calls Try.prog 37 #[.slice (some ⟨g, 0, none⟩) E.length c, .func (.func 38) #[] #[]] w fun e w' => e = .returned (.tuple #[]) ∧ ∃ E', E'.Perm E ∧ Ll w' base n (.slice (some ⟨g, 0, none⟩) E'.length c) E' ∧ Kept w w' (fun j => j = g) :=
  (sort_any2 h hN hm hnb).mono fun e w' ⟨h1, E', h2, h3, h4, _⟩ => ⟨h1, E', h2, h3, h4⟩
end
end Go.Proofs.Ytapenemfnngniaa.Qm
