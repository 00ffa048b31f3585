import Derived.Test.YtpkcgjnaegaecaaY1
import Derived.Test.YtpkcgjnaegaecaaYj
import Derived.Shelf.SlSortCmp.WholeK
import Derived.Shelf.Lay
import Derived.Ground.SlsfProg
namespace Go.Proofs
open Go.Shelf
shelf_lay_g SlLaysF0.n6 Slsf 6 at Try 61 as Try.sortS
end Go.Proofs
namespace Go.Proofs.Ytpkcgjnaegaecaa.Fm
open Go.RowKit Go.Maps Mb Go.Shelf
set_option linter.unusedVariables false
set_option maxRecDepth 100000
set_option linter.unusedSimpArgs false
section
variable {w w' W : World} {B : Nat}
theorem flat_at (ss : List (Int × Int)) (t : Nat) (ht : t < ss.length * 2) : (Sort.flatK slotV 2 ss.toArray)[t]! = slotC ss t := by
  rw [Sort.get_flatK _ _ _ _ (by simpa using ht)]
  unfold slotC
  have h1 : t / 2 < ss.length := by omega
  have e1 : ss.toArray[t / 2]! = ss.getD (t / 2) z2 := by simp [List.getD, h1]
  rw [e1]
  have h2 : t % 2 = 0 ∨ t % 2 = 1 := by omega
  rcases h2 with h2 | h2 <;> rw [h2] <;> rfl
theorem kept_sortK (w : World) (g n : Nat) (d : Array (Int × Int)) (os : Array Obj) : Kept w (sortWorldK slotV 2 w g 0 n d os) (fun j => j = g) := by
  refine ⟨rfl, rfl, rfl, by simp [sortWorldK, Sort.grow, Sort.putRowK, Sort.putRow, Sort.mapBlock, Sort.ahead], fun k hk hne => ?_⟩
  unfold sortWorldK
  rw [Sort.heap_grow_old _ _ (by simpa [Sort.ahead, Sort.putRowK, Sort.putRow, Sort.mapBlock] using hk)]
  have : g ≠ k := fun e => hne e.symm
  simp [Sort.putRowK, Sort.putRow, Sort.mapBlock, Sort.ahead, Array.getElem?_modify, this]
theorem heap_sortK {w : World} {g n : Nat} {os : Array Obj} {cur : Array Value} {e : TypeId} {fr : Nat × Nat} (d : Array (Int × Int)) (hb : w.heap[g]? = some (.cells cur e fr)) : (sortWorldK slotV 2 w g 0 n d os).heap[g]? = some (.cells (Sort.putCells id 0 (Sort.flatK slotV 2 d) cur) e fr) := by
  have hg : g < w.heap.size := (Array.getElem?_eq_some_iff.1 hb).1
  unfold sortWorldK
  rw [Sort.heap_grow_old _ _ (by simpa [Sort.ahead, Sort.putRowK, Sort.putRow, Sort.mapBlock] using hg)]
  simp [Sort.putRowK, Sort.putRow, Sort.mapBlock, Sort.ahead, Array.getElem?_modify, hb, Sort.onCells]
theorem lt_eq : ltOf cmpS = ltS := by
  funext x y
  exact cmpS_lt x y
theorem swoS : Sort.SWO (ltOf cmpS) := by
  rw [lt_eq]
  refine ⟨fun x => ?_, fun x y z h1 h2 => ?_, fun x y z h1 h2 => ?_⟩
  · rw [ltS_not]; omega
  · rw [ltS_iff] at *; omega
  · rw [ltS_not] at *; omega
theorem ext_full {α : Type} (d : Array α) {m : Nat} (h : d.size ≤ m) : d.extract 0 m = d := by
  apply Array.ext_getElem?
  intro j
  rw [Array.getElem?_extract]
  by_cases hj : j < d.size
  · simp [hj]; omega
  · simp [hj]
theorem srt_of {ss : List (Int × Int)} {d' : Array (Int × Int)} {n : Nat} (hl : ss.length = n) (hp : Sort.PermIn 0 n ss.toArray d') (hso : Sort.SortedIn ltS 0 n d') : d' = (srt ss).toArray := by
  have hs : d'.size = n := by have := hp.1; simpa [hl] using this
  have hp2 := hp.2.2
  rw [ext_full d' (by omega), ext_full ss.toArray (by simp; omega)] at hp2
  have hpw : d'.toList.Pairwise (fun a b => ltS b a = false) := by
    rw [List.pairwise_iff_getElem]
    intro i j hi hj hij
    simp only [Array.length_toList] at hi hj
    have := hso i j (Nat.zero_le _) hij (by omega)
    simpa [hi, hj] using this
  have := List.Perm.eq_of_pairwise (fun a b _ _ h1 h2 => ltS_total h2 h1) hpw (srt_sorted ss) (hp2.trans (srt_perm ss).symm)
  rw [← this]
theorem isAggS (w : World) : (isAgg 40).run Try.prog w = .ok true w := by kernel_rfl
theorem sizeOfS (w : World) : (Go.sizeOf 40).run Try.prog w = .ok 2 w := by kernel_rfl
theorem sort_any {g n c : Nat} {ss : List (Int × Int)} (h : w.ownsRow B 40 2 (.slice (some ⟨g, 0, none⟩) n c) n (slCells ss)) (hl : ss.length = n) (hn : n ≤ 100000) : Calls Try.prog 61 #[.slice (some ⟨g, 0, none⟩) n c, .func (.func 62) #[] #[]] w fun e w' => e = .returned (.tuple #[]) ∧ w'.ownsRow B 40 2 (.slice (some ⟨g, 0, none⟩) n c) n (slCells (srt ss)) ∧ Kept w w' (fun j => j = g) := by
  have eg : ∀ args w, (callFunc 62 args).run Try.prog w = .ok (.enter 62 args) w := enters_of Try.func62 (by kernel_rfl) rfl
  rcases h.2 with ⟨h1, h2⟩ | ⟨g', cap, cur, hv, hB, hg, hnc, hcm, hcs, htk⟩
  · cases h1
  · simp only [Value.slice.injEq, Option.some.injEq, Addr.mk.injEq] at hv
    obtain ⟨⟨rfl, -, -⟩, -, rfl⟩ := hv
    have hH : Sort.HoldsK slotV 2 w g 0 ss.toArray := fun t ht => by
      have ht' : t < ss.length * 2 := by simpa using ht
      refine ⟨?_, frozen_of_row w _ _ _ _ hg⟩
      rw [flat_at ss t ht', Nat.zero_add, blk_cell hg t]
      have e1 : (cur.toList.take (n * 2))[t]? = (slCells ss)[t]? := by rw [htk]
      rw [List.getElem?_take_of_lt (by omega)] at e1
      rw [← Array.getElem?_toList, e1, slCells_at _ _ ht']
      rfl
    have hS := AnyQ.slices_SortFunc Try.sortS 2 isAggS sizeOfS slotV (fun _ => rfl) slotV_one cmpS swoS 62 #[] g 0 c ss.toArray w eg (fun m os dk _ x y => by simpa using compare_any x y _) hH (lt_heap hg) (by simp; omega)
    change Calls Try.prog 61 _ _ _ at hS
    rw [lt_eq] at hS
    rw [show ss.toArray.size = n by simpa using hl] at hS
    refine hS.mono ?_
    rintro e w' ⟨rfl, d', m, os, hp, hso, rfl⟩
    obtain rfl : d' = (srt ss).toArray := srt_of hl hp hso
    have hlen : (srt ss).length = n := by rw [srt_len, hl]
    refine ⟨rfl, ⟨by rw [slCells_len, hlen], .inr ⟨g, c, _, rfl, hB, heap_sortK _ hg, hnc, hcm, by simp [Sort.putCells, hcs], ?_⟩⟩, kept_sortK w g m _ os⟩
    apply List.ext_getElem?
    intro j
    by_cases hj : j < n * 2
    · rw [List.getElem?_take_of_lt (by omega), Array.getElem?_toList, slCells_at _ _ (by omega)]
      have hjc : j < cur.size := by omega
      have e2 : (Sort.flatK slotV 2 (srt ss).toArray)[j]! = slotC (srt ss) j := flat_at _ _ (by omega)
      show (Sort.putCells id 0 (Sort.flatK slotV 2 (srt ss).toArray) cur)[j]? = _
      simp only [Sort.putCells, Array.getElem?_mapIdx]
      rw [Array.getElem?_eq_getElem hjc]
      simp only [Option.map_some, Nat.zero_le, true_and, Nat.zero_add, Nat.sub_zero]
      rw [if_pos (by rw [Sort.size_flatK]; simpa [hlen] using hj), e2]
      rfl
    · rw [List.getElem?_take_eq_none (by omega), List.getElem?_eq_none (by rw [slCells_len]; omega)]
theorem ins_none (fv : Value) (w : World) : Calls Try.prog 76 #[.slice none 0 0, .int .i64 0, .int .i64 0, fv] w fun e w' => e = .returned (.tuple #[]) ∧ w' = w := by
  go_enter Try.func76, Try.ntmps76
  go_wp2
  refine wp_loop_rounds 1 ?_
  rw [rounds_succ]
  go_wp2
  go_end0
  exact ⟨rfl, rfl⟩
theorem pdq_none (lim : Int) (fv : Value) (w : World) : Calls Try.prog 71 #[.slice none 0 0, .int .i64 0, .int .i64 0, .int .i64 lim, fv] w fun e w' => e = .returned (.tuple #[]) ∧ w' = w := by
  have hi := fun W => ins_none fv W
  go_enter Try.func71, Try.ntmps71
  go_wp2
  refine wp_loop_rounds 1 ?_
  rw [rounds_succ]
  go_wp2_with (first | (go_at_call 76; refine (hi _).mono ?_; rintro e w' ⟨rfl, rfl⟩) | fail)
  (try simp only [Exit.inBlock, Exit.then]); refine bodyPost_ret (results_none rfl _ _ _) rfl ?_
  exact ⟨rfl, rfl⟩
theorem len_zero (W : World) : Calls Try.prog 72 #[.int .u64 0] W fun e w' => e = .returned (.int .i64 (Lib.bitLen 0 : Nat)) ∧ w' = W := by
  have h := Any.bits_Len (SlLaysF0.n15.bits { Try.sortS with }) 0 W (by omega) (by omega)
  exact h
theorem sort_none : Calls Try.prog 61 #[.slice none 0 0, .func (.func 62) #[] #[]] w fun e w' => e = .returned (.tuple #[]) ∧ w' = w := by
  have hl := len_zero
  have hp := fun lim W => pdq_none lim (.func (.func 62) #[] #[]) W
  go_enter Try.func61, Try.ntmps61
  go_wp2_with (first | (go_at_call 72; refine (hl _).mono ?_; rintro e w' ⟨rfl, rfl⟩) | (go_at_call 71; refine (hp _ _).mono ?_; rintro e w' ⟨rfl, rfl⟩) | fail)
  go_end0
  exact ⟨rfl, rfl⟩
end
end Go.Proofs.Ytpkcgjnaegaecaa.Fm
