import Derived.Test.YtihcaopcfhbofaaX05
import Derived.Test.YtihcaopcfhbofaaX16
import Derived.Shelf.SlSortCmp.WholeK
import Derived.Shelf.Lay
import Derived.Ground.SlsfProg
import Derived.Test.YtihcaopcfhbofaaX04
import Derived.Test.YtihcaopcfhbofaaX21
import Derived.Maps.AppendAt
import Derived.Laws.AppendOwnNone
import Derived.Deep.DeepCutAuto
import Derived.Great.Walk
import Derived.Test.YtihcaopcfhbofaaX28
import Derived.Test.YtihcaopcfhbofaaX29
import Derived.Test.YtihcaopcfhbofaaX30
import Derived.Test.YtihcaopcfhbofaaX24
namespace Go.Proofs
open Go.Shelf
shelf_lay_g SlLaysF0.n6 Slsf 6 at Try 48 as Try.sortS
end Go.Proofs
namespace Go.Proofs.Ytihcaopcfhbofaa.Fm
open Go.RowKit Go.Maps Mb Go.Shelf
set_option linter.unusedVariables false
set_option maxRecDepth 100000
set_option linter.unusedSimpArgs false
section
variable {w w' W : World} {B : Nat}
theorem flat_at (ss : List (Int × Int)) (t : Nat) (ht : t < ss.length * 2) : (Sort.flatK slotV 2 ss.toArray)[t]! = slotC ss t := by
  rw [Sort.get_flatK _ _ _ _ (by simpa using ht)]
  unfold slotC
  have h1 : t / 2 < ss.length := by omega
  have e1 : ss.toArray[t / 2]! = ss.getD (t / 2) z2 := by simp [List.getD, h1]
  rw [e1]
  have h2 : t % 2 = 0 ∨ t % 2 = 1 := by omega
  rcases h2 with h2 | h2 <;> rw [h2] <;> rfl
theorem kept_sortK (w : World) (g n : Nat) (d : Array (Int × Int)) (os : Array Obj) : Kept w (sortWorldK slotV 2 w g 0 n d os) (fun j => j = g) := by
  refine ⟨rfl, rfl, rfl, by simp [sortWorldK, Sort.grow, Sort.putRowK, Sort.putRow, Sort.mapBlock, Sort.ahead], fun k hk hne => ?_⟩
  unfold sortWorldK
  rw [Sort.heap_grow_old _ _ (by simpa [Sort.ahead, Sort.putRowK, Sort.putRow, Sort.mapBlock] using hk)]
  have : g ≠ k := fun e => hne e.symm
  simp [Sort.putRowK, Sort.putRow, Sort.mapBlock, Sort.ahead, Array.getElem?_modify, this]
theorem heap_sortK {w : World} {g n : Nat} {os : Array Obj} {cur : Array Value} {e : TypeId} {fr : Nat × Nat} (d : Array (Int × Int)) (hb : w.heap[g]? = some (.cells cur e fr)) : (sortWorldK slotV 2 w g 0 n d os).heap[g]? = some (.cells (Sort.putCells id 0 (Sort.flatK slotV 2 d) cur) e fr) := by
  have hg : g < w.heap.size := (Array.getElem?_eq_some_iff.1 hb).1
  unfold sortWorldK
  rw [Sort.heap_grow_old _ _ (by simpa [Sort.ahead, Sort.putRowK, Sort.putRow, Sort.mapBlock] using hg)]
  simp [Sort.putRowK, Sort.putRow, Sort.mapBlock, Sort.ahead, Array.getElem?_modify, hb, Sort.onCells]
theorem lt_eq : ltOf cmpS = ltS := by
  funext x y
  exact cmpS_lt x y
theorem swoS : Sort.SWO (ltOf cmpS) := by
  rw [lt_eq]
  refine ⟨fun x => ?_, fun x y z h1 h2 => ?_, fun x y z h1 h2 => ?_⟩
  · rw [ltS_not]; omega
  · rw [ltS_iff] at *; omega
  · rw [ltS_not] at *; omega
theorem ext_full {α : Type} (d : Array α) {m : Nat} (h : d.size ≤ m) : d.extract 0 m = d := by
  apply Array.ext_getElem?
  intro j
  rw [Array.getElem?_extract]
  by_cases hj : j < d.size
  · simp [hj]; omega
  · simp [hj]
theorem srt_of {ss : List (Int × Int)} {d' : Array (Int × Int)} {n : Nat} (hl : ss.length = n) (hp : Sort.PermIn 0 n ss.toArray d') (hso : Sort.SortedIn ltS 0 n d') : d' = (srt ss).toArray := by
  have hs : d'.size = n := by have := hp.1; simpa [hl] using this
  have hp2 := hp.2.2
  rw [ext_full d' (by omega), ext_full ss.toArray (by simp; omega)] at hp2
  have hpw : d'.toList.Pairwise (fun a b => ltS b a = false) := by
    rw [List.pairwise_iff_getElem]
    intro i j hi hj hij
    simp only [Array.length_toList] at hi hj
    have := hso i j (Nat.zero_le _) hij (by omega)
    simpa [hi, hj] using this
  have := List.Perm.eq_of_pairwise (fun a b _ _ h1 h2 => ltS_total h2 h1) hpw (srt_sorted ss) (hp2.trans (srt_perm ss).symm)
  rw [← this]
theorem isAggS (w : World) : (isAgg 70).run Try.prog w = .ok true w := by kernel_rfl
theorem sizeOfS (w : World) : (Go.sizeOf 70).run Try.prog w = .ok 2 w := by kernel_rfl
theorem sort_any {g n c : Nat} {ss : List (Int × Int)} (h : w.ownsRow B 70 2 (.slice (some ⟨g, 0, none⟩) n c) n (slCells ss)) (hl : ss.length = n) (hn : n ≤ 100000) : Calls Try.prog 48 #[.slice (some ⟨g, 0, none⟩) n c, .func (.func 49) #[] #[]] w fun e w' => e = .returned (.tuple #[]) ∧ w'.ownsRow B 70 2 (.slice (some ⟨g, 0, none⟩) n c) n (slCells (srt ss)) ∧ Kept w w' (fun j => j = g) := by
  have eg : ∀ args w, (callFunc 49 args).run Try.prog w = .ok (.enter 49 args) w := enters_of Try.func49 (by kernel_rfl) rfl
  rcases h.2 with ⟨h1, h2⟩ | ⟨g', cap, cur, hv, hB, hg, hnc, hcm, hcs, htk⟩
  · cases h1
  · simp only [Value.slice.injEq, Option.some.injEq, Addr.mk.injEq] at hv
    obtain ⟨⟨rfl, -, -⟩, -, rfl⟩ := hv
    have hH : Sort.HoldsK slotV 2 w g 0 ss.toArray := fun t ht => by
      have ht' : t < ss.length * 2 := by simpa using ht
      refine ⟨?_, frozen_of_row w _ _ _ _ hg⟩
      rw [flat_at ss t ht', Nat.zero_add, blk_cell hg t]
      have e1 : (cur.toList.take (n * 2))[t]? = (slCells ss)[t]? := by rw [htk]
      rw [List.getElem?_take_of_lt (by omega)] at e1
      rw [← Array.getElem?_toList, e1, slCells_at _ _ ht']
      rfl
    have hS := AnyQ.slices_SortFunc Try.sortS 2 isAggS sizeOfS slotV (fun _ => rfl) slotV_one cmpS swoS 49 #[] g 0 c ss.toArray w eg (fun m os dk _ x y => by simpa using compare_any x y _) hH (lt_heap hg) (by simp; omega)
    change Calls Try.prog 48 _ _ _ at hS
    rw [lt_eq] at hS
    rw [show ss.toArray.size = n by simpa using hl] at hS
    refine hS.mono ?_
    rintro e w' ⟨rfl, d', m, os, hp, hso, rfl⟩
    obtain rfl : d' = (srt ss).toArray := srt_of hl hp hso
    have hlen : (srt ss).length = n := by rw [srt_len, hl]
    refine ⟨rfl, ⟨by rw [slCells_len, hlen], .inr ⟨g, c, _, rfl, hB, heap_sortK _ hg, hnc, hcm, by simp [Sort.putCells, hcs], ?_⟩⟩, kept_sortK w g m _ os⟩
    apply List.ext_getElem?
    intro j
    by_cases hj : j < n * 2
    · rw [List.getElem?_take_of_lt (by omega), Array.getElem?_toList, slCells_at _ _ (by omega)]
      have hjc : j < cur.size := by omega
      have e2 : (Sort.flatK slotV 2 (srt ss).toArray)[j]! = slotC (srt ss) j := flat_at _ _ (by omega)
      show (Sort.putCells id 0 (Sort.flatK slotV 2 (srt ss).toArray) cur)[j]? = _
      simp only [Sort.putCells, Array.getElem?_mapIdx]
      rw [Array.getElem?_eq_getElem hjc]
      simp only [Option.map_some, Nat.zero_le, true_and, Nat.zero_add, Nat.sub_zero]
      rw [if_pos (by rw [Sort.size_flatK]; simpa [hlen] using hj), e2]
      rfl
    · rw [List.getElem?_take_eq_none (by omega), List.getElem?_eq_none (by rw [slCells_len]; omega)]
theorem ins_none (fv : Value) (w : World) : Calls Try.prog 66 #[.slice none 0 0, .int .i64 0, .int .i64 0, fv] w fun e w' => e = .returned (.tuple #[]) ∧ w' = w := by
  go_enter Try.func66, Try.ntmps66
  go_wp2
  refine wp_loop_rounds 1 ?_
  rw [rounds_succ]
  go_wp2
  go_end0
  exact ⟨rfl, rfl⟩
theorem pdq_none (lim : Int) (fv : Value) (w : World) : Calls Try.prog 59 #[.slice none 0 0, .int .i64 0, .int .i64 0, .int .i64 lim, fv] w fun e w' => e = .returned (.tuple #[]) ∧ w' = w := by
  have hi := fun W => ins_none fv W
  go_enter Try.func59, Try.ntmps59
  go_wp2
  refine wp_loop_rounds 1 ?_
  rw [rounds_succ]
  go_wp2_with (first | (go_at_call 66; refine (hi _).mono ?_; rintro e w' ⟨rfl, rfl⟩) | fail)
  (try simp only [Exit.inBlock, Exit.then]); refine bodyPost_ret (results_none rfl _ _ _) rfl ?_
  exact ⟨rfl, rfl⟩
theorem len_zero (W : World) : Calls Try.prog 60 #[.int .u64 0] W fun e w' => e = .returned (.int .i64 (Lib.bitLen 0 : Nat)) ∧ w' = W := by
  have h := Any.bits_Len (SlLaysF0.n15.bits { Try.sortS with }) 0 W (by omega) (by omega)
  exact h
theorem sort_none : Calls Try.prog 48 #[.slice none 0 0, .func (.func 49) #[] #[]] w fun e w' => e = .returned (.tuple #[]) ∧ w' = w := by
  have hl := len_zero
  have hp := fun lim W => pdq_none lim (.func (.func 49) #[] #[]) W
  go_enter Try.func48, Try.ntmps48
  go_wp2_with (first | (go_at_call 60; refine (hl _).mono ?_; rintro e w' ⟨rfl, rfl⟩) | (go_at_call 59; refine (hp _ _).mono ?_; rintro e w' ⟨rfl, rfl⟩) | fail)
  go_end0
  exact ⟨rfl, rfl⟩
end
end Go.Proofs.Ytihcaopcfhbofaa.Fm
namespace Go.Proofs.Ytihcaopcfhbofaa.Fm
open Go.RowKit Go.Maps Mb
set_option linter.unusedVariables false
set_option maxRecDepth 100000
set_option linter.unusedSimpArgs false
section
variable {w w' W : World} {B : Nat}
theorem take_fil {p : Int × Int → Bool} {ss : List (Int × Int)} {c : Nat} (hc : c < ss.length) : (ss.take (c + 1)).filter p = (ss.take c).filter p ++ (if p (ss.getD c z2) then [ss.getD c z2] else []) := by
  have e : ss.getD c z2 = ss[c] := by simp [List.getD, hc]
  rw [List.take_add_one, List.filter_append, e]
  simp [hc]
  split <;> simp_all
theorem own_two {t k n : Nat} {v : Value} {l : List Value} (h : w.ownsRow B t k v n l) : v = .slice none 0 0 ∧ n = 0 ∨ ∃ g c, v = .slice (some ⟨g, 0, none⟩) n c ∧ B ≤ g := by
  rcases h.2 with ⟨h3, h4⟩ | ⟨g, cap, cur, hv, hB, _⟩
  · exact .inl ⟨h3, h4⟩
  · exact .inr ⟨g, cap, hv, hB⟩
set_option maxHeartbeats 4000000 in
theorem pickedL_any {ao : Option Addr} {cp : Nat} {ss : List (Int × Int)} (hr : RdS w ao ss) (hn : ss.length ≤ 100000) (p : Int × Int → Bool) (kb : Nat) (hp : ∀ w', Below w.heap.size w w' → ∀ i, i < ss.length → Calls Try.prog 26 #[.agg (slotV (ss.getD i z2)).toArray, .pointer (some ⟨kb, 0, none⟩)] w' fun e w2 => e = .returned (.bool (p (ss.getD i z2))) ∧ Below w'.heap.size w' w2) : Calls Try.prog 24 #[.slice ao ss.length cp, .func (.func 26) #[] #[.pointer (some ⟨kb, 0, none⟩)]] w fun e w' => ∃ a c, e = .returned (.slice a (pick p ss).length c) ∧ w'.ownsRow w.heap.size 70 2 (.slice a (pick p ss).length c) (pick p ss).length (slCells (pick p ss)) ∧ Below w.heap.size w w' := by
  have HR : Hid (RdS w ao ss) := hr
  have HP : Hid (∀ w', Below w.heap.size w w' → ∀ i, i < ss.length → Calls Try.prog 26 #[.agg (slotV (ss.getD i z2)).toArray, .pointer (some ⟨kb, 0, none⟩)] w' fun e w2 => e = .returned (.bool (p (ss.getD i z2))) ∧ Below w'.heap.size w' w2) := hp
  have HT : Hid (∀ c, c < ss.length → (ss.take (c + 1)).filter p = (ss.take c).filter p ++ (if p (ss.getD c z2) then [ss.getD c z2] else [])) := fun c hc => take_fil hc
  have HF : Hid (∀ c, ((ss.take c).filter p).length ≤ c) := fun c => Nat.le_trans (List.length_filter_le _ _) (by simp; omega)
  generalize hL : ss.length = L at *
  have HLe : Hid (ss.length = L) := hL
  have HPk : Hid ((ss.take L).filter p = ss.filter p) := (show (ss.take L).filter p = ss.filter p from by rw [← hL, List.take_length])
  obtain ⟨si, shi, shz0, shz1, shz2⟩ := slot_info
  clear hr hp hL
  go_enter Try.func24, Try.ntmps24
  go_wp2
  go_loopw [5, 10] (fun ov i wr => ∃ c : Nat, c ≤ L ∧ i = .int .i64 c ∧ wr.ownsRow w.heap.size 70 2 ov ((ss.take c).filter p).length (slCells ((ss.take c).filter p)) ∧ Below w.heap.size w wr) (fun _ i _ => L - (intOf i).toNat)
  case atStart => exact ⟨0, Nat.zero_le _, rfl, ⟨rfl, .inl ⟨rfl, rfl⟩⟩, Below.refl _ _⟩
  case round =>
    obtain ⟨c, hc, rfl, ho, hb⟩ := hrel
    have HO : Hid (wr.ownsRow w.heap.size 70 2 u5 ((ss.take c).filter p).length (slCells ((ss.take c).filter p))) := ho
    have HB : Hid (Below w.heap.size w wr) := hb
    clear ho hb
    by_cases hlt : c < L
    · obtain ⟨b, off, rfl, hcc, _, _⟩ := (HR.out.still HB.out).at (i := c) (by rw [HLe.out]; exact hlt)
      have HC : Hid (wr.rangeAt b (off + c * 2) (slotV (ss.getD c z2))) := hcc
      have HPc : Hid (∀ w', Below w.heap.size w w' → Calls Try.prog 26 #[.agg (slotV (ss.getD c z2)).toArray, .pointer (some ⟨kb, 0, none⟩)] w' fun e w2 => e = .returned (.bool (p (ss.getD c z2))) ∧ Below w'.heap.size w' w2) := fun w' h => HP.out w' h c hlt
      have HTc := HT.out c hlt
      have hfl := HF.out c
      have i1 : (0 : Int) ≤ (c : Int) := Int.natCast_nonneg _
      have i2 : (c : Int) < (L : Int) := by omega
      generalize ss.getD c z2 = x at *
      generalize hfi : (ss.take c).filter p = out at *
      have Hfi : Hid ((ss.take (c + 1)).filter p = out ++ (if p x then [x] else [])) := HTc
      have Hl2 : Hid ((slotV x).length = 2) := rfl
      clear hcc HTc hfi
      go_wp2_with (first
        | (refine load_mid 70 (.tmp 12) HC.out _ Try.underlying70 rfl (by rw [Hl2.out]; exact info_slot) rfl rfl rfl ?_)
        | (refine wl_st 70 (.tmp 7) (.tmp 13) rfl ?_)
        | fail)
      refine wl_store 70 (.tmp 7) (.tmp 13) (L := slotV x) (new_there _ _ _ rfl) info_slot (slotV_one _) rfl rfl rfl (by kernel_rfl) ?_
      simp only [Act.put, gA9, gZ9, gC9, sA9, sZ9, sC9]
      refine ⟨?_⟩
      obtain ⟨hn1, hn2⟩ := newvar wr 70 #[.int .i64 0, .int .i64 0] (slotV x) rfl
      have HOn : Hid (((wr.alloc (.cells #[.int .i64 0, .int .i64 0] 70)).setCells wr.heap.size 0 (slotV x)).ownsRow w.heap.size 70 2 u5 out.length (slCells out)) := own_still HO.out hn1
      have HBn : Hid (Below w.heap.size w ((wr.alloc (.cells #[.int .i64 0, .int .i64 0] 70)).setCells wr.heap.size 0 (slotV x))) := bstep HB.out hn1
      have Hv7 : Hid (((wr.alloc (.cells #[.int .i64 0, .int .i64 0] 70)).setCells wr.heap.size 0 (slotV x)).heap[wr.heap.size]? = some (.cells (slotV x).toArray 70 (0, 0))) := hn2
      have Hn1 : Hid (Below wr.heap.size wr ((wr.alloc (.cells #[.int .i64 0, .int .i64 0] 70)).setCells wr.heap.size 0 (slotV x))) := hn1
      clear hn1 hn2 HO HB
      generalize (wr.alloc (.cells #[.int .i64 0, .int .i64 0] 70)).setCells wr.heap.size 0 (slotV x) = V at *
      generalize hvb : wr.heap.size = v7 at *
      have Hvbv7 : Hid (wr.heap.size = v7) := hvb
      clear hvb
      have HO := HOn
      clear HOn
      have HB := HBn
      clear HBn
      have HM := HPc.out V HB.out
      have R2 : Hid (V.rangeAt v7 0 (slotV x)) := blk_range Hv7.out
      clear HC
      cases hx : p x with
      | false =>
        rw [hx] at HM
        have Hfi2 : Hid ((ss.take (c + 1)).filter p = out) := (show (ss.take (c + 1)).filter p = out from by rw [Hfi.out, hx]; simp)
        clear hx
        go_wp2_with (first
          | (refine load_mid 70 (.tmp 7) R2.out _ Try.underlying70 rfl (by rw [Hl2.out]; exact info_slot) rfl rfl rfl ?_)
          | (go_at_call 26; refine HM.mono ?_; rintro e V2 ⟨rfl, hb2⟩)
          | fail)
        exact ⟨⟨c + 1, by omega, by go_num, by rw [Hfi2.out]; exact own_still HO.out hb2, bstep HB.out hb2⟩, by simp [intOf]; omega⟩
      | true =>
        rw [hx] at HM
        have Hfi2 : Hid ((ss.take (c + 1)).filter p = out ++ [x]) := (show (ss.take (c + 1)).filter p = out ++ [x] from by rw [Hfi.out, hx]; simp)
        clear hx
        go_wp2_with (first
          | (refine load_mid 70 (.tmp 7) R2.out _ Try.underlying70 rfl (by rw [Hl2.out]; exact info_slot) rfl rfl rfl ?_)
          | (go_at_call 26; refine HM.mono ?_; rintro e V2 ⟨rfl, hb2⟩; have HO2 : Hid (V2.ownsRow w.heap.size 70 2 u5 out.length (slCells out)) := own_still HO.out hb2; have HB2 : Hid (Below w.heap.size w V2) := bstep HB.out hb2; have R3 : Hid (V2.rangeAt v7 0 [.int .i64 x.1, .int .i64 x.2]) := blk_range ((hb2.block _ (lt_heap Hv7.out)).trans Hv7.out); have hVs : w.heap.size ≤ V2.heap.size := HB2.out.size; clear hb2 HM R2 HO HB HPc)
          | (refine load_mid 70 (.tmp 7) R3.out _ Try.underlying70 rfl info_slot rfl rfl rfl ?_)
          | (at_builtin; refine wpList_append_lies _ rfl _ _ 25 rfl w.heap.size 70 si (.agg #[.int .i64 0, .int .i64 0]) 2 16 Try.underlying25 shi shz0 shz1 shz2 rfl (by omega) u5 out.length (slCells out) rfl (World.ownsRow.alloc HO2.out _) _ 1 1 [.int .i64 x.1, .int .i64 x.2] rfl rfl (World.news_of_block (heap_alloc_new _ _)) (slotV_one x) (by omega) (by unfold maxLen; omega) (by omega) (by simp; omega) _ rfl ?_; intro g3 cap3 w3 hown3 hgrow3 hat3 hlt3)
          | fail)
        have HO3 := World.ownsRow.alloc HO2.out
        refine ⟨⟨c + 1, by omega, by go_num, ?_, ?_⟩, by simp [intOf]; omega⟩
        · rw [Hfi2.out, slCells_app, List.length_append]; exact hown3
        · exact (balloc HB2.out).grown hgrow3 (balloc HB2.out).size (fun k hk => (row_cells HO2.out hk).1)
    · obtain rfl : L = c := by omega
      have ho := HO.out
      have hfl := HF.out L
      rw [HPk.out] at ho hfl
      have HE : Hid (pick p ss = srt (ss.filter p)) := rfl
      have Hpl : Hid ((pick p ss).length = (ss.filter p).length) := srt_len _
      generalize hfi : ss.filter p = out at *
      have Ho : Hid (wr.ownsRow w.heap.size 70 2 u5 out.length (slCells out)) := ho
      clear hfi HO ho
      rcases own_two Ho.out with ⟨rfl, h0⟩ | ⟨g, cc, rfl, hg⟩
      · have HSN := sort_none (w := wr)
        have Hout : Hid (pick p ss = []) := (show pick p ss = [] from by rw [HE.out, List.length_eq_zero_iff.1 h0, srt_nil])
        clear h0
        go_wp2_with (first
          | (go_at_call 48; refine HSN.mono ?_; rintro e V2 ⟨rfl, rfl⟩)
          | fail)
        go_ret
        exact ⟨none, 0, by rw [Hout.out]; rfl, by rw [Hout.out]; exact ⟨rfl, .inl ⟨rfl, rfl⟩⟩, HB.out⟩
      · have HSA := sort_any Ho.out rfl (by omega)
        go_wp2_with (first
          | (go_at_call 48; refine HSA.mono ?_; rintro e V2 ⟨rfl, ho2, hk2⟩)
          | fail)
        go_ret
        refine ⟨some ⟨g, 0, none⟩, cc, by rw [Hpl.out]; rfl, ?_, HB.out.trans (hk2.below HB.out.size (fun k hk e => by omega))⟩
        rw [Hpl.out, HE.out]
        exact ho2
end
end Go.Proofs.Ytihcaopcfhbofaa.Fm
namespace Go.Proofs.Ytihcaopcfhbofaa.Fm
open Go.RowKit Go.Maps Mb
set_option linter.unusedVariables false
set_option maxRecDepth 100000
set_option linter.unusedSimpArgs false
section
variable {w w' W : World} {B : Nat}
theorem blk_on {a b : World} {k : Nat} {o : Obj} (hb : Below a.heap.size a b) (h : a.heap[k]? = some o) : b.heap[k]? = some o := (hb.block k (Array.getElem?_eq_some_iff.1 h).1).trans h
theorem drew_bel (w : World) : Below w.heap.size w w.drew := (Below.refl _ _).drew
theorem range_on {b off : Nat} {cs : List Value} (h : w.rangeAt b off cs) (hb : Below w.heap.size w w') : w'.rangeAt b off cs := fun j v hv => below_at hb (h j v hv)
theorem run_allocZ {t : TypeId} {Z : Array Value} (hz : (Try.prog.info? t).map (·.zero) = some (some (.agg Z))) : (Instr.alloc t true (.tuple #[])).run Try.prog w = .ok (.pointer (some ⟨w.heap.size, 0, none⟩)) (w.alloc (.cells Z t)) := by
  cases hi : Try.prog.info? t with
  | none => rw [hi] at hz; cases hz
  | some i =>
    rw [hi] at hz
    simp only [Option.map_some, Option.some.injEq] at hz
    simp [Instr.alloc, zeroValue, typeInfo, hi, hz, go_sem, newVar, newRow, Value.cells]
section
variable {ops : Array Oper} {rest : List Oper} {o : Oper} {a : Act} {K : Act → World → Prop} {Q : Exit → Act → World → Prop} {E : Prop}
theorem wl_allocZ {Z : Array Value} (hgd : o.guard = none) (t : TypeId) (ho : o.op = .alloc t) (hz : (Try.prog.info? t).map (·.zero) = some (some (.agg Z)))
    (h : ∀ W : World, W.heap[w.heap.size]? = some (.cells Z t (0, 0)) → Below w.heap.size w W → w.heap.size < W.heap.size → wpList Try.prog ops Q rest (a.put o.dst (.pointer (some ⟨w.heap.size, 0, none⟩))) W) : wpList Try.prog ops Q (o :: rest) a w :=
  wpList_plain hgd fun K hK => by
    unfold Oper.wp execOp
    simp only [ho, Sem.run_bind, run_allocZ hz, Result.andThen_ok, Sem.run_pure]
    exact hK _ _ (h _ (heap_alloc_new w _) ((Below.refl _ _).alloc (Nat.le_refl _) _) (by simp))
theorem step_allocZ {Z : Array Value} (hgd : o.guard = none) (t : TypeId) (ho : o.op = .alloc t) (hz : (Try.prog.info? t).map (·.zero) = some (some (.agg Z)))
    (h : ∀ W : World, W.heap[w.heap.size]? = some (.cells Z t (0, 0)) → Below w.heap.size w W → w.heap.size < W.heap.size → K (a.put o.dst (.pointer (some ⟨w.heap.size, 0, none⟩))) W) : if Region.wanted o (yielded ops a.tmps) = true then Oper.wp Try.prog o a w K Q else E := by
  have hw : Region.wanted o (yielded ops a.tmps) = true := by simp [Region.wanted, hgd]
  rw [if_pos hw]
  unfold Oper.wp execOp
  simp only [ho, Sem.run_bind, run_allocZ hz, Result.andThen_ok, Sem.run_pure]
  exact h _ (heap_alloc_new w _) ((Below.refl _ _).alloc (Nat.le_refl _) _) (by simp)
theorem wl_storeZ (hgd : o.guard = none) (ty : TypeId) (x y : Operand) (ho : o.op = .store ty x y) {g : Nat} {L : List Value} {t : TypeId} {old : Array Value} (hx : a.eval x = .pointer (some ⟨g, 0, none⟩)) (hy : a.eval y = .agg L.toArray) (hg : w.heap[g]? = some (.cells old t (0, 0))) (hi : (Try.prog.info? ty).map (·.size) = some L.length) (hold : old.size = L.length) (h1 : ∀ u ∈ L, u.oneCell' = true)
    (h : ∀ W : World, W.heap[g]? = some (.cells L.toArray t (0, 0)) → Kept w W (fun j => j = g) → wpList Try.prog ops Q rest (a.put o.dst undef) W) : wpList Try.prog ops Q (o :: rest) a w :=
  wpList_plain hgd fun K hK => wp_store_mid ty x y ho g 0 _ hx hy (by simpa using blk_there hg hold) (by simpa using hi) (all_oneCell_toArray h1) (hK _ _ (by simpa using h _ (sets_whole hg hold) (ksets (P := fun j => j = g) rfl _ _ _)))
theorem step_storeZ (hgd : o.guard = none) (ty : TypeId) (x y : Operand) (ho : o.op = .store ty x y) {g : Nat} {L : List Value} {t : TypeId} {old : Array Value} (hx : a.eval x = .pointer (some ⟨g, 0, none⟩)) (hy : a.eval y = .agg L.toArray) (hg : w.heap[g]? = some (.cells old t (0, 0))) (hi : (Try.prog.info? ty).map (·.size) = some L.length) (hold : old.size = L.length) (h1 : ∀ u ∈ L, u.oneCell' = true)
    (h : ∀ W : World, W.heap[g]? = some (.cells L.toArray t (0, 0)) → Kept w W (fun j => j = g) → K (a.put o.dst undef) W) : if Region.wanted o (yielded ops a.tmps) = true then Oper.wp Try.prog o a w K Q else E := by
  have hw : Region.wanted o (yielded ops a.tmps) = true := by simp [Region.wanted, hgd]
  rw [if_pos hw]
  exact wp_store_mid ty x y ho g 0 _ hx hy (by simpa using blk_there hg hold) (by simpa using hi) (all_oneCell_toArray h1) (by simpa using h _ (sets_whole hg hold) (ksets (P := fun j => j = g) rfl _ _ _))
theorem wp_bsl (t e : TypeId) (len : Nat) (parts : Array (Nat × Operand)) (ho : o.op = .buildSlice t len parts) (hu : Try.prog.underlying t = some (.slice e)) (cells : Array Value)
    (hf : Try.prog.builtSlice e len (parts.map fun (i, x) => (i, a.eval x)).toList = some cells)
    (h : K (a.put o.dst (.slice (some ⟨w.heap.size, 0, none⟩) len len)) (w.alloc (.cells cells e))) : Oper.wp Try.prog o a w K Q := by
  unfold Program.builtSlice at hf
  cases hie : Try.prog.info? e with
  | none => simp [hie] at hf
  | some ie =>
    simp only [hie] at hf
    cases hz : ie.zero with
    | none => simp [hz] at hf
    | some z =>
      simp only [hz] at hf
      by_cases hc : len * ie.size > 2 ^ 24 ∨ len * ie.size = 0
      · simp [hc] at hf
      · rw [if_neg hc] at hf
        exact wp_buildSlice t e len parts ho cells ie z hu hie hz (fun h' => hc (Or.inl h')) (fun h' => hc (Or.inr h')) hf h
theorem step_bsl (hgd : o.guard = none) (t e : TypeId) (len : Nat) (parts : Array (Nat × Operand)) (ho : o.op = .buildSlice t len parts) (hu : Try.prog.underlying t = some (.slice e)) (cells : Array Value)
    (hf : Try.prog.builtSlice e len (parts.map fun (i, x) => (i, a.eval x)).toList = some cells)
    (h : ∀ V : World, V.heap[w.heap.size]? = some (.cells cells e (0, 0)) → Below w.heap.size w V → w.heap.size < V.heap.size → K (a.put o.dst (.slice (some ⟨w.heap.size, 0, none⟩) len len)) V) : if Region.wanted o (yielded ops a.tmps) = true then Oper.wp Try.prog o a w K Q else E := by
  have hwt : Region.wanted o (yielded ops a.tmps) = true := by simp [Region.wanted, hgd]
  rw [if_pos hwt]
  exact wp_bsl t e len parts ho hu cells hf (h _ (heap_alloc_new w _) ((Below.refl _ _).alloc (Nat.le_refl _) _) (by simp))
theorem wl_bsl (hgd : o.guard = none) (t e : TypeId) (len : Nat) (parts : Array (Nat × Operand)) (ho : o.op = .buildSlice t len parts) (hu : Try.prog.underlying t = some (.slice e)) (cells : Array Value)
    (hf : Try.prog.builtSlice e len (parts.map fun (i, x) => (i, a.eval x)).toList = some cells)
    (h : ∀ V : World, V.heap[w.heap.size]? = some (.cells cells e (0, 0)) → Below w.heap.size w V → w.heap.size < V.heap.size → wpList Try.prog ops Q rest (a.put o.dst (.slice (some ⟨w.heap.size, 0, none⟩) len len)) V) : wpList Try.prog ops Q (o :: rest) a w :=
  wpList_plain hgd fun K hK => wp_bsl t e len parts ho hu cells hf (hK _ _ (h _ (heap_alloc_new w _) ((Below.refl _ _).alloc (Nat.le_refl _) _) (by simp)))
theorem bsl_eq {e : TypeId} {n : Nat} {l l' : List (Nat × Value)} {c : Array Value} (e1 : l = l') (h : Try.prog.builtSlice e n l' = some c) : Try.prog.builtSlice e n l = some c := e1 ▸ h
theorem app_g (hgd : o.guard = none) (s x : Operand) (t : TypeId)
    (ho : o.op = .call { callee := .builtin .append, args := #[s, x], argTypes := #[t, t] })
    (base : Nat) (e : TypeId) (i : TypeInfo) (z : Value) (size bytes : Nat) (ht : Try.prog.underlying t = some (.slice e)) (hi : Try.prog.info? e = some i) (hz : i.zero = some z)
    (hsize : i.size = size) (hby : i.bytes = bytes) (hzs : z.cells.size = size) (hsz : 0 < size)
    (v : Value) (n : Nat) (xs : List Value) (hs : a.eval s = v) (hown : w.ownsRow base e size v n xs)
    (ao : Option Addr) (m c : Nat) (news : List Value) (hx : a.eval x = .slice ao m c) (hnone : ao = none → m = 0 ∧ c = 0) (hl : news.length = m * size) (hnews : ∀ ad, ao = some ad → ∀ j u, news[j]? = some u → w.cell? (ad.add j) = some u) (h1 : ∀ u ∈ news, u.oneCell' = true)
    (h63 : n + m ≤ maxLen) (hbytes : (n + m) * bytes ≤ 140737488355328) (hbase : base ≤ w.heap.size)
    (h : ∀ v' w', Hid (w'.ownsRow base e size v' (n + m) (xs ++ news)) → Hid (Kept w w' (fun k => v.ownBlock = some k)) → Hid (v'.ownBlock = v.ownBlock ∨ v'.ownBlock = some w.heap.size) → wpList Try.prog ops Q rest (a.put o.dst v') w') :
    wpList Try.prog ops Q (o :: rest) a w := by
  cases ao with
  | some ad =>
    refine wpList_append_own_at w hgd s x t ho base e i z size bytes ht hi hz hsize hby hzs hsz v n xs hs hown ad m c news hx hl (hnews ad rfl) h1 h63 hbytes hbase ?_
    intro v' w' h2 h3 _ h5
    exact h v' w' h2 ((Kept.ofGrown h3).mono fun k _ hk => hk.symm) h5
  | none =>
    obtain ⟨rfl, rfl⟩ := hnone rfl
    obtain rfl : news = [] := List.eq_nil_of_length_eq_zero (by rw [hl]; omega)
    exact wpList_append_own_none hgd s x t ho base e i size ht hi v n xs hs hown hx (h v w (by show World.ownsRow _ _ _ _ _ _ _; simpa using hown) (Kept.refl _ _) (.inl rfl))
theorem flCells_len (xs : List Fl) : (flCells xs).length = xs.length * 7 := by
  induction xs with
  | nil => rfl
  | cons s ss ih => simp only [flCells, List.flatMap_cons, List.length_append] at ih ⊢; rw [ih, Fl.cs_len]; simp; omega
theorem step_appF (hgd : o.guard = none) (s x : Operand)
    (ho : o.op = .call { callee := .builtin .append, args := #[s, x], argTypes := #[22, 22] }) {b off L nb : Nat} {fs : List Fl} {f : Fl} (hs : a.eval s = .slice (some ⟨b, off, none⟩) L L) (hL : fs.length = L) (hn : L ≤ 16) (hr : RdFs w (some ⟨b, off, none⟩) fs) (hf : f.Rd w)
    (hx : a.eval x = .slice (some ⟨nb, 0, none⟩) 1 1) (hnb : w.heap[nb]? = some (.cells f.cs.toArray 28 (0, 0)))
    (h : ∀ a' c' w', RdFs w' a' (fs ++ [f]) → Below w.heap.size w w' → K (a.put o.dst (.slice a' (L + 1) c')) w') : if Region.wanted o (yielded ops a.tmps) = true then Oper.wp Try.prog o a w K Q else E := by
  have hwt : Region.wanted o (yielded ops a.tmps) = true := by simp [Region.wanted, hgd]
  rw [if_pos hwt]
  obtain ⟨i0, hi, hz0, hz1, hz2⟩ := flush_info
  obtain ⟨v', w', hrun, h2, h3⟩ := run_append_arg_grows (P := Try.prog) w 22 o.type 28 i0 _ 7 88 Try.underlying22 hi hz0 hz1 hz2 rfl (by omega) ⟨b, off, none⟩ L L (flCells fs) (by rw [flCells_len, hL]) (fun j u hu => by
      have hj : j < fs.length * 7 := by have := (List.getElem?_eq_some_iff.1 hu).1; rwa [flCells_len] at this
      rcases hr.row with h0 | ⟨b', off', e, hc⟩
      · omega
      · simp only [Option.some.injEq, Addr.mk.injEq, and_true] at e
        rw [Addr.add_lit, e.1, e.2, hc j hj, ← flCells_at _ _ hj, hu]) ⟨nb, 0, none⟩ 1 1 f.cs rfl (fun j u hu => by
      rw [Addr.add_lit, Nat.zero_add, blk_cell hnb]
      simpa using hu) (by omega) (by unfold maxLen; omega) (by omega)
  have hb : Below w.heap.size w w' := ⟨h3.os, h3.tape, h3.output, h3.size, fun k hk => h3.block k hk (by simp)⟩
  obtain ⟨a', c', rfl⟩ : ∃ a' c', v' = .slice a' (L + 1) c' := by
    rcases h2.2 with ⟨_, h4⟩ | ⟨g, cap, cur, hv, _⟩
    · omega
    · exact ⟨_, _, hv⟩
  unfold Oper.wp execOp
  simp only [ho, resolve, invoke, builtin, Sem.run_bind, Sem.run_pure, Result.andThen_ok, List.map_toArray, List.map_cons, List.map_nil, hs, hx, hrun]
  refine h a' c' w' ⟨?_, fun i hi => ?_⟩ hb
  · rw [List.length_append, hL]
    refine own_row h2 (fun i hi => ?_)
    have : (flCells fs ++ f.cs) = flCells (fs ++ [f]) := by simp [flCells]
    rw [this]
    exact flCells_at _ _ (by rw [List.length_append, hL]; exact hi)
  · by_cases e : i < fs.length
    · have : (fs ++ [f]).getD i fl0 = fs.getD i fl0 := by simp [List.getD, List.getElem?_append, e]
      rw [this]
      exact (hr.el i e).still hb
    · have hi2 : i = fs.length := by simp at hi; omega
      have : (fs ++ [f]).getD i fl0 = f := by subst hi2; simp [List.getD]
      rw [this]
      exact hf.still hb
end
theorem own_ne {t s n g t' : Nat} {v : Value} {l : List Value} {C : Array Value} (h : w.ownsRow B t s v n l) (hk : w.heap[g]? = some (.cells C t' (0, 0))) (hne : t ≠ t') (k : Kept w W (fun j => j = g)) : W.ownsRow B t s v n l := by
  refine k.owns h fun j hj e => ?_
  obtain ⟨_, cur, hc⟩ := row_cells h hj
  have e' : j = g := e
  rw [e', hk] at hc
  simp at hc
  exact hne hc.2.symm
theorem zEnd : (Try.prog.info? 61).map (·.zero) = some (some (.agg #[.int .i64 0, .slice none 0 0])) := by kernel_rfl
theorem zSlot : (Try.prog.info? 70).map (·.zero) = some (some (.agg #[.int .i64 0, .int .i64 0])) := by kernel_rfl
theorem bFl (f : Fl) : Try.prog.builtSlice 28 1 [(0, .agg f.cs.toArray)] = some f.cs.toArray := by kernel_rfl
structure JQ (fs : List Fl) (w w' : World) (bb : Int) (a : Option Addr) (n c : Nat) (ev : Int) : Prop where
  e : ev = togE (cos fs)
  k : ev = 0 → bb = baseOf (cos fs) ∧ Ends (cos fs) n ∧ ∃ ss, SlOf (cos fs) n ss ∧ w'.ownsRow w.heap.size 70 2 (.slice a n c) n (slCells ss)
theorem join_one {ao : Option Addr} {cp : Nat} {fs : List Fl} (hr : RdFs w ao fs) (hn : fs.length ≤ 17) : Calls Try.prog 20 #[.slice ao fs.length cp] w fun e w' => ∃ bb a n c ev, e = .returned (.tuple #[.agg (endV bb a n c).toArray, .int .i64 ev]) ∧ JQ fs w w' bb a n c ev ∧ Below w.heap.size w w' := by
  refine (join_any (cp := cp) hr hn).mono ?_
  rintro e w' ⟨hb, h | ⟨h0, n, a, c, ss, h1, h2, h3, h4⟩⟩
  · exact ⟨0, none, 0, 0, _, h.2, ⟨rfl, fun hh => absurd hh h.1⟩, hb⟩
  · exact ⟨_, a, n, c, 0, h3, ⟨h0.symm, fun _ => ⟨rfl, h1, ss, h2, h4⟩⟩, hb⟩
end
end Go.Proofs.Ytihcaopcfhbofaa.Fm
namespace Go.Proofs.Ytihcaopcfhbofaa.Fm
open Go.RowKit Go.Maps Mb
set_option linter.unusedVariables false
set_option maxRecDepth 100000
set_option linter.unusedSimpArgs false
section
variable {w w' W : World} {B : Nat}
def lstE (cs : List Co) : Int := if inR 1 16 cs.length then togE cs else 1
set_option maxHeartbeats 4000000 in
theorem qlisted_any {ao : Option Addr} {cp : Nat} {fs : List Fl} (hr : RdFs w ao fs) (hln : fs.length ≤ 1000000000000000000) : Calls Try.prog 32 #[.slice ao fs.length cp] w fun e w' => e = .returned (.int .i64 (lstE (cos fs))) ∧ Below w.heap.size w w' := by
  have HT := qTog_any (cp := cp) hr hln
  have Hl : Hid (lstE (cos fs) = if inR 1 16 (fs.length : Int) then togE (cos fs) else 1) := (show _ = _ from by unfold lstE; rw [cos_len])
  generalize fs.length = L at *
  clear hr
  by_cases h1 : 1 ≤ L
  case neg =>
    have Hr : Hid (lstE (cos fs) = 1) := (show _ = _ from by rw [Hl.out, inR_f1 (by omega)]; rfl)
    go_enter Try.func32, Try.ntmps32
    go_wp2_with (first | (refine wl_at 4 rfl ?_) | fail)
    refine wl_take (v := ?_) (by kernel_rfl) (by go_simp; exact rfl) ?_
    simp only [Act.put, gA9, gZ9, gC9, sA9, sZ9, sC9]
    refine wl_take (v := .bool true) (by kernel_rfl) (by first | (go_simp; done) | (go_simp; omega)) ?_
    simp only [Act.put, gA9, gZ9, gC9, sA9, sZ9, sC9]
    refine wl_take (v := ?_) (by kernel_rfl) (by go_simp; exact rfl) ?_
    simp only [Act.put, gA9, gZ9, gC9, sA9, sZ9, sC9]
    refine wl_skip (by kernel_rfl) ?_
    simp only [Act.put, gA9, gZ9, gC9, sA9, sZ9, sC9]
    refine wl_skip (by kernel_rfl) ?_
    simp only [Act.put, gA9, gZ9, gC9, sA9, sZ9, sC9]
    refine wl_skip (by kernel_rfl) ?_
    simp only [Act.put, gA9, gZ9, gC9, sA9, sZ9, sC9]
    refine wl_take (v := ?_) (by kernel_rfl) (by go_simp; exact rfl) ?_
    simp only [Act.put, gA9, gZ9, gC9, sA9, sZ9, sC9]
    refine ⟨?_⟩
    go_wp2
    go_ret
    exact ⟨congrArg (fun x => Ending.returned (.int .i64 x)) Hr.out.symm, Below.refl _ _⟩
  by_cases h2 : L ≤ 16
  case neg =>
    have Hr : Hid (lstE (cos fs) = 1) := (show _ = _ from by rw [Hl.out, inR_f2 (by omega)]; rfl)
    go_enter Try.func32, Try.ntmps32
    go_wp2_with (first | (refine wl_at 4 rfl ?_) | fail)
    refine wl_take (v := ?_) (by kernel_rfl) (by go_simp; exact rfl) ?_
    simp only [Act.put, gA9, gZ9, gC9, sA9, sZ9, sC9]
    refine wl_take (v := .bool false) (by kernel_rfl) (by first | (go_simp; done) | (go_simp; omega)) ?_
    simp only [Act.put, gA9, gZ9, gC9, sA9, sZ9, sC9]
    refine wl_take (v := ?_) (by kernel_rfl) (by go_simp; exact rfl) ?_
    simp only [Act.put, gA9, gZ9, gC9, sA9, sZ9, sC9]
    refine wl_take (v := ?_) (by kernel_rfl) (by go_simp; exact rfl) ?_
    simp only [Act.put, gA9, gZ9, gC9, sA9, sZ9, sC9]
    refine wl_take (v := ?_) (by kernel_rfl) (by go_simp; exact rfl) ?_
    simp only [Act.put, gA9, gZ9, gC9, sA9, sZ9, sC9]
    refine wl_take (v := .bool true) (by kernel_rfl) (by first | (go_simp; done) | (go_simp; omega)) ?_
    simp only [Act.put, gA9, gZ9, gC9, sA9, sZ9, sC9]
    refine wl_take (v := ?_) (by kernel_rfl) (by go_simp; exact rfl) ?_
    simp only [Act.put, gA9, gZ9, gC9, sA9, sZ9, sC9]
    refine ⟨?_⟩
    go_wp2
    go_ret
    exact ⟨congrArg (fun x => Ending.returned (.int .i64 x)) Hr.out.symm, Below.refl _ _⟩
  have Hr : Hid (lstE (cos fs) = togE (cos fs)) := (show _ = _ from by rw [Hl.out, inR_t (by omega) (by omega)]; rfl)
  go_enter Try.func32, Try.ntmps32
  go_wp2_with (first | (refine wl_at 4 rfl ?_) | fail)
  refine wl_take (v := ?_) (by kernel_rfl) (by go_simp; exact rfl) ?_
  simp only [Act.put, gA9, gZ9, gC9, sA9, sZ9, sC9]
  refine wl_take (v := .bool false) (by kernel_rfl) (by first | (go_simp; done) | (go_simp; omega)) ?_
  simp only [Act.put, gA9, gZ9, gC9, sA9, sZ9, sC9]
  refine wl_take (v := ?_) (by kernel_rfl) (by go_simp; exact rfl) ?_
  simp only [Act.put, gA9, gZ9, gC9, sA9, sZ9, sC9]
  refine wl_take (v := ?_) (by kernel_rfl) (by go_simp; exact rfl) ?_
  simp only [Act.put, gA9, gZ9, gC9, sA9, sZ9, sC9]
  refine wl_take (v := ?_) (by kernel_rfl) (by go_simp; exact rfl) ?_
  simp only [Act.put, gA9, gZ9, gC9, sA9, sZ9, sC9]
  refine wl_take (v := .bool false) (by kernel_rfl) (by first | (go_simp; done) | (go_simp; omega)) ?_
  simp only [Act.put, gA9, gZ9, gC9, sA9, sZ9, sC9]
  refine wl_take (v := ?_) (by kernel_rfl) (by go_simp; exact rfl) ?_
  simp only [Act.put, gA9, gZ9, gC9, sA9, sZ9, sC9]
  refine ⟨?_⟩
  go_wp2_with (first | (go_at_call 34; refine HT.mono ?_; rintro e V ⟨rfl, hb⟩) | fail)
  go_ret
  exact ⟨congrArg (fun x => Ending.returned (.int .i64 x)) Hr.out.symm, hb⟩
theorem lst_cut {cs : List Co} (h : lstE cs ≠ 0) : CutS cs 0 (lstE cs) := by
  unfold lstE at *
  cases hi : inR 1 16 (cs.length : Int) with
  | false => exact .inl ⟨hi, rfl, rfl⟩
  | true =>
    rw [hi] at h
    exact .inr (.inl ⟨hi, h, rfl, rfl⟩)
theorem lst_ok {cs : List Co} (h : lstE cs = 0) : inR 1 16 (cs.length : Int) = true ∧ togE cs = 0 := by
  unfold lstE at h
  cases hi : inR 1 16 (cs.length : Int) with
  | false => rw [hi] at h; cases h
  | true =>
    rw [hi] at h
    exact ⟨rfl, h⟩
set_option maxHeartbeats 4000000 in
theorem qCut_any {ao : Option Addr} {cp : Nat} {fs : List Fl} (hr : RdFs w ao fs) (hln : fs.length ≤ 1000000000000000000) : Calls Try.prog 11 #[.slice ao fs.length cp] w (CutO (cos fs) w) := by
  have HL := qlisted_any (cp := cp) hr hln
  have HE : Hid (∀ V, Below w.heap.size w V → Tog (cos fs) → Calls Try.prog 33 #[.slice ao fs.length cp] V fun e w' => ∃ n : Nat, e = .returned (.int .i64 (baseOf (cos fs) + n)) ∧ Ends (cos fs) n ∧ Below V.heap.size V w') := fun V hV ht => qend_any (hr.still hV) hln ht
  have Hc : Hid (lstE (cos fs) ≠ 0 → CutS (cos fs) 0 (lstE (cos fs))) := lst_cut
  generalize fs.length = L at *
  clear hr
  by_cases h0 : lstE (cos fs) = 0
  · obtain ⟨hi, ht⟩ := lst_ok h0
    have HT : Hid (Tog (cos fs)) := tog_of ht
    have Hi : Hid (inR 1 16 ((cos fs).length : Int) = true ∧ togE (cos fs) = 0) := ⟨hi, ht⟩
    rw [h0] at HL
    clear hi ht h0 Hc
    generalize hbs : baseOf (cos fs) = bs at *
    have Hbs : Hid (baseOf (cos fs) = bs) := hbs
    clear hbs
    go_enter Try.func11, Try.ntmps11
    go_wp2_with (first
      | (go_at_call 32; refine HL.mono ?_; rintro e V ⟨rfl, hb⟩)
      | (go_at_call 33; refine (HE.out V hb HT.out).mono ?_; rintro e V2 ⟨n, rfl, hE, hb2⟩)
      | fail)
    go_ret2
    exact ⟨bs + n, 0, rfl, .inr (.inr ⟨Hi.out.1, Hi.out.2, rfl, n, hE, by rw [Hbs.out]⟩), bstep hb hb2⟩
  · have HS : Hid (CutS (cos fs) 0 (lstE (cos fs))) := Hc.out h0
    clear Hc
    generalize lstE (cos fs) = E at *
    have hne : (E == 0) = false := by simpa using h0
    go_enter Try.func11, Try.ntmps11
    go_wp2_with (first
      | (go_at_call 32; refine HL.mono ?_; rintro e V ⟨rfl, hb⟩)
      | fail)
    go_ret2
    exact ⟨0, E, rfl, HS.out, hb⟩
end
end Go.Proofs.Ytihcaopcfhbofaa.Fm
namespace Go.Proofs.Ytihcaopcfhbofaa.Fm
open Go.RowKit Go.Maps Mb
set_option linter.unusedVariables false
set_option maxRecDepth 100000
set_option linter.unusedSimpArgs false
section
variable {w w' W : World} {B : Nat}
set_option maxHeartbeats 1000000 in
theorem clip_any {b off n cp : Nat} (hn : n ≤ cp) (hc : cp ≤ 9223372036854775807) (h0 : 1 ≤ n) : Calls Try.prog 22 #[.slice (some ⟨b, off, none⟩) n cp] w fun e w' => e = .returned (.slice (some ⟨b, off, none⟩) n n) ∧ w' = w := by
  have h1 : (n : Int) ≤ (cp : Int) := by omega
  have h2 : (0 : Int) ≤ (n : Int) := Int.natCast_nonneg _
  go_enter Try.func22, Try.ntmps22
  go_wp2
  go_ret
  exact ⟨rfl, rfl⟩
set_option maxHeartbeats 1000000 in
theorem lk1_any {ao : Option Addr} {cp : Nat} {fs : List Fl} (hr : RdFs w ao fs) (hn : fs.length ≤ 1000000000000000000) (s : Int × Int) (hs0 : 0 ≤ s.1) (hk : ∀ i, i < fs.length → s.1 < (fs.getD i fl0).c.hv.length) (kb hb : Nat) (hh : w.heap[hb]? = some (.cells #[.slice ao fs.length cp] 22 (0, 0))) (hf : w.heap[kb]? = some (.cells #[.func (.func 45) #[] #[.pointer (some ⟨hb, 0, none⟩)]] 65 (0, 0))) : Calls Try.prog 26 #[.agg (slotV s).toArray, .pointer (some ⟨kb, 0, none⟩)] w fun e w' => e = .returned (.bool (!hasA (cos fs) s)) ∧ Below w.heap.size w w' := by
  obtain ⟨s1, x⟩ := s
  obtain ⟨k, rfl⟩ : ∃ k : Nat, s1 = (k : Int) := ⟨s1.toNat, by simp at hs0; omega⟩
  generalize hW1 : w.alloc (.cells (slotV ((k : Int), x)).toArray 70) = W1
  have b1 : Below w.heap.size w W1 := hW1 ▸ balloc (Below.refl _ _)
  have k1 : W1.heap[w.heap.size]? = some (.cells (slotV ((k : Int), x)).toArray 70 (0, 0)) := by rw [← hW1]; exact heap_alloc_new w _
  have HB : Hid (Below w.heap.size w W1) := b1
  have HC := held_any (cp := cp) (hr.still b1) hn k x (fun i hi => by have := hk i hi; dsimp only at this; omega) hb (blk_on b1 hh)
  have q0 : W1.cell? ⟨kb, 0, none⟩ = some (.func (.func 45) #[] #[.pointer (some ⟨hb, 0, none⟩)]) := below_at b1 (blk_cell hf 0)
  have R1 : Hid (W1.rangeAt w.heap.size 0 (slotV ((k : Int), x))) := blk_range k1
  have Hl2 : Hid ((slotV ((k : Int), x)).length = 2) := rfl
  generalize hasA (cos fs) ((k : Int), x) = hb1 at *
  generalize slotV ((k : Int), x) = pc at *
  generalize fs.length = L at *
  clear hr hk hh hf b1 k1
  go_enter Try.func26, Try.ntmps26
  go_wp2_with (first
    | (refine load_mid 70 (.tmp 2) R1.out _ Try.underlying70 rfl (by rw [Hl2.out]; exact info_slot) rfl rfl rfl ?_)
    | (go_at_call 45; refine HC.mono ?_; rintro e w2 ⟨rfl, hb2⟩)
    | fail)
  go_ret
  exact ⟨rfl, bstep HB.out hb2⟩
def lkB (cs : List Co) (d : Int) : Bool := inR 0 4611686018427387904 d && inR 1 16 cs.length
def LkS (cs : List Co) (own : Co) (d E : Int) (l : List (Int × Int)) : Prop :=
  (lkB cs d = false ∧ E = 1 ∧ l = []) ∨ (lkB cs d = true ∧ togE (cs ++ [own]) ≠ 0 ∧ E = togE (cs ++ [own]) ∧ l = []) ∨
  (lkB cs d = true ∧ togE (cs ++ [own]) = 0 ∧ d < baseOf (cs ++ [own]) ∧ E = 82 ∧ l = []) ∨
  (lkB cs d = true ∧ togE (cs ++ [own]) = 0 ∧ ¬ d < baseOf (cs ++ [own]) ∧ E = 0 ∧ ∃ n ss, Ends (cs ++ [own]) n ∧ SlOf (cs ++ [own]) n ss ∧ l = pick (fun s => !has own s) (ss.drop (d - baseOf (cs ++ [own])).toNat))
theorem SlOf.eq {cs : List Co} {n : Nat} {ss ss' : List (Int × Int)} (h : SlOf cs n ss) (k : SlOf cs n ss') : ss = ss' := by
  apply List.ext_getElem?
  intro j
  by_cases hj : j < n
  · have e1 := h.2 j hj
    rw [k.2 j hj] at e1
    simp only [Option.some.injEq] at e1
    have h1 : j < ss.length := by have := h.1; omega
    have h2 : j < ss'.length := by have := k.1; omega
    simp [List.getD, h1, h2] at e1
    simp [h1, h2, e1]
  · rw [List.getElem?_eq_none (by have := h.1; omega), List.getElem?_eq_none (by have := k.1; omega)]
theorem LkS.eq {cs : List Co} {own : Co} {d E E' : Int} {l l' : List (Int × Int)} (h : LkS cs own d E l) (k : LkS cs own d E' l') : E = E' ∧ l = l' := by
  unfold LkS at h k
  rcases h with ⟨a1, a2, a3⟩ | ⟨a1, a2, a3, a4⟩ | ⟨a1, a2, a3, a4, a5⟩ | ⟨a1, a2, a3, a4, n, ss, h1, h2, h3⟩
  · rcases k with ⟨b1, b2, b3⟩ | ⟨b1, b2, b3, b4⟩ | ⟨b1, b2, b3, b4, b5⟩ | ⟨b1, b2, b3, b4, n', ss', k1, k2, k3⟩
    · exact ⟨by omega, by rw [a3, b3]⟩
    all_goals (rw [a1] at b1; cases b1)
  · rcases k with ⟨b1, b2, b3⟩ | ⟨b1, b2, b3, b4⟩ | ⟨b1, b2, b3, b4, b5⟩ | ⟨b1, b2, b3, b4, n', ss', k1, k2, k3⟩
    · rw [a1] at b1; cases b1
    · exact ⟨by omega, by rw [a4, b4]⟩
    · exact absurd b2 a2
    · exact absurd b2 a2
  · rcases k with ⟨b1, b2, b3⟩ | ⟨b1, b2, b3, b4⟩ | ⟨b1, b2, b3, b4, b5⟩ | ⟨b1, b2, b3, b4, n', ss', k1, k2, k3⟩
    · rw [a1] at b1; cases b1
    · exact absurd a2 b2
    · exact ⟨by omega, by rw [a5, b5]⟩
    · exact absurd a3 b3
  · rcases k with ⟨b1, b2, b3⟩ | ⟨b1, b2, b3, b4⟩ | ⟨b1, b2, b3, b4, b5⟩ | ⟨b1, b2, b3, b4, n', ss', k1, k2, k3⟩
    · rw [a1] at b1; cases b1
    · exact absurd a2 b2
    · exact absurd b3 a3
    · obtain rfl := h1.eq k1
      obtain rfl := h2.eq k2
      exact ⟨by omega, by rw [h3, k3]⟩
theorem LkS.len {cs : List Co} {own : Co} {d E : Int} {l : List (Int × Int)} (h : LkS cs own d E l) : l.length ≤ 1000000000000000000 := by
  rcases h with ⟨_, _, rfl⟩ | ⟨_, _, _, rfl⟩ | ⟨_, _, _, _, rfl⟩ | ⟨_, a2, _, _, n, ss, h1, h2, rfl⟩
  · simp
  · simp
  · simp
  · have h3 := pick_len (fun s => !has own s) (ss.drop (d - baseOf (cs ++ [own])).toNat)
    have h4 := Ends.le (tog_of a2) h1.1
    have h5 := h2.1
    rw [List.length_drop] at h3
    omega
theorem cos_app (fs : List Fl) (f : Fl) : cos (fs ++ [f]) = cos fs ++ [f.c] := by simp [cos]
structure LkJ (fs : List Fl) (W : World) (p ev : Value) (wx : World) : Prop where
  o : ∃ eb bb a n c e, p = .pointer (some ⟨eb, 0, none⟩) ∧ ev = .int .i64 e ∧ wx.heap[eb]? = some (.cells (endV bb a n c).toArray 61 (0, 0)) ∧ e = togE (cos fs) ∧ (e = 0 → bb = baseOf (cos fs) ∧ Ends (cos fs) n ∧ ∃ ss, SlOf (cos fs) n ss ∧ wx.ownsRow W.heap.size 70 2 (.slice a n c) n (slCells ss))
  b : Below W.heap.size W wx
theorem LkJ.fin {fs : List Fl} {W X Y Y' Z : World} {eb : Nat} {bb : Int} {a : Option Addr} {n c : Nat} {e : Int} {C : Array Value} (hq : JQ fs X Y bb a n c e) (hX : Below W.heap.size W X) (hY : Below W.heap.size W Y) (hy : Below Y.heap.size Y Y') (hZ : Y'.heap[eb]? = some (.cells C 61 (0, 0))) (hge : W.heap.size ≤ eb) (hk : Kept Y' Z (fun j => j = eb)) (hz : Z.heap[eb]? = some (.cells (endV bb a n c).toArray 61 (0, 0))) : LkJ fs W (.pointer (some ⟨eb, 0, none⟩)) (.int .i64 e) Z := by
  have h1 := bstep hY hy
  refine ⟨⟨eb, bb, a, n, c, e, rfl, rfl, hz, hq.e, fun h0 => ?_⟩, h1.trans (hk.below h1.size (fun k hk e => by omega))⟩
  obtain ⟨q1, q2, ss, q3, q4⟩ := hq.k h0
  exact ⟨q1, q2, ss, q3, own_lower (own_ne (own_still q4 hy) hZ (by decide) hk) hX.size⟩
end
end Go.Proofs.Ytihcaopcfhbofaa.Fm
