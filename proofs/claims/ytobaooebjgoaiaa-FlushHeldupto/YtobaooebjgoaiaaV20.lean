import Derived.Test.YtobaooebjgoaiaaV19
import Derived.Test.YtobaooebjgoaiaaV17
import Derived.Shelf.SlSortCmp.WholeK
import Derived.Shelf.Lay
import Derived.Ground.SlsfProg
import Derived.Test.YtobaooebjgoaiaaV10
namespace Go.Proofs
open Go.Shelf
shelf_lay_g SlLaysF0.n6 Slsf 6 at Try 64 as Try.sortS
end Go.Proofs
namespace Go.Proofs.Ytobaooebjgoaiaa.Fm
open Go.RowKit Go.Maps Mb Go.Shelf
set_option linter.unusedVariables false
set_option maxRecDepth 100000
set_option linter.unusedSimpArgs false
section
variable {w w' W : World} {B : Nat}
theorem flat_at (ss : List (Int × Int)) (t : Nat) (ht : t < ss.length * 2) : (Sort.flatK slotV 2 ss.toArray)[t]! = slotC ss t := by
 rw [Sort.get_flatK _ _ _ _ (by simpa using ht)]
 unfold slotC
 have h1 : t / 2 < ss.length := by omega
 have e1 : ss.toArray[t / 2]! = ss.getD (t / 2) z2 := by simp [List.getD, h1]
 rw [e1]
 have h2 : t % 2 = 0 ∨ t % 2 = 1 := by omega
 rcases h2 with h2 | h2 <;> rw [h2] <;> rfl
theorem kept_sortK (w : World) (g n : Nat) (d : Array (Int × Int)) (os : Array Obj) : Kept w (sortWorldK slotV 2 w g 0 n d os) (fun j => j = g) := by
 refine ⟨rfl, rfl, rfl, by simp [sortWorldK, Sort.grow, Sort.putRowK, Sort.putRow, Sort.mapBlock, Sort.ahead], fun k hk hne => ?_⟩
 unfold sortWorldK
 rw [Sort.heap_grow_old _ _ (by simpa [Sort.ahead, Sort.putRowK, Sort.putRow, Sort.mapBlock] using hk)]
 have : g ≠ k := fun e => hne e.symm
 simp [Sort.putRowK, Sort.putRow, Sort.mapBlock, Sort.ahead, Array.getElem?_modify, this]
theorem heap_sortK {w : World} {g n : Nat} {os : Array Obj} {cur : Array Value} {e : TypeId} {fr : Nat × Nat} (d : Array (Int × Int)) (hb : w.heap[g]? = some (.cells cur e fr)) : (sortWorldK slotV 2 w g 0 n d os).heap[g]? = some (.cells (Sort.putCells id 0 (Sort.flatK slotV 2 d) cur) e fr) := by
 have hg : g < w.heap.size := (Array.getElem?_eq_some_iff.1 hb).1
 unfold sortWorldK
 rw [Sort.heap_grow_old _ _ (by simpa [Sort.ahead, Sort.putRowK, Sort.putRow, Sort.mapBlock] using hg)]
 simp [Sort.putRowK, Sort.putRow, Sort.mapBlock, Sort.ahead, Array.getElem?_modify, hb, Sort.onCells]
theorem lt_eq : ltOf cmpS = ltS := by
 funext x y
 exact cmpS_lt x y
theorem swoS : Sort.SWO (ltOf cmpS) := by
 rw [lt_eq]
 refine ⟨fun x => ?_, fun x y z h1 h2 => ?_, fun x y z h1 h2 => ?_⟩
 ·rw [ltS_not]; omega
 ·rw [ltS_iff] at *; omega
 ·rw [ltS_not] at *; omega
theorem ext_full {α : Type} (d : Array α) {m : Nat} (h : d.size ≤ m) : d.extract 0 m = d := by
 apply Array.ext_getElem?
 intro j
 rw [Array.getElem?_extract]
 by_cases hj : j < d.size
 ·simp [hj]; omega
 ·simp [hj]
theorem srt_of {ss : List (Int × Int)} {d' : Array (Int × Int)} {n : Nat} (hl : ss.length = n) (hp : Sort.PermIn 0 n ss.toArray d') (hso : Sort.SortedIn ltS 0 n d') : d' = (srt ss).toArray := by
 have hs : d'.size = n := by have := hp.1; simpa [hl] using this
 have hp2 := hp.2.2
 rw [ext_full d' (by omega), ext_full ss.toArray (by simp; omega)] at hp2
 have hpw : d'.toList.Pairwise (fun a b => ltS b a = false) := by
  rw [List.pairwise_iff_getElem]
  intro i j hi hj hij
  simp only [Array.length_toList] at hi hj
  have := hso i j (Nat.zero_le _) hij (by omega)
  simpa [hi, hj] using this
 have := List.Perm.eq_of_pairwise (fun a b _ _ h1 h2 => ltS_total h2 h1) hpw (srt_sorted ss) (hp2.trans (srt_perm ss).symm)
 rw [← this]
theorem isAggS (w : World) : (isAgg 76).run Try.prog w = .ok true w := by kernel_rfl
theorem sizeOfS (w : World) : (Go.sizeOf 76).run Try.prog w = .ok 2 w := by kernel_rfl
theorem sort_any {g n c : Nat} {ss : List (Int × Int)} (h : w.ownsRow B 76 2 (.slice (some ⟨g, 0, none⟩) n c) n (slCells ss)) (hl : ss.length = n) (hn : n ≤ 100000) : Calls Try.prog 64 #[.slice (some ⟨g, 0, none⟩) n c, .func (.func 65) #[] #[]] w fun e w' => e = .returned (.tuple #[]) ∧ w'.ownsRow B 76 2 (.slice (some ⟨g, 0, none⟩) n c) n (slCells (srt ss)) ∧ Kept w w' (fun j => j = g) := by
 have eg : ∀ args w, (callFunc 65 args).run Try.prog w = .ok (.enter 65 args) w := enters_of Try.func65 (by kernel_rfl) rfl
 rcases h.2 with ⟨h1, h2⟩ | ⟨g', cap, cur, hv, hB, hg, hnc, hcm, hcs, htk⟩
 ·cases h1
 ·simp only [Value.slice.injEq, Option.some.injEq, Addr.mk.injEq] at hv
  obtain ⟨⟨rfl, -, -⟩, -, rfl⟩ := hv
  have hH : Sort.HoldsK slotV 2 w g 0 ss.toArray := fun t ht => by
   have ht' : t < ss.length * 2 := by simpa using ht
   refine ⟨?_, frozen_of_row w _ _ _ _ hg⟩
   rw [flat_at ss t ht', Nat.zero_add, blk_cell hg t]
   have e1 : (cur.toList.take (n * 2))[t]? = (slCells ss)[t]? := by rw [htk]
   rw [List.getElem?_take_of_lt (by omega)] at e1
   rw [← Array.getElem?_toList, e1, slCells_at _ _ ht']
   rfl
  have hS := AnyQ.slices_SortFunc Try.sortS 2 isAggS sizeOfS slotV (fun _ => rfl) slotV_one cmpS swoS 65 #[] g 0 c ss.toArray w eg (fun m os dk _ x y => by simpa using compare_any x y _) hH (lt_heap hg) (by simp; omega)
  change Calls Try.prog 64 _ _ _ at hS
  rw [lt_eq] at hS
  rw [show ss.toArray.size = n by simpa using hl] at hS
  refine hS.mono ?_
  rintro e w' ⟨rfl, d', m, os, hp, hso, rfl⟩
  obtain rfl : d' = (srt ss).toArray := srt_of hl hp hso
  have hlen : (srt ss).length = n := by rw [srt_len, hl]
  refine ⟨rfl, ⟨by rw [slCells_len, hlen], .inr ⟨g, c, _, rfl, hB, heap_sortK _ hg, hnc, hcm, by simp [Sort.putCells, hcs], ?_⟩⟩, kept_sortK w g m _ os⟩
  apply List.ext_getElem?
  intro j
  by_cases hj : j < n * 2
  ·rw [List.getElem?_take_of_lt (by omega), Array.getElem?_toList, slCells_at _ _ (by omega)]
   have hjc : j < cur.size := by omega
   have e2 : (Sort.flatK slotV 2 (srt ss).toArray)[j]! = slotC (srt ss) j := flat_at _ _ (by omega)
   show (Sort.putCells id 0 (Sort.flatK slotV 2 (srt ss).toArray) cur)[j]? = _
   simp only [Sort.putCells, Array.getElem?_mapIdx]
   rw [Array.getElem?_eq_getElem hjc]
   simp only [Option.map_some, Nat.zero_le, true_and, Nat.zero_add, Nat.sub_zero]
   rw [if_pos (by rw [Sort.size_flatK]; simpa [hlen] using hj), e2]
   rfl
  ·rw [List.getElem?_take_eq_none (by omega), List.getElem?_eq_none (by rw [slCells_len]; omega)]
theorem ins_none (fv : Value) (w : World) : Calls Try.prog 83 #[.slice none 0 0, .int .i64 0, .int .i64 0, fv] w fun e w' => e = .returned (.tuple #[]) ∧ w' = w := by
 go_enter Try.func83, Try.ntmps83
 go_wp2
 refine wp_loop_rounds 1 ?_
 rw [rounds_succ]
 go_wp2
 go_end0
 exact ⟨rfl, rfl⟩
theorem pdq_none (lim : Int) (fv : Value) (w : World) : Calls Try.prog 76 #[.slice none 0 0, .int .i64 0, .int .i64 0, .int .i64 lim, fv] w fun e w' => e = .returned (.tuple #[]) ∧ w' = w := by
 have hi := fun W => ins_none fv W
 go_enter Try.func76, Try.ntmps76
 go_wp2
 refine wp_loop_rounds 1 ?_
 rw [rounds_succ]
 go_wp2_with (first | (go_at_call 83; refine (hi _).mono ?_; rintro e w' ⟨rfl, rfl⟩) | fail)
 (try simp only [Exit.inBlock, Exit.then]); refine bodyPost_ret (results_none rfl _ _ _) rfl ?_
 exact ⟨rfl, rfl⟩
theorem len_zero (W : World) : Calls Try.prog 77 #[.int .u64 0] W fun e w' => e = .returned (.int .i64 (Lib.bitLen 0 : Nat)) ∧ w' = W := by
 have h := Any.bits_Len (SlLaysF0.n15.bits { Try.sortS with }) 0 W (by omega) (by omega)
 exact h
theorem sort_none : Calls Try.prog 64 #[.slice none 0 0, .func (.func 65) #[] #[]] w fun e w' => e = .returned (.tuple #[]) ∧ w' = w := by
 have hl := len_zero
 have hp := fun lim W => pdq_none lim (.func (.func 65) #[] #[]) W
 go_enter Try.func64, Try.ntmps64
 go_wp2_with (first | (go_at_call 77; refine (hl _).mono ?_; rintro e w' ⟨rfl, rfl⟩) | (go_at_call 76; refine (hp _ _).mono ?_; rintro e w' ⟨rfl, rfl⟩) | fail)
 go_end0
 exact ⟨rfl, rfl⟩
end
end Go.Proofs.Ytobaooebjgoaiaa.Fm
namespace Go.Proofs.Ytobaooebjgoaiaa.Fm
open Go.RowKit Go.Maps Mb
set_option linter.unusedVariables false
set_option maxRecDepth 100000
set_option linter.unusedSimpArgs false
section
variable {w w' W : World} {B : Nat}
theorem take_fil {p : Int × Int → Bool} {ss : List (Int × Int)} {c : Nat} (hc : c < ss.length) : (ss.take (c + 1)).filter p = (ss.take c).filter p ++ (if p (ss.getD c z2) then [ss.getD c z2] else []) := by
 have e : ss.getD c z2 = ss[c] := by simp [List.getD, hc]
 rw [List.take_add_one, List.filter_append, e]
 simp [hc]
 split <;> simp_all
theorem own_two {t k n : Nat} {v : Value} {l : List Value} (h : w.ownsRow B t k v n l) : v = .slice none 0 0 ∧ n = 0 ∨ ∃ g c, v = .slice (some ⟨g, 0, none⟩) n c ∧ B ≤ g := by
 rcases h.2 with ⟨h3, h4⟩ | ⟨g, cap, cur, hv, hB, _⟩
 ·exact .inl ⟨h3, h4⟩
 ·exact .inr ⟨g, cap, hv, hB⟩
set_option maxHeartbeats 4000000 in
theorem pickedL_any {ao : Option Addr} {cp : Nat} {ss : List (Int × Int)} (hr : RdS w ao ss) (hn : ss.length ≤ 100000) (p : Int × Int → Bool) (kb : Nat) (hp : ∀ w', Below w.heap.size w w' → ∀ i, i < ss.length → Calls Try.prog 35 #[.agg (slotV (ss.getD i z2)).toArray, .pointer (some ⟨kb, 0, none⟩)] w' fun e w2 => e = .returned (.bool (p (ss.getD i z2))) ∧ Below w'.heap.size w' w2) : Calls Try.prog 33 #[.slice ao ss.length cp, .func (.func 35) #[] #[.pointer (some ⟨kb, 0, none⟩)]] w fun e w' => ∃ a c, e = .returned (.slice a (pick p ss).length c) ∧ w'.ownsRow w.heap.size 76 2 (.slice a (pick p ss).length c) (pick p ss).length (slCells (pick p ss)) ∧ Below w.heap.size w w' := by
 have HR : Hid (RdS w ao ss) := hr
 have HP : Hid (∀ w', Below w.heap.size w w' → ∀ i, i < ss.length → Calls Try.prog 35 #[.agg (slotV (ss.getD i z2)).toArray, .pointer (some ⟨kb, 0, none⟩)] w' fun e w2 => e = .returned (.bool (p (ss.getD i z2))) ∧ Below w'.heap.size w' w2) := hp
 have HT : Hid (∀ c, c < ss.length → (ss.take (c + 1)).filter p = (ss.take c).filter p ++ (if p (ss.getD c z2) then [ss.getD c z2] else [])) := fun c hc => take_fil hc
 have HF : Hid (∀ c, ((ss.take c).filter p).length ≤ c) := fun c => Nat.le_trans (List.length_filter_le _ _) (by simp; omega)
 generalize hL : ss.length = L at *
 have HLe : Hid (ss.length = L) := hL
 have HPk : Hid ((ss.take L).filter p = ss.filter p) := (show (ss.take L).filter p = ss.filter p from by rw [← hL, List.take_length])
 obtain ⟨si, shi, shz0, shz1, shz2⟩ := slot_info
 clear hr hp hL
 go_enter Try.func33, Try.ntmps33
 go_wp2
 go_loopw [5, 10] (fun ov i wr => ∃ c : Nat, c ≤ L ∧ i = .int .i64 c ∧ wr.ownsRow w.heap.size 76 2 ov ((ss.take c).filter p).length (slCells ((ss.take c).filter p)) ∧ Below w.heap.size w wr) (fun _ i _ => L - (intOf i).toNat)
 case atStart => exact ⟨0, Nat.zero_le _, rfl, ⟨rfl, .inl ⟨rfl, rfl⟩⟩, Below.refl _ _⟩
 case round =>
  obtain ⟨c, hc, rfl, ho, hb⟩ := hrel
  have HO : Hid (wr.ownsRow w.heap.size 76 2 u5 ((ss.take c).filter p).length (slCells ((ss.take c).filter p))) := ho
  have HB : Hid (Below w.heap.size w wr) := hb
  clear ho hb
  by_cases hlt : c < L
  ·obtain ⟨b, off, rfl, hcc, _, _⟩ := (HR.out.still HB.out).at (i := c) (by rw [HLe.out]; exact hlt)
   have HC : Hid (wr.rangeAt b (off + c * 2) (slotV (ss.getD c z2))) := hcc
   have HPc : Hid (∀ w', Below w.heap.size w w' → Calls Try.prog 35 #[.agg (slotV (ss.getD c z2)).toArray, .pointer (some ⟨kb, 0, none⟩)] w' fun e w2 => e = .returned (.bool (p (ss.getD c z2))) ∧ Below w'.heap.size w' w2) := fun w' h => HP.out w' h c hlt
   have HTc := HT.out c hlt
   have hfl := HF.out c
   have i1 : (0 : Int) ≤ (c : Int) := Int.natCast_nonneg _
   have i2 : (c : Int) < (L : Int) := by omega
   generalize ss.getD c z2 = x at *
   generalize hfi : (ss.take c).filter p = out at *
   have Hfi : Hid ((ss.take (c + 1)).filter p = out ++ (if p x then [x] else [])) := HTc
   have Hl2 : Hid ((slotV x).length = 2) := rfl
   clear hcc HTc hfi
   go_wp2_with (first
    | (refine load_mid 76 (.tmp 12) HC.out _ Try.underlying76 rfl (by rw [Hl2.out]; exact info_slot) rfl rfl rfl ?_)
    | (refine wl_st 76 (.tmp 7) (.tmp 13) rfl ?_)
    | fail)
   refine wl_store 76 (.tmp 7) (.tmp 13) (L := slotV x) (new_there _ _ _ rfl) info_slot (slotV_one _) rfl rfl rfl (by kernel_rfl) ?_
   simp only [Act.put,gA9,gZ9,gC9,sA9,sZ9,sC9]
   refine ⟨?_⟩
   obtain ⟨hn1, hn2⟩ := newvar wr 76 #[.int .i64 0, .int .i64 0] (slotV x) rfl
   have HOn : Hid (((wr.alloc (.cells #[.int .i64 0, .int .i64 0] 76)).setCells wr.heap.size 0 (slotV x)).ownsRow w.heap.size 76 2 u5 out.length (slCells out)) := own_still HO.out hn1
   have HBn : Hid (Below w.heap.size w ((wr.alloc (.cells #[.int .i64 0, .int .i64 0] 76)).setCells wr.heap.size 0 (slotV x))) := bstep HB.out hn1
   have Hv7 : Hid (((wr.alloc (.cells #[.int .i64 0, .int .i64 0] 76)).setCells wr.heap.size 0 (slotV x)).heap[wr.heap.size]? = some (.cells (slotV x).toArray 76 (0, 0))) := hn2
   have Hn1 : Hid (Below wr.heap.size wr ((wr.alloc (.cells #[.int .i64 0, .int .i64 0] 76)).setCells wr.heap.size 0 (slotV x))) := hn1
   clear hn1 hn2 HO HB
   generalize (wr.alloc (.cells #[.int .i64 0, .int .i64 0] 76)).setCells wr.heap.size 0 (slotV x) = V at *
   generalize hvb : wr.heap.size = v7 at *
   have Hvbv7 : Hid (wr.heap.size = v7) := hvb
   clear hvb
   have HO := HOn
   clear HOn
   have HB := HBn
   clear HBn
   have HM := HPc.out V HB.out
   have R2 : Hid (V.rangeAt v7 0 (slotV x)) := blk_range Hv7.out
   clear HC
   cases hx : p x with
   | false =>
    rw [hx] at HM
    have Hfi2 : Hid ((ss.take (c + 1)).filter p = out) := (show (ss.take (c + 1)).filter p = out from by rw [Hfi.out, hx]; simp)
    clear hx
    go_wp2_with (first
     | (refine load_mid 76 (.tmp 7) R2.out _ Try.underlying76 rfl (by rw [Hl2.out]; exact info_slot) rfl rfl rfl ?_)
     | (go_at_call 35; refine HM.mono ?_; rintro e V2 ⟨rfl, hb2⟩)
     | fail)
    exact ⟨⟨c + 1, by omega, by go_num, by rw [Hfi2.out]; exact own_still HO.out hb2, bstep HB.out hb2⟩, by simp [intOf]; omega⟩
   | true =>
    rw [hx] at HM
    have Hfi2 : Hid ((ss.take (c + 1)).filter p = out ++ [x]) := (show (ss.take (c + 1)).filter p = out ++ [x] from by rw [Hfi.out, hx]; simp)
    clear hx
    go_wp2_with (first
     | (refine load_mid 76 (.tmp 7) R2.out _ Try.underlying76 rfl (by rw [Hl2.out]; exact info_slot) rfl rfl rfl ?_)
     | (go_at_call 35; refine HM.mono ?_; rintro e V2 ⟨rfl, hb2⟩; have HO2 : Hid (V2.ownsRow w.heap.size 76 2 u5 out.length (slCells out)) := own_still HO.out hb2; have HB2 : Hid (Below w.heap.size w V2) := bstep HB.out hb2; have R3 : Hid (V2.rangeAt v7 0 [.int .i64 x.1, .int .i64 x.2]) := blk_range ((hb2.block _ (lt_heap Hv7.out)).trans Hv7.out); have hVs : w.heap.size ≤ V2.heap.size := HB2.out.size; clear hb2 HM R2 HO HB HPc)
     | (refine load_mid 76 (.tmp 7) R3.out _ Try.underlying76 rfl info_slot rfl rfl rfl ?_)
     | (at_builtin; refine wpList_append_lies _ rfl _ _ 25 rfl w.heap.size 76 si (.agg #[.int .i64 0, .int .i64 0]) 2 16 Try.underlying25 shi shz0 shz1 shz2 rfl (by omega) u5 out.length (slCells out) rfl (World.ownsRow.alloc HO2.out _) _ 1 1 [.int .i64 x.1, .int .i64 x.2] rfl rfl (World.news_of_block (heap_alloc_new _ _)) (slotV_one x) (by omega) (by unfold maxLen; omega) (by omega) (by simp; omega) _ rfl ?_; intro g3 cap3 w3 hown3 hgrow3 hat3 hlt3)
     | fail)
    have HO3 := World.ownsRow.alloc HO2.out
    refine ⟨⟨c + 1, by omega, by go_num, ?_, ?_⟩, by simp [intOf]; omega⟩
    ·rw [Hfi2.out, slCells_app, List.length_append]; exact hown3
    ·exact (balloc HB2.out).grown hgrow3 (balloc HB2.out).size (fun k hk => (row_cells HO2.out hk).1)
  ·obtain rfl : L = c := by omega
   have ho := HO.out
   have hfl := HF.out L
   rw [HPk.out] at ho hfl
   have HE : Hid (pick p ss = srt (ss.filter p)) := rfl
   have Hpl : Hid ((pick p ss).length = (ss.filter p).length) := srt_len _
   generalize hfi : ss.filter p = out at *
   have Ho : Hid (wr.ownsRow w.heap.size 76 2 u5 out.length (slCells out)) := ho
   clear hfi HO ho
   rcases own_two Ho.out with ⟨rfl, h0⟩ | ⟨g, cc, rfl, hg⟩
   ·have HSN := sort_none (w := wr)
    have Hout : Hid (pick p ss = []) := (show pick p ss = [] from by rw [HE.out, List.length_eq_zero_iff.1 h0, srt_nil])
    clear h0
    go_wp2_with (first
     | (go_at_call 64; refine HSN.mono ?_; rintro e V2 ⟨rfl, rfl⟩)
     | fail)
    go_ret
    exact ⟨none, 0, by rw [Hout.out]; rfl, by rw [Hout.out]; exact ⟨rfl, .inl ⟨rfl, rfl⟩⟩, HB.out⟩
   ·have HSA := sort_any Ho.out rfl (by omega)
    go_wp2_with (first
     | (go_at_call 64; refine HSA.mono ?_; rintro e V2 ⟨rfl, ho2, hk2⟩)
     | fail)
    go_ret
    refine ⟨some ⟨g, 0, none⟩, cc, by rw [Hpl.out]; rfl, ?_, HB.out.trans (hk2.below HB.out.size (fun k hk e => by omega))⟩
    rw [Hpl.out, HE.out]
    exact ho2
end
end Go.Proofs.Ytobaooebjgoaiaa.Fm
