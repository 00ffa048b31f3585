import Derived.Test.YtpkcgjnaegaecaaY2
import Derived.Test.YtpkcgjnaegaecaaYk
namespace Go.Proofs.Ytpkcgjnaegaecaa.Fm
open Go.RowKit Go.Maps Mb
set_option linter.unusedVariables false
set_option maxRecDepth 100000
set_option linter.unusedSimpArgs false
section
variable {w w' W : World} {B : Nat}
theorem take_fil {p : Int × Int → Bool} {ss : List (Int × Int)} {c : Nat} (hc : c < ss.length) : (ss.take (c + 1)).filter p = (ss.take c).filter p ++ (if p (ss.getD c z2) then [ss.getD c z2] else []) := by
  have e : ss.getD c z2 = ss[c] := by simp [List.getD, hc]
  rw [List.take_add_one, List.filter_append, e]
  simp [hc]
  split <;> simp_all
theorem own_two {t k n : Nat} {v : Value} {l : List Value} (h : w.ownsRow B t k v n l) : v = .slice none 0 0 ∧ n = 0 ∨ ∃ g c, v = .slice (some ⟨g, 0, none⟩) n c ∧ B ≤ g := by
  rcases h.2 with ⟨h3, h4⟩ | ⟨g, cap, cur, hv, hB, _⟩
  · exact .inl ⟨h3, h4⟩
  · exact .inr ⟨g, cap, hv, hB⟩
set_option maxHeartbeats 4000000 in
theorem pickedL_any {ao : Option Addr} {cp : Nat} {ss : List (Int × Int)} (hr : RdS w ao ss) (hn : ss.length ≤ 100000) (p : Int × Int → Bool) (kb : Nat) (hp : ∀ w', Below w.heap.size w w' → ∀ i, i < ss.length → Calls Try.prog 38 #[.agg (slotV (ss.getD i z2)).toArray, .pointer (some ⟨kb, 0, none⟩)] w' fun e w2 => e = .returned (.bool (p (ss.getD i z2))) ∧ Below w'.heap.size w' w2) : Calls Try.prog 36 #[.slice ao ss.length cp, .func (.func 38) #[] #[.pointer (some ⟨kb, 0, none⟩)]] w fun e w' => ∃ a c, e = .returned (.slice a (pick p ss).length c) ∧ w'.ownsRow w.heap.size 40 2 (.slice a (pick p ss).length c) (pick p ss).length (slCells (pick p ss)) ∧ Below w.heap.size w w' := by
  have HR : Hid (RdS w ao ss) := hr
  have HP : Hid (∀ w', Below w.heap.size w w' → ∀ i, i < ss.length → Calls Try.prog 38 #[.agg (slotV (ss.getD i z2)).toArray, .pointer (some ⟨kb, 0, none⟩)] w' fun e w2 => e = .returned (.bool (p (ss.getD i z2))) ∧ Below w'.heap.size w' w2) := hp
  have HT : Hid (∀ c, c < ss.length → (ss.take (c + 1)).filter p = (ss.take c).filter p ++ (if p (ss.getD c z2) then [ss.getD c z2] else [])) := fun c hc => take_fil hc
  have HF : Hid (∀ c, ((ss.take c).filter p).length ≤ c) := fun c => Nat.le_trans (List.length_filter_le _ _) (by simp; omega)
  generalize hL : ss.length = L at *
  have HLe : Hid (ss.length = L) := hL
  have HPk : Hid ((ss.take L).filter p = ss.filter p) := (show (ss.take L).filter p = ss.filter p from by rw [← hL, List.take_length])
  obtain ⟨si, shi, shz0, shz1, shz2⟩ := slot_info
  clear hr hp hL
  go_enter Try.func36, Try.ntmps36
  go_wp2
  go_loopw [5, 10] (fun ov i wr => ∃ c : Nat, c ≤ L ∧ i = .int .i64 c ∧ wr.ownsRow w.heap.size 40 2 ov ((ss.take c).filter p).length (slCells ((ss.take c).filter p)) ∧ Below w.heap.size w wr) (fun _ i _ => L - (intOf i).toNat)
  case atStart => exact ⟨0, Nat.zero_le _, rfl, ⟨rfl, .inl ⟨rfl, rfl⟩⟩, Below.refl _ _⟩
  case round =>
    obtain ⟨c, hc, rfl, ho, hb⟩ := hrel
    have HO : Hid (wr.ownsRow w.heap.size 40 2 u5 ((ss.take c).filter p).length (slCells ((ss.take c).filter p))) := ho
    have HB : Hid (Below w.heap.size w wr) := hb
    clear ho hb
    by_cases hlt : c < L
    · obtain ⟨b, off, rfl, hcc, _, _⟩ := (HR.out.still HB.out).at (i := c) (by rw [HLe.out]; exact hlt)
      have HC : Hid (wr.rangeAt b (off + c * 2) (slotV (ss.getD c z2))) := hcc
      have HPc : Hid (∀ w', Below w.heap.size w w' → Calls Try.prog 38 #[.agg (slotV (ss.getD c z2)).toArray, .pointer (some ⟨kb, 0, none⟩)] w' fun e w2 => e = .returned (.bool (p (ss.getD c z2))) ∧ Below w'.heap.size w' w2) := fun w' h => HP.out w' h c hlt
      have HTc := HT.out c hlt
      have hfl := HF.out c
      have i1 : (0 : Int) ≤ (c : Int) := Int.natCast_nonneg _
      have i2 : (c : Int) < (L : Int) := by omega
      generalize ss.getD c z2 = x at *
      generalize hfi : (ss.take c).filter p = out at *
      have Hfi : Hid ((ss.take (c + 1)).filter p = out ++ (if p x then [x] else [])) := HTc
      have Hl2 : Hid ((slotV x).length = 2) := rfl
      clear hcc HTc hfi
      go_wp2_with (first
        | (refine load_mid 40 (.tmp 12) HC.out _ Try.underlying40 rfl (by rw [Hl2.out]; exact info_slot) rfl rfl rfl ?_)
        | (refine wl_st 40 (.tmp 7) (.tmp 13) rfl ?_)
        | fail)
      refine wl_store 40 (.tmp 7) (.tmp 13) (L := slotV x) (new_there _ _ _ rfl) info_slot (slotV_one _) rfl rfl rfl (by kernel_rfl) ?_
      simp only [Act.put, List.getElem_toArray, List.getElem_cons_zero, List.getElem_cons_succ, List.setIfInBounds_toArray, List.set_cons_zero, List.set_cons_succ]
      refine ⟨?_⟩
      obtain ⟨hn1, hn2⟩ := newvar wr 40 #[.int .i64 0, .int .i64 0] (slotV x) rfl
      have HOn : Hid (((wr.alloc (.cells #[.int .i64 0, .int .i64 0] 40)).setCells wr.heap.size 0 (slotV x)).ownsRow w.heap.size 40 2 u5 out.length (slCells out)) := own_still HO.out hn1
      have HBn : Hid (Below w.heap.size w ((wr.alloc (.cells #[.int .i64 0, .int .i64 0] 40)).setCells wr.heap.size 0 (slotV x))) := bstep HB.out hn1
      have Hv7 : Hid (((wr.alloc (.cells #[.int .i64 0, .int .i64 0] 40)).setCells wr.heap.size 0 (slotV x)).heap[wr.heap.size]? = some (.cells (slotV x).toArray 40 (0, 0))) := hn2
      have Hn1 : Hid (Below wr.heap.size wr ((wr.alloc (.cells #[.int .i64 0, .int .i64 0] 40)).setCells wr.heap.size 0 (slotV x))) := hn1
      clear hn1 hn2 HO HB
      generalize (wr.alloc (.cells #[.int .i64 0, .int .i64 0] 40)).setCells wr.heap.size 0 (slotV x) = V at *
      generalize hvb : wr.heap.size = v7 at *
      have Hvbv7 : Hid (wr.heap.size = v7) := hvb
      clear hvb
      have HO := HOn
      clear HOn
      have HB := HBn
      clear HBn
      have HM := HPc.out V HB.out
      have R2 : Hid (V.rangeAt v7 0 (slotV x)) := blk_range Hv7.out
      clear HC
      cases hx : p x with
      | false =>
        rw [hx] at HM
        have Hfi2 : Hid ((ss.take (c + 1)).filter p = out) := (show (ss.take (c + 1)).filter p = out from by rw [Hfi.out, hx]; simp)
        clear hx
        go_wp2_with (first
          | (refine load_mid 40 (.tmp 7) R2.out _ Try.underlying40 rfl (by rw [Hl2.out]; exact info_slot) rfl rfl rfl ?_)
          | (go_at_call 38; refine HM.mono ?_; rintro e V2 ⟨rfl, hb2⟩)
          | fail)
        exact ⟨⟨c + 1, by omega, by go_num, by rw [Hfi2.out]; exact own_still HO.out hb2, bstep HB.out hb2⟩, by simp [intOf]; omega⟩
      | true =>
        rw [hx] at HM
        have Hfi2 : Hid ((ss.take (c + 1)).filter p = out ++ [x]) := (show (ss.take (c + 1)).filter p = out ++ [x] from by rw [Hfi.out, hx]; simp)
        clear hx
        go_wp2_with (first
          | (refine load_mid 40 (.tmp 7) R2.out _ Try.underlying40 rfl (by rw [Hl2.out]; exact info_slot) rfl rfl rfl ?_)
          | (go_at_call 38; refine HM.mono ?_; rintro e V2 ⟨rfl, hb2⟩; have HO2 : Hid (V2.ownsRow w.heap.size 40 2 u5 out.length (slCells out)) := own_still HO.out hb2; have HB2 : Hid (Below w.heap.size w V2) := bstep HB.out hb2; have R3 : Hid (V2.rangeAt v7 0 [.int .i64 x.1, .int .i64 x.2]) := blk_range ((hb2.block _ (lt_heap Hv7.out)).trans Hv7.out); have hVs : w.heap.size ≤ V2.heap.size := HB2.out.size; clear hb2 HM R2 HO HB HPc)
          | (refine load_mid 40 (.tmp 7) R3.out _ Try.underlying40 rfl info_slot rfl rfl rfl ?_)
          | (at_builtin; refine wpList_append_lies _ rfl _ _ 29 rfl w.heap.size 40 si (.agg #[.int .i64 0, .int .i64 0]) 2 16 Try.underlying29 shi shz0 shz1 shz2 rfl (by omega) u5 out.length (slCells out) rfl (World.ownsRow.alloc HO2.out _) _ 1 1 [.int .i64 x.1, .int .i64 x.2] rfl rfl (World.news_of_block (heap_alloc_new _ _)) (slotV_one x) (by omega) (by unfold maxLen; omega) (by omega) (by simp; omega) _ rfl ?_; intro g3 cap3 w3 hown3 hgrow3 hat3 hlt3)
          | fail)
        have HO3 := World.ownsRow.alloc HO2.out
        refine ⟨⟨c + 1, by omega, by go_num, ?_, ?_⟩, by simp [intOf]; omega⟩
        · rw [Hfi2.out, slCells_app, List.length_append]; exact hown3
        · exact (balloc HB2.out).grown hgrow3 (balloc HB2.out).size (fun k hk => (row_cells HO2.out hk).1)
    · obtain rfl : L = c := by omega
      have ho := HO.out
      have hfl := HF.out L
      rw [HPk.out] at ho hfl
      have HE : Hid (pick p ss = srt (ss.filter p)) := rfl
      have Hpl : Hid ((pick p ss).length = (ss.filter p).length) := srt_len _
      generalize hfi : ss.filter p = out at *
      have Ho : Hid (wr.ownsRow w.heap.size 40 2 u5 out.length (slCells out)) := ho
      clear hfi HO ho
      rcases own_two Ho.out with ⟨rfl, h0⟩ | ⟨g, cc, rfl, hg⟩
      · have HSN := sort_none (w := wr)
        have Hout : Hid (pick p ss = []) := (show pick p ss = [] from by rw [HE.out, List.length_eq_zero_iff.1 h0, srt_nil])
        clear h0
        go_wp2_with (first
          | (go_at_call 61; refine HSN.mono ?_; rintro e V2 ⟨rfl, rfl⟩)
          | fail)
        go_ret
        exact ⟨none, 0, by rw [Hout.out]; rfl, by rw [Hout.out]; exact ⟨rfl, .inl ⟨rfl, rfl⟩⟩, HB.out⟩
      · have HSA := sort_any Ho.out rfl (by omega)
        go_wp2_with (first
          | (go_at_call 61; refine HSA.mono ?_; rintro e V2 ⟨rfl, ho2, hk2⟩)
          | fail)
        go_ret
        refine ⟨some ⟨g, 0, none⟩, cc, by rw [Hpl.out]; rfl, ?_, HB.out.trans (hk2.below HB.out.size (fun k hk e => by omega))⟩
        rw [Hpl.out, HE.out]
        exact ho2
end
end Go.Proofs.Ytpkcgjnaegaecaa.Fm
