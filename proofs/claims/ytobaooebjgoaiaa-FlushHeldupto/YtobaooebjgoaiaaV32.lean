import Derived.Test.YtobaooebjgoaiaaV19
import Derived.Test.YtobaooebjgoaiaaV17
import Derived.Test.YtobaooebjgoaiaaV30
import Derived.Test.YtobaooebjgoaiaaV26
namespace Go.Proofs.Ytobaooebjgoaiaa.Fm
open Go.RowKit Go.Maps Mb
set_option linter.unusedVariables false
set_option maxRecDepth 100000
set_option linter.unusedSimpArgs false
section
variable {w w' W : World} {B : Nat}
structure So (w0 w : World) (kb : Nat) (s : Int × Int) (v : Value) (out : List (Int × Int)) : Prop where
 o : w.ownsRow (kb + 1) 76 2 v out.length (slCells out)
 b : Below w0.heap.size w0 w
 k : w.heap[kb]? = some (.cells (slotV s).toArray 76 (0, 0))
 g : w0.heap.size ≤ kb
theorem So.still {w0 : World} {kb : Nat} {s : Int × Int} {v : Value} {out : List (Int × Int)} (h : So w0 w kb s v out) (hb : Below w.heap.size w w') : So w0 w' kb s v out :=
 ⟨own_still h.o hb, bstep h.b hb, (hb.block _ (lt_heap h.k)).trans h.k, h.g⟩
theorem So.app {w0 : World} {kb : Nat} {s x : Int × Int} {v : Value} {out : List (Int × Int)} (h : So w0 w kb s v out) {ob : Obj} {w3 : World} {g cap n : Nat} (hn : out.length = n) (hown : w3.ownsRow (kb + 1) 76 2 (.slice (some ⟨g, 0, none⟩) (n + 1) cap) (n + 1) (slCells out ++ slotV x)) (hg : (w.alloc ob).grownBy w3 v.ownBlock) : So w0 w3 kb s (.slice (some ⟨g, 0, none⟩) (n + 1) cap) (out ++ [x]) := by
 have h1 : So w0 (w.alloc ob) kb s v out := h.still (balloc (Below.refl _ _))
 have K1 := Kept.ofGrown hg
 subst hn
 refine ⟨?_, h1.b.trans (K1.below h1.b.size (fun k hk e => ?_)), K1.obj h1.k (fun e => ?_), h.g⟩
 ·rw [slCells_app, List.length_append]; exact hown
 ·have := (row_cells h1.o e.symm).1
  have := h.g
  omega
 ·have := (row_cells h1.o e.symm).1
  omega
theorem So.rng {w0 : World} {kb : Nat} {s : Int × Int} {v : Value} {out : List (Int × Int)} (h : So w0 w kb s v out) : w.rangeAt kb 0 [.int .i64 s.1, .int .i64 s.2] := blk_range h.k
set_option maxHeartbeats 4000000 in
theorem qsorted_any {ao : Option Addr} {cp : Nat} {l : List (Int × Int)} (hr : RdS w ao l) (hn : l.length ≤ 100000) (s : Int × Int) : Calls Try.prog 46 #[.slice ao l.length cp, .agg (slotV s).toArray] w fun e w' => ∃ a c, e = .returned (.slice a (insS l s).length c) ∧ w'.ownsRow w.heap.size 76 2 (.slice a (insS l s).length c) (insS l s).length (slCells (insS l s)) ∧ Below w.heap.size w w' := by
 have HR : Hid (RdS w ao l) := hr
 have HA := insO_all s l
 generalize hL : l.length = L at *
 have HLe : Hid (l.length = L) := hL
 have HAll : Hid ((if (insO l s L).2 then (insO l s L).1 else (insO l s L).1 ++ [s]) = insS l s) := HA
 have HLn : Hid (∀ i, (insO l s i).1.length ≤ i + 1) := fun i => (insO_len l s i).1
 obtain ⟨si, shi, shz0, shz1, shz2⟩ := slot_info
 generalize hW1 : w.alloc (.cells (slotV s).toArray 76) = W1
 have HS0 : Hid (So w W1 w.heap.size s (.slice none 0 0) []) := ⟨⟨rfl, .inl ⟨rfl, rfl⟩⟩, hW1 ▸ balloc (Below.refl _ _), by rw [← hW1]; exact heap_alloc_new w _, Nat.le_refl _⟩
 clear hr hL HA
 generalize (slotV s).toArray = ps at *
 go_enter Try.func46, Try.ntmps46
 go_wp2
 clear hW1
 generalize hkb : w.heap.size = kb at HS0
 have Hkb : Hid (w.heap.size = kb) := hkb
 try rw [hkb]
 clear hkb
 go_loopw [5, 6, 7] (fun ov pv i wr => ∃ c : Nat, c ≤ L ∧ i = .int .i64 c ∧ pv = .bool (insO l s c).2 ∧ So w wr kb s ov (insO l s c).1) (fun _ _ i _ => L - (intOf i).toNat)
 case atStart => exact ⟨0, Nat.zero_le _, rfl, rfl, HS0.out⟩
 case round =>
  obtain ⟨c, hc, rfl, rfl, hs⟩ := hrel
  have HS : Hid (So w wr kb s u5 (insO l s c).1) := hs
  clear hs HS0
  by_cases hlt : c < L
  ·obtain ⟨b, off, rfl, hcc, hc0, hc1⟩ := (HR.out.still HS.out.b).at (i := c) (by rw [HLe.out]; exact hlt)
   have HC : Hid (wr.rangeAt b (off + c * 2) (slotV (l.getD c z2))) := hcc
   have HN : Hid (insO l s (c + 1) = if !(insO l s c).2 && ltS s (l.getD c z2) then ((insO l s c).1 ++ [s, l.getD c z2], true) else ((insO l s c).1 ++ [l.getD c z2], (insO l s c).2)) := rfl
   have Hb : Hid ((insO l s c).1.length ≤ c + 1) := HLn.out c
   have i1 : (0 : Int) ≤ (c : Int) := Int.natCast_nonneg _
   have i2 : (c : Int) < (L : Int) := by omega
   have k0 : wr.cell? ⟨kb, 0, none⟩ = some (.int .i64 s.1) := blk_cell HS.out.k 0
   have k1 : wr.cell? ⟨kb, 1, none⟩ = some (.int .i64 s.2) := blk_cell HS.out.k 1
   have HIX : Hid (∀ w', RdS w' (some ⟨b, off, none⟩) l → w'.rangeAt b (off + c * 2) [.int .i64 (l.getD c z2).1, .int .i64 (l.getD c z2).2]) := fun w' h => by
    obtain ⟨b', off', hb', h1, _⟩ := h.at (i := c) (by rw [HLe.out]; exact hlt)
    simp only [Option.some.injEq, Addr.mk.injEq, and_true] at hb'
    rw [hb'.1, hb'.2]
    exact h1
   generalize l.getD c z2 = x at *
   generalize hio : insO l s c = io at *
   obtain ⟨out, put⟩ := io
   clear hcc hio
   dsimp only at HN HS Hb
   have hb0 := Hb.out
   have Hr2 : Hid (wr.rangeAt b (off + c * 2) [.int .i64 x.1, .int .i64 x.2]) := HC.out
   clear HC
   cases put with
   | true =>
    simp only [Bool.not_true, Bool.false_and, if_neg (show ¬ (false = true) by simp)] at HN
    go_wp2
    refine wp_region_held_drew (S := (fun w' => w'.cell? ⟨kb, 0, none⟩ = some (.int .i64 s.1) ∧ w'.cell? ⟨kb, 1, none⟩ = some (.int .i64 s.2) ∧ w'.cell? ⟨b, off + c * 2, none⟩ = some (.int .i64 x.1) ∧ w'.cell? ⟨b, off + c * 2 + 1, none⟩ = some (.int .i64 x.2))) (by kernel_rfl) ⟨k0, k1, hc0, hc1⟩ (fun hHeld => ?_)
    simp only [Act.put, List.size_toArray, List.length_cons, List.length_nil, Nat.zero_add]
    refine wG9 0 (.bool true) rfl hHeld ?_
    simp only [Act.put,gA9,gZ9,gC9,sA9,sZ9,sC9]
    refine wG9 1 (.bool false) rfl hHeld ?_
    simp only [Act.put,gA9,gZ9,gC9,sA9,sZ9,sC9]
    refine wG9 2 (.bool false) rfl hHeld ?_
    simp only [Act.put,gA9,gZ9,gC9,sA9,sZ9,sC9]
    refine wS9 3 rfl hHeld ?_
    simp only [Act.put,gA9,gZ9,gC9,sA9,sZ9,sC9]
    refine wS9 4 rfl hHeld ?_
    simp only [Act.put,gA9,gZ9,gC9,sA9,sZ9,sC9]
    refine wS9 5 rfl hHeld ?_
    simp only [Act.put,gA9,gZ9,gC9,sA9,sZ9,sC9]
    refine wS9 6 rfl hHeld ?_
    simp only [Act.put,gA9,gZ9,gC9,sA9,sZ9,sC9]
    refine wS9 7 rfl hHeld ?_
    simp only [Act.put,gA9,gZ9,gC9,sA9,sZ9,sC9]
    refine wS9 8 rfl hHeld ?_
    simp only [Act.put,gA9,gZ9,gC9,sA9,sZ9,sC9]
    refine wS9 9 rfl hHeld ?_
    simp only [Act.put,gA9,gZ9,gC9,sA9,sZ9,sC9]
    refine wS9 10 rfl hHeld ?_
    simp only [Act.put,gA9,gZ9,gC9,sA9,sZ9,sC9]
    refine wS9 11 rfl hHeld ?_
    simp only [Act.put,gA9,gZ9,gC9,sA9,sZ9,sC9]
    refine wS9 12 rfl hHeld ?_
    simp only [Act.put,gA9,gZ9,gC9,sA9,sZ9,sC9]
    refine wS9 13 rfl hHeld ?_
    simp only [Act.put,gA9,gZ9,gC9,sA9,sZ9,sC9]
    refine wS9 14 rfl hHeld ?_
    simp only [Act.put,gA9,gZ9,gC9,sA9,sZ9,sC9]
    refine wS9 15 rfl hHeld ?_
    simp only [Act.put,gA9,gZ9,gC9,sA9,sZ9,sC9]
    refine wS9 16 rfl hHeld ?_
    simp only [Act.put,gA9,gZ9,gC9,sA9,sZ9,sC9]
    refine wS9 17 rfl hHeld ?_
    simp only [Act.put,gA9,gZ9,gC9,sA9,sZ9,sC9]
    refine wS9 18 rfl hHeld ?_
    simp only [Act.put,gA9,gZ9,gC9,sA9,sZ9,sC9]
    refine wS9 19 rfl hHeld ?_
    simp only [Act.put,gA9,gZ9,gC9,sA9,sZ9,sC9]
    refine wS9 20 rfl hHeld ?_
    simp only [Act.put,gA9,gZ9,gC9,sA9,sZ9,sC9]
    refine wS9 21 rfl hHeld ?_
    simp only [Act.put,gA9,gZ9,gC9,sA9,sZ9,sC9]
    refine wS9 22 rfl hHeld ?_
    simp only [Act.put,gA9,gZ9,gC9,sA9,sZ9,sC9]
    refine wS9 23 rfl hHeld ?_
    simp only [Act.put,gA9,gZ9,gC9,sA9,sZ9,sC9]
    refine wS9 24 rfl hHeld ?_
    simp only [Act.put,gA9,gZ9,gC9,sA9,sZ9,sC9]
    refine wS9 25 rfl hHeld ?_
    simp only [Act.put,gA9,gZ9,gC9,sA9,sZ9,sC9]
    refine wS9 26 rfl hHeld ?_
    simp only [Act.put,gA9,gZ9,gC9,sA9,sZ9,sC9]
    refine wS9 27 rfl hHeld ?_
    simp only [Act.put,gA9,gZ9,gC9,sA9,sZ9,sC9]
    refine wS9 28 rfl hHeld ?_
    simp only [Act.put,gA9,gZ9,gC9,sA9,sZ9,sC9]
    refine wS9 29 rfl hHeld ?_
    simp only [Act.put,gA9,gZ9,gC9,sA9,sZ9,sC9]
    refine wS9 30 rfl hHeld ?_
    simp only [Act.put,gA9,gZ9,gC9,sA9,sZ9,sC9]
    refine wG9 31 (.bool false) rfl hHeld ?_
    simp only [Act.put,gA9,gZ9,gC9,sA9,sZ9,sC9]
    refine wpAnyH_done (by kernel_rfl) ?_ _
    clear hHeld
    generalize hol : out.length = ol at *
    have Hol : Hid (out.length = ol) := hol
    have HSd : Hid (So w wr.drew kb s u5 out) := HS.out.still ((Below.refl _ _).drew)
    have HO : Hid (wr.drew.ownsRow (kb + 1) 76 2 u5 ol (slCells out)) := hol ▸ HSd.out.o
    have hkbs : kb + 1 ≤ wr.drew.heap.size := lt_heap HSd.out.k
    have Hr2d : Hid (wr.drew.rangeAt b (off + c * 2) [.int .i64 x.1, .int .i64 x.2]) := Hr2.out
    clear hol k0 k1 hc0 hc1 HS
    generalize wr.drew = D at *
    go_wp2_with (first
     | (refine load_mid 76 (.tmp 53) Hr2d.out _ Try.underlying76 rfl info_slot rfl rfl rfl ?_)
     | (at_builtin; refine wpList_append_lies _ rfl _ _ 25 rfl (kb + 1) 76 si (.agg #[.int .i64 0, .int .i64 0]) 2 16 Try.underlying25 shi shz0 shz1 shz2 rfl (by omega) u5 ol (slCells out) rfl (World.ownsRow.alloc HO.out _) _ 1 1 [.int .i64 x.1, .int .i64 x.2] rfl rfl (World.news_of_block (heap_alloc_new _ _)) (slotV_one x) (by omega) (by unfold maxLen; omega) (by omega) (by simp; omega) _ rfl ?_; intro g3 cap3 w3 hown3 hgrow3 hat3 hlt3)
     | fail)
    have hN := HSd.out.app Hol.out hown3 hgrow3
    exact ⟨⟨c + 1, by omega, by go_num, by rw [HN.out], by rw [HN.out]; exact hN⟩, by simp [intOf]; omega⟩
   | false =>
    cases hlt2 : ltS s x with
    | true =>
     simp only [hlt2, Bool.not_false, Bool.true_and, if_true] at HN
     rw [ltS_iff] at hlt2
     by_cases h1 : s.1 < x.1
     ·clear hlt2
      go_wp2
      refine wp_region_held_drew (S := (fun w' => w'.cell? ⟨kb, 0, none⟩ = some (.int .i64 s.1) ∧ w'.cell? ⟨kb, 1, none⟩ = some (.int .i64 s.2) ∧ w'.cell? ⟨b, off + c * 2, none⟩ = some (.int .i64 x.1) ∧ w'.cell? ⟨b, off + c * 2 + 1, none⟩ = some (.int .i64 x.2))) (by kernel_rfl) ⟨k0, k1, hc0, hc1⟩ (fun hHeld => ?_)
      simp only [Act.put, List.size_toArray, List.length_cons, List.length_nil, Nat.zero_add]
      refine wG9 0 (.bool false) rfl hHeld ?_
      simp only [Act.put,gA9,gZ9,gC9,sA9,sZ9,sC9]
      refine wG9 1 (.bool true) rfl hHeld ?_
      simp only [Act.put,gA9,gZ9,gC9,sA9,sZ9,sC9]
      refine wG9 2 (.bool true) rfl hHeld ?_
      simp only [Act.put,gA9,gZ9,gC9,sA9,sZ9,sC9]
      refine wG9 3 (.pointer (some ⟨kb, 0, none⟩)) rfl hHeld ?_
      simp only [Act.put,gA9,gZ9,gC9,sA9,sZ9,sC9]
      refine wX9 4 (.int .i64 s.1) rfl (Or.inl ⟨by rfl, fun w' hS => by (obtain ⟨s0, s1, s2, s3⟩ := hS; go_simp)⟩) hHeld ?_
      simp only [Act.put,gA9,gZ9,gC9,sA9,sZ9,sC9]
      refine wG9 5 (.slice (some ⟨b, off, none⟩) L cp) rfl hHeld ?_
      simp only [Act.put,gA9,gZ9,gC9,sA9,sZ9,sC9]
      refine wG9 6 (.int .i64 (c : Int)) rfl hHeld ?_
      simp only [Act.put,gA9,gZ9,gC9,sA9,sZ9,sC9]
      refine wG9 7 (.pointer (some ⟨b, off + c * 2, none⟩)) rfl hHeld ?_
      simp only [Act.put,gA9,gZ9,gC9,sA9,sZ9,sC9]
      refine wG9 8 (.pointer (some ⟨b, off + c * 2, none⟩)) rfl hHeld ?_
      simp only [Act.put,gA9,gZ9,gC9,sA9,sZ9,sC9]
      refine wX9 9 (.int .i64 x.1) rfl (Or.inl ⟨by rfl, fun w' hS => by (obtain ⟨s0, s1, s2, s3⟩ := hS; go_simp)⟩) hHeld ?_
      simp only [Act.put,gA9,gZ9,gC9,sA9,sZ9,sC9]
      refine wX9 10 (.bool true) rfl (Or.inl ⟨by rfl, fun w' hS => by first | (go_simp; done) | (go_simp; omega)⟩) hHeld ?_
      simp only [Act.put,gA9,gZ9,gC9,sA9,sZ9,sC9]
      refine wG9 11 (.bool true) rfl hHeld ?_
      simp only [Act.put,gA9,gZ9,gC9,sA9,sZ9,sC9]
      refine wS9 12 rfl hHeld ?_
      simp only [Act.put,gA9,gZ9,gC9,sA9,sZ9,sC9]
      refine wS9 13 rfl hHeld ?_
      simp only [Act.put,gA9,gZ9,gC9,sA9,sZ9,sC9]
      refine wS9 14 rfl hHeld ?_
      simp only [Act.put,gA9,gZ9,gC9,sA9,sZ9,sC9]
      refine wS9 15 rfl hHeld ?_
      simp only [Act.put,gA9,gZ9,gC9,sA9,sZ9,sC9]
      refine wS9 16 rfl hHeld ?_
      simp only [Act.put,gA9,gZ9,gC9,sA9,sZ9,sC9]
      refine wS9 17 rfl hHeld ?_
      simp only [Act.put,gA9,gZ9,gC9,sA9,sZ9,sC9]
      refine wS9 18 rfl hHeld ?_
      simp only [Act.put,gA9,gZ9,gC9,sA9,sZ9,sC9]
      refine wS9 19 rfl hHeld ?_
      simp only [Act.put,gA9,gZ9,gC9,sA9,sZ9,sC9]
      refine wS9 20 rfl hHeld ?_
      simp only [Act.put,gA9,gZ9,gC9,sA9,sZ9,sC9]
      refine wS9 21 rfl hHeld ?_
      simp only [Act.put,gA9,gZ9,gC9,sA9,sZ9,sC9]
      refine wS9 22 rfl hHeld ?_
      simp only [Act.put,gA9,gZ9,gC9,sA9,sZ9,sC9]
      refine wS9 23 rfl hHeld ?_
      simp only [Act.put,gA9,gZ9,gC9,sA9,sZ9,sC9]
      refine wS9 24 rfl hHeld ?_
      simp only [Act.put,gA9,gZ9,gC9,sA9,sZ9,sC9]
      refine wS9 25 rfl hHeld ?_
      simp only [Act.put,gA9,gZ9,gC9,sA9,sZ9,sC9]
      refine wS9 26 rfl hHeld ?_
      simp only [Act.put,gA9,gZ9,gC9,sA9,sZ9,sC9]
      refine wS9 27 rfl hHeld ?_
      simp only [Act.put,gA9,gZ9,gC9,sA9,sZ9,sC9]
      refine wS9 28 rfl hHeld ?_
      simp only [Act.put,gA9,gZ9,gC9,sA9,sZ9,sC9]
      refine wS9 29 rfl hHeld ?_
      simp only [Act.put,gA9,gZ9,gC9,sA9,sZ9,sC9]
      refine wG9 30 (.bool true) rfl hHeld ?_
      simp only [Act.put,gA9,gZ9,gC9,sA9,sZ9,sC9]
      refine wG9 31 (.bool true) rfl hHeld ?_
      simp only [Act.put,gA9,gZ9,gC9,sA9,sZ9,sC9]
      refine wpAnyH_done (by kernel_rfl) ?_ _
      clear hHeld
      generalize hol : out.length = ol at *
      have Hol : Hid (out.length = ol) := hol
      have HSd : Hid (So w wr.drew kb s u5 out) := HS.out.still ((Below.refl _ _).drew)
      have HO : Hid (wr.drew.ownsRow (kb + 1) 76 2 u5 ol (slCells out)) := hol ▸ HSd.out.o
      have hkbs : kb + 1 ≤ wr.drew.heap.size := lt_heap HSd.out.k
      have Hr1d : Hid (wr.drew.rangeAt kb 0 [.int .i64 s.1, .int .i64 s.2]) := HSd.out.rng
      have HRd : Hid (RdS w (some ⟨b, off, none⟩) l) := HR.out
      have Hix : Hid (∀ w', RdS w' (some ⟨b, off, none⟩) l → w'.rangeAt b (off + c * 2) [.int .i64 x.1, .int .i64 x.2]) := HIX.out
      clear hol k0 k1 hc0 hc1 HS
      generalize wr.drew = D at *
      go_wp2_with (first
       | (refine load_mid 76 (.tmp 3) Hr1d.out _ Try.underlying76 rfl info_slot rfl rfl rfl ?_)
       | (at_builtin; refine wpList_append_lies _ rfl _ _ 25 rfl (kb + 1) 76 si (.agg #[.int .i64 0, .int .i64 0]) 2 16 Try.underlying25 shi shz0 shz1 shz2 rfl (by omega) u5 ol (slCells out) rfl (World.ownsRow.alloc HO.out _) _ 1 1 [.int .i64 s.1, .int .i64 s.2] rfl rfl (World.news_of_block (heap_alloc_new _ _)) (slotV_one s) (by omega) (by unfold maxLen; omega) (by omega) (by simp; omega) _ rfl ?_; intro g2 cap2 w2 hown2 hgrow2 hat2 hlt2; have hM := HSd.out.app Hol.out hown2 hgrow2; have HM : Hid (So w w2 kb s (.slice (some ⟨g2, 0, none⟩) (ol + 1) cap2) (out ++ [s])) := hM; have HM2 : Hid (w2.rangeAt b (off + c * 2) [.int .i64 x.1, .int .i64 x.2]) := Hix.out _ (HRd.out.still hM.b); have HO2 : Hid (w2.ownsRow (kb + 1) 76 2 (.slice (some ⟨g2, 0, none⟩) (ol + 1) cap2) (ol + 1) (slCells (out ++ [s]))) := (show w2.ownsRow (kb + 1) 76 2 (.slice (some ⟨g2, 0, none⟩) (ol + 1) cap2) (ol + 1) (slCells (out ++ [s])) from by rw [slCells_app]; exact hown2); have hkb2 : kb + 1 ≤ w2.heap.size := lt_heap hM.k; clear hM hown2 hgrow2 hat2 hlt2)
       | (refine load_mid 76 (.tmp 53) HM2.out _ Try.underlying76 rfl info_slot rfl rfl rfl ?_)
       | (at_builtin; refine wpList_append_lies _ rfl _ _ 25 rfl (kb + 1) 76 si (.agg #[.int .i64 0, .int .i64 0]) 2 16 Try.underlying25 shi shz0 shz1 shz2 rfl (by omega) (.slice (some ⟨g2, 0, none⟩) (ol + 1) cap2) (ol + 1) (slCells (out ++ [s])) rfl (World.ownsRow.alloc HO2.out _) _ 1 1 [.int .i64 x.1, .int .i64 x.2] rfl rfl (World.news_of_block (heap_alloc_new _ _)) (slotV_one x) (by omega) (by unfold maxLen; omega) (by omega) (by simp; omega) _ rfl ?_; intro g3 cap3 w3 hown3 hgrow3 hat3 hlt3)
       | fail)
      have hN := HM.out.app (by rw [List.length_append, Hol.out]; rfl) hown3 hgrow3
      rw [List.append_assoc] at hN
      exact ⟨⟨c + 1, by omega, by go_num, by rw [HN.out], by rw [HN.out]; exact hN⟩, by simp [intOf]; omega⟩
     ·have h2 : s.1 = x.1 := by omega
      have h3 : s.2 < x.2 := by omega
      have h2' : (s.1 == x.1) = true := by simpa using h2
      clear hlt2
      go_wp2
      refine wp_region_held_drew (S := (fun w' => w'.cell? ⟨kb, 0, none⟩ = some (.int .i64 s.1) ∧ w'.cell? ⟨kb, 1, none⟩ = some (.int .i64 s.2) ∧ w'.cell? ⟨b, off + c * 2, none⟩ = some (.int .i64 x.1) ∧ w'.cell? ⟨b, off + c * 2 + 1, none⟩ = some (.int .i64 x.2))) (by kernel_rfl) ⟨k0, k1, hc0, hc1⟩ (fun hHeld => ?_)
      simp only [Act.put, List.size_toArray, List.length_cons, List.length_nil, Nat.zero_add]
      refine wG9 0 (.bool false) rfl hHeld ?_
      simp only [Act.put,gA9,gZ9,gC9,sA9,sZ9,sC9]
      refine wG9 1 (.bool true) rfl hHeld ?_
      simp only [Act.put,gA9,gZ9,gC9,sA9,sZ9,sC9]
      refine wG9 2 (.bool true) rfl hHeld ?_
      simp only [Act.put,gA9,gZ9,gC9,sA9,sZ9,sC9]
      refine wG9 3 (.pointer (some ⟨kb, 0, none⟩)) rfl hHeld ?_
      simp only [Act.put,gA9,gZ9,gC9,sA9,sZ9,sC9]
      refine wX9 4 (.int .i64 s.1) rfl (Or.inl ⟨by rfl, fun w' hS => by (obtain ⟨s0, s1, s2, s3⟩ := hS; go_simp)⟩) hHeld ?_
      simp only [Act.put,gA9,gZ9,gC9,sA9,sZ9,sC9]
      refine wG9 5 (.slice (some ⟨b, off, none⟩) L cp) rfl hHeld ?_
      simp only [Act.put,gA9,gZ9,gC9,sA9,sZ9,sC9]
      refine wG9 6 (.int .i64 (c : Int)) rfl hHeld ?_
      simp only [Act.put,gA9,gZ9,gC9,sA9,sZ9,sC9]
      refine wG9 7 (.pointer (some ⟨b, off + c * 2, none⟩)) rfl hHeld ?_
      simp only [Act.put,gA9,gZ9,gC9,sA9,sZ9,sC9]
      refine wG9 8 (.pointer (some ⟨b, off + c * 2, none⟩)) rfl hHeld ?_
      simp only [Act.put,gA9,gZ9,gC9,sA9,sZ9,sC9]
      refine wX9 9 (.int .i64 x.1) rfl (Or.inl ⟨by rfl, fun w' hS => by (obtain ⟨s0, s1, s2, s3⟩ := hS; go_simp)⟩) hHeld ?_
      simp only [Act.put,gA9,gZ9,gC9,sA9,sZ9,sC9]
      refine wX9 10 (.bool false) rfl (Or.inl ⟨by rfl, fun w' hS => by first | (go_simp; done) | (go_simp; omega)⟩) hHeld ?_
      simp only [Act.put,gA9,gZ9,gC9,sA9,sZ9,sC9]
      refine wG9 11 (.bool false) rfl hHeld ?_
      simp only [Act.put,gA9,gZ9,gC9,sA9,sZ9,sC9]
      refine wG9 12 (.pointer (some ⟨kb, 0, none⟩)) rfl hHeld ?_
      simp only [Act.put,gA9,gZ9,gC9,sA9,sZ9,sC9]
      refine wX9 13 (.int .i64 s.1) rfl (Or.inl ⟨by rfl, fun w' hS => by (obtain ⟨s0, s1, s2, s3⟩ := hS; go_simp)⟩) hHeld ?_
      simp only [Act.put,gA9,gZ9,gC9,sA9,sZ9,sC9]
      refine wG9 14 (.slice (some ⟨b, off, none⟩) L cp) rfl hHeld ?_
      simp only [Act.put,gA9,gZ9,gC9,sA9,sZ9,sC9]
      refine wG9 15 (.int .i64 (c : Int)) rfl hHeld ?_
      simp only [Act.put,gA9,gZ9,gC9,sA9,sZ9,sC9]
      refine wG9 16 (.pointer (some ⟨b, off + c * 2, none⟩)) rfl hHeld ?_
      simp only [Act.put,gA9,gZ9,gC9,sA9,sZ9,sC9]
      refine wG9 17 (.pointer (some ⟨b, off + c * 2, none⟩)) rfl hHeld ?_
      simp only [Act.put,gA9,gZ9,gC9,sA9,sZ9,sC9]
      refine wX9 18 (.int .i64 x.1) rfl (Or.inl ⟨by rfl, fun w' hS => by (obtain ⟨s0, s1, s2, s3⟩ := hS; go_simp)⟩) hHeld ?_
      simp only [Act.put,gA9,gZ9,gC9,sA9,sZ9,sC9]
      refine wX9 19 (.bool true) rfl (Or.inl ⟨by rfl, fun w' hS => by first | (go_simp; done) | (go_simp; omega)⟩) hHeld ?_
      simp only [Act.put,gA9,gZ9,gC9,sA9,sZ9,sC9]
      refine wG9 20 (.bool true) rfl hHeld ?_
      simp only [Act.put,gA9,gZ9,gC9,sA9,sZ9,sC9]
      refine wG9 21 (.pointer (some ⟨kb, 1, none⟩)) rfl hHeld ?_
      simp only [Act.put,gA9,gZ9,gC9,sA9,sZ9,sC9]
      refine wX9 22 (.int .i64 s.2) rfl (Or.inl ⟨by rfl, fun w' hS => by (obtain ⟨s0, s1, s2, s3⟩ := hS; go_simp)⟩) hHeld ?_
      simp only [Act.put,gA9,gZ9,gC9,sA9,sZ9,sC9]
      refine wG9 23 (.slice (some ⟨b, off, none⟩) L cp) rfl hHeld ?_
      simp only [Act.put,gA9,gZ9,gC9,sA9,sZ9,sC9]
      refine wG9 24 (.int .i64 (c : Int)) rfl hHeld ?_
      simp only [Act.put,gA9,gZ9,gC9,sA9,sZ9,sC9]
      refine wG9 25 (.pointer (some ⟨b, off + c * 2, none⟩)) rfl hHeld ?_
      simp only [Act.put,gA9,gZ9,gC9,sA9,sZ9,sC9]
      refine wG9 26 (.pointer (some ⟨b, off + c * 2 + 1, none⟩)) rfl hHeld ?_
      simp only [Act.put,gA9,gZ9,gC9,sA9,sZ9,sC9]
      refine wX9 27 (.int .i64 x.2) rfl (Or.inl ⟨by rfl, fun w' hS => by (obtain ⟨s0, s1, s2, s3⟩ := hS; go_simp)⟩) hHeld ?_
      simp only [Act.put,gA9,gZ9,gC9,sA9,sZ9,sC9]
      refine wX9 28 (.bool true) rfl (Or.inl ⟨by rfl, fun w' hS => by first | (go_simp; done) | (go_simp; omega)⟩) hHeld ?_
      simp only [Act.put,gA9,gZ9,gC9,sA9,sZ9,sC9]
      refine wG9 29 (.bool true) rfl hHeld ?_
      simp only [Act.put,gA9,gZ9,gC9,sA9,sZ9,sC9]
      refine wG9 30 (.bool true) rfl hHeld ?_
      simp only [Act.put,gA9,gZ9,gC9,sA9,sZ9,sC9]
      refine wG9 31 (.bool true) rfl hHeld ?_
      simp only [Act.put,gA9,gZ9,gC9,sA9,sZ9,sC9]
      refine wpAnyH_done (by kernel_rfl) ?_ _
      clear hHeld
      clear h2 h2'
      generalize hol : out.length = ol at *
      have Hol : Hid (out.length = ol) := hol
      have HSd : Hid (So w wr.drew kb s u5 out) := HS.out.still ((Below.refl _ _).drew)
      have HO : Hid (wr.drew.ownsRow (kb + 1) 76 2 u5 ol (slCells out)) := hol ▸ HSd.out.o
      have hkbs : kb + 1 ≤ wr.drew.heap.size := lt_heap HSd.out.k
      have Hr1d : Hid (wr.drew.rangeAt kb 0 [.int .i64 s.1, .int .i64 s.2]) := HSd.out.rng
      have HRd : Hid (RdS w (some ⟨b, off, none⟩) l) := HR.out
      have Hix : Hid (∀ w', RdS w' (some ⟨b, off, none⟩) l → w'.rangeAt b (off + c * 2) [.int .i64 x.1, .int .i64 x.2]) := HIX.out
      clear hol k0 k1 hc0 hc1 HS
      generalize wr.drew = D at *
      go_wp2_with (first
       | (refine load_mid 76 (.tmp 3) Hr1d.out _ Try.underlying76 rfl info_slot rfl rfl rfl ?_)
       | (at_builtin; refine wpList_append_lies _ rfl _ _ 25 rfl (kb + 1) 76 si (.agg #[.int .i64 0, .int .i64 0]) 2 16 Try.underlying25 shi shz0 shz1 shz2 rfl (by omega) u5 ol (slCells out) rfl (World.ownsRow.alloc HO.out _) _ 1 1 [.int .i64 s.1, .int .i64 s.2] rfl rfl (World.news_of_block (heap_alloc_new _ _)) (slotV_one s) (by omega) (by unfold maxLen; omega) (by omega) (by simp; omega) _ rfl ?_; intro g2 cap2 w2 hown2 hgrow2 hat2 hlt2; have hM := HSd.out.app Hol.out hown2 hgrow2; have HM : Hid (So w w2 kb s (.slice (some ⟨g2, 0, none⟩) (ol + 1) cap2) (out ++ [s])) := hM; have HM2 : Hid (w2.rangeAt b (off + c * 2) [.int .i64 x.1, .int .i64 x.2]) := Hix.out _ (HRd.out.still hM.b); have HO2 : Hid (w2.ownsRow (kb + 1) 76 2 (.slice (some ⟨g2, 0, none⟩) (ol + 1) cap2) (ol + 1) (slCells (out ++ [s]))) := (show w2.ownsRow (kb + 1) 76 2 (.slice (some ⟨g2, 0, none⟩) (ol + 1) cap2) (ol + 1) (slCells (out ++ [s])) from by rw [slCells_app]; exact hown2); have hkb2 : kb + 1 ≤ w2.heap.size := lt_heap hM.k; clear hM hown2 hgrow2 hat2 hlt2)
       | (refine load_mid 76 (.tmp 53) HM2.out _ Try.underlying76 rfl info_slot rfl rfl rfl ?_)
       | (at_builtin; refine wpList_append_lies _ rfl _ _ 25 rfl (kb + 1) 76 si (.agg #[.int .i64 0, .int .i64 0]) 2 16 Try.underlying25 shi shz0 shz1 shz2 rfl (by omega) (.slice (some ⟨g2, 0, none⟩) (ol + 1) cap2) (ol + 1) (slCells (out ++ [s])) rfl (World.ownsRow.alloc HO2.out _) _ 1 1 [.int .i64 x.1, .int .i64 x.2] rfl rfl (World.news_of_block (heap_alloc_new _ _)) (slotV_one x) (by omega) (by unfold maxLen; omega) (by omega) (by simp; omega) _ rfl ?_; intro g3 cap3 w3 hown3 hgrow3 hat3 hlt3)
       | fail)
      have hN := HM.out.app (by rw [List.length_append, Hol.out]; rfl) hown3 hgrow3
      rw [List.append_assoc] at hN
      exact ⟨⟨c + 1, by omega, by go_num, by rw [HN.out], by rw [HN.out]; exact hN⟩, by simp [intOf]; omega⟩
    | false =>
     simp only [hlt2, Bool.not_false, Bool.true_and, if_neg (show ¬ (false = true) by simp)] at HN
     rw [ltS_not] at hlt2
     have h1 : ¬ s.1 < x.1 := by omega
     by_cases h2 : s.1 = x.1
     ·have h3 : ¬ s.2 < x.2 := by omega
      have h2' : (s.1 == x.1) = true := by simpa using h2
      clear hlt2
      go_wp2
      refine wp_region_held_drew (S := (fun w' => w'.cell? ⟨kb, 0, none⟩ = some (.int .i64 s.1) ∧ w'.cell? ⟨kb, 1, none⟩ = some (.int .i64 s.2) ∧ w'.cell? ⟨b, off + c * 2, none⟩ = some (.int .i64 x.1) ∧ w'.cell? ⟨b, off + c * 2 + 1, none⟩ = some (.int .i64 x.2))) (by kernel_rfl) ⟨k0, k1, hc0, hc1⟩ (fun hHeld => ?_)
      simp only [Act.put, List.size_toArray, List.length_cons, List.length_nil, Nat.zero_add]
      refine wG9 0 (.bool false) rfl hHeld ?_
      simp only [Act.put,gA9,gZ9,gC9,sA9,sZ9,sC9]
      refine wG9 1 (.bool true) rfl hHeld ?_
      simp only [Act.put,gA9,gZ9,gC9,sA9,sZ9,sC9]
      refine wG9 2 (.bool true) rfl hHeld ?_
      simp only [Act.put,gA9,gZ9,gC9,sA9,sZ9,sC9]
      refine wG9 3 (.pointer (some ⟨kb, 0, none⟩)) rfl hHeld ?_
      simp only [Act.put,gA9,gZ9,gC9,sA9,sZ9,sC9]
      refine wX9 4 (.int .i64 s.1) rfl (Or.inl ⟨by rfl, fun w' hS => by (obtain ⟨s0, s1, s2, s3⟩ := hS; go_simp)⟩) hHeld ?_
      simp only [Act.put,gA9,gZ9,gC9,sA9,sZ9,sC9]
      refine wG9 5 (.slice (some ⟨b, off, none⟩) L cp) rfl hHeld ?_
      simp only [Act.put,gA9,gZ9,gC9,sA9,sZ9,sC9]
      refine wG9 6 (.int .i64 (c : Int)) rfl hHeld ?_
      simp only [Act.put,gA9,gZ9,gC9,sA9,sZ9,sC9]
      refine wG9 7 (.pointer (some ⟨b, off + c * 2, none⟩)) rfl hHeld ?_
      simp only [Act.put,gA9,gZ9,gC9,sA9,sZ9,sC9]
      refine wG9 8 (.pointer (some ⟨b, off + c * 2, none⟩)) rfl hHeld ?_
      simp only [Act.put,gA9,gZ9,gC9,sA9,sZ9,sC9]
      refine wX9 9 (.int .i64 x.1) rfl (Or.inl ⟨by rfl, fun w' hS => by (obtain ⟨s0, s1, s2, s3⟩ := hS; go_simp)⟩) hHeld ?_
      simp only [Act.put,gA9,gZ9,gC9,sA9,sZ9,sC9]
      refine wX9 10 (.bool false) rfl (Or.inl ⟨by rfl, fun w' hS => by first | (go_simp; done) | (go_simp; omega)⟩) hHeld ?_
      simp only [Act.put,gA9,gZ9,gC9,sA9,sZ9,sC9]
      refine wG9 11 (.bool false) rfl hHeld ?_
      simp only [Act.put,gA9,gZ9,gC9,sA9,sZ9,sC9]
      refine wG9 12 (.pointer (some ⟨kb, 0, none⟩)) rfl hHeld ?_
      simp only [Act.put,gA9,gZ9,gC9,sA9,sZ9,sC9]
      refine wX9 13 (.int .i64 s.1) rfl (Or.inl ⟨by rfl, fun w' hS => by (obtain ⟨s0, s1, s2, s3⟩ := hS; go_simp)⟩) hHeld ?_
      simp only [Act.put,gA9,gZ9,gC9,sA9,sZ9,sC9]
      refine wG9 14 (.slice (some ⟨b, off, none⟩) L cp) rfl hHeld ?_
      simp only [Act.put,gA9,gZ9,gC9,sA9,sZ9,sC9]
      refine wG9 15 (.int .i64 (c : Int)) rfl hHeld ?_
      simp only [Act.put,gA9,gZ9,gC9,sA9,sZ9,sC9]
      refine wG9 16 (.pointer (some ⟨b, off + c * 2, none⟩)) rfl hHeld ?_
      simp only [Act.put,gA9,gZ9,gC9,sA9,sZ9,sC9]
      refine wG9 17 (.pointer (some ⟨b, off + c * 2, none⟩)) rfl hHeld ?_
      simp only [Act.put,gA9,gZ9,gC9,sA9,sZ9,sC9]
      refine wX9 18 (.int .i64 x.1) rfl (Or.inl ⟨by rfl, fun w' hS => by (obtain ⟨s0, s1, s2, s3⟩ := hS; go_simp)⟩) hHeld ?_
      simp only [Act.put,gA9,gZ9,gC9,sA9,sZ9,sC9]
      refine wX9 19 (.bool true) rfl (Or.inl ⟨by rfl, fun w' hS => by first | (go_simp; done) | (go_simp; omega)⟩) hHeld ?_
      simp only [Act.put,gA9,gZ9,gC9,sA9,sZ9,sC9]
      refine wG9 20 (.bool true) rfl hHeld ?_
      simp only [Act.put,gA9,gZ9,gC9,sA9,sZ9,sC9]
      refine wG9 21 (.pointer (some ⟨kb, 1, none⟩)) rfl hHeld ?_
      simp only [Act.put,gA9,gZ9,gC9,sA9,sZ9,sC9]
      refine wX9 22 (.int .i64 s.2) rfl (Or.inl ⟨by rfl, fun w' hS => by (obtain ⟨s0, s1, s2, s3⟩ := hS; go_simp)⟩) hHeld ?_
      simp only [Act.put,gA9,gZ9,gC9,sA9,sZ9,sC9]
      refine wG9 23 (.slice (some ⟨b, off, none⟩) L cp) rfl hHeld ?_
      simp only [Act.put,gA9,gZ9,gC9,sA9,sZ9,sC9]
      refine wG9 24 (.int .i64 (c : Int)) rfl hHeld ?_
      simp only [Act.put,gA9,gZ9,gC9,sA9,sZ9,sC9]
      refine wG9 25 (.pointer (some ⟨b, off + c * 2, none⟩)) rfl hHeld ?_
      simp only [Act.put,gA9,gZ9,gC9,sA9,sZ9,sC9]
      refine wG9 26 (.pointer (some ⟨b, off + c * 2 + 1, none⟩)) rfl hHeld ?_
      simp only [Act.put,gA9,gZ9,gC9,sA9,sZ9,sC9]
      refine wX9 27 (.int .i64 x.2) rfl (Or.inl ⟨by rfl, fun w' hS => by (obtain ⟨s0, s1, s2, s3⟩ := hS; go_simp)⟩) hHeld ?_
      simp only [Act.put,gA9,gZ9,gC9,sA9,sZ9,sC9]
      refine wX9 28 (.bool false) rfl (Or.inl ⟨by rfl, fun w' hS => by first | (go_simp; done) | (go_simp; omega)⟩) hHeld ?_
      simp only [Act.put,gA9,gZ9,gC9,sA9,sZ9,sC9]
      refine wG9 29 (.bool false) rfl hHeld ?_
      simp only [Act.put,gA9,gZ9,gC9,sA9,sZ9,sC9]
      refine wG9 30 (.bool false) rfl hHeld ?_
      simp only [Act.put,gA9,gZ9,gC9,sA9,sZ9,sC9]
      refine wG9 31 (.bool false) rfl hHeld ?_
      simp only [Act.put,gA9,gZ9,gC9,sA9,sZ9,sC9]
      refine wpAnyH_done (by kernel_rfl) ?_ _
      clear hHeld
      generalize hol : out.length = ol at *
      have Hol : Hid (out.length = ol) := hol
      have HSd : Hid (So w wr.drew kb s u5 out) := HS.out.still ((Below.refl _ _).drew)
      have HO : Hid (wr.drew.ownsRow (kb + 1) 76 2 u5 ol (slCells out)) := hol ▸ HSd.out.o
      have hkbs : kb + 1 ≤ wr.drew.heap.size := lt_heap HSd.out.k
      have Hr2d : Hid (wr.drew.rangeAt b (off + c * 2) [.int .i64 x.1, .int .i64 x.2]) := Hr2.out
      clear hol k0 k1 hc0 hc1 HS
      generalize wr.drew = D at *
      go_wp2_with (first
       | (refine load_mid 76 (.tmp 53) Hr2d.out _ Try.underlying76 rfl info_slot rfl rfl rfl ?_)
       | (at_builtin; refine wpList_append_lies _ rfl _ _ 25 rfl (kb + 1) 76 si (.agg #[.int .i64 0, .int .i64 0]) 2 16 Try.underlying25 shi shz0 shz1 shz2 rfl (by omega) u5 ol (slCells out) rfl (World.ownsRow.alloc HO.out _) _ 1 1 [.int .i64 x.1, .int .i64 x.2] rfl rfl (World.news_of_block (heap_alloc_new _ _)) (slotV_one x) (by omega) (by unfold maxLen; omega) (by omega) (by simp; omega) _ rfl ?_; intro g3 cap3 w3 hown3 hgrow3 hat3 hlt3)
       | fail)
      have hN := HSd.out.app Hol.out hown3 hgrow3
      exact ⟨⟨c + 1, by omega, by go_num, by rw [HN.out], by rw [HN.out]; exact hN⟩, by simp [intOf]; omega⟩
     ·have h2' : (s.1 == x.1) = false := by simpa using h2
      clear hlt2
      go_wp2
      refine wp_region_held_drew (S := (fun w' => w'.cell? ⟨kb, 0, none⟩ = some (.int .i64 s.1) ∧ w'.cell? ⟨kb, 1, none⟩ = some (.int .i64 s.2) ∧ w'.cell? ⟨b, off + c * 2, none⟩ = some (.int .i64 x.1) ∧ w'.cell? ⟨b, off + c * 2 + 1, none⟩ = some (.int .i64 x.2))) (by kernel_rfl) ⟨k0, k1, hc0, hc1⟩ (fun hHeld => ?_)
      simp only [Act.put, List.size_toArray, List.length_cons, List.length_nil, Nat.zero_add]
      refine wG9 0 (.bool false) rfl hHeld ?_
      simp only [Act.put,gA9,gZ9,gC9,sA9,sZ9,sC9]
      refine wG9 1 (.bool true) rfl hHeld ?_
      simp only [Act.put,gA9,gZ9,gC9,sA9,sZ9,sC9]
      refine wG9 2 (.bool true) rfl hHeld ?_
      simp only [Act.put,gA9,gZ9,gC9,sA9,sZ9,sC9]
      refine wG9 3 (.pointer (some ⟨kb, 0, none⟩)) rfl hHeld ?_
      simp only [Act.put,gA9,gZ9,gC9,sA9,sZ9,sC9]
      refine wX9 4 (.int .i64 s.1) rfl (Or.inl ⟨by rfl, fun w' hS => by (obtain ⟨s0, s1, s2, s3⟩ := hS; go_simp)⟩) hHeld ?_
      simp only [Act.put,gA9,gZ9,gC9,sA9,sZ9,sC9]
      refine wG9 5 (.slice (some ⟨b, off, none⟩) L cp) rfl hHeld ?_
      simp only [Act.put,gA9,gZ9,gC9,sA9,sZ9,sC9]
      refine wG9 6 (.int .i64 (c : Int)) rfl hHeld ?_
      simp only [Act.put,gA9,gZ9,gC9,sA9,sZ9,sC9]
      refine wG9 7 (.pointer (some ⟨b, off + c * 2, none⟩)) rfl hHeld ?_
      simp only [Act.put,gA9,gZ9,gC9,sA9,sZ9,sC9]
      refine wG9 8 (.pointer (some ⟨b, off + c * 2, none⟩)) rfl hHeld ?_
      simp only [Act.put,gA9,gZ9,gC9,sA9,sZ9,sC9]
      refine wX9 9 (.int .i64 x.1) rfl (Or.inl ⟨by rfl, fun w' hS => by (obtain ⟨s0, s1, s2, s3⟩ := hS; go_simp)⟩) hHeld ?_
      simp only [Act.put,gA9,gZ9,gC9,sA9,sZ9,sC9]
      refine wX9 10 (.bool false) rfl (Or.inl ⟨by rfl, fun w' hS => by first | (go_simp; done) | (go_simp; omega)⟩) hHeld ?_
      simp only [Act.put,gA9,gZ9,gC9,sA9,sZ9,sC9]
      refine wG9 11 (.bool false) rfl hHeld ?_
      simp only [Act.put,gA9,gZ9,gC9,sA9,sZ9,sC9]
      refine wG9 12 (.pointer (some ⟨kb, 0, none⟩)) rfl hHeld ?_
      simp only [Act.put,gA9,gZ9,gC9,sA9,sZ9,sC9]
      refine wX9 13 (.int .i64 s.1) rfl (Or.inl ⟨by rfl, fun w' hS => by (obtain ⟨s0, s1, s2, s3⟩ := hS; go_simp)⟩) hHeld ?_
      simp only [Act.put,gA9,gZ9,gC9,sA9,sZ9,sC9]
      refine wG9 14 (.slice (some ⟨b, off, none⟩) L cp) rfl hHeld ?_
      simp only [Act.put,gA9,gZ9,gC9,sA9,sZ9,sC9]
      refine wG9 15 (.int .i64 (c : Int)) rfl hHeld ?_
      simp only [Act.put,gA9,gZ9,gC9,sA9,sZ9,sC9]
      refine wG9 16 (.pointer (some ⟨b, off + c * 2, none⟩)) rfl hHeld ?_
      simp only [Act.put,gA9,gZ9,gC9,sA9,sZ9,sC9]
      refine wG9 17 (.pointer (some ⟨b, off + c * 2, none⟩)) rfl hHeld ?_
      simp only [Act.put,gA9,gZ9,gC9,sA9,sZ9,sC9]
      refine wX9 18 (.int .i64 x.1) rfl (Or.inl ⟨by rfl, fun w' hS => by (obtain ⟨s0, s1, s2, s3⟩ := hS; go_simp)⟩) hHeld ?_
      simp only [Act.put,gA9,gZ9,gC9,sA9,sZ9,sC9]
      refine wX9 19 (.bool false) rfl (Or.inl ⟨by rfl, fun w' hS => by first | (go_simp; done) | (go_simp; omega)⟩) hHeld ?_
      simp only [Act.put,gA9,gZ9,gC9,sA9,sZ9,sC9]
      refine wG9 20 (.bool false) rfl hHeld ?_
      simp only [Act.put,gA9,gZ9,gC9,sA9,sZ9,sC9]
      refine wS9 21 rfl hHeld ?_
      simp only [Act.put,gA9,gZ9,gC9,sA9,sZ9,sC9]
      refine wS9 22 rfl hHeld ?_
      simp only [Act.put,gA9,gZ9,gC9,sA9,sZ9,sC9]
      refine wS9 23 rfl hHeld ?_
      simp only [Act.put,gA9,gZ9,gC9,sA9,sZ9,sC9]
      refine wS9 24 rfl hHeld ?_
      simp only [Act.put,gA9,gZ9,gC9,sA9,sZ9,sC9]
      refine wS9 25 rfl hHeld ?_
      simp only [Act.put,gA9,gZ9,gC9,sA9,sZ9,sC9]
      refine wS9 26 rfl hHeld ?_
      simp only [Act.put,gA9,gZ9,gC9,sA9,sZ9,sC9]
      refine wS9 27 rfl hHeld ?_
      simp only [Act.put,gA9,gZ9,gC9,sA9,sZ9,sC9]
      refine wS9 28 rfl hHeld ?_
      simp only [Act.put,gA9,gZ9,gC9,sA9,sZ9,sC9]
      refine wG9 29 (.bool false) rfl hHeld ?_
      simp only [Act.put,gA9,gZ9,gC9,sA9,sZ9,sC9]
      refine wG9 30 (.bool false) rfl hHeld ?_
      simp only [Act.put,gA9,gZ9,gC9,sA9,sZ9,sC9]
      refine wG9 31 (.bool false) rfl hHeld ?_
      simp only [Act.put,gA9,gZ9,gC9,sA9,sZ9,sC9]
      refine wpAnyH_done (by kernel_rfl) ?_ _
      clear hHeld
      generalize hol : out.length = ol at *
      have Hol : Hid (out.length = ol) := hol
      have HSd : Hid (So w wr.drew kb s u5 out) := HS.out.still ((Below.refl _ _).drew)
      have HO : Hid (wr.drew.ownsRow (kb + 1) 76 2 u5 ol (slCells out)) := hol ▸ HSd.out.o
      have hkbs : kb + 1 ≤ wr.drew.heap.size := lt_heap HSd.out.k
      have Hr2d : Hid (wr.drew.rangeAt b (off + c * 2) [.int .i64 x.1, .int .i64 x.2]) := Hr2.out
      clear hol k0 k1 hc0 hc1 HS
      generalize wr.drew = D at *
      go_wp2_with (first
       | (refine load_mid 76 (.tmp 53) Hr2d.out _ Try.underlying76 rfl info_slot rfl rfl rfl ?_)
       | (at_builtin; refine wpList_append_lies _ rfl _ _ 25 rfl (kb + 1) 76 si (.agg #[.int .i64 0, .int .i64 0]) 2 16 Try.underlying25 shi shz0 shz1 shz2 rfl (by omega) u5 ol (slCells out) rfl (World.ownsRow.alloc HO.out _) _ 1 1 [.int .i64 x.1, .int .i64 x.2] rfl rfl (World.news_of_block (heap_alloc_new _ _)) (slotV_one x) (by omega) (by unfold maxLen; omega) (by omega) (by simp; omega) _ rfl ?_; intro g3 cap3 w3 hown3 hgrow3 hat3 hlt3)
       | fail)
      have hN := HSd.out.app Hol.out hown3 hgrow3
      exact ⟨⟨c + 1, by omega, by go_num, by rw [HN.out], by rw [HN.out]; exact hN⟩, by simp [intOf]; omega⟩
  ·obtain rfl : L = c := by omega
   have hb0 := HLn.out L
   generalize hio : insO l s L = io at *
   obtain ⟨out, put⟩ := io
   dsimp only at HS HAll hb0
   clear hio
   cases put with
   | true =>
    go_wp2
    go_ret
    have e := HAll.out
    simp only [if_true] at e
    obtain ⟨a, cc, rfl⟩ : ∃ a cc, u5 = .slice a out.length cc := by
     rcases HS.out.o.2 with ⟨h3, h4⟩ | ⟨g, cap, cur, hv, _⟩
     ·exact ⟨none, 0, by rw [h4]; exact h3⟩
     ·exact ⟨_, _, hv⟩
    refine ⟨a, cc, by rw [← e]; rfl, ?_, HS.out.b⟩
    rw [← e]
    exact own_lower HS.out.o (by rw [Hkb.out]; omega)
   | false =>
    have Hr1 : Hid (wr.rangeAt kb 0 [.int .i64 s.1, .int .i64 s.2]) := HS.out.rng
    generalize hol : out.length = ol at *
    have Hol : Hid (out.length = ol) := hol
    have HO : Hid (wr.ownsRow (kb + 1) 76 2 u5 ol (slCells out)) := hol ▸ HS.out.o
    have hkbs : kb + 1 ≤ wr.heap.size := lt_heap HS.out.k
    clear hol
    go_wp2_with (first
     | (refine load_mid 76 (.tmp 3) Hr1.out _ Try.underlying76 rfl info_slot rfl rfl rfl ?_)
     | (at_builtin; refine wpList_append_lies _ rfl _ _ 25 rfl (kb + 1) 76 si (.agg #[.int .i64 0, .int .i64 0]) 2 16 Try.underlying25 shi shz0 shz1 shz2 rfl (by omega) u5 ol (slCells out) rfl (World.ownsRow.alloc HO.out _) _ 1 1 [.int .i64 s.1, .int .i64 s.2] rfl rfl (World.news_of_block (heap_alloc_new _ _)) (slotV_one s) (by omega) (by unfold maxLen; omega) (by omega) (by simp; omega) _ rfl ?_; intro g9 cap9 w9 hown9 hgrow9 hat9 hlt9)
     | fail)
    go_ret
    have e := HAll.out
    simp only [if_neg (show ¬ (false = true) by simp)] at e
    have hN := HS.out.app Hol.out hown9 hgrow9
    refine ⟨_, cap9, by rw [← e, List.length_append, Hol.out]; rfl, ?_, hN.b⟩
    have := own_lower hN.o (B' := w.heap.size) (by rw [Hkb.out]; omega)
    rw [← e]
    simpa [Hol.out] using this
end
end Go.Proofs.Ytobaooebjgoaiaa.Fm
namespace Go.Proofs.Ytobaooebjgoaiaa.Fm
open Go.RowKit Go.Maps Mb
set_option linter.unusedVariables false
set_option maxRecDepth 100000
set_option linter.unusedSimpArgs false
section
variable {w w' W : World} {B : Nat}
theorem tog_base {cs : List Co} (h : Tog cs) : ∀ i, i < cs.length → 0 ≤ (cs.getD i c0).base ∧ (cs.getD i c0).base ≤ 4611686018427387904 := fun i hi => by
 have h1 := h.snd i hi
 have := h1.b0
 have := h1.bM
 omega
theorem slOf_get {cs : List Co} {n : Nat} {ss : List (Int × Int)} (h : SlOf cs n ss) {j : Nat} (hj : j < n) : (atP cs (baseOf cs + (j : Int) + 1)).getD z2 = ss.getD j z2 := by
 have := h.2 j hj
 rw [show baseOf cs + (j : Int) + 1 = baseOf cs + 1 + (j : Int) by omega, this]
 rfl
theorem slOf_ex {cs : List Co} {n : Nat} (h : Ends cs n) : ∃ ss, SlOf cs n ss := by
 refine ⟨(List.range n).map (fun j : Nat => (atP cs (baseOf cs + 1 + (j : Int))).getD z2), by simp, fun j hj => ?_⟩
 have h1 := h.1 j hj
 unfold whP at h1
 split at h1
 ·cases h1
 ·rename_i s hs
  rw [hs]
  simp [List.getD, hj, hs]
theorem drop_take {ss : List (Int × Int)} {k j : Nat} (hj : k + j < ss.length) : (ss.drop k).take (j + 1) = (ss.drop k).take j ++ [ss.getD (k + j) z2] := by
 rw [List.take_add_one]
 simp [List.getD, hj]
structure Mo (w0 w : World) (v : Value) (fs : List Fl) : Prop where
 o : w.ownsRow w0.heap.size 28 7 v fs.length (flCells fs)
 b : Below w0.heap.size w0 w
theorem Mo.rd {w0 : World} {a : Option Addr} {n c : Nat} {fs : List Fl} (h : Mo w0 w (.slice a n c) fs) (hn : fs.length = n) (he : ∀ i, i < fs.length → (fs.getD i fl0).Rd w) : RdFs w a fs := by
 refine ⟨?_, he⟩
 have := h.o
 rw [hn] at this ⊢
 exact own_row this (fun i hi => flCells_at _ _ (by rw [hn]; exact hi))
theorem rdF_news {ao : Option Addr} {fs : List Fl} (h : RdFs w ao fs) : ∀ ad, ao = some ad → ∀ j u, (flCells fs)[j]? = some u → w.cell? (ad.add j) = some u := fun ad he j u hu => by
 have hj : j < fs.length * 7 := by have := (List.getElem?_eq_some_iff.1 hu).1; rwa [flCells_len] at this
 rcases h.row with h0 | ⟨b, off, e, hc⟩
 ·omega
 ·rw [e] at he
  cases he
  rw [Addr.add_lit, hc j hj, ← flCells_at _ _ hj, hu]
theorem flCells_one (fs : List Fl) : ∀ u ∈ flCells fs, u.oneCell' = true := by
 intro u hu
 obtain ⟨f, _, hf⟩ := List.mem_flatMap.1 hu
 exact flcs_one f u hf
set_option maxHeartbeats 8000000 in
theorem qlacks_any {ao : Option Addr} {cp : Nat} {fs : List Fl} {own : Fl} (hr : RdFs w ao fs) (ho : own.Rd w) (hln : fs.length ≤ 1048576) (d : Int) : Calls Try.prog 14 #[.int .i64 d, .agg own.cs.toArray, .slice ao fs.length cp] w fun e w' => ∃ a c l E, e = .returned (.tuple #[.slice a (l : List (Int × Int)).length c, .int .i64 E]) ∧ LkS (cos fs) own.c d E l ∧ w'.ownsRow w.heap.size 76 2 (.slice a l.length c) l.length (slCells l) ∧ Below w.heap.size w w' := by
 have hcl := cos_len fs
 have HNo : Hid (lkB (cos fs) d = false → LkS (cos fs) own.c d 1 []) := fun h => .inl ⟨h, rfl, rfl⟩
 have HlB : Hid (lkB (cos fs) d = (inR 0 4611686018427387904 d && inR 1 16 (fs.length : Int))) := (show lkB (cos fs) d = _ from by unfold lkB; rw [hcl])
 generalize hW1 : w.alloc (.cells own.cs.toArray 28) = W1
 have b1 : Below w.heap.size w W1 := hW1 ▸ balloc (Below.refl _ _)
 have k1 : W1.heap[w.heap.size]? = some (.cells own.cs.toArray 28 (0, 0)) := by rw [← hW1]; exact heap_alloc_new w _
 have HB1 : Hid (Below w.heap.size w W1) := b1
 have HK1 : Hid (W1.heap[w.heap.size]? = some (.cells own.cs.toArray 28 (0, 0))) := k1
 have HR1 : Hid (RdFs W1 ao fs) := hr.still b1
 have HO1 : Hid (own.Rd W1) := ho.still b1
 have HFl : Hid ((flCells fs).length = fs.length * 7) := flCells_len fs
 generalize hL : fs.length = L at *
 have HLe : Hid (fs.length = L) := hL
 generalize hos : own.cs.toArray = oa at hW1
 have Hoa : Hid (own.cs.toArray = oa) := hos
 try rw [hos]
 clear hr ho hcl hL b1 k1 hos
 by_cases ha : d < 0
 ·have HS : Hid (LkS (cos fs) own.c d 1 []) := HNo.out (by rw [HlB.out, inR_f1 (by omega)]; rfl)
  go_enter Try.func14, Try.ntmps14
  go_wp2
  go_ret2
  exact ⟨none, 0, [], 1, rfl, HS.out, ⟨rfl, .inl ⟨rfl, rfl⟩⟩, HB1.out⟩
 ·by_cases hb : 4611686018427387904 < d
  ·have HS : Hid (LkS (cos fs) own.c d 1 []) := HNo.out (by rw [HlB.out, inR_f2 (by omega)]; rfl)
   go_enter Try.func14, Try.ntmps14
   go_wp2
   go_ret2
   exact ⟨none, 0, [], 1, rfl, HS.out, ⟨rfl, .inl ⟨rfl, rfl⟩⟩, HB1.out⟩
  ·have h1 : inR 0 4611686018427387904 d = true := inR_t (by omega) (by omega)
   by_cases hc : (L : Int) < 1
   ·have HS : Hid (LkS (cos fs) own.c d 1 []) := HNo.out (by rw [HlB.out, h1, inR_f1 (by omega)]; rfl)
    clear h1
    go_enter Try.func14, Try.ntmps14
    go_wp2
    go_ret2
    exact ⟨none, 0, [], 1, rfl, HS.out, ⟨rfl, .inl ⟨rfl, rfl⟩⟩, HB1.out⟩
   ·by_cases hd : (16 : Int) < (L : Int)
    ·have HS : Hid (LkS (cos fs) own.c d 1 []) := HNo.out (by rw [HlB.out, h1, inR_f2 (by omega)]; rfl)
     clear h1
     go_enter Try.func14, Try.ntmps14
     go_wp2
     go_ret2
     exact ⟨none, 0, [], 1, rfl, HS.out, ⟨rfl, .inl ⟨rfl, rfl⟩⟩, HB1.out⟩
    ·have Hyes : Hid (lkB (cos fs) d = true) := (show lkB (cos fs) d = true from by rw [HlB.out, h1, inR_t (by omega) (by omega)]; rfl)
     clear h1
     have hL16 : L ≤ 16 := by omega
     have HZ : Hid (ao = none → L = 0 ∧ cp = 0) := fun h => by
      rcases HR1.out.row with h0 | ⟨b, off, e, _⟩
      ·rw [HLe.out] at h0; omega
      ·rw [h] at e; cases e
     obtain ⟨ii, ihi, ihz0, ihz1, ihz2⟩ := flush_info
     have hs1 : w.heap.size < W1.heap.size := lt_heap HK1.out
     have Hld : Hid (W1.rangeAt w.heap.size 0 own.cs) := blk_range HK1.out
     have Hf1 : Hid (∀ u ∈ own.cs, u.oneCell' = true) := flcs_one own
     go_enter Try.func14, Try.ntmps14
     go_upto_region 6 with (first
      | (refine app_g rfl _ _ 22 rfl W1.heap.size 28 ii _ 7 88 Try.underlying22 ihi ihz0 ihz1 ihz2 rfl (by omega) (.slice none 0 0) 0 [] rfl ⟨rfl, .inl ⟨rfl, rfl⟩⟩ ao L cp (flCells fs) rfl HZ.out HFl.out (rdF_news HR1.out) (flCells_one fs) (by unfold maxLen; omega) (by omega) (Nat.le_refl _) ?_; intro v1 X1 o1 k1 f1; have BX1 : Hid (Below W1.heap.size W1 X1) := k1.out.below (Nat.le_refl _) (fun k hk e => by cases e))
      | (refine load_mid 28 (.tmp 4) (range_on Hld.out BX1.out) _ Try.underlying28 rfl info_flush rfl rfl rfl ?_)
      | (refine wl_bsl rfl 22 28 1 _ rfl Try.underlying22 own.cs.toArray (bsl_eq (by kernel_rfl) (bFl own)) ?_; intro X2 k2 b2 s2; have K2 : Hid _ := k2; have BX2 : Hid _ := b2; clear k2 b2 s2)
      | (refine app_g rfl _ _ 22 rfl W1.heap.size 28 ii _ 7 88 Try.underlying22 ihi ihz0 ihz1 ihz2 rfl (by omega) v1 (0 + L) ([] ++ flCells fs) rfl (own_still o1.out BX2.out) (some ⟨X1.heap.size, 0, none⟩) 1 1 own.cs rfl (fun h => by cases h) rfl (fun ad he j u hu => by cases he; rw [Addr.add_lit, Nat.zero_add, blk_cell K2.out]; simpa using hu) Hf1.out (by unfold maxLen; omega) (by omega) (Nat.le_trans BX1.out.size BX2.out.size) ?_; intro v2 X3 o3 k3 f3)
      | fail)
     obtain ⟨a2, c2, rfl⟩ : ∃ a2 c2, v2 = .slice a2 (L + 1) c2 := by
      rcases o3.out.2 with ⟨_, h4⟩ | ⟨g, cap, cur, hv, _⟩
      ·omega
      ·exact ⟨_, _, by rw [hv, Nat.zero_add]⟩
     have BX3 : Hid (Below W1.heap.size W1 X3) := (bstep BX1.out BX2.out).trans (k3.out.below (bstep BX1.out BX2.out).size (fun k hk e => by
      have := (row_cells (own_still o1.out BX2.out) e).1
      omega))
     have HM : Hid (RdFs X3 a2 (fs ++ [own])) := ⟨by
      have e1 : [] ++ flCells fs ++ own.cs = flCells (fs ++ [own]) := by simp [flCells]
      have o4 := o3.out
      rw [e1, Nat.zero_add] at o4
      have e2 : (fs ++ [own]).length = L + 1 := by rw [List.length_append, HLe.out]; rfl
      rw [e2]
      exact own_row o4 (fun i hi => flCells_at _ _ (by rw [e2]; exact hi)), fun i hi => by
      by_cases e : i < fs.length
      ·have : (fs ++ [own]).getD i fl0 = fs.getD i fl0 := by simp [List.getD, List.getElem?_append, e]
       rw [this]
       exact (HR1.out.el i e).still BX3.out
      ·have hi2 : i = fs.length := by simp at hi; omega
       have : (fs ++ [own]).getD i fl0 = own := by subst hi2; simp [List.getD]
       rw [this]
       exact HO1.out.still BX3.out⟩
     have HOw : Hid (own.Rd X3) := HO1.out.still BX3.out
     have Hlo : Hid (X3.rangeAt w.heap.size 0 own.cs) := range_on Hld.out BX3.out
     have HB3 : Hid (Below w.heap.size w X3) := bstep HB1.out BX3.out
     have Hml : Hid ((fs ++ [own]).length = L + 1) := (show (fs ++ [own]).length = L + 1 from by rw [List.length_append, HLe.out]; rfl)
     have HTo := qTog_any (cp := c2) HM.out (by rw [Hml.out]; omega)
     rw [Hml.out, cos_app] at HTo
     clear o1 k1 f1 BX1 K2 BX2 o3 k3 f3 BX3 HR1 HO1 Hld hW1 HZ HK1
     by_cases h0 : togE (cos fs ++ [own.c]) = 0
     ·have HT : Hid (Tog (cos fs ++ [own.c])) := tog_of h0
      have H0 : Hid (togE (cos fs ++ [own.c]) = 0) := h0
      rw [h0] at HTo
      have HBa : Hid (∀ X, Below X3.heap.size X3 X → Calls Try.prog 42 #[.slice a2 (L + 1) c2] X fun e w' => e = .returned (.int .i64 (baseOf (cos fs ++ [own.c]))) ∧ X = w') := fun X hX => by
       have := qBase_any (cp := c2) (HM.out.still hX) (by rw [Hml.out]; omega)
       rw [Hml.out, cos_app] at this
       exact this.mono fun _ _ h => ⟨h.1, h.2.symm⟩
      have HEn : Hid (∀ X, Below X3.heap.size X3 X → Calls Try.prog 43 #[.slice a2 (L + 1) c2] X fun e w' => ∃ n : Nat, e = .returned (.int .i64 (baseOf (cos fs ++ [own.c]) + n)) ∧ Ends (cos fs ++ [own.c]) n ∧ Below X.heap.size X w') := fun X hX => by
       have := qend_any (cp := c2) (HM.out.still hX) (by rw [Hml.out]; omega) (by rw [cos_app]; exact HT.out)
       rw [Hml.out, cos_app] at this
       exact this
      have HAt : Hid (∀ X, Below X3.heap.size X3 X → ∀ pos : Int, 0 ≤ pos → pos ≤ 4611686018427389904 → Calls Try.prog 44 #[.slice a2 (L + 1) c2, .int .i64 pos] X fun e w' => e = .returned (.agg (slotV ((atP (cos fs ++ [own.c]) pos).getD z2)).toArray) ∧ Below X.heap.size X w') := fun X hX pos p0 p1 => by
       have := qAt_any (cp := c2) (HM.out.still hX) (by rw [Hml.out]; omega) (fun i hi => by
        have := tog_base HT.out i (by simpa [cos] using hi)
        rwa [← cos_app, cos_at] at this) pos p0 p1
       rw [Hml.out, cos_app] at this
       exact this
      have HHa : Hid (∀ X, Below X3.heap.size X3 X → ∀ s : Int × Int, Calls Try.prog 45 #[.agg own.cs.toArray, .agg (slotV s).toArray] X fun e w' => e = .returned (.bool (has own.c s)) ∧ Below X.heap.size X w') := fun X hX s => qhas_any (HOw.out.still hX) s
      have hb0 : 0 ≤ baseOf (cos fs ++ [own.c]) := baseK_nn _ _
      have hbM : baseOf (cos fs ++ [own.c]) ≤ 4611686018427387904 := baseK_le _ HT.out.snd _ (Nat.le_refl _)
      have HlE : Hid (d < baseOf (cos fs ++ [own.c]) → LkS (cos fs) own.c d 82 []) := fun h => .inr (.inr (.inl ⟨Hyes.out, H0.out, h, rfl, rfl⟩))
      have HlF : Hid (¬ d < baseOf (cos fs ++ [own.c]) → ∀ n ss, Ends (cos fs ++ [own.c]) n → SlOf (cos fs ++ [own.c]) n ss → LkS (cos fs) own.c d 0 (pick (fun s => !has own.c s) (ss.drop (d - baseOf (cos fs ++ [own.c])).toNat))) := fun h n ss h1 h2 => .inr (.inr (.inr ⟨Hyes.out, H0.out, h, rfl, n, ss, h1, h2, rfl⟩))
      have HSg : Hid (∀ n ss j, SlOf (cos fs ++ [own.c]) n ss → j < n → (atP (cos fs ++ [own.c]) (baseOf (cos fs ++ [own.c]) + (j : Int) + 1)).getD z2 = ss.getD j z2) := fun n ss j h hj => slOf_get h hj
      generalize hbs : baseOf (cos fs ++ [own.c]) = bs at *
      clear h0 hbs HM HOw
      by_cases hlt : d < bs
      ·go_wp2_with (first
        | (go_at_call 41; refine HTo.mono ?_; rintro e V1 ⟨rfl, hv1⟩; have BV1 : Hid _ := hv1; clear hv1)
        | (go_at_call 42; refine (HBa.out _ BV1.out).mono ?_; rintro e V2 ⟨rfl, rfl⟩)
        | fail)
       go_ret2
       exact ⟨none, 0, [], 82, rfl, HlE.out hlt, ⟨rfl, .inl ⟨rfl, rfl⟩⟩, bstep HB3.out BV1.out⟩
      ·go_wp2_with (first
        | (go_at_call 41; refine HTo.mono ?_; rintro e V1 ⟨rfl, hv1⟩; have BV1 : Hid _ := hv1; clear hv1)
        | (go_at_call 42; refine (HBa.out _ BV1.out).mono ?_; rintro e V2 ⟨rfl, rfl⟩)
        | (go_at_call 43; refine (HEn.out _ BV1.out).mono ?_; rintro e V3 ⟨n, rfl, hen, hv3⟩; have HEnd : Hid _ := hen; have BV3 : Hid _ := hv3; clear hen hv3)
        | fail)
       obtain ⟨ss, hss⟩ := slOf_ex HEnd.out
       have HSl : Hid (SlOf (cos fs ++ [own.c]) n ss) := hss
       have hn128 : n ≤ 128 := Ends.le HT.out HEnd.out.1
       have HsL : Hid (ss.length = n) := hss.1
       have BV : Hid (Below X3.heap.size X3 V3) := bstep BV1.out BV3.out
       have HBV : Hid (Below w.heap.size w V3) := bstep HB3.out BV.out
       clear hss
       obtain ⟨k0, hk0⟩ : ∃ k0 : Nat, d = bs + k0 := ⟨(d - bs).toNat, by omega⟩
       have Hk0 : Hid ((d - bs).toNat = k0) := (show (d - bs).toNat = k0 from by omega)
       have HK0 : Hid (d = bs + k0) := hk0
       clear hk0
       go_loopw [10, 12] (fun lv kv wr => ∃ j : Nat, (k0 + j ≤ n ∨ j = 0) ∧ kv = .int .i64 (d + (j : Int)) ∧ wr.ownsRow w.heap.size 76 2 lv (pick (fun s => !has own.c s) ((ss.drop k0).take j)).length (slCells (pick (fun s => !has own.c s) ((ss.drop k0).take j))) ∧ Below V3.heap.size V3 wr) (fun _ kv _ => (bs + n - intOf kv).toNat)
       case atStart => exact ⟨0, .inr rfl, by simp, by rw [List.take_zero, pick_nil]; exact ⟨rfl, .inl ⟨rfl, rfl⟩⟩, Below.refl _ _⟩
       case round =>
        obtain ⟨j, hj, rfl, hlo, hbj⟩ := hrel
        have HLo : Hid (wr.ownsRow w.heap.size 76 2 u10 (pick (fun s => !has own.c s) ((ss.drop k0).take j)).length (slCells (pick (fun s => !has own.c s) ((ss.drop k0).take j)))) := hlo
        have HBj : Hid (Below V3.heap.size V3 wr) := hbj
        have BXj : Hid (Below X3.heap.size X3 wr) := bstep BV.out hbj
        have HBwj : Hid (Below w.heap.size w wr) := bstep HBV.out hbj
        clear hlo hbj
        by_cases hlt2 : k0 + j < n
        ·have hdlt : d + (j : Int) < bs + (n : Int) := by have := HK0.out; omega
         have hi1 : 0 ≤ d + (j : Int) + 1 := by omega
         have hi2 : d + (j : Int) + 1 ≤ 4611686018427389904 := by omega
         have HA := HAt.out wr BXj.out (d + (j : Int) + 1) hi1 hi2
         have hg := HSg.out n ss (k0 + j) HSl.out hlt2
         have e3 : bs + ((k0 + j : Nat) : Int) + 1 = d + (j : Int) + 1 := by have := HK0.out; omega
         rw [e3] at hg
         rw [hg] at HA
         have HDt : Hid ((ss.drop k0).take (j + 1) = (ss.drop k0).take j ++ [ss.getD (k0 + j) z2]) := drop_take (by rw [HsL.out]; exact hlt2)
         have Hpl : Hid ((pick (fun s => !has own.c s) ((ss.drop k0).take j)).length ≤ 128) := Nat.le_trans (pick_len _ _) (by rw [List.length_take, List.length_drop, HsL.out]; omega)
         generalize ss.getD (k0 + j) z2 = s at *
         obtain ⟨la, lc, rfl⟩ : ∃ la lc, u10 = .slice la (pick (fun s => !has own.c s) ((ss.drop k0).take j)).length lc := by
          rcases own_two HLo.out with ⟨h3, h4⟩ | ⟨g, cc, hv, _⟩
          ·exact ⟨none, 0, by rw [h4]; exact h3⟩
          ·exact ⟨_, _, hv⟩
         have HSo : Hid (∀ X, Below wr.heap.size wr X → Calls Try.prog 46 #[.slice la (pick (fun s => !has own.c s) ((ss.drop k0).take j)).length lc, .agg (slotV s).toArray] X fun e w' => ∃ a c, e = .returned (.slice a (insS (pick (fun s => !has own.c s) ((ss.drop k0).take j)) s).length c) ∧ w'.ownsRow X.heap.size 76 2 (.slice a (insS (pick (fun s => !has own.c s) ((ss.drop k0).take j)) s).length c) (insS (pick (fun s => !has own.c s) ((ss.drop k0).take j)) s).length (slCells (insS (pick (fun s => !has own.c s) ((ss.drop k0).take j)) s)) ∧ Below X.heap.size X w') := fun X hX => qsorted_any (own_rdS (own_still HLo.out hX) rfl) (by have := Hpl.out; omega) s
         have Hyes2 : Hid (has own.c s = false → pick (fun s => !has own.c s) ((ss.drop k0).take (j + 1)) = insS (pick (fun s => !has own.c s) ((ss.drop k0).take j)) s) := fun h => by rw [HDt.out]; exact pick_yes (by simp [h])
         have Hno2 : Hid (has own.c s = true → pick (fun s => !has own.c s) ((ss.drop k0).take (j + 1)) = pick (fun s => !has own.c s) ((ss.drop k0).take j)) := fun h => by rw [HDt.out]; exact pick_no (by simp [h])
         generalize hPk : pick (fun s => !has own.c s) ((ss.drop k0).take j) = pk at *
         clear hg e3 hPk
         have Hl2 : Hid ((slotV s).length = 2) := rfl
         cases hh : has own.c s with
         | true =>
          have HHs : Hid (∀ X, Below X3.heap.size X3 X → Calls Try.prog 45 #[.agg own.cs.toArray, .agg (slotV s).toArray] X fun e w' => e = .returned (.bool true) ∧ Below X.heap.size X w') := fun X hX => by rw [← hh]; exact HHa.out X hX s
          have HN := Hno2.out hh
          have HNh : Hid (pick (fun s => !has own.c s) ((ss.drop k0).take (j + 1)) = pk) := HN
          clear HN hh
          go_wp2_with (first
           | (go_at_call 44; refine HA.mono ?_; rintro e Y1 ⟨rfl, hy1⟩; have BB1 : Hid _ := hy1; clear hy1)
           | (refine wl_allocZ rfl 76 rfl zSlot ?_; intro Y2 k2 b2 s2; have K2 : Hid _ := k2; have BB2 : Hid _ := b2; clear k2 b2 s2)
           | (refine wl_storeZ rfl 76 _ _ rfl (L := slotV s) rfl rfl K2.out info_slot rfl (slotV_one _) ?_; intro Y4 k4 hk4; have K4 : Hid _ := k4; have BB4 : Hid (Below wr.heap.size wr Y4) := (bstep BB1.out BB2.out).trans (hk4.below (bstep BB1.out BB2.out).size (fun k hk e => by have := BB1.out.size; omega)); clear k4 hk4)
           | (refine load_mid 28 (.tmp 4) (range_on Hlo.out (bstep BXj.out BB4.out)) _ Try.underlying28 rfl info_flush rfl rfl rfl ?_)
           | (refine load_mid 76 (.tmp 13) (blk_range K4.out) _ Try.underlying76 rfl (by rw [Hl2.out]; exact info_slot) rfl rfl rfl ?_)
           | (go_at_call 45; refine (HHs.out _ (bstep BXj.out BB4.out)).mono ?_; rintro e Y6 ⟨rfl, hh6⟩)
           | fail)
          exact ⟨⟨j + 1, .inl (by omega), by go_simp; omega, by rw [HNh.out]; exact own_still HLo.out (bstep BB4.out hh6), bstep (bstep HBj.out BB4.out) hh6⟩, by have := HK0.out; simp [intOf]; omega⟩
         | false =>
          have HHs : Hid (∀ X, Below X3.heap.size X3 X → Calls Try.prog 45 #[.agg own.cs.toArray, .agg (slotV s).toArray] X fun e w' => e = .returned (.bool false) ∧ Below X.heap.size X w') := fun X hX => by rw [← hh]; exact HHa.out X hX s
          have HN := Hyes2.out hh
          have HNh : Hid (pick (fun s => !has own.c s) ((ss.drop k0).take (j + 1)) = insS pk s) := HN
          clear HN hh
          go_wp2_with (first
           | (go_at_call 44; refine HA.mono ?_; rintro e Y1 ⟨rfl, hy1⟩; have BB1 : Hid _ := hy1; clear hy1)
           | (refine wl_allocZ rfl 76 rfl zSlot ?_; intro Y2 k2 b2 s2; have K2 : Hid _ := k2; have BB2 : Hid _ := b2; clear k2 b2 s2)
           | (refine wl_storeZ rfl 76 _ _ rfl (L := slotV s) rfl rfl K2.out info_slot rfl (slotV_one _) ?_; intro Y4 k4 hk4; have K4 : Hid _ := k4; have BB4 : Hid (Below wr.heap.size wr Y4) := (bstep BB1.out BB2.out).trans (hk4.below (bstep BB1.out BB2.out).size (fun k hk e => by have := BB1.out.size; omega)); clear k4 hk4)
           | (refine load_mid 28 (.tmp 4) (range_on Hlo.out (bstep BXj.out BB4.out)) _ Try.underlying28 rfl info_flush rfl rfl rfl ?_)
           | (go_at_call 45; refine (HHs.out _ (bstep BXj.out BB4.out)).mono ?_; rintro e Y6 ⟨rfl, hh6⟩; have BB6 : Hid _ := hh6; have K6 : Hid _ := blk_on hh6 K4.out; clear hh6)
           | (refine load_mid 76 (.tmp 13) (blk_range K4.out) _ Try.underlying76 rfl (by rw [Hl2.out]; exact info_slot) rfl rfl rfl ?_)
           | (refine load_mid 76 (.tmp 13) (blk_range K6.out) _ Try.underlying76 rfl (by rw [Hl2.out]; exact info_slot) rfl rfl rfl ?_)
           | (go_at_call 46; refine (HSo.out _ (bstep BB4.out BB6.out)).mono ?_; rintro e Y7 ⟨a7, c7, rfl, ho7, hb7⟩)
           | fail)
          exact ⟨⟨j + 1, .inl (by omega), by go_simp; omega, by rw [HNh.out]; exact own_lower ho7 (Nat.le_trans HBwj.out.size (bstep BB4.out BB6.out).size), bstep (bstep (bstep HBj.out BB4.out) BB6.out) hb7⟩, by have := HK0.out; simp [intOf]; omega⟩
        ·have hdge : ¬ d + (j : Int) < bs + (n : Int) := by have := HK0.out; omega
         have e4 : (ss.drop k0).take j = ss.drop k0 := List.take_of_length_le (by rw [List.length_drop, HsL.out]; omega)
         rw [e4] at HLo
         have HF := HlF.out hlt n ss HEnd.out HSl.out
         rw [Hk0.out] at HF
         have HFh : Hid (LkS (cos fs) own.c d 0 (pick (fun s => !has own.c s) (ss.drop k0))) := HF
         obtain ⟨la, lc, rfl⟩ : ∃ la lc, u10 = .slice la (pick (fun s => !has own.c s) (ss.drop k0)).length lc := by
          rcases own_two HLo.out with ⟨h3, h4⟩ | ⟨g, cc, hv, _⟩
          ·exact ⟨none, 0, by rw [h4]; exact h3⟩
          ·exact ⟨_, _, hv⟩
         clear HF e4
         go_wp2
         go_ret2
         exact ⟨la, lc, _, 0, rfl, HFh.out, HLo.out, HBwj.out⟩
     ·have h0' : (togE (cos fs ++ [own.c]) == 0) = false := by simpa using h0
      have HS : Hid (LkS (cos fs) own.c d (togE (cos fs ++ [own.c])) []) := .inr (.inl ⟨Hyes.out, h0, rfl, rfl⟩)
      clear h0
      generalize togE (cos fs ++ [own.c]) = E at *
      go_wp2_with (first
       | (go_at_call 41; refine HTo.mono ?_; rintro e V1 ⟨rfl, hv1⟩)
       | fail)
      go_ret2
      exact ⟨none, 0, [], E, rfl, HS.out, ⟨rfl, .inl ⟨rfl, rfl⟩⟩, bstep HB3.out hv1⟩
end
end Go.Proofs.Ytobaooebjgoaiaa.Fm
