import Derived.Test.YtihcaopcfhbofaaX01
import Derived.Test.YtihcaopcfhbofaaX16
namespace Go.Proofs.Ytihcaopcfhbofaa.Fm
open Go.RowKit Go.Maps Mb
set_option linter.unusedVariables false
set_option maxRecDepth 100000
set_option linter.unusedSimpArgs false
section
variable {w w' W : World} {B : Nat}
structure So (w0 w : World) (kb : Nat) (s : Int × Int) (v : Value) (out : List (Int × Int)) : Prop where
  o : w.ownsRow (kb + 1) 70 2 v out.length (slCells out)
  b : Below w0.heap.size w0 w
  k : w.heap[kb]? = some (.cells (slotV s).toArray 70 (0, 0))
  g : w0.heap.size ≤ kb
theorem So.still {w0 : World} {kb : Nat} {s : Int × Int} {v : Value} {out : List (Int × Int)} (h : So w0 w kb s v out) (hb : Below w.heap.size w w') : So w0 w' kb s v out :=
  ⟨own_still h.o hb, bstep h.b hb, (hb.block _ (lt_heap h.k)).trans h.k, h.g⟩
theorem So.app {w0 : World} {kb : Nat} {s x : Int × Int} {v : Value} {out : List (Int × Int)} (h : So w0 w kb s v out) {ob : Obj} {w3 : World} {g cap n : Nat} (hn : out.length = n) (hown : w3.ownsRow (kb + 1) 70 2 (.slice (some ⟨g, 0, none⟩) (n + 1) cap) (n + 1) (slCells out ++ slotV x)) (hg : (w.alloc ob).grownBy w3 v.ownBlock) : So w0 w3 kb s (.slice (some ⟨g, 0, none⟩) (n + 1) cap) (out ++ [x]) := by
  have h1 : So w0 (w.alloc ob) kb s v out := h.still (balloc (Below.refl _ _))
  have K1 := Kept.ofGrown hg
  subst hn
  refine ⟨?_, h1.b.trans (K1.below h1.b.size (fun k hk e => ?_)), K1.obj h1.k (fun e => ?_), h.g⟩
  · rw [slCells_app, List.length_append]; exact hown
  · have := (row_cells h1.o e.symm).1
    have := h.g
    omega
  · have := (row_cells h1.o e.symm).1
    omega
theorem So.rng {w0 : World} {kb : Nat} {s : Int × Int} {v : Value} {out : List (Int × Int)} (h : So w0 w kb s v out) : w.rangeAt kb 0 [.int .i64 s.1, .int .i64 s.2] := blk_range h.k
set_option maxHeartbeats 4000000 in
theorem qsorted_any {ao : Option Addr} {cp : Nat} {l : List (Int × Int)} (hr : RdS w ao l) (hn : l.length ≤ 100000) (s : Int × Int) : Calls Try.prog 38 #[.slice ao l.length cp, .agg (slotV s).toArray] w fun e w' => ∃ a c, e = .returned (.slice a (insS l s).length c) ∧ w'.ownsRow w.heap.size 70 2 (.slice a (insS l s).length c) (insS l s).length (slCells (insS l s)) ∧ Below w.heap.size w w' := by
  have HR : Hid (RdS w ao l) := hr
  have HA := insO_all s l
  generalize hL : l.length = L at *
  have HLe : Hid (l.length = L) := hL
  have HAll : Hid ((if (insO l s L).2 then (insO l s L).1 else (insO l s L).1 ++ [s]) = insS l s) := HA
  have HLn : Hid (∀ i, (insO l s i).1.length ≤ i + 1) := fun i => (insO_len l s i).1
  obtain ⟨si, shi, shz0, shz1, shz2⟩ := slot_info
  generalize hW1 : w.alloc (.cells (slotV s).toArray 70) = W1
  have HS0 : Hid (So w W1 w.heap.size s (.slice none 0 0) []) := ⟨⟨rfl, .inl ⟨rfl, rfl⟩⟩, hW1 ▸ balloc (Below.refl _ _), by rw [← hW1]; exact heap_alloc_new w _, Nat.le_refl _⟩
  clear hr hL HA
  generalize (slotV s).toArray = ps at *
  go_enter Try.func38, Try.ntmps38
  go_wp2
  clear hW1
  generalize hkb : w.heap.size = kb at HS0
  have Hkb : Hid (w.heap.size = kb) := hkb
  try rw [hkb]
  clear hkb
  go_loopw [5, 6, 7] (fun ov pv i wr => ∃ c : Nat, c ≤ L ∧ i = .int .i64 c ∧ pv = .bool (insO l s c).2 ∧ So w wr kb s ov (insO l s c).1) (fun _ _ i _ => L - (intOf i).toNat)
  case atStart => exact ⟨0, Nat.zero_le _, rfl, rfl, HS0.out⟩
  case round =>
    obtain ⟨c, hc, rfl, rfl, hs⟩ := hrel
    have HS : Hid (So w wr kb s u5 (insO l s c).1) := hs
    clear hs HS0
    by_cases hlt : c < L
    · obtain ⟨b, off, rfl, hcc, hc0, hc1⟩ := (HR.out.still HS.out.b).at (i := c) (by rw [HLe.out]; exact hlt)
      have HC : Hid (wr.rangeAt b (off + c * 2) (slotV (l.getD c z2))) := hcc
      have HN : Hid (insO l s (c + 1) = if !(insO l s c).2 && ltS s (l.getD c z2) then ((insO l s c).1 ++ [s, l.getD c z2], true) else ((insO l s c).1 ++ [l.getD c z2], (insO l s c).2)) := rfl
      have Hb : Hid ((insO l s c).1.length ≤ c + 1) := HLn.out c
      have i1 : (0 : Int) ≤ (c : Int) := Int.natCast_nonneg _
      have i2 : (c : Int) < (L : Int) := by omega
      have k0 : wr.cell? ⟨kb, 0, none⟩ = some (.int .i64 s.1) := blk_cell HS.out.k 0
      have k1 : wr.cell? ⟨kb, 1, none⟩ = some (.int .i64 s.2) := blk_cell HS.out.k 1
      have HIX : Hid (∀ w', RdS w' (some ⟨b, off, none⟩) l → w'.rangeAt b (off + c * 2) [.int .i64 (l.getD c z2).1, .int .i64 (l.getD c z2).2]) := fun w' h => by
        obtain ⟨b', off', hb', h1, _⟩ := h.at (i := c) (by rw [HLe.out]; exact hlt)
        simp only [Option.some.injEq, Addr.mk.injEq, and_true] at hb'
        rw [hb'.1, hb'.2]
        exact h1
      generalize l.getD c z2 = x at *
      generalize hio : insO l s c = io at *
      obtain ⟨out, put⟩ := io
      clear hcc hio
      dsimp only at HN HS Hb
      have hb0 := Hb.out
      have Hr2 : Hid (wr.rangeAt b (off + c * 2) [.int .i64 x.1, .int .i64 x.2]) := HC.out
      clear HC
      cases put with
      | true =>
        simp only [Bool.not_true, Bool.false_and, if_neg (show ¬ (false = true) by simp)] at HN
        go_wp2
        refine wp_region_held_drew (S := (fun w' => w'.cell? ⟨kb, 0, none⟩ = some (.int .i64 s.1) ∧ w'.cell? ⟨kb, 1, none⟩ = some (.int .i64 s.2) ∧ w'.cell? ⟨b, off + c * 2, none⟩ = some (.int .i64 x.1) ∧ w'.cell? ⟨b, off + c * 2 + 1, none⟩ = some (.int .i64 x.2))) (by kernel_rfl) ⟨k0, k1, hc0, hc1⟩ (fun hHeld => ?_)
        simp only [Act.put, List.size_toArray, List.length_cons, List.length_nil, Nat.zero_add]
        refine wpAnyH_take (i := 0) (v := .bool true) rfl (by kernel_rfl) (by kernel_rfl) (by kernel_rfl) (fun _ _ _ h => h) (Or.inl ⟨by rfl, fun w' hS => by go_simp⟩) hHeld ?_
        simp only [Act.put, gA9, gZ9, gC9, sA9, sZ9, sC9]
        refine wpAnyH_take (i := 1) (v := .bool false) rfl (by kernel_rfl) (by kernel_rfl) (by kernel_rfl) (fun _ _ _ h => h) (Or.inl ⟨by rfl, fun w' hS => by go_simp⟩) hHeld ?_
        simp only [Act.put, gA9, gZ9, gC9, sA9, sZ9, sC9]
        refine wpAnyH_take (i := 2) (v := .bool false) rfl (by kernel_rfl) (by kernel_rfl) (by kernel_rfl) (fun _ _ _ h => h) (Or.inl ⟨by rfl, fun w' hS => by go_simp⟩) hHeld ?_
        simp only [Act.put, gA9, gZ9, gC9, sA9, sZ9, sC9]
        refine wpAnyH_take (i := 3) (v := undef) rfl (by kernel_rfl) (by kernel_rfl) (by kernel_rfl) (fun _ _ _ h => h) (Or.inr ⟨by rfl, rfl⟩) hHeld ?_
        simp only [Act.put, gA9, gZ9, gC9, sA9, sZ9, sC9]
        refine wpAnyH_take (i := 4) (v := undef) rfl (by kernel_rfl) (by kernel_rfl) (by kernel_rfl) (fun _ _ _ h => h) (Or.inr ⟨by rfl, rfl⟩) hHeld ?_
        simp only [Act.put, gA9, gZ9, gC9, sA9, sZ9, sC9]
        refine wpAnyH_take (i := 5) (v := undef) rfl (by kernel_rfl) (by kernel_rfl) (by kernel_rfl) (fun _ _ _ h => h) (Or.inr ⟨by rfl, rfl⟩) hHeld ?_
        simp only [Act.put, gA9, gZ9, gC9, sA9, sZ9, sC9]
        refine wpAnyH_take (i := 6) (v := undef) rfl (by kernel_rfl) (by kernel_rfl) (by kernel_rfl) (fun _ _ _ h => h) (Or.inr ⟨by rfl, rfl⟩) hHeld ?_
        simp only [Act.put, gA9, gZ9, gC9, sA9, sZ9, sC9]
        refine wpAnyH_take (i := 7) (v := undef) rfl (by kernel_rfl) (by kernel_rfl) (by kernel_rfl) (fun _ _ _ h => h) (Or.inr ⟨by rfl, rfl⟩) hHeld ?_
        simp only [Act.put, gA9, gZ9, gC9, sA9, sZ9, sC9]
        refine wpAnyH_take (i := 8) (v := undef) rfl (by kernel_rfl) (by kernel_rfl) (by kernel_rfl) (fun _ _ _ h => h) (Or.inr ⟨by rfl, rfl⟩) hHeld ?_
        simp only [Act.put, gA9, gZ9, gC9, sA9, sZ9, sC9]
        refine wpAnyH_take (i := 9) (v := undef) rfl (by kernel_rfl) (by kernel_rfl) (by kernel_rfl) (fun _ _ _ h => h) (Or.inr ⟨by rfl, rfl⟩) hHeld ?_
        simp only [Act.put, gA9, gZ9, gC9, sA9, sZ9, sC9]
        refine wpAnyH_take (i := 10) (v := undef) rfl (by kernel_rfl) (by kernel_rfl) (by kernel_rfl) (fun _ _ _ h => h) (Or.inr ⟨by rfl, rfl⟩) hHeld ?_
        simp only [Act.put, gA9, gZ9, gC9, sA9, sZ9, sC9]
        refine wpAnyH_take (i := 11) (v := undef) rfl (by kernel_rfl) (by kernel_rfl) (by kernel_rfl) (fun _ _ _ h => h) (Or.inr ⟨by rfl, rfl⟩) hHeld ?_
        simp only [Act.put, gA9, gZ9, gC9, sA9, sZ9, sC9]
        refine wpAnyH_take (i := 12) (v := undef) rfl (by kernel_rfl) (by kernel_rfl) (by kernel_rfl) (fun _ _ _ h => h) (Or.inr ⟨by rfl, rfl⟩) hHeld ?_
        simp only [Act.put, gA9, gZ9, gC9, sA9, sZ9, sC9]
        refine wpAnyH_take (i := 13) (v := undef) rfl (by kernel_rfl) (by kernel_rfl) (by kernel_rfl) (fun _ _ _ h => h) (Or.inr ⟨by rfl, rfl⟩) hHeld ?_
        simp only [Act.put, gA9, gZ9, gC9, sA9, sZ9, sC9]
        refine wpAnyH_take (i := 14) (v := undef) rfl (by kernel_rfl) (by kernel_rfl) (by kernel_rfl) (fun _ _ _ h => h) (Or.inr ⟨by rfl, rfl⟩) hHeld ?_
        simp only [Act.put, gA9, gZ9, gC9, sA9, sZ9, sC9]
        refine wpAnyH_take (i := 15) (v := undef) rfl (by kernel_rfl) (by kernel_rfl) (by kernel_rfl) (fun _ _ _ h => h) (Or.inr ⟨by rfl, rfl⟩) hHeld ?_
        simp only [Act.put, gA9, gZ9, gC9, sA9, sZ9, sC9]
        refine wpAnyH_take (i := 16) (v := undef) rfl (by kernel_rfl) (by kernel_rfl) (by kernel_rfl) (fun _ _ _ h => h) (Or.inr ⟨by rfl, rfl⟩) hHeld ?_
        simp only [Act.put, gA9, gZ9, gC9, sA9, sZ9, sC9]
        refine wpAnyH_take (i := 17) (v := undef) rfl (by kernel_rfl) (by kernel_rfl) (by kernel_rfl) (fun _ _ _ h => h) (Or.inr ⟨by rfl, rfl⟩) hHeld ?_
        simp only [Act.put, gA9, gZ9, gC9, sA9, sZ9, sC9]
        refine wpAnyH_take (i := 18) (v := undef) rfl (by kernel_rfl) (by kernel_rfl) (by kernel_rfl) (fun _ _ _ h => h) (Or.inr ⟨by rfl, rfl⟩) hHeld ?_
        simp only [Act.put, gA9, gZ9, gC9, sA9, sZ9, sC9]
        refine wpAnyH_take (i := 19) (v := undef) rfl (by kernel_rfl) (by kernel_rfl) (by kernel_rfl) (fun _ _ _ h => h) (Or.inr ⟨by rfl, rfl⟩) hHeld ?_
        simp only [Act.put, gA9, gZ9, gC9, sA9, sZ9, sC9]
        refine wpAnyH_take (i := 20) (v := undef) rfl (by kernel_rfl) (by kernel_rfl) (by kernel_rfl) (fun _ _ _ h => h) (Or.inr ⟨by rfl, rfl⟩) hHeld ?_
        simp only [Act.put, gA9, gZ9, gC9, sA9, sZ9, sC9]
        refine wpAnyH_take (i := 21) (v := undef) rfl (by kernel_rfl) (by kernel_rfl) (by kernel_rfl) (fun _ _ _ h => h) (Or.inr ⟨by rfl, rfl⟩) hHeld ?_
        simp only [Act.put, gA9, gZ9, gC9, sA9, sZ9, sC9]
        refine wpAnyH_take (i := 22) (v := undef) rfl (by kernel_rfl) (by kernel_rfl) (by kernel_rfl) (fun _ _ _ h => h) (Or.inr ⟨by rfl, rfl⟩) hHeld ?_
        simp only [Act.put, gA9, gZ9, gC9, sA9, sZ9, sC9]
        refine wpAnyH_take (i := 23) (v := undef) rfl (by kernel_rfl) (by kernel_rfl) (by kernel_rfl) (fun _ _ _ h => h) (Or.inr ⟨by rfl, rfl⟩) hHeld ?_
        simp only [Act.put, gA9, gZ9, gC9, sA9, sZ9, sC9]
        refine wpAnyH_take (i := 24) (v := undef) rfl (by kernel_rfl) (by kernel_rfl) (by kernel_rfl) (fun _ _ _ h => h) (Or.inr ⟨by rfl, rfl⟩) hHeld ?_
        simp only [Act.put, gA9, gZ9, gC9, sA9, sZ9, sC9]
        refine wpAnyH_take (i := 25) (v := undef) rfl (by kernel_rfl) (by kernel_rfl) (by kernel_rfl) (fun _ _ _ h => h) (Or.inr ⟨by rfl, rfl⟩) hHeld ?_
        simp only [Act.put, gA9, gZ9, gC9, sA9, sZ9, sC9]
        refine wpAnyH_take (i := 26) (v := undef) rfl (by kernel_rfl) (by kernel_rfl) (by kernel_rfl) (fun _ _ _ h => h) (Or.inr ⟨by rfl, rfl⟩) hHeld ?_
        simp only [Act.put, gA9, gZ9, gC9, sA9, sZ9, sC9]
        refine wpAnyH_take (i := 27) (v := undef) rfl (by kernel_rfl) (by kernel_rfl) (by kernel_rfl) (fun _ _ _ h => h) (Or.inr ⟨by rfl, rfl⟩) hHeld ?_
        simp only [Act.put, gA9, gZ9, gC9, sA9, sZ9, sC9]
        refine wpAnyH_take (i := 28) (v := undef) rfl (by kernel_rfl) (by kernel_rfl) (by kernel_rfl) (fun _ _ _ h => h) (Or.inr ⟨by rfl, rfl⟩) hHeld ?_
        simp only [Act.put, gA9, gZ9, gC9, sA9, sZ9, sC9]
        refine wpAnyH_take (i := 29) (v := undef) rfl (by kernel_rfl) (by kernel_rfl) (by kernel_rfl) (fun _ _ _ h => h) (Or.inr ⟨by rfl, rfl⟩) hHeld ?_
        simp only [Act.put, gA9, gZ9, gC9, sA9, sZ9, sC9]
        refine wpAnyH_take (i := 30) (v := undef) rfl (by kernel_rfl) (by kernel_rfl) (by kernel_rfl) (fun _ _ _ h => h) (Or.inr ⟨by rfl, rfl⟩) hHeld ?_
        simp only [Act.put, gA9, gZ9, gC9, sA9, sZ9, sC9]
        refine wpAnyH_take (i := 31) (v := .bool false) rfl (by kernel_rfl) (by kernel_rfl) (by kernel_rfl) (fun _ _ _ h => h) (Or.inl ⟨by rfl, fun w' hS => by go_simp⟩) hHeld ?_
        simp only [Act.put, gA9, gZ9, gC9, sA9, sZ9, sC9]
        refine wpAnyH_done (by kernel_rfl) ?_ _
        clear hHeld
        generalize hol : out.length = ol at *
        have Hol : Hid (out.length = ol) := hol
        have HSd : Hid (So w wr.drew kb s u5 out) := HS.out.still ((Below.refl _ _).drew)
        have HO : Hid (wr.drew.ownsRow (kb + 1) 70 2 u5 ol (slCells out)) := hol ▸ HSd.out.o
        have hkbs : kb + 1 ≤ wr.drew.heap.size := lt_heap HSd.out.k
        have Hr2d : Hid (wr.drew.rangeAt b (off + c * 2) [.int .i64 x.1, .int .i64 x.2]) := Hr2.out
        clear hol k0 k1 hc0 hc1 HS
        generalize wr.drew = D at *
        go_wp2_with (first
          | (refine load_mid 70 (.tmp 53) Hr2d.out _ Try.underlying70 rfl info_slot rfl rfl rfl ?_)
          | (at_builtin; refine wpList_append_lies _ rfl _ _ 25 rfl (kb + 1) 70 si (.agg #[.int .i64 0, .int .i64 0]) 2 16 Try.underlying25 shi shz0 shz1 shz2 rfl (by omega) u5 ol (slCells out) rfl (World.ownsRow.alloc HO.out _) _ 1 1 [.int .i64 x.1, .int .i64 x.2] rfl rfl (World.news_of_block (heap_alloc_new _ _)) (slotV_one x) (by omega) (by unfold maxLen; omega) (by omega) (by simp; omega) _ rfl ?_; intro g3 cap3 w3 hown3 hgrow3 hat3 hlt3)
          | fail)
        have hN := HSd.out.app Hol.out hown3 hgrow3
        exact ⟨⟨c + 1, by omega, by go_num, by rw [HN.out], by rw [HN.out]; exact hN⟩, by simp [intOf]; omega⟩
      | false =>
        cases hlt2 : ltS s x with
        | true =>
          simp only [hlt2, Bool.not_false, Bool.true_and, if_true] at HN
          rw [ltS_iff] at hlt2
          by_cases h1 : s.1 < x.1
          · clear hlt2
            go_wp2
            refine wp_region_held_drew (S := (fun w' => w'.cell? ⟨kb, 0, none⟩ = some (.int .i64 s.1) ∧ w'.cell? ⟨kb, 1, none⟩ = some (.int .i64 s.2) ∧ w'.cell? ⟨b, off + c * 2, none⟩ = some (.int .i64 x.1) ∧ w'.cell? ⟨b, off + c * 2 + 1, none⟩ = some (.int .i64 x.2))) (by kernel_rfl) ⟨k0, k1, hc0, hc1⟩ (fun hHeld => ?_)
            simp only [Act.put, List.size_toArray, List.length_cons, List.length_nil, Nat.zero_add]
            refine wpAnyH_take (i := 0) (v := .bool false) rfl (by kernel_rfl) (by kernel_rfl) (by kernel_rfl) (fun _ _ _ h => h) (Or.inl ⟨by rfl, fun w' hS => by go_simp⟩) hHeld ?_
            simp only [Act.put, gA9, gZ9, gC9, sA9, sZ9, sC9]
            refine wpAnyH_take (i := 1) (v := .bool true) rfl (by kernel_rfl) (by kernel_rfl) (by kernel_rfl) (fun _ _ _ h => h) (Or.inl ⟨by rfl, fun w' hS => by go_simp⟩) hHeld ?_
            simp only [Act.put, gA9, gZ9, gC9, sA9, sZ9, sC9]
            refine wpAnyH_take (i := 2) (v := .bool true) rfl (by kernel_rfl) (by kernel_rfl) (by kernel_rfl) (fun _ _ _ h => h) (Or.inl ⟨by rfl, fun w' hS => by go_simp⟩) hHeld ?_
            simp only [Act.put, gA9, gZ9, gC9, sA9, sZ9, sC9]
            refine wpAnyH_take (i := 3) (v := .pointer (some ⟨kb, 0, none⟩)) rfl (by kernel_rfl) (by kernel_rfl) (by kernel_rfl) (fun _ _ _ h => h) (Or.inl ⟨by rfl, fun w' hS => by go_simp⟩) hHeld ?_
            simp only [Act.put, gA9, gZ9, gC9, sA9, sZ9, sC9]
            refine wpAnyH_take (i := 4) (v := .int .i64 s.1) rfl (by kernel_rfl) (by kernel_rfl) (by kernel_rfl) (fun _ _ _ h => h) (Or.inl ⟨by rfl, fun w' hS => by (obtain ⟨s0, s1, s2, s3⟩ := hS; go_simp)⟩) hHeld ?_
            simp only [Act.put, gA9, gZ9, gC9, sA9, sZ9, sC9]
            refine wpAnyH_take (i := 5) (v := .slice (some ⟨b, off, none⟩) L cp) rfl (by kernel_rfl) (by kernel_rfl) (by kernel_rfl) (fun _ _ _ h => h) (Or.inl ⟨by rfl, fun w' hS => by go_simp⟩) hHeld ?_
            simp only [Act.put, gA9, gZ9, gC9, sA9, sZ9, sC9]
            refine wpAnyH_take (i := 6) (v := .int .i64 (c : Int)) rfl (by kernel_rfl) (by kernel_rfl) (by kernel_rfl) (fun _ _ _ h => h) (Or.inl ⟨by rfl, fun w' hS => by go_simp⟩) hHeld ?_
            simp only [Act.put, gA9, gZ9, gC9, sA9, sZ9, sC9]
            refine wpAnyH_take (i := 7) (v := .pointer (some ⟨b, off + c * 2, none⟩)) rfl (by kernel_rfl) (by kernel_rfl) (by kernel_rfl) (fun _ _ _ h => h) (Or.inl ⟨by rfl, fun w' hS => by go_simp⟩) hHeld ?_
            simp only [Act.put, gA9, gZ9, gC9, sA9, sZ9, sC9]
            refine wpAnyH_take (i := 8) (v := .pointer (some ⟨b, off + c * 2, none⟩)) rfl (by kernel_rfl) (by kernel_rfl) (by kernel_rfl) (fun _ _ _ h => h) (Or.inl ⟨by rfl, fun w' hS => by go_simp⟩) hHeld ?_
            simp only [Act.put, gA9, gZ9, gC9, sA9, sZ9, sC9]
            refine wpAnyH_take (i := 9) (v := .int .i64 x.1) rfl (by kernel_rfl) (by kernel_rfl) (by kernel_rfl) (fun _ _ _ h => h) (Or.inl ⟨by rfl, fun w' hS => by (obtain ⟨s0, s1, s2, s3⟩ := hS; go_simp)⟩) hHeld ?_
            simp only [Act.put, gA9, gZ9, gC9, sA9, sZ9, sC9]
            refine wpAnyH_take (i := 10) (v := .bool true) rfl (by kernel_rfl) (by kernel_rfl) (by kernel_rfl) (fun _ _ _ h => h) (Or.inl ⟨by rfl, fun w' hS => by first | (go_simp; done) | (go_simp; omega)⟩) hHeld ?_
            simp only [Act.put, gA9, gZ9, gC9, sA9, sZ9, sC9]
            refine wpAnyH_take (i := 11) (v := .bool true) rfl (by kernel_rfl) (by kernel_rfl) (by kernel_rfl) (fun _ _ _ h => h) (Or.inl ⟨by rfl, fun w' hS => by go_simp⟩) hHeld ?_
            simp only [Act.put, gA9, gZ9, gC9, sA9, sZ9, sC9]
            refine wpAnyH_take (i := 12) (v := undef) rfl (by kernel_rfl) (by kernel_rfl) (by kernel_rfl) (fun _ _ _ h => h) (Or.inr ⟨by rfl, rfl⟩) hHeld ?_
            simp only [Act.put, gA9, gZ9, gC9, sA9, sZ9, sC9]
            refine wpAnyH_take (i := 13) (v := undef) rfl (by kernel_rfl) (by kernel_rfl) (by kernel_rfl) (fun _ _ _ h => h) (Or.inr ⟨by rfl, rfl⟩) hHeld ?_
            simp only [Act.put, gA9, gZ9, gC9, sA9, sZ9, sC9]
            refine wpAnyH_take (i := 14) (v := undef) rfl (by kernel_rfl) (by kernel_rfl) (by kernel_rfl) (fun _ _ _ h => h) (Or.inr ⟨by rfl, rfl⟩) hHeld ?_
            simp only [Act.put, gA9, gZ9, gC9, sA9, sZ9, sC9]
            refine wpAnyH_take (i := 15) (v := undef) rfl (by kernel_rfl) (by kernel_rfl) (by kernel_rfl) (fun _ _ _ h => h) (Or.inr ⟨by rfl, rfl⟩) hHeld ?_
            simp only [Act.put, gA9, gZ9, gC9, sA9, sZ9, sC9]
            refine wpAnyH_take (i := 16) (v := undef) rfl (by kernel_rfl) (by kernel_rfl) (by kernel_rfl) (fun _ _ _ h => h) (Or.inr ⟨by rfl, rfl⟩) hHeld ?_
            simp only [Act.put, gA9, gZ9, gC9, sA9, sZ9, sC9]
            refine wpAnyH_take (i := 17) (v := undef) rfl (by kernel_rfl) (by kernel_rfl) (by kernel_rfl) (fun _ _ _ h => h) (Or.inr ⟨by rfl, rfl⟩) hHeld ?_
            simp only [Act.put, gA9, gZ9, gC9, sA9, sZ9, sC9]
            refine wpAnyH_take (i := 18) (v := undef) rfl (by kernel_rfl) (by kernel_rfl) (by kernel_rfl) (fun _ _ _ h => h) (Or.inr ⟨by rfl, rfl⟩) hHeld ?_
            simp only [Act.put, gA9, gZ9, gC9, sA9, sZ9, sC9]
            refine wpAnyH_take (i := 19) (v := undef) rfl (by kernel_rfl) (by kernel_rfl) (by kernel_rfl) (fun _ _ _ h => h) (Or.inr ⟨by rfl, rfl⟩) hHeld ?_
            simp only [Act.put, gA9, gZ9, gC9, sA9, sZ9, sC9]
            refine wpAnyH_take (i := 20) (v := undef) rfl (by kernel_rfl) (by kernel_rfl) (by kernel_rfl) (fun _ _ _ h => h) (Or.inr ⟨by rfl, rfl⟩) hHeld ?_
            simp only [Act.put, gA9, gZ9, gC9, sA9, sZ9, sC9]
            refine wpAnyH_take (i := 21) (v := undef) rfl (by kernel_rfl) (by kernel_rfl) (by kernel_rfl) (fun _ _ _ h => h) (Or.inr ⟨by rfl, rfl⟩) hHeld ?_
            simp only [Act.put, gA9, gZ9, gC9, sA9, sZ9, sC9]
            refine wpAnyH_take (i := 22) (v := undef) rfl (by kernel_rfl) (by kernel_rfl) (by kernel_rfl) (fun _ _ _ h => h) (Or.inr ⟨by rfl, rfl⟩) hHeld ?_
            simp only [Act.put, gA9, gZ9, gC9, sA9, sZ9, sC9]
            refine wpAnyH_take (i := 23) (v := undef) rfl (by kernel_rfl) (by kernel_rfl) (by kernel_rfl) (fun _ _ _ h => h) (Or.inr ⟨by rfl, rfl⟩) hHeld ?_
            simp only [Act.put, gA9, gZ9, gC9, sA9, sZ9, sC9]
            refine wpAnyH_take (i := 24) (v := undef) rfl (by kernel_rfl) (by kernel_rfl) (by kernel_rfl) (fun _ _ _ h => h) (Or.inr ⟨by rfl, rfl⟩) hHeld ?_
            simp only [Act.put, gA9, gZ9, gC9, sA9, sZ9, sC9]
            refine wpAnyH_take (i := 25) (v := undef) rfl (by kernel_rfl) (by kernel_rfl) (by kernel_rfl) (fun _ _ _ h => h) (Or.inr ⟨by rfl, rfl⟩) hHeld ?_
            simp only [Act.put, gA9, gZ9, gC9, sA9, sZ9, sC9]
            refine wpAnyH_take (i := 26) (v := undef) rfl (by kernel_rfl) (by kernel_rfl) (by kernel_rfl) (fun _ _ _ h => h) (Or.inr ⟨by rfl, rfl⟩) hHeld ?_
            simp only [Act.put, gA9, gZ9, gC9, sA9, sZ9, sC9]
            refine wpAnyH_take (i := 27) (v := undef) rfl (by kernel_rfl) (by kernel_rfl) (by kernel_rfl) (fun _ _ _ h => h) (Or.inr ⟨by rfl, rfl⟩) hHeld ?_
            simp only [Act.put, gA9, gZ9, gC9, sA9, sZ9, sC9]
            refine wpAnyH_take (i := 28) (v := undef) rfl (by kernel_rfl) (by kernel_rfl) (by kernel_rfl) (fun _ _ _ h => h) (Or.inr ⟨by rfl, rfl⟩) hHeld ?_
            simp only [Act.put, gA9, gZ9, gC9, sA9, sZ9, sC9]
            refine wpAnyH_take (i := 29) (v := undef) rfl (by kernel_rfl) (by kernel_rfl) (by kernel_rfl) (fun _ _ _ h => h) (Or.inr ⟨by rfl, rfl⟩) hHeld ?_
            simp only [Act.put, gA9, gZ9, gC9, sA9, sZ9, sC9]
            refine wpAnyH_take (i := 30) (v := .bool true) rfl (by kernel_rfl) (by kernel_rfl) (by kernel_rfl) (fun _ _ _ h => h) (Or.inl ⟨by rfl, fun w' hS => by go_simp⟩) hHeld ?_
            simp only [Act.put, gA9, gZ9, gC9, sA9, sZ9, sC9]
            refine wpAnyH_take (i := 31) (v := .bool true) rfl (by kernel_rfl) (by kernel_rfl) (by kernel_rfl) (fun _ _ _ h => h) (Or.inl ⟨by rfl, fun w' hS => by go_simp⟩) hHeld ?_
            simp only [Act.put, gA9, gZ9, gC9, sA9, sZ9, sC9]
            refine wpAnyH_done (by kernel_rfl) ?_ _
            clear hHeld
            generalize hol : out.length = ol at *
            have Hol : Hid (out.length = ol) := hol
            have HSd : Hid (So w wr.drew kb s u5 out) := HS.out.still ((Below.refl _ _).drew)
            have HO : Hid (wr.drew.ownsRow (kb + 1) 70 2 u5 ol (slCells out)) := hol ▸ HSd.out.o
            have hkbs : kb + 1 ≤ wr.drew.heap.size := lt_heap HSd.out.k
            have Hr1d : Hid (wr.drew.rangeAt kb 0 [.int .i64 s.1, .int .i64 s.2]) := HSd.out.rng
            have HRd : Hid (RdS w (some ⟨b, off, none⟩) l) := HR.out
            have Hix : Hid (∀ w', RdS w' (some ⟨b, off, none⟩) l → w'.rangeAt b (off + c * 2) [.int .i64 x.1, .int .i64 x.2]) := HIX.out
            clear hol k0 k1 hc0 hc1 HS
            generalize wr.drew = D at *
            go_wp2_with (first
              | (refine load_mid 70 (.tmp 3) Hr1d.out _ Try.underlying70 rfl info_slot rfl rfl rfl ?_)
              | (at_builtin; refine wpList_append_lies _ rfl _ _ 25 rfl (kb + 1) 70 si (.agg #[.int .i64 0, .int .i64 0]) 2 16 Try.underlying25 shi shz0 shz1 shz2 rfl (by omega) u5 ol (slCells out) rfl (World.ownsRow.alloc HO.out _) _ 1 1 [.int .i64 s.1, .int .i64 s.2] rfl rfl (World.news_of_block (heap_alloc_new _ _)) (slotV_one s) (by omega) (by unfold maxLen; omega) (by omega) (by simp; omega) _ rfl ?_; intro g2 cap2 w2 hown2 hgrow2 hat2 hlt2; have hM := HSd.out.app Hol.out hown2 hgrow2; have HM : Hid (So w w2 kb s (.slice (some ⟨g2, 0, none⟩) (ol + 1) cap2) (out ++ [s])) := hM; have HM2 : Hid (w2.rangeAt b (off + c * 2) [.int .i64 x.1, .int .i64 x.2]) := Hix.out _ (HRd.out.still hM.b); have HO2 : Hid (w2.ownsRow (kb + 1) 70 2 (.slice (some ⟨g2, 0, none⟩) (ol + 1) cap2) (ol + 1) (slCells (out ++ [s]))) := (show w2.ownsRow (kb + 1) 70 2 (.slice (some ⟨g2, 0, none⟩) (ol + 1) cap2) (ol + 1) (slCells (out ++ [s])) from by rw [slCells_app]; exact hown2); have hkb2 : kb + 1 ≤ w2.heap.size := lt_heap hM.k; clear hM hown2 hgrow2 hat2 hlt2)
              | (refine load_mid 70 (.tmp 53) HM2.out _ Try.underlying70 rfl info_slot rfl rfl rfl ?_)
              | (at_builtin; refine wpList_append_lies _ rfl _ _ 25 rfl (kb + 1) 70 si (.agg #[.int .i64 0, .int .i64 0]) 2 16 Try.underlying25 shi shz0 shz1 shz2 rfl (by omega) (.slice (some ⟨g2, 0, none⟩) (ol + 1) cap2) (ol + 1) (slCells (out ++ [s])) rfl (World.ownsRow.alloc HO2.out _) _ 1 1 [.int .i64 x.1, .int .i64 x.2] rfl rfl (World.news_of_block (heap_alloc_new _ _)) (slotV_one x) (by omega) (by unfold maxLen; omega) (by omega) (by simp; omega) _ rfl ?_; intro g3 cap3 w3 hown3 hgrow3 hat3 hlt3)
              | fail)
            have hN := HM.out.app (by rw [List.length_append, Hol.out]; rfl) hown3 hgrow3
            rw [List.append_assoc] at hN
            exact ⟨⟨c + 1, by omega, by go_num, by rw [HN.out], by rw [HN.out]; exact hN⟩, by simp [intOf]; omega⟩
          · have h2 : s.1 = x.1 := by omega
            have h3 : s.2 < x.2 := by omega
            have h2' : (s.1 == x.1) = true := by simpa using h2
            clear hlt2
            go_wp2
            refine wp_region_held_drew (S := (fun w' => w'.cell? ⟨kb, 0, none⟩ = some (.int .i64 s.1) ∧ w'.cell? ⟨kb, 1, none⟩ = some (.int .i64 s.2) ∧ w'.cell? ⟨b, off + c * 2, none⟩ = some (.int .i64 x.1) ∧ w'.cell? ⟨b, off + c * 2 + 1, none⟩ = some (.int .i64 x.2))) (by kernel_rfl) ⟨k0, k1, hc0, hc1⟩ (fun hHeld => ?_)
            simp only [Act.put, List.size_toArray, List.length_cons, List.length_nil, Nat.zero_add]
            refine wpAnyH_take (i := 0) (v := .bool false) rfl (by kernel_rfl) (by kernel_rfl) (by kernel_rfl) (fun _ _ _ h => h) (Or.inl ⟨by rfl, fun w' hS => by go_simp⟩) hHeld ?_
            simp only [Act.put, gA9, gZ9, gC9, sA9, sZ9, sC9]
            refine wpAnyH_take (i := 1) (v := .bool true) rfl (by kernel_rfl) (by kernel_rfl) (by kernel_rfl) (fun _ _ _ h => h) (Or.inl ⟨by rfl, fun w' hS => by go_simp⟩) hHeld ?_
            simp only [Act.put, gA9, gZ9, gC9, sA9, sZ9, sC9]
            refine wpAnyH_take (i := 2) (v := .bool true) rfl (by kernel_rfl) (by kernel_rfl) (by kernel_rfl) (fun _ _ _ h => h) (Or.inl ⟨by rfl, fun w' hS => by go_simp⟩) hHeld ?_
            simp only [Act.put, gA9, gZ9, gC9, sA9, sZ9, sC9]
            refine wpAnyH_take (i := 3) (v := .pointer (some ⟨kb, 0, none⟩)) rfl (by kernel_rfl) (by kernel_rfl) (by kernel_rfl) (fun _ _ _ h => h) (Or.inl ⟨by rfl, fun w' hS => by go_simp⟩) hHeld ?_
            simp only [Act.put, gA9, gZ9, gC9, sA9, sZ9, sC9]
            refine wpAnyH_take (i := 4) (v := .int .i64 s.1) rfl (by kernel_rfl) (by kernel_rfl) (by kernel_rfl) (fun _ _ _ h => h) (Or.inl ⟨by rfl, fun w' hS => by (obtain ⟨s0, s1, s2, s3⟩ := hS; go_simp)⟩) hHeld ?_
            simp only [Act.put, gA9, gZ9, gC9, sA9, sZ9, sC9]
            refine wpAnyH_take (i := 5) (v := .slice (some ⟨b, off, none⟩) L cp) rfl (by kernel_rfl) (by kernel_rfl) (by kernel_rfl) (fun _ _ _ h => h) (Or.inl ⟨by rfl, fun w' hS => by go_simp⟩) hHeld ?_
            simp only [Act.put, gA9, gZ9, gC9, sA9, sZ9, sC9]
            refine wpAnyH_take (i := 6) (v := .int .i64 (c : Int)) rfl (by kernel_rfl) (by kernel_rfl) (by kernel_rfl) (fun _ _ _ h => h) (Or.inl ⟨by rfl, fun w' hS => by go_simp⟩) hHeld ?_
            simp only [Act.put, gA9, gZ9, gC9, sA9, sZ9, sC9]
            refine wpAnyH_take (i := 7) (v := .pointer (some ⟨b, off + c * 2, none⟩)) rfl (by kernel_rfl) (by kernel_rfl) (by kernel_rfl) (fun _ _ _ h => h) (Or.inl ⟨by rfl, fun w' hS => by go_simp⟩) hHeld ?_
            simp only [Act.put, gA9, gZ9, gC9, sA9, sZ9, sC9]
            refine wpAnyH_take (i := 8) (v := .pointer (some ⟨b, off + c * 2, none⟩)) rfl (by kernel_rfl) (by kernel_rfl) (by kernel_rfl) (fun _ _ _ h => h) (Or.inl ⟨by rfl, fun w' hS => by go_simp⟩) hHeld ?_
            simp only [Act.put, gA9, gZ9, gC9, sA9, sZ9, sC9]
            refine wpAnyH_take (i := 9) (v := .int .i64 x.1) rfl (by kernel_rfl) (by kernel_rfl) (by kernel_rfl) (fun _ _ _ h => h) (Or.inl ⟨by rfl, fun w' hS => by (obtain ⟨s0, s1, s2, s3⟩ := hS; go_simp)⟩) hHeld ?_
            simp only [Act.put, gA9, gZ9, gC9, sA9, sZ9, sC9]
            refine wpAnyH_take (i := 10) (v := .bool false) rfl (by kernel_rfl) (by kernel_rfl) (by kernel_rfl) (fun _ _ _ h => h) (Or.inl ⟨by rfl, fun w' hS => by first | (go_simp; done) | (go_simp; omega)⟩) hHeld ?_
            simp only [Act.put, gA9, gZ9, gC9, sA9, sZ9, sC9]
            refine wpAnyH_take (i := 11) (v := .bool false) rfl (by kernel_rfl) (by kernel_rfl) (by kernel_rfl) (fun _ _ _ h => h) (Or.inl ⟨by rfl, fun w' hS => by go_simp⟩) hHeld ?_
            simp only [Act.put, gA9, gZ9, gC9, sA9, sZ9, sC9]
            refine wpAnyH_take (i := 12) (v := .pointer (some ⟨kb, 0, none⟩)) rfl (by kernel_rfl) (by kernel_rfl) (by kernel_rfl) (fun _ _ _ h => h) (Or.inl ⟨by rfl, fun w' hS => by go_simp⟩) hHeld ?_
            simp only [Act.put, gA9, gZ9, gC9, sA9, sZ9, sC9]
            refine wpAnyH_take (i := 13) (v := .int .i64 s.1) rfl (by kernel_rfl) (by kernel_rfl) (by kernel_rfl) (fun _ _ _ h => h) (Or.inl ⟨by rfl, fun w' hS => by (obtain ⟨s0, s1, s2, s3⟩ := hS; go_simp)⟩) hHeld ?_
            simp only [Act.put, gA9, gZ9, gC9, sA9, sZ9, sC9]
            refine wpAnyH_take (i := 14) (v := .slice (some ⟨b, off, none⟩) L cp) rfl (by kernel_rfl) (by kernel_rfl) (by kernel_rfl) (fun _ _ _ h => h) (Or.inl ⟨by rfl, fun w' hS => by go_simp⟩) hHeld ?_
            simp only [Act.put, gA9, gZ9, gC9, sA9, sZ9, sC9]
            refine wpAnyH_take (i := 15) (v := .int .i64 (c : Int)) rfl (by kernel_rfl) (by kernel_rfl) (by kernel_rfl) (fun _ _ _ h => h) (Or.inl ⟨by rfl, fun w' hS => by go_simp⟩) hHeld ?_
            simp only [Act.put, gA9, gZ9, gC9, sA9, sZ9, sC9]
            refine wpAnyH_take (i := 16) (v := .pointer (some ⟨b, off + c * 2, none⟩)) rfl (by kernel_rfl) (by kernel_rfl) (by kernel_rfl) (fun _ _ _ h => h) (Or.inl ⟨by rfl, fun w' hS => by go_simp⟩) hHeld ?_
            simp only [Act.put, gA9, gZ9, gC9, sA9, sZ9, sC9]
            refine wpAnyH_take (i := 17) (v := .pointer (some ⟨b, off + c * 2, none⟩)) rfl (by kernel_rfl) (by kernel_rfl) (by kernel_rfl) (fun _ _ _ h => h) (Or.inl ⟨by rfl, fun w' hS => by go_simp⟩) hHeld ?_
            simp only [Act.put, gA9, gZ9, gC9, sA9, sZ9, sC9]
            refine wpAnyH_take (i := 18) (v := .int .i64 x.1) rfl (by kernel_rfl) (by kernel_rfl) (by kernel_rfl) (fun _ _ _ h => h) (Or.inl ⟨by rfl, fun w' hS => by (obtain ⟨s0, s1, s2, s3⟩ := hS; go_simp)⟩) hHeld ?_
            simp only [Act.put, gA9, gZ9, gC9, sA9, sZ9, sC9]
            refine wpAnyH_take (i := 19) (v := .bool true) rfl (by kernel_rfl) (by kernel_rfl) (by kernel_rfl) (fun _ _ _ h => h) (Or.inl ⟨by rfl, fun w' hS => by first | (go_simp; done) | (go_simp; omega)⟩) hHeld ?_
            simp only [Act.put, gA9, gZ9, gC9, sA9, sZ9, sC9]
            refine wpAnyH_take (i := 20) (v := .bool true) rfl (by kernel_rfl) (by kernel_rfl) (by kernel_rfl) (fun _ _ _ h => h) (Or.inl ⟨by rfl, fun w' hS => by go_simp⟩) hHeld ?_
            simp only [Act.put, gA9, gZ9, gC9, sA9, sZ9, sC9]
            refine wpAnyH_take (i := 21) (v := .pointer (some ⟨kb, 1, none⟩)) rfl (by kernel_rfl) (by kernel_rfl) (by kernel_rfl) (fun _ _ _ h => h) (Or.inl ⟨by rfl, fun w' hS => by go_simp⟩) hHeld ?_
            simp only [Act.put, gA9, gZ9, gC9, sA9, sZ9, sC9]
            refine wpAnyH_take (i := 22) (v := .int .i64 s.2) rfl (by kernel_rfl) (by kernel_rfl) (by kernel_rfl) (fun _ _ _ h => h) (Or.inl ⟨by rfl, fun w' hS => by (obtain ⟨s0, s1, s2, s3⟩ := hS; go_simp)⟩) hHeld ?_
            simp only [Act.put, gA9, gZ9, gC9, sA9, sZ9, sC9]
            refine wpAnyH_take (i := 23) (v := .slice (some ⟨b, off, none⟩) L cp) rfl (by kernel_rfl) (by kernel_rfl) (by kernel_rfl) (fun _ _ _ h => h) (Or.inl ⟨by rfl, fun w' hS => by go_simp⟩) hHeld ?_
            simp only [Act.put, gA9, gZ9, gC9, sA9, sZ9, sC9]
            refine wpAnyH_take (i := 24) (v := .int .i64 (c : Int)) rfl (by kernel_rfl) (by kernel_rfl) (by kernel_rfl) (fun _ _ _ h => h) (Or.inl ⟨by rfl, fun w' hS => by go_simp⟩) hHeld ?_
            simp only [Act.put, gA9, gZ9, gC9, sA9, sZ9, sC9]
            refine wpAnyH_take (i := 25) (v := .pointer (some ⟨b, off + c * 2, none⟩)) rfl (by kernel_rfl) (by kernel_rfl) (by kernel_rfl) (fun _ _ _ h => h) (Or.inl ⟨by rfl, fun w' hS => by go_simp⟩) hHeld ?_
            simp only [Act.put, gA9, gZ9, gC9, sA9, sZ9, sC9]
            refine wpAnyH_take (i := 26) (v := .pointer (some ⟨b, off + c * 2 + 1, none⟩)) rfl (by kernel_rfl) (by kernel_rfl) (by kernel_rfl) (fun _ _ _ h => h) (Or.inl ⟨by rfl, fun w' hS => by go_simp⟩) hHeld ?_
            simp only [Act.put, gA9, gZ9, gC9, sA9, sZ9, sC9]
            refine wpAnyH_take (i := 27) (v := .int .i64 x.2) rfl (by kernel_rfl) (by kernel_rfl) (by kernel_rfl) (fun _ _ _ h => h) (Or.inl ⟨by rfl, fun w' hS => by (obtain ⟨s0, s1, s2, s3⟩ := hS; go_simp)⟩) hHeld ?_
            simp only [Act.put, gA9, gZ9, gC9, sA9, sZ9, sC9]
            refine wpAnyH_take (i := 28) (v := .bool true) rfl (by kernel_rfl) (by kernel_rfl) (by kernel_rfl) (fun _ _ _ h => h) (Or.inl ⟨by rfl, fun w' hS => by first | (go_simp; done) | (go_simp; omega)⟩) hHeld ?_
            simp only [Act.put, gA9, gZ9, gC9, sA9, sZ9, sC9]
            refine wpAnyH_take (i := 29) (v := .bool true) rfl (by kernel_rfl) (by kernel_rfl) (by kernel_rfl) (fun _ _ _ h => h) (Or.inl ⟨by rfl, fun w' hS => by go_simp⟩) hHeld ?_
            simp only [Act.put, gA9, gZ9, gC9, sA9, sZ9, sC9]
            refine wpAnyH_take (i := 30) (v := .bool true) rfl (by kernel_rfl) (by kernel_rfl) (by kernel_rfl) (fun _ _ _ h => h) (Or.inl ⟨by rfl, fun w' hS => by go_simp⟩) hHeld ?_
            simp only [Act.put, gA9, gZ9, gC9, sA9, sZ9, sC9]
            refine wpAnyH_take (i := 31) (v := .bool true) rfl (by kernel_rfl) (by kernel_rfl) (by kernel_rfl) (fun _ _ _ h => h) (Or.inl ⟨by rfl, fun w' hS => by go_simp⟩) hHeld ?_
            simp only [Act.put, gA9, gZ9, gC9, sA9, sZ9, sC9]
            refine wpAnyH_done (by kernel_rfl) ?_ _
            clear hHeld
            clear h2 h2'
            generalize hol : out.length = ol at *
            have Hol : Hid (out.length = ol) := hol
            have HSd : Hid (So w wr.drew kb s u5 out) := HS.out.still ((Below.refl _ _).drew)
            have HO : Hid (wr.drew.ownsRow (kb + 1) 70 2 u5 ol (slCells out)) := hol ▸ HSd.out.o
            have hkbs : kb + 1 ≤ wr.drew.heap.size := lt_heap HSd.out.k
            have Hr1d : Hid (wr.drew.rangeAt kb 0 [.int .i64 s.1, .int .i64 s.2]) := HSd.out.rng
            have HRd : Hid (RdS w (some ⟨b, off, none⟩) l) := HR.out
            have Hix : Hid (∀ w', RdS w' (some ⟨b, off, none⟩) l → w'.rangeAt b (off + c * 2) [.int .i64 x.1, .int .i64 x.2]) := HIX.out
            clear hol k0 k1 hc0 hc1 HS
            generalize wr.drew = D at *
            go_wp2_with (first
              | (refine load_mid 70 (.tmp 3) Hr1d.out _ Try.underlying70 rfl info_slot rfl rfl rfl ?_)
              | (at_builtin; refine wpList_append_lies _ rfl _ _ 25 rfl (kb + 1) 70 si (.agg #[.int .i64 0, .int .i64 0]) 2 16 Try.underlying25 shi shz0 shz1 shz2 rfl (by omega) u5 ol (slCells out) rfl (World.ownsRow.alloc HO.out _) _ 1 1 [.int .i64 s.1, .int .i64 s.2] rfl rfl (World.news_of_block (heap_alloc_new _ _)) (slotV_one s) (by omega) (by unfold maxLen; omega) (by omega) (by simp; omega) _ rfl ?_; intro g2 cap2 w2 hown2 hgrow2 hat2 hlt2; have hM := HSd.out.app Hol.out hown2 hgrow2; have HM : Hid (So w w2 kb s (.slice (some ⟨g2, 0, none⟩) (ol + 1) cap2) (out ++ [s])) := hM; have HM2 : Hid (w2.rangeAt b (off + c * 2) [.int .i64 x.1, .int .i64 x.2]) := Hix.out _ (HRd.out.still hM.b); have HO2 : Hid (w2.ownsRow (kb + 1) 70 2 (.slice (some ⟨g2, 0, none⟩) (ol + 1) cap2) (ol + 1) (slCells (out ++ [s]))) := (show w2.ownsRow (kb + 1) 70 2 (.slice (some ⟨g2, 0, none⟩) (ol + 1) cap2) (ol + 1) (slCells (out ++ [s])) from by rw [slCells_app]; exact hown2); have hkb2 : kb + 1 ≤ w2.heap.size := lt_heap hM.k; clear hM hown2 hgrow2 hat2 hlt2)
              | (refine load_mid 70 (.tmp 53) HM2.out _ Try.underlying70 rfl info_slot rfl rfl rfl ?_)
              | (at_builtin; refine wpList_append_lies _ rfl _ _ 25 rfl (kb + 1) 70 si (.agg #[.int .i64 0, .int .i64 0]) 2 16 Try.underlying25 shi shz0 shz1 shz2 rfl (by omega) (.slice (some ⟨g2, 0, none⟩) (ol + 1) cap2) (ol + 1) (slCells (out ++ [s])) rfl (World.ownsRow.alloc HO2.out _) _ 1 1 [.int .i64 x.1, .int .i64 x.2] rfl rfl (World.news_of_block (heap_alloc_new _ _)) (slotV_one x) (by omega) (by unfold maxLen; omega) (by omega) (by simp; omega) _ rfl ?_; intro g3 cap3 w3 hown3 hgrow3 hat3 hlt3)
              | fail)
            have hN := HM.out.app (by rw [List.length_append, Hol.out]; rfl) hown3 hgrow3
            rw [List.append_assoc] at hN
            exact ⟨⟨c + 1, by omega, by go_num, by rw [HN.out], by rw [HN.out]; exact hN⟩, by simp [intOf]; omega⟩
        | false =>
          simp only [hlt2, Bool.not_false, Bool.true_and, if_neg (show ¬ (false = true) by simp)] at HN
          rw [ltS_not] at hlt2
          have h1 : ¬ s.1 < x.1 := by omega
          by_cases h2 : s.1 = x.1
          · have h3 : ¬ s.2 < x.2 := by omega
            have h2' : (s.1 == x.1) = true := by simpa using h2
            clear hlt2
            go_wp2
            refine wp_region_held_drew (S := (fun w' => w'.cell? ⟨kb, 0, none⟩ = some (.int .i64 s.1) ∧ w'.cell? ⟨kb, 1, none⟩ = some (.int .i64 s.2) ∧ w'.cell? ⟨b, off + c * 2, none⟩ = some (.int .i64 x.1) ∧ w'.cell? ⟨b, off + c * 2 + 1, none⟩ = some (.int .i64 x.2))) (by kernel_rfl) ⟨k0, k1, hc0, hc1⟩ (fun hHeld => ?_)
            simp only [Act.put, List.size_toArray, List.length_cons, List.length_nil, Nat.zero_add]
            refine wpAnyH_take (i := 0) (v := .bool false) rfl (by kernel_rfl) (by kernel_rfl) (by kernel_rfl) (fun _ _ _ h => h) (Or.inl ⟨by rfl, fun w' hS => by go_simp⟩) hHeld ?_
            simp only [Act.put, gA9, gZ9, gC9, sA9, sZ9, sC9]
            refine wpAnyH_take (i := 1) (v := .bool true) rfl (by kernel_rfl) (by kernel_rfl) (by kernel_rfl) (fun _ _ _ h => h) (Or.inl ⟨by rfl, fun w' hS => by go_simp⟩) hHeld ?_
            simp only [Act.put, gA9, gZ9, gC9, sA9, sZ9, sC9]
            refine wpAnyH_take (i := 2) (v := .bool true) rfl (by kernel_rfl) (by kernel_rfl) (by kernel_rfl) (fun _ _ _ h => h) (Or.inl ⟨by rfl, fun w' hS => by go_simp⟩) hHeld ?_
            simp only [Act.put, gA9, gZ9, gC9, sA9, sZ9, sC9]
            refine wpAnyH_take (i := 3) (v := .pointer (some ⟨kb, 0, none⟩)) rfl (by kernel_rfl) (by kernel_rfl) (by kernel_rfl) (fun _ _ _ h => h) (Or.inl ⟨by rfl, fun w' hS => by go_simp⟩) hHeld ?_
            simp only [Act.put, gA9, gZ9, gC9, sA9, sZ9, sC9]
            refine wpAnyH_take (i := 4) (v := .int .i64 s.1) rfl (by kernel_rfl) (by kernel_rfl) (by kernel_rfl) (fun _ _ _ h => h) (Or.inl ⟨by rfl, fun w' hS => by (obtain ⟨s0, s1, s2, s3⟩ := hS; go_simp)⟩) hHeld ?_
            simp only [Act.put, gA9, gZ9, gC9, sA9, sZ9, sC9]
            refine wpAnyH_take (i := 5) (v := .slice (some ⟨b, off, none⟩) L cp) rfl (by kernel_rfl) (by kernel_rfl) (by kernel_rfl) (fun _ _ _ h => h) (Or.inl ⟨by rfl, fun w' hS => by go_simp⟩) hHeld ?_
            simp only [Act.put, gA9, gZ9, gC9, sA9, sZ9, sC9]
            refine wpAnyH_take (i := 6) (v := .int .i64 (c : Int)) rfl (by kernel_rfl) (by kernel_rfl) (by kernel_rfl) (fun _ _ _ h => h) (Or.inl ⟨by rfl, fun w' hS => by go_simp⟩) hHeld ?_
            simp only [Act.put, gA9, gZ9, gC9, sA9, sZ9, sC9]
            refine wpAnyH_take (i := 7) (v := .pointer (some ⟨b, off + c * 2, none⟩)) rfl (by kernel_rfl) (by kernel_rfl) (by kernel_rfl) (fun _ _ _ h => h) (Or.inl ⟨by rfl, fun w' hS => by go_simp⟩) hHeld ?_
            simp only [Act.put, gA9, gZ9, gC9, sA9, sZ9, sC9]
            refine wpAnyH_take (i := 8) (v := .pointer (some ⟨b, off + c * 2, none⟩)) rfl (by kernel_rfl) (by kernel_rfl) (by kernel_rfl) (fun _ _ _ h => h) (Or.inl ⟨by rfl, fun w' hS => by go_simp⟩) hHeld ?_
            simp only [Act.put, gA9, gZ9, gC9, sA9, sZ9, sC9]
            refine wpAnyH_take (i := 9) (v := .int .i64 x.1) rfl (by kernel_rfl) (by kernel_rfl) (by kernel_rfl) (fun _ _ _ h => h) (Or.inl ⟨by rfl, fun w' hS => by (obtain ⟨s0, s1, s2, s3⟩ := hS; go_simp)⟩) hHeld ?_
            simp only [Act.put, gA9, gZ9, gC9, sA9, sZ9, sC9]
            refine wpAnyH_take (i := 10) (v := .bool false) rfl (by kernel_rfl) (by kernel_rfl) (by kernel_rfl) (fun _ _ _ h => h) (Or.inl ⟨by rfl, fun w' hS => by first | (go_simp; done) | (go_simp; omega)⟩) hHeld ?_
            simp only [Act.put, gA9, gZ9, gC9, sA9, sZ9, sC9]
            refine wpAnyH_take (i := 11) (v := .bool false) rfl (by kernel_rfl) (by kernel_rfl) (by kernel_rfl) (fun _ _ _ h => h) (Or.inl ⟨by rfl, fun w' hS => by go_simp⟩) hHeld ?_
            simp only [Act.put, gA9, gZ9, gC9, sA9, sZ9, sC9]
            refine wpAnyH_take (i := 12) (v := .pointer (some ⟨kb, 0, none⟩)) rfl (by kernel_rfl) (by kernel_rfl) (by kernel_rfl) (fun _ _ _ h => h) (Or.inl ⟨by rfl, fun w' hS => by go_simp⟩) hHeld ?_
            simp only [Act.put, gA9, gZ9, gC9, sA9, sZ9, sC9]
            refine wpAnyH_take (i := 13) (v := .int .i64 s.1) rfl (by kernel_rfl) (by kernel_rfl) (by kernel_rfl) (fun _ _ _ h => h) (Or.inl ⟨by rfl, fun w' hS => by (obtain ⟨s0, s1, s2, s3⟩ := hS; go_simp)⟩) hHeld ?_
            simp only [Act.put, gA9, gZ9, gC9, sA9, sZ9, sC9]
            refine wpAnyH_take (i := 14) (v := .slice (some ⟨b, off, none⟩) L cp) rfl (by kernel_rfl) (by kernel_rfl) (by kernel_rfl) (fun _ _ _ h => h) (Or.inl ⟨by rfl, fun w' hS => by go_simp⟩) hHeld ?_
            simp only [Act.put, gA9, gZ9, gC9, sA9, sZ9, sC9]
            refine wpAnyH_take (i := 15) (v := .int .i64 (c : Int)) rfl (by kernel_rfl) (by kernel_rfl) (by kernel_rfl) (fun _ _ _ h => h) (Or.inl ⟨by rfl, fun w' hS => by go_simp⟩) hHeld ?_
            simp only [Act.put, gA9, gZ9, gC9, sA9, sZ9, sC9]
            refine wpAnyH_take (i := 16) (v := .pointer (some ⟨b, off + c * 2, none⟩)) rfl (by kernel_rfl) (by kernel_rfl) (by kernel_rfl) (fun _ _ _ h => h) (Or.inl ⟨by rfl, fun w' hS => by go_simp⟩) hHeld ?_
            simp only [Act.put, gA9, gZ9, gC9, sA9, sZ9, sC9]
            refine wpAnyH_take (i := 17) (v := .pointer (some ⟨b, off + c * 2, none⟩)) rfl (by kernel_rfl) (by kernel_rfl) (by kernel_rfl) (fun _ _ _ h => h) (Or.inl ⟨by rfl, fun w' hS => by go_simp⟩) hHeld ?_
            simp only [Act.put, gA9, gZ9, gC9, sA9, sZ9, sC9]
            refine wpAnyH_take (i := 18) (v := .int .i64 x.1) rfl (by kernel_rfl) (by kernel_rfl) (by kernel_rfl) (fun _ _ _ h => h) (Or.inl ⟨by rfl, fun w' hS => by (obtain ⟨s0, s1, s2, s3⟩ := hS; go_simp)⟩) hHeld ?_
            simp only [Act.put, gA9, gZ9, gC9, sA9, sZ9, sC9]
            refine wpAnyH_take (i := 19) (v := .bool true) rfl (by kernel_rfl) (by kernel_rfl) (by kernel_rfl) (fun _ _ _ h => h) (Or.inl ⟨by rfl, fun w' hS => by first | (go_simp; done) | (go_simp; omega)⟩) hHeld ?_
            simp only [Act.put, gA9, gZ9, gC9, sA9, sZ9, sC9]
            refine wpAnyH_take (i := 20) (v := .bool true) rfl (by kernel_rfl) (by kernel_rfl) (by kernel_rfl) (fun _ _ _ h => h) (Or.inl ⟨by rfl, fun w' hS => by go_simp⟩) hHeld ?_
            simp only [Act.put, gA9, gZ9, gC9, sA9, sZ9, sC9]
            refine wpAnyH_take (i := 21) (v := .pointer (some ⟨kb, 1, none⟩)) rfl (by kernel_rfl) (by kernel_rfl) (by kernel_rfl) (fun _ _ _ h => h) (Or.inl ⟨by rfl, fun w' hS => by go_simp⟩) hHeld ?_
            simp only [Act.put, gA9, gZ9, gC9, sA9, sZ9, sC9]
            refine wpAnyH_take (i := 22) (v := .int .i64 s.2) rfl (by kernel_rfl) (by kernel_rfl) (by kernel_rfl) (fun _ _ _ h => h) (Or.inl ⟨by rfl, fun w' hS => by (obtain ⟨s0, s1, s2, s3⟩ := hS; go_simp)⟩) hHeld ?_
            simp only [Act.put, gA9, gZ9, gC9, sA9, sZ9, sC9]
            refine wpAnyH_take (i := 23) (v := .slice (some ⟨b, off, none⟩) L cp) rfl (by kernel_rfl) (by kernel_rfl) (by kernel_rfl) (fun _ _ _ h => h) (Or.inl ⟨by rfl, fun w' hS => by go_simp⟩) hHeld ?_
            simp only [Act.put, gA9, gZ9, gC9, sA9, sZ9, sC9]
            refine wpAnyH_take (i := 24) (v := .int .i64 (c : Int)) rfl (by kernel_rfl) (by kernel_rfl) (by kernel_rfl) (fun _ _ _ h => h) (Or.inl ⟨by rfl, fun w' hS => by go_simp⟩) hHeld ?_
            simp only [Act.put, gA9, gZ9, gC9, sA9, sZ9, sC9]
            refine wpAnyH_take (i := 25) (v := .pointer (some ⟨b, off + c * 2, none⟩)) rfl (by kernel_rfl) (by kernel_rfl) (by kernel_rfl) (fun _ _ _ h => h) (Or.inl ⟨by rfl, fun w' hS => by go_simp⟩) hHeld ?_
            simp only [Act.put, gA9, gZ9, gC9, sA9, sZ9, sC9]
            refine wpAnyH_take (i := 26) (v := .pointer (some ⟨b, off + c * 2 + 1, none⟩)) rfl (by kernel_rfl) (by kernel_rfl) (by kernel_rfl) (fun _ _ _ h => h) (Or.inl ⟨by rfl, fun w' hS => by go_simp⟩) hHeld ?_
            simp only [Act.put, gA9, gZ9, gC9, sA9, sZ9, sC9]
            refine wpAnyH_take (i := 27) (v := .int .i64 x.2) rfl (by kernel_rfl) (by kernel_rfl) (by kernel_rfl) (fun _ _ _ h => h) (Or.inl ⟨by rfl, fun w' hS => by (obtain ⟨s0, s1, s2, s3⟩ := hS; go_simp)⟩) hHeld ?_
            simp only [Act.put, gA9, gZ9, gC9, sA9, sZ9, sC9]
            refine wpAnyH_take (i := 28) (v := .bool false) rfl (by kernel_rfl) (by kernel_rfl) (by kernel_rfl) (fun _ _ _ h => h) (Or.inl ⟨by rfl, fun w' hS => by first | (go_simp; done) | (go_simp; omega)⟩) hHeld ?_
            simp only [Act.put, gA9, gZ9, gC9, sA9, sZ9, sC9]
            refine wpAnyH_take (i := 29) (v := .bool false) rfl (by kernel_rfl) (by kernel_rfl) (by kernel_rfl) (fun _ _ _ h => h) (Or.inl ⟨by rfl, fun w' hS => by go_simp⟩) hHeld ?_
            simp only [Act.put, gA9, gZ9, gC9, sA9, sZ9, sC9]
            refine wpAnyH_take (i := 30) (v := .bool false) rfl (by kernel_rfl) (by kernel_rfl) (by kernel_rfl) (fun _ _ _ h => h) (Or.inl ⟨by rfl, fun w' hS => by go_simp⟩) hHeld ?_
            simp only [Act.put, gA9, gZ9, gC9, sA9, sZ9, sC9]
            refine wpAnyH_take (i := 31) (v := .bool false) rfl (by kernel_rfl) (by kernel_rfl) (by kernel_rfl) (fun _ _ _ h => h) (Or.inl ⟨by rfl, fun w' hS => by go_simp⟩) hHeld ?_
            simp only [Act.put, gA9, gZ9, gC9, sA9, sZ9, sC9]
            refine wpAnyH_done (by kernel_rfl) ?_ _
            clear hHeld
            generalize hol : out.length = ol at *
            have Hol : Hid (out.length = ol) := hol
            have HSd : Hid (So w wr.drew kb s u5 out) := HS.out.still ((Below.refl _ _).drew)
            have HO : Hid (wr.drew.ownsRow (kb + 1) 70 2 u5 ol (slCells out)) := hol ▸ HSd.out.o
            have hkbs : kb + 1 ≤ wr.drew.heap.size := lt_heap HSd.out.k
            have Hr2d : Hid (wr.drew.rangeAt b (off + c * 2) [.int .i64 x.1, .int .i64 x.2]) := Hr2.out
            clear hol k0 k1 hc0 hc1 HS
            generalize wr.drew = D at *
            go_wp2_with (first
              | (refine load_mid 70 (.tmp 53) Hr2d.out _ Try.underlying70 rfl info_slot rfl rfl rfl ?_)
              | (at_builtin; refine wpList_append_lies _ rfl _ _ 25 rfl (kb + 1) 70 si (.agg #[.int .i64 0, .int .i64 0]) 2 16 Try.underlying25 shi shz0 shz1 shz2 rfl (by omega) u5 ol (slCells out) rfl (World.ownsRow.alloc HO.out _) _ 1 1 [.int .i64 x.1, .int .i64 x.2] rfl rfl (World.news_of_block (heap_alloc_new _ _)) (slotV_one x) (by omega) (by unfold maxLen; omega) (by omega) (by simp; omega) _ rfl ?_; intro g3 cap3 w3 hown3 hgrow3 hat3 hlt3)
              | fail)
            have hN := HSd.out.app Hol.out hown3 hgrow3
            exact ⟨⟨c + 1, by omega, by go_num, by rw [HN.out], by rw [HN.out]; exact hN⟩, by simp [intOf]; omega⟩
          · have h2' : (s.1 == x.1) = false := by simpa using h2
            clear hlt2
            go_wp2
            refine wp_region_held_drew (S := (fun w' => w'.cell? ⟨kb, 0, none⟩ = some (.int .i64 s.1) ∧ w'.cell? ⟨kb, 1, none⟩ = some (.int .i64 s.2) ∧ w'.cell? ⟨b, off + c * 2, none⟩ = some (.int .i64 x.1) ∧ w'.cell? ⟨b, off + c * 2 + 1, none⟩ = some (.int .i64 x.2))) (by kernel_rfl) ⟨k0, k1, hc0, hc1⟩ (fun hHeld => ?_)
            simp only [Act.put, List.size_toArray, List.length_cons, List.length_nil, Nat.zero_add]
            refine wpAnyH_take (i := 0) (v := .bool false) rfl (by kernel_rfl) (by kernel_rfl) (by kernel_rfl) (fun _ _ _ h => h) (Or.inl ⟨by rfl, fun w' hS => by go_simp⟩) hHeld ?_
            simp only [Act.put, gA9, gZ9, gC9, sA9, sZ9, sC9]
            refine wpAnyH_take (i := 1) (v := .bool true) rfl (by kernel_rfl) (by kernel_rfl) (by kernel_rfl) (fun _ _ _ h => h) (Or.inl ⟨by rfl, fun w' hS => by go_simp⟩) hHeld ?_
            simp only [Act.put, gA9, gZ9, gC9, sA9, sZ9, sC9]
            refine wpAnyH_take (i := 2) (v := .bool true) rfl (by kernel_rfl) (by kernel_rfl) (by kernel_rfl) (fun _ _ _ h => h) (Or.inl ⟨by rfl, fun w' hS => by go_simp⟩) hHeld ?_
            simp only [Act.put, gA9, gZ9, gC9, sA9, sZ9, sC9]
            refine wpAnyH_take (i := 3) (v := .pointer (some ⟨kb, 0, none⟩)) rfl (by kernel_rfl) (by kernel_rfl) (by kernel_rfl) (fun _ _ _ h => h) (Or.inl ⟨by rfl, fun w' hS => by go_simp⟩) hHeld ?_
            simp only [Act.put, gA9, gZ9, gC9, sA9, sZ9, sC9]
            refine wpAnyH_take (i := 4) (v := .int .i64 s.1) rfl (by kernel_rfl) (by kernel_rfl) (by kernel_rfl) (fun _ _ _ h => h) (Or.inl ⟨by rfl, fun w' hS => by (obtain ⟨s0, s1, s2, s3⟩ := hS; go_simp)⟩) hHeld ?_
            simp only [Act.put, gA9, gZ9, gC9, sA9, sZ9, sC9]
            refine wpAnyH_take (i := 5) (v := .slice (some ⟨b, off, none⟩) L cp) rfl (by kernel_rfl) (by kernel_rfl) (by kernel_rfl) (fun _ _ _ h => h) (Or.inl ⟨by rfl, fun w' hS => by go_simp⟩) hHeld ?_
            simp only [Act.put, gA9, gZ9, gC9, sA9, sZ9, sC9]
            refine wpAnyH_take (i := 6) (v := .int .i64 (c : Int)) rfl (by kernel_rfl) (by kernel_rfl) (by kernel_rfl) (fun _ _ _ h => h) (Or.inl ⟨by rfl, fun w' hS => by go_simp⟩) hHeld ?_
            simp only [Act.put, gA9, gZ9, gC9, sA9, sZ9, sC9]
            refine wpAnyH_take (i := 7) (v := .pointer (some ⟨b, off + c * 2, none⟩)) rfl (by kernel_rfl) (by kernel_rfl) (by kernel_rfl) (fun _ _ _ h => h) (Or.inl ⟨by rfl, fun w' hS => by go_simp⟩) hHeld ?_
            simp only [Act.put, gA9, gZ9, gC9, sA9, sZ9, sC9]
            refine wpAnyH_take (i := 8) (v := .pointer (some ⟨b, off + c * 2, none⟩)) rfl (by kernel_rfl) (by kernel_rfl) (by kernel_rfl) (fun _ _ _ h => h) (Or.inl ⟨by rfl, fun w' hS => by go_simp⟩) hHeld ?_
            simp only [Act.put, gA9, gZ9, gC9, sA9, sZ9, sC9]
            refine wpAnyH_take (i := 9) (v := .int .i64 x.1) rfl (by kernel_rfl) (by kernel_rfl) (by kernel_rfl) (fun _ _ _ h => h) (Or.inl ⟨by rfl, fun w' hS => by (obtain ⟨s0, s1, s2, s3⟩ := hS; go_simp)⟩) hHeld ?_
            simp only [Act.put, gA9, gZ9, gC9, sA9, sZ9, sC9]
            refine wpAnyH_take (i := 10) (v := .bool false) rfl (by kernel_rfl) (by kernel_rfl) (by kernel_rfl) (fun _ _ _ h => h) (Or.inl ⟨by rfl, fun w' hS => by first | (go_simp; done) | (go_simp; omega)⟩) hHeld ?_
            simp only [Act.put, gA9, gZ9, gC9, sA9, sZ9, sC9]
            refine wpAnyH_take (i := 11) (v := .bool false) rfl (by kernel_rfl) (by kernel_rfl) (by kernel_rfl) (fun _ _ _ h => h) (Or.inl ⟨by rfl, fun w' hS => by go_simp⟩) hHeld ?_
            simp only [Act.put, gA9, gZ9, gC9, sA9, sZ9, sC9]
            refine wpAnyH_take (i := 12) (v := .pointer (some ⟨kb, 0, none⟩)) rfl (by kernel_rfl) (by kernel_rfl) (by kernel_rfl) (fun _ _ _ h => h) (Or.inl ⟨by rfl, fun w' hS => by go_simp⟩) hHeld ?_
            simp only [Act.put, gA9, gZ9, gC9, sA9, sZ9, sC9]
            refine wpAnyH_take (i := 13) (v := .int .i64 s.1) rfl (by kernel_rfl) (by kernel_rfl) (by kernel_rfl) (fun _ _ _ h => h) (Or.inl ⟨by rfl, fun w' hS => by (obtain ⟨s0, s1, s2, s3⟩ := hS; go_simp)⟩) hHeld ?_
            simp only [Act.put, gA9, gZ9, gC9, sA9, sZ9, sC9]
            refine wpAnyH_take (i := 14) (v := .slice (some ⟨b, off, none⟩) L cp) rfl (by kernel_rfl) (by kernel_rfl) (by kernel_rfl) (fun _ _ _ h => h) (Or.inl ⟨by rfl, fun w' hS => by go_simp⟩) hHeld ?_
            simp only [Act.put, gA9, gZ9, gC9, sA9, sZ9, sC9]
            refine wpAnyH_take (i := 15) (v := .int .i64 (c : Int)) rfl (by kernel_rfl) (by kernel_rfl) (by kernel_rfl) (fun _ _ _ h => h) (Or.inl ⟨by rfl, fun w' hS => by go_simp⟩) hHeld ?_
            simp only [Act.put, gA9, gZ9, gC9, sA9, sZ9, sC9]
            refine wpAnyH_take (i := 16) (v := .pointer (some ⟨b, off + c * 2, none⟩)) rfl (by kernel_rfl) (by kernel_rfl) (by kernel_rfl) (fun _ _ _ h => h) (Or.inl ⟨by rfl, fun w' hS => by go_simp⟩) hHeld ?_
            simp only [Act.put, gA9, gZ9, gC9, sA9, sZ9, sC9]
            refine wpAnyH_take (i := 17) (v := .pointer (some ⟨b, off + c * 2, none⟩)) rfl (by kernel_rfl) (by kernel_rfl) (by kernel_rfl) (fun _ _ _ h => h) (Or.inl ⟨by rfl, fun w' hS => by go_simp⟩) hHeld ?_
            simp only [Act.put, gA9, gZ9, gC9, sA9, sZ9, sC9]
            refine wpAnyH_take (i := 18) (v := .int .i64 x.1) rfl (by kernel_rfl) (by kernel_rfl) (by kernel_rfl) (fun _ _ _ h => h) (Or.inl ⟨by rfl, fun w' hS => by (obtain ⟨s0, s1, s2, s3⟩ := hS; go_simp)⟩) hHeld ?_
            simp only [Act.put, gA9, gZ9, gC9, sA9, sZ9, sC9]
            refine wpAnyH_take (i := 19) (v := .bool false) rfl (by kernel_rfl) (by kernel_rfl) (by kernel_rfl) (fun _ _ _ h => h) (Or.inl ⟨by rfl, fun w' hS => by first | (go_simp; done) | (go_simp; omega)⟩) hHeld ?_
            simp only [Act.put, gA9, gZ9, gC9, sA9, sZ9, sC9]
            refine wpAnyH_take (i := 20) (v := .bool false) rfl (by kernel_rfl) (by kernel_rfl) (by kernel_rfl) (fun _ _ _ h => h) (Or.inl ⟨by rfl, fun w' hS => by go_simp⟩) hHeld ?_
            simp only [Act.put, gA9, gZ9, gC9, sA9, sZ9, sC9]
            refine wpAnyH_take (i := 21) (v := undef) rfl (by kernel_rfl) (by kernel_rfl) (by kernel_rfl) (fun _ _ _ h => h) (Or.inr ⟨by rfl, rfl⟩) hHeld ?_
            simp only [Act.put, gA9, gZ9, gC9, sA9, sZ9, sC9]
            refine wpAnyH_take (i := 22) (v := undef) rfl (by kernel_rfl) (by kernel_rfl) (by kernel_rfl) (fun _ _ _ h => h) (Or.inr ⟨by rfl, rfl⟩) hHeld ?_
            simp only [Act.put, gA9, gZ9, gC9, sA9, sZ9, sC9]
            refine wpAnyH_take (i := 23) (v := undef) rfl (by kernel_rfl) (by kernel_rfl) (by kernel_rfl) (fun _ _ _ h => h) (Or.inr ⟨by rfl, rfl⟩) hHeld ?_
            simp only [Act.put, gA9, gZ9, gC9, sA9, sZ9, sC9]
            refine wpAnyH_take (i := 24) (v := undef) rfl (by kernel_rfl) (by kernel_rfl) (by kernel_rfl) (fun _ _ _ h => h) (Or.inr ⟨by rfl, rfl⟩) hHeld ?_
            simp only [Act.put, gA9, gZ9, gC9, sA9, sZ9, sC9]
            refine wpAnyH_take (i := 25) (v := undef) rfl (by kernel_rfl) (by kernel_rfl) (by kernel_rfl) (fun _ _ _ h => h) (Or.inr ⟨by rfl, rfl⟩) hHeld ?_
            simp only [Act.put, gA9, gZ9, gC9, sA9, sZ9, sC9]
            refine wpAnyH_take (i := 26) (v := undef) rfl (by kernel_rfl) (by kernel_rfl) (by kernel_rfl) (fun _ _ _ h => h) (Or.inr ⟨by rfl, rfl⟩) hHeld ?_
            simp only [Act.put, gA9, gZ9, gC9, sA9, sZ9, sC9]
            refine wpAnyH_take (i := 27) (v := undef) rfl (by kernel_rfl) (by kernel_rfl) (by kernel_rfl) (fun _ _ _ h => h) (Or.inr ⟨by rfl, rfl⟩) hHeld ?_
            simp only [Act.put, gA9, gZ9, gC9, sA9, sZ9, sC9]
            refine wpAnyH_take (i := 28) (v := undef) rfl (by kernel_rfl) (by kernel_rfl) (by kernel_rfl) (fun _ _ _ h => h) (Or.inr ⟨by rfl, rfl⟩) hHeld ?_
            simp only [Act.put, gA9, gZ9, gC9, sA9, sZ9, sC9]
            refine wpAnyH_take (i := 29) (v := .bool false) rfl (by kernel_rfl) (by kernel_rfl) (by kernel_rfl) (fun _ _ _ h => h) (Or.inl ⟨by rfl, fun w' hS => by go_simp⟩) hHeld ?_
            simp only [Act.put, gA9, gZ9, gC9, sA9, sZ9, sC9]
            refine wpAnyH_take (i := 30) (v := .bool false) rfl (by kernel_rfl) (by kernel_rfl) (by kernel_rfl) (fun _ _ _ h => h) (Or.inl ⟨by rfl, fun w' hS => by go_simp⟩) hHeld ?_
            simp only [Act.put, gA9, gZ9, gC9, sA9, sZ9, sC9]
            refine wpAnyH_take (i := 31) (v := .bool false) rfl (by kernel_rfl) (by kernel_rfl) (by kernel_rfl) (fun _ _ _ h => h) (Or.inl ⟨by rfl, fun w' hS => by go_simp⟩) hHeld ?_
            simp only [Act.put, gA9, gZ9, gC9, sA9, sZ9, sC9]
            refine wpAnyH_done (by kernel_rfl) ?_ _
            clear hHeld
            generalize hol : out.length = ol at *
            have Hol : Hid (out.length = ol) := hol
            have HSd : Hid (So w wr.drew kb s u5 out) := HS.out.still ((Below.refl _ _).drew)
            have HO : Hid (wr.drew.ownsRow (kb + 1) 70 2 u5 ol (slCells out)) := hol ▸ HSd.out.o
            have hkbs : kb + 1 ≤ wr.drew.heap.size := lt_heap HSd.out.k
            have Hr2d : Hid (wr.drew.rangeAt b (off + c * 2) [.int .i64 x.1, .int .i64 x.2]) := Hr2.out
            clear hol k0 k1 hc0 hc1 HS
            generalize wr.drew = D at *
            go_wp2_with (first
              | (refine load_mid 70 (.tmp 53) Hr2d.out _ Try.underlying70 rfl info_slot rfl rfl rfl ?_)
              | (at_builtin; refine wpList_append_lies _ rfl _ _ 25 rfl (kb + 1) 70 si (.agg #[.int .i64 0, .int .i64 0]) 2 16 Try.underlying25 shi shz0 shz1 shz2 rfl (by omega) u5 ol (slCells out) rfl (World.ownsRow.alloc HO.out _) _ 1 1 [.int .i64 x.1, .int .i64 x.2] rfl rfl (World.news_of_block (heap_alloc_new _ _)) (slotV_one x) (by omega) (by unfold maxLen; omega) (by omega) (by simp; omega) _ rfl ?_; intro g3 cap3 w3 hown3 hgrow3 hat3 hlt3)
              | fail)
            have hN := HSd.out.app Hol.out hown3 hgrow3
            exact ⟨⟨c + 1, by omega, by go_num, by rw [HN.out], by rw [HN.out]; exact hN⟩, by simp [intOf]; omega⟩
    · obtain rfl : L = c := by omega
      have hb0 := HLn.out L
      generalize hio : insO l s L = io at *
      obtain ⟨out, put⟩ := io
      dsimp only at HS HAll hb0
      clear hio
      cases put with
      | true =>
        go_wp2
        go_ret
        have e := HAll.out
        simp only [if_true] at e
        obtain ⟨a, cc, rfl⟩ : ∃ a cc, u5 = .slice a out.length cc := by
          rcases HS.out.o.2 with ⟨h3, h4⟩ | ⟨g, cap, cur, hv, _⟩
          · exact ⟨none, 0, by rw [h4]; exact h3⟩
          · exact ⟨_, _, hv⟩
        refine ⟨a, cc, by rw [← e]; rfl, ?_, HS.out.b⟩
        rw [← e]
        exact own_lower HS.out.o (by rw [Hkb.out]; omega)
      | false =>
        have Hr1 : Hid (wr.rangeAt kb 0 [.int .i64 s.1, .int .i64 s.2]) := HS.out.rng
        generalize hol : out.length = ol at *
        have Hol : Hid (out.length = ol) := hol
        have HO : Hid (wr.ownsRow (kb + 1) 70 2 u5 ol (slCells out)) := hol ▸ HS.out.o
        have hkbs : kb + 1 ≤ wr.heap.size := lt_heap HS.out.k
        clear hol
        go_wp2_with (first
          | (refine load_mid 70 (.tmp 3) Hr1.out _ Try.underlying70 rfl info_slot rfl rfl rfl ?_)
          | (at_builtin; refine wpList_append_lies _ rfl _ _ 25 rfl (kb + 1) 70 si (.agg #[.int .i64 0, .int .i64 0]) 2 16 Try.underlying25 shi shz0 shz1 shz2 rfl (by omega) u5 ol (slCells out) rfl (World.ownsRow.alloc HO.out _) _ 1 1 [.int .i64 s.1, .int .i64 s.2] rfl rfl (World.news_of_block (heap_alloc_new _ _)) (slotV_one s) (by omega) (by unfold maxLen; omega) (by omega) (by simp; omega) _ rfl ?_; intro g9 cap9 w9 hown9 hgrow9 hat9 hlt9)
          | fail)
        go_ret
        have e := HAll.out
        simp only [if_neg (show ¬ (false = true) by simp)] at e
        have hN := HS.out.app Hol.out hown9 hgrow9
        refine ⟨_, cap9, by rw [← e, List.length_append, Hol.out]; rfl, ?_, hN.b⟩
        have := own_lower hN.o (B' := w.heap.size) (by rw [Hkb.out]; omega)
        rw [← e]
        simpa [Hol.out] using this
end
end Go.Proofs.Ytihcaopcfhbofaa.Fm
