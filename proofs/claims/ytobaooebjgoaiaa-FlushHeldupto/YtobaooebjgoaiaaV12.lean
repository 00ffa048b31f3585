import Derived.Test.YtobaooebjgoaiaaV10
namespace Go.Proofs.Ytobaooebjgoaiaa.Fm
open Go.RowKit Go.Maps Mb
set_option linter.unusedVariables false
set_option maxRecDepth 100000
set_option linter.unusedSimpArgs false
section
variable {w w' W : World} {B : Nat}
def SlK (n : Nat) (l : List (Int × Int)) (j : Nat) : Prop := ∀ k, k < j → slotB n (l.getD k z2) = true ∧ newB l k = true
def MapTo (l : List (Int × Int)) (j : Nat) (f : Int × Int → Option Int) : Prop := ∀ s : Int × Int, (f s).isSome = true ↔ ∃ k, k < j ∧ l.getD k z2 = s
theorem mapTo_new {l : List (Int × Int)} {j : Nat} {f : Int × Int → Option Int} (h : MapTo l j f) : (f (l.getD j z2)).isSome = !newB l j := by
 rw [Bool.eq_iff_iff, h (l.getD j z2)]
 simp [newB]
theorem mapTo_put {l : List (Int × Int)} {j : Nat} {f : Int × Int → Option Int} (h : MapTo l j f) (x : Int) : MapTo l (j + 1) (updO f (l.getD j z2) x) := by
 intro s
 unfold updO
 by_cases e : s = l.getD j z2
 ·rw [if_pos e]
  simp only [Option.isSome_some, true_iff]
  exact ⟨j, by omega, e.symm⟩
 ·rw [if_neg e, h s]
  constructor
  ·rintro ⟨k, hk, e2⟩; exact ⟨k, by omega, e2⟩
  ·rintro ⟨k, hk, e2⟩
   refine ⟨k, ?_, e2⟩
   by_cases ek : k = j
   ·subst ek; exact absurd e2.symm e
   ·omega
theorem slK_no {n : Nat} {l : List (Int × Int)} {j : Nat} (hj : j < l.length) (h : slotB n (l.getD j z2) = false ∨ newB l j = false) : slotsB n l = false := by
 unfold slotsB
 rw [List.all_eq_false]
 refine ⟨j, List.mem_range.2 hj, ?_⟩
 rcases h with h | h
 ·show ¬ (slotB n (l.getD j z2) && newB l j) = true
  rw [h]; simp
 ·show ¬ (slotB n (l.getD j z2) && newB l j) = true
  rw [h]; simp
theorem slK_yes {n : Nat} {l : List (Int × Int)} (h : SlK n l l.length) : slotsB n l = true := by
 unfold slotsB
 rw [List.all_eq_true]
 intro k hk
 have := h k (List.mem_range.1 hk)
 show (slotB n (l.getD k z2) && newB l k) = true
 rw [this.1, this.2]; rfl
set_option maxHeartbeats 4000000 in
theorem areSlots_any {ao : Option Addr} {cp : Nat} {l : List (Int × Int)} (hr : RdS w ao l) (hn : l.length ≤ 128) (hi : ∀ i, i < l.length → i64B (l.getD i z2).1 ∧ i64B (l.getD i z2).2) (n : Nat) (hN : n ≤ 1000000000000000000) : Calls Try.prog 74 #[.slice ao l.length cp, .int .i64 n] w fun e w' => e = .returned (.bool (slotsB n l)) ∧ Below w.heap.size w w' := by
 have HR : Hid (RdS w ao l) := hr
 have HI : Hid (∀ i, i < l.length → i64B (l.getD i z2).1 ∧ i64B (l.getD i z2).2) := hi
 have HW : Hid (∀ W x lo hi b, inR lo hi x = b → Calls Try.prog 29 #[.int .i64 x, .int .i64 lo, .int .i64 hi] W fun e w' => e = .returned (.bool b) ∧ w' = W) := fun W x lo hi b hb => by rw [← hb]; exact within_any x lo hi
 generalize hL : l.length = L at *
 have HLe : Hid (l.length = L) := hL
 clear hr hi hL
 generalize hW0 : w.alloc (.map #[] 0) = W0
 have B0 : Hid (Below w.heap.size w W0) := hW0 ▸ balloc (Below.refl _ _)
 have M0 : Hid (MpS W0 w.heap.size 0 (fun _ => none)) := hW0 ▸ MpS.made w
 have hmk := run_makeMap (P := Try.prog) 89 w
 rw [hW0] at hmk
 go_enter Try.func74, Try.ntmps74
 go_wp2
 clear hmk
 clear hW0
 generalize hmb : w.heap.size = mb at *
 have Hmb : Hid (w.heap.size = mb) := hmb
 clear hmb
 go_loopw [13] (fun i wr => ∃ j : Nat, ∃ f, j ≤ L ∧ i = .int .i64 j ∧ SlK n l j ∧ MapTo l j f ∧ MpS wr mb j f ∧ Below mb w wr) (fun i _ => L - (intOf i).toNat)
 case atStart => exact ⟨0, _, Nat.zero_le _, rfl, fun k hk => by omega, fun s => by simp, M0.out, B0.out⟩
 case round =>
  obtain ⟨j, f, hj, rfl, hk, hm, hp, hb⟩ := hrel
  have HK : Hid (SlK n l j) := hk
  have HM : Hid (MapTo l j f) := hm
  have HP : Hid (MpS wr mb j f) := hp
  have HB : Hid (Below mb w wr) := hb
  have Hlb : Hid (mb < wr.heap.size) := hp.lt
  clear hk hm hp hb
  by_cases hlt : j < L
  ·obtain ⟨b, off, rfl, hc, hc0, hc1⟩ := (HR.out.still (by rw [Hmb.out]; exact HB.out)).at (i := j) (by rw [HLe.out]; exact hlt)
   have HC : Hid (wr.rangeAt b (off + j * 2) (slotV (l.getD j z2))) := hc
   clear hc hc0 hc1
   obtain ⟨hs1, hs2⟩ := HI.out j hlt
   have HS : Hid (i64B (l.getD j z2).1 ∧ i64B (l.getD j z2).2) := ⟨hs1, hs2⟩
   clear hs1 hs2
   have Hno : Hid (slotB n (l.getD j z2) = false ∨ newB l j = false → slotsB n l = false) := slK_no (by rw [HLe.out]; exact hlt)
   have Hnew : Hid ((f (l.getD j z2)).isSome = !newB l j) := mapTo_new HM.out
   have Hput : Hid (∀ x, MapTo l (j + 1) (updO f (l.getD j z2) x)) := mapTo_put HM.out
   have Hyes : Hid (slotB n (l.getD j z2) = true → newB l j = true → SlK n l (j + 1)) := fun h1 h2 k hk => by
    by_cases e : k = j
    ·subst e; exact ⟨h1, h2⟩
    ·exact HK.out k (by omega)
   have i1 : (0 : Int) ≤ (j : Int) := Int.natCast_nonneg _
   have i2 : (j : Int) < (L : Int) := by omega
   clear HM
   generalize l.getD j z2 = s at *
   obtain ⟨s1, s2⟩ := s
   go_wp2_with (first
    | (refine load_mid 76 (.tmp 16) HC.out _ Try.underlying76 rfl info_slot rfl rfl rfl ?_)
    | (refine wl_st 76 (.tmp 7) (.tmp 17) rfl ?_)
    | fail)
   refine wl_store 76 (.tmp 7) (.tmp 17) (L := slotV (s1, s2)) (new_there _ _ _ rfl) info_slot (slotV_one _) rfl rfl rfl (by kernel_rfl) ?_
   simp only [Act.put,gA9,gZ9,gC9,sA9,sZ9,sC9]
   refine ⟨?_⟩
   obtain ⟨hn1, hn2⟩ := newvar wr 76 #[.int .i64 0, .int .i64 0] (slotV (s1, s2)) rfl
   have HB2 : Hid (Below mb w ((wr.alloc (.cells #[.int .i64 0, .int .i64 0] 76)).setCells wr.heap.size 0 (slotV (s1, s2)))) := HB.out.trans (hn1.mono (Nat.le_of_lt Hlb.out))
   have HP2 : Hid (MpS ((wr.alloc (.cells #[.int .i64 0, .int .i64 0] 76)).setCells wr.heap.size 0 (slotV (s1, s2))) mb j f) := HP.out.still hn1
   have HC2 : Hid (((wr.alloc (.cells #[.int .i64 0, .int .i64 0] 76)).setCells wr.heap.size 0 (slotV (s1, s2))).heap[wr.heap.size]? = some (.cells (slotV (s1, s2)).toArray 76 (0, 0))) := hn2
   clear hn1 hn2 HP HB HC
   generalize (wr.alloc (.cells #[.int .i64 0, .int .i64 0] 76)).setCells wr.heap.size 0 (slotV (s1, s2)) = V at *
   generalize hvb : wr.heap.size = vb at *
   clear hvb
   go_wp2_with (first | (refine wl_at 20 rfl ?_) | fail)
   have k0 : V.cell? ⟨vb, 0, none⟩ = some (.int .i64 s1) := blk_cell HC2.out 0
   have k1 : V.cell? ⟨vb, 1, none⟩ = some (.int .i64 s2) := blk_cell HC2.out 1
   have HL : Hid ((Instr.lookup 89 (.map (some mb)) (slV (s1, s2)) true).run Try.prog V = .ok (.tuple #[.int .i64 ((f (s1, s2)).getD 0), .bool (f (s1, s2)).isSome]) V) := HP2.out.look HS.out.1 HS.out.2
   generalize (f (s1, s2)).getD 0 = fv at HL
   cases hA : (f (s1, s2)).isSome with
   | true =>
    have hwhy0 : newB l j = false := by have := Hnew.out; rw [hA] at this; simpa using this.symm
    have Hwhy : Hid (newB l j = false) := hwhy0
    clear hwhy0
    rw [hA] at HL
    refine wl_load 76 (.tmp 7) (blk_range HC2.out) _ Try.underlying76 rfl info_slot rfl rfl (by kernel_rfl) ?_
    simp only [Act.put,gA9,gZ9,gC9,sA9,sZ9,sC9]
    refine wl_look 89 (.tmp 19) (.tmp 20) true (kv := slV (s1, s2)) HL.out rfl rfl rfl (by kernel_rfl) ?_
    simp only [Act.put,gA9,gZ9,gC9,sA9,sZ9,sC9]
    refine wT9 ?_
    simp only [Act.put,gA9,gZ9,gC9,sA9,sZ9,sC9]
    refine wT9 ?_
    simp only [Act.put,gA9,gZ9,gC9,sA9,sZ9,sC9]
    refine wT9 ?_
    simp only [Act.put,gA9,gZ9,gC9,sA9,sZ9,sC9]
    refine wT9 ?_
    simp only [Act.put,gA9,gZ9,gC9,sA9,sZ9,sC9]
    refine wT9 ?_
    simp only [Act.put,gA9,gZ9,gC9,sA9,sZ9,sC9]
    refine ⟨?_⟩
    go_wp2_with (first | (refine wl_at 26 rfl ?_) | fail)
    refine wS9' ?_
    simp only [Act.put,gA9,gZ9,gC9,sA9,sZ9,sC9]
    refine wS9' ?_
    simp only [Act.put,gA9,gZ9,gC9,sA9,sZ9,sC9]
    refine wS9' ?_
    simp only [Act.put,gA9,gZ9,gC9,sA9,sZ9,sC9]
    refine wS9' ?_
    simp only [Act.put,gA9,gZ9,gC9,sA9,sZ9,sC9]
    refine wS9' ?_
    simp only [Act.put,gA9,gZ9,gC9,sA9,sZ9,sC9]
    refine wS9' ?_
    simp only [Act.put,gA9,gZ9,gC9,sA9,sZ9,sC9]
    refine wT9 ?_
    simp only [Act.put,gA9,gZ9,gC9,sA9,sZ9,sC9]
    refine wT9 ?_
    simp only [Act.put,gA9,gZ9,gC9,sA9,sZ9,sC9]
    refine wS9' ?_
    simp only [Act.put,gA9,gZ9,gC9,sA9,sZ9,sC9]
    refine wS9' ?_
    simp only [Act.put,gA9,gZ9,gC9,sA9,sZ9,sC9]
    refine wS9' ?_
    simp only [Act.put,gA9,gZ9,gC9,sA9,sZ9,sC9]
    refine wS9' ?_
    simp only [Act.put,gA9,gZ9,gC9,sA9,sZ9,sC9]
    refine wT9 ?_
    simp only [Act.put,gA9,gZ9,gC9,sA9,sZ9,sC9]
    refine ⟨?_⟩
    go_wp2
    go_ret
    exact ⟨congrArg (fun b => Ending.returned (.bool b)) (Hno.out (.inr Hwhy.out)).symm, by rw [Hmb.out]; exact HB2.out⟩
   | false =>
    have hwhy0 : newB l j = true := by have := Hnew.out; rw [hA] at this; simpa using this.symm
    have Hwhy : Hid (newB l j = true) := hwhy0
    clear hwhy0
    rw [hA] at HL
    cases hB : inR 0 ((n : Int) - 1) s1 with
    | false =>
     have Hq : Hid (slotB n (s1, s2) = false) := by unfold slotB; show (inR 0 ((n : Int) - 1) s1 && _) = false; rw [hB]; rfl
     refine wl_load 76 (.tmp 7) (blk_range HC2.out) _ Try.underlying76 rfl info_slot rfl rfl (by kernel_rfl) ?_
     simp only [Act.put,gA9,gZ9,gC9,sA9,sZ9,sC9]
     refine wl_look 89 (.tmp 19) (.tmp 20) true (kv := slV (s1, s2)) HL.out rfl rfl rfl (by kernel_rfl) ?_
     simp only [Act.put,gA9,gZ9,gC9,sA9,sZ9,sC9]
     refine wT9 ?_
     simp only [Act.put,gA9,gZ9,gC9,sA9,sZ9,sC9]
     refine wT9 ?_
     simp only [Act.put,gA9,gZ9,gC9,sA9,sZ9,sC9]
     refine wT9 ?_
     simp only [Act.put,gA9,gZ9,gC9,sA9,sZ9,sC9]
     refine wT9 ?_
     simp only [Act.put,gA9,gZ9,gC9,sA9,sZ9,sC9]
     refine wT9 ?_
     simp only [Act.put,gA9,gZ9,gC9,sA9,sZ9,sC9]
     refine ⟨?_⟩
     go_wp2_with (first | (refine wl_at 26 rfl ?_) | fail)
     refine wT9 ?_
     simp only [Act.put,gA9,gZ9,gC9,sA9,sZ9,sC9]
     refine wT9 ?_
     simp only [Act.put,gA9,gZ9,gC9,sA9,sZ9,sC9]
     refine wT9 ?_
     simp only [Act.put,gA9,gZ9,gC9,sA9,sZ9,sC9]
     refine wl_take (v := .int .i64 ((n : Int) - 1)) (by kernel_rfl) (by go_simp; exact wrap_id (by omega) (by omega)) ?_
     simp only [Act.put,gA9,gZ9,gC9,sA9,sZ9,sC9]
     refine wl_step (by kernel_rfl) fun K hK => ?_
     go_simp
     refine (HW.out _ _ _ _ _ hB).mono ?_
     rintro e w2 ⟨rfl, rfl⟩
     refine hK _ _ ?_
     clear hK K
     try (simp only [Act.put,gA9,gZ9,gC9,sA9,sZ9,sC9])
     refine wT9 ?_
     simp only [Act.put,gA9,gZ9,gC9,sA9,sZ9,sC9]
     refine wT9 ?_
     simp only [Act.put,gA9,gZ9,gC9,sA9,sZ9,sC9]
     refine wT9 ?_
     simp only [Act.put,gA9,gZ9,gC9,sA9,sZ9,sC9]
     refine wS9' ?_
     simp only [Act.put,gA9,gZ9,gC9,sA9,sZ9,sC9]
     refine wS9' ?_
     simp only [Act.put,gA9,gZ9,gC9,sA9,sZ9,sC9]
     refine wS9' ?_
     simp only [Act.put,gA9,gZ9,gC9,sA9,sZ9,sC9]
     refine wS9' ?_
     simp only [Act.put,gA9,gZ9,gC9,sA9,sZ9,sC9]
     refine wT9 ?_
     simp only [Act.put,gA9,gZ9,gC9,sA9,sZ9,sC9]
     refine ⟨?_⟩
     go_wp2
     go_ret
     exact ⟨congrArg (fun b => Ending.returned (.bool b)) (Hno.out (.inl Hq.out)).symm, by rw [Hmb.out]; exact HB2.out⟩
    | true =>
     cases hC : inR 1 4611686018427387904 s2 with
     | false =>
      have Hq : Hid (slotB n (s1, s2) = false) := by unfold slotB; show (inR 0 ((n : Int) - 1) s1 && inR 1 4611686018427387904 s2) = false; rw [hB, hC]; rfl
      refine wl_load 76 (.tmp 7) (blk_range HC2.out) _ Try.underlying76 rfl info_slot rfl rfl (by kernel_rfl) ?_
      simp only [Act.put,gA9,gZ9,gC9,sA9,sZ9,sC9]
      refine wl_look 89 (.tmp 19) (.tmp 20) true (kv := slV (s1, s2)) HL.out rfl rfl rfl (by kernel_rfl) ?_
      simp only [Act.put,gA9,gZ9,gC9,sA9,sZ9,sC9]
      refine wT9 ?_
      simp only [Act.put,gA9,gZ9,gC9,sA9,sZ9,sC9]
      refine wT9 ?_
      simp only [Act.put,gA9,gZ9,gC9,sA9,sZ9,sC9]
      refine wT9 ?_
      simp only [Act.put,gA9,gZ9,gC9,sA9,sZ9,sC9]
      refine wT9 ?_
      simp only [Act.put,gA9,gZ9,gC9,sA9,sZ9,sC9]
      refine wT9 ?_
      simp only [Act.put,gA9,gZ9,gC9,sA9,sZ9,sC9]
      refine ⟨?_⟩
      go_wp2_with (first | (refine wl_at 26 rfl ?_) | fail)
      refine wT9 ?_
      simp only [Act.put,gA9,gZ9,gC9,sA9,sZ9,sC9]
      refine wT9 ?_
      simp only [Act.put,gA9,gZ9,gC9,sA9,sZ9,sC9]
      refine wT9 ?_
      simp only [Act.put,gA9,gZ9,gC9,sA9,sZ9,sC9]
      refine wl_take (v := .int .i64 ((n : Int) - 1)) (by kernel_rfl) (by go_simp; exact wrap_id (by omega) (by omega)) ?_
      simp only [Act.put,gA9,gZ9,gC9,sA9,sZ9,sC9]
      refine wl_step (by kernel_rfl) fun K hK => ?_
      go_simp
      refine (HW.out _ _ _ _ _ hB).mono ?_
      rintro e w2 ⟨rfl, rfl⟩
      refine hK _ _ ?_
      clear hK K
      try (simp only [Act.put,gA9,gZ9,gC9,sA9,sZ9,sC9])
      refine wT9 ?_
      simp only [Act.put,gA9,gZ9,gC9,sA9,sZ9,sC9]
      refine wT9 ?_
      simp only [Act.put,gA9,gZ9,gC9,sA9,sZ9,sC9]
      refine wT9 ?_
      simp only [Act.put,gA9,gZ9,gC9,sA9,sZ9,sC9]
      refine wT9 ?_
      simp only [Act.put,gA9,gZ9,gC9,sA9,sZ9,sC9]
      refine wT9 ?_
      simp only [Act.put,gA9,gZ9,gC9,sA9,sZ9,sC9]
      refine wl_step (by kernel_rfl) fun K hK => ?_
      go_simp
      refine (HW.out _ _ _ _ _ hC).mono ?_
      rintro e w2 ⟨rfl, rfl⟩
      refine hK _ _ ?_
      clear hK K
      try (simp only [Act.put,gA9,gZ9,gC9,sA9,sZ9,sC9])
      refine wT9 ?_
      simp only [Act.put,gA9,gZ9,gC9,sA9,sZ9,sC9]
      refine wT9 ?_
      simp only [Act.put,gA9,gZ9,gC9,sA9,sZ9,sC9]
      refine ⟨?_⟩
      go_wp2
      go_ret
      exact ⟨congrArg (fun b => Ending.returned (.bool b)) (Hno.out (.inl Hq.out)).symm, by rw [Hmb.out]; exact HB2.out⟩
     | true =>
      have Hq : Hid (slotB n (s1, s2) = true) := by unfold slotB; show (inR 0 ((n : Int) - 1) s1 && inR 1 4611686018427387904 s2) = true; rw [hB, hC]; rfl
      refine wl_load 76 (.tmp 7) (blk_range HC2.out) _ Try.underlying76 rfl info_slot rfl rfl (by kernel_rfl) ?_
      simp only [Act.put,gA9,gZ9,gC9,sA9,sZ9,sC9]
      refine wl_look 89 (.tmp 19) (.tmp 20) true (kv := slV (s1, s2)) HL.out rfl rfl rfl (by kernel_rfl) ?_
      simp only [Act.put,gA9,gZ9,gC9,sA9,sZ9,sC9]
      refine wT9 ?_
      simp only [Act.put,gA9,gZ9,gC9,sA9,sZ9,sC9]
      refine wT9 ?_
      simp only [Act.put,gA9,gZ9,gC9,sA9,sZ9,sC9]
      refine wT9 ?_
      simp only [Act.put,gA9,gZ9,gC9,sA9,sZ9,sC9]
      refine wT9 ?_
      simp only [Act.put,gA9,gZ9,gC9,sA9,sZ9,sC9]
      refine wT9 ?_
      simp only [Act.put,gA9,gZ9,gC9,sA9,sZ9,sC9]
      refine ⟨?_⟩
      go_wp2_with (first | (refine wl_at 26 rfl ?_) | fail)
      refine wT9 ?_
      simp only [Act.put,gA9,gZ9,gC9,sA9,sZ9,sC9]
      refine wT9 ?_
      simp only [Act.put,gA9,gZ9,gC9,sA9,sZ9,sC9]
      refine wT9 ?_
      simp only [Act.put,gA9,gZ9,gC9,sA9,sZ9,sC9]
      refine wl_take (v := .int .i64 ((n : Int) - 1)) (by kernel_rfl) (by go_simp; exact wrap_id (by omega) (by omega)) ?_
      simp only [Act.put,gA9,gZ9,gC9,sA9,sZ9,sC9]
      refine wl_step (by kernel_rfl) fun K hK => ?_
      go_simp
      refine (HW.out _ _ _ _ _ hB).mono ?_
      rintro e w2 ⟨rfl, rfl⟩
      refine hK _ _ ?_
      clear hK K
      try (simp only [Act.put,gA9,gZ9,gC9,sA9,sZ9,sC9])
      refine wT9 ?_
      simp only [Act.put,gA9,gZ9,gC9,sA9,sZ9,sC9]
      refine wT9 ?_
      simp only [Act.put,gA9,gZ9,gC9,sA9,sZ9,sC9]
      refine wT9 ?_
      simp only [Act.put,gA9,gZ9,gC9,sA9,sZ9,sC9]
      refine wT9 ?_
      simp only [Act.put,gA9,gZ9,gC9,sA9,sZ9,sC9]
      refine wT9 ?_
      simp only [Act.put,gA9,gZ9,gC9,sA9,sZ9,sC9]
      refine wl_step (by kernel_rfl) fun K hK => ?_
      go_simp
      refine (HW.out _ _ _ _ _ hC).mono ?_
      rintro e w2 ⟨rfl, rfl⟩
      refine hK _ _ ?_
      clear hK K
      try (simp only [Act.put,gA9,gZ9,gC9,sA9,sZ9,sC9])
      refine wT9 ?_
      simp only [Act.put,gA9,gZ9,gC9,sA9,sZ9,sC9]
      refine wT9 ?_
      simp only [Act.put,gA9,gZ9,gC9,sA9,sZ9,sC9]
      refine ⟨?_⟩
      go_wp2_with (first | (refine wl_at 40 rfl ?_) | fail)
      refine wl_load 76 (.tmp 7) (blk_range HC2.out) _ Try.underlying76 rfl info_slot rfl rfl (by kernel_rfl) ?_
      simp only [Act.put,gA9,gZ9,gC9,sA9,sZ9,sC9]
      refine wT9 ?_
      simp only [Act.put,gA9,gZ9,gC9,sA9,sZ9,sC9]
      obtain ⟨V2, hput, hP3, hK3⟩ := HP2.out.put (by omega) (s := (s1, s2)) HS.out.1 HS.out.2 (x := (j : Int)) (by unfold i64B; omega)
      refine wl_put 89 (.tmp 39) (.tmp 40) (.tmp 41) (kv := slV (s1, s2)) hput rfl rfl rfl rfl (by kernel_rfl) ?_
      simp only [Act.put,gA9,gZ9,gC9,sA9,sZ9,sC9]
      refine ⟨?_⟩
      have HP3 : Hid (MpS V2 mb (j + 1) (updO f (s1, s2) j)) := hP3
      have HB3 : Hid (Below mb w V2) := HB2.out.trans (hK3.below (Nat.le_of_lt HP2.out.lt) (fun k hk e => by omega))
      clear hput hP3 hK3 k0 k1
      go_wp2
      exact ⟨⟨j + 1, updO f (s1, s2) j, by omega, by go_num, Hyes.out Hq.out Hwhy.out, Hput.out _, HP3.out, HB3.out⟩, by simp [intOf]; omega⟩
  ·obtain rfl : j = L := by omega
   have Hy : Hid (slotsB n l = true) := slK_yes (by rw [HLe.out]; exact HK.out)
   go_wp2
   go_ret
   exact ⟨congrArg (fun b => Ending.returned (.bool b)) Hy.out.symm, by rw [Hmb.out]; exact HB.out⟩
end
end Go.Proofs.Ytobaooebjgoaiaa.Fm
