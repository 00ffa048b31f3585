import Derived.Test.YtdegjhkjmgimpaaV05
namespace Go.Proofs.Ytdegjhkjmgimpaa.Mb
open Go.RowKit
set_option linter.unusedVariables false
set_option maxRecDepth 100000
set_option linter.unusedSimpArgs false
section
variable {A A' : Ag} {w w' W : World} {B : Nat} {T : Int}
def Ag.begP (A : Ag) (s : List Int) : Pp := if A.id = [0, 0, 0, 0] then { A.own with cid := A.own.cid + 1, set := s } else { A.own with cid := A.own.cid + 1, set := s, top := A.id.getD 0 0, prev := A.id }
def Ag.begE (A : Ag) (s : List Int) : Int := if A.own.cid = 4611686018427387904 ∨ A.id.getD 0 0 = 4611686018427387904 then 3 else A.revE (A.begP s)
def Ag.begA (A : Ag) (s : List Int) : Ag := if A.own.cid = 4611686018427387904 ∨ A.id.getD 0 0 = 4611686018427387904 then A else if A.revE (A.begP s) = 0 then { A.revA (A.begP s) with chg := true } else A
theorem Ag.Ok.putChg' {b : Nat} (h : A.Ok w B T) (e : A.b = b) (c : Bool) : ({ A with chg := c } : Ag).Ok (w.setCell ⟨b, 670, none⟩ (.bool c)) B T := e ▸ h.putChg c
theorem Kept.range {a b : World} {P : Nat → Prop} (k : Kept a b P) {i o : Nat} {cs : List Value} (hc : a.rangeAt i o cs) (hp : ¬ P i) : b.rangeAt i o cs := fun j v hv => k.cell (hc j v hv) hp
theorem Rw.whole {k t : Nat} {xs ys : List Int} (h : Rw w k t xs) (hl : ys.length = xs.length) : Rw (w.setCells k 0 (ints ys)) k t ys := by
  have := Rw.sets ys 0 w xs h (by omega)
  rw [hl, Nat.zero_add, List.drop_of_length_le (Nat.le_refl _)] at this
  simpa using this
theorem revE_cases (A : Ag) (p : Pp) : A.revE p = 0 ∨ (A.revE p = 3 ∧ A.revA p = A) := by
  unfold Ag.revE Ag.revA
  by_cases h1 : (A.wv p).fl = A.own.fl
  · rw [if_pos h1]; exact .inl rfl
  · by_cases h2 : p.rev = 4611686018427387904
    · rw [if_neg h1, if_pos h2, if_neg h1, if_pos h2]; exact .inr ⟨rfl, rfl⟩
    · rw [if_neg h1, if_neg h2]; exact .inl rfl
def z39 : List Int := List.replicate 39 0
theorem begin_tail {k : Nat} (HA : A.Ok w B T) (p : Pp) (hL : p.L) (hk : Rw w k 63 p.fl) (hc : 0 ≤ p.cid ∧ p.cid ≤ 4611686018427387904) (hr : 0 ≤ p.rev ∧ p.rev ≤ 4611686018427387904) (ht : 0 ≤ p.top ∧ p.top ≤ T) : Calls Try.prog 33 #[.pointer (some ⟨A.b, 0, none⟩), .agg (ints p.fl).toArray] w fun e w' => (e = .returned (.int .i64 0) ∧ A.revE p = 0 ∧ w'.cell? ⟨A.b, 670, none⟩ = some (.bool (A.revA p).chg) ∧ w'.frozen? ⟨A.b, 670, none⟩ = false ∧ (A.revA p).Ok w' B T ∧ Kept w w' (fun j => j = A.b)) ∨ (e = .returned (.int .i64 3) ∧ A.revE p = 3 ∧ A.Ok w' B T ∧ Kept w w' (fun j => j = A.b)) := by
  refine (revise_any HA p hL hc hr ht).mono ?_
  rintro e w' ⟨rfl, h1, h2⟩
  rcases revE_cases A p with h3 | ⟨h3, h4⟩
  · exact .inl ⟨by rw [h3], h3, by have := h1.c670; rwa [revA_b] at this, by have := h1.fz 670; rwa [revA_b] at this, h1, h2⟩
  · rw [h4] at h1; exact .inr ⟨by rw [h3], h3, h1, h2⟩
set_option maxHeartbeats 4000000 in
theorem begin_any (h : A.Ok w B T) (hT : 4611686018427387903 ≤ T) (s : List Int) (hs : s.length = 16) : Calls Try.prog 21 #[.pointer (some ⟨A.b, 0, none⟩), .agg (ints s).toArray] w fun e w' => e = .returned (.int .i64 (A.begE s)) ∧ (A.begA s).Ok w' B T ∧ Kept w w' (fun j => j = A.b) := by
  generalize hW1 : w.alloc (.cells (ints s).toArray 61) = W1
  generalize hW2 : W1.alloc (.cells #[.int .i64 0, .int .i64 0, .int .i64 0, .int .i64 0, .int .i64 0, .int .i64 0, .int .i64 0, .int .i64 0, .int .i64 0, .int .i64 0, .int .i64 0, .int .i64 0, .int .i64 0, .int .i64 0, .int .i64 0, .int .i64 0, .int .i64 0, .int .i64 0, .int .i64 0, .int .i64 0, .int .i64 0, .int .i64 0, .int .i64 0, .int .i64 0, .int .i64 0, .int .i64 0, .int .i64 0, .int .i64 0, .int .i64 0, .int .i64 0, .int .i64 0, .int .i64 0, .int .i64 0, .int .i64 0, .int .i64 0, .int .i64 0, .int .i64 0, .int .i64 0, .int .i64 0] 63) = W2
  have b1 : Below w.heap.size w W1 := hW1 ▸ balloc (Below.refl _ _)
  have b2 : Below W1.heap.size W1 W2 := hW2 ▸ balloc (Below.refl _ _)
  have s1 : W1.heap.size = w.heap.size + 1 := by rw [← hW1]; simp
  have k1 : Rw W1 w.heap.size 61 s := by unfold Rw; rw [← hW1]; exact heap_alloc_new w _
  have k2 : Rw W2 W1.heap.size 63 z39 := by unfold Rw; rw [← hW2]; exact heap_alloc_new W1 _
  have hk1 : w.heap.size < W1.heap.size := by omega
  have HA0 : Hid (A.Ok w B T) := h
  have HA1 : Hid (A.Ok W1 B T) := h.still b1
  have HK2 : Hid (Rw W2 W1.heap.size 63 z39) := k2
  have Lo : Hid A.own.L := h.ol
  have LC : Hid ({ A.own with cid := A.own.cid + 1 } : Pp).L := ⟨h.ol.ls, h.ol.lp, h.ol.lv⟩
  have Hlt : Hid (A.b < w.heap.size) := h.lt_b
  have Hil : Hid (A.id.length = 4) := h.il
  have hV0 := k2.whole (ys := A.own.fl) (by rw [h.ol.fl]; rfl)
  have hS0 : Rw (W2.setCells W1.heap.size 0 (ints A.own.fl)) w.heap.size 61 s := (k1.still b2).keep (ksets (P := fun j => j = W1.heap.size) rfl _ _ _) (by omega)
  have hB0 : Below w.heap.size w (W2.setCells W1.heap.size 0 (ints A.own.fl)) := bsets (Nat.le_of_lt hk1) _ _ (bstep b1 b2)
  generalize hV : W2.setCells W1.heap.size 0 (ints A.own.fl) = V at *
  have HB3 : Hid (Below w.heap.size w V) := hB0
  have HA3 : Hid (A.Ok V B T) := h.still hB0
  have c16 : V.cell? ⟨W1.heap.size, 16, none⟩ = some (.int .i64 A.own.cid) := by rw [hV0.cell (i := 16) (by rw [Lo.out.fl]; omega), Lo.out.cid]
  have f16 := hV0.fz 16
  have c665 : V.cell? ⟨A.b, 665, none⟩ = some (.int .i64 (A.id.getD 0 0)) := HA3.out.c 665 (by omega)
  have hX1 := hV0.set 16 (A.own.cid + 1)
  rw [h.ol.set_cid] at hX1
  have hS1 := hS0.keep (kset (P := fun j => j = W1.heap.size) V W1.heap.size 16 (.int .i64 (A.own.cid + 1)) rfl) (by omega)
  have hB1 := bset hB0 (Nat.le_of_lt hk1) 16 (.int .i64 (A.own.cid + 1))
  have HX1 : Hid (Rw (V.setCell ⟨W1.heap.size, 16, none⟩ (.int .i64 (A.own.cid + 1))) W1.heap.size 63 ({ A.own with cid := A.own.cid + 1 } : Pp).fl) := hX1
  have HS3 : Hid (Rw (V.setCell ⟨W1.heap.size, 16, none⟩ (.int .i64 (A.own.cid + 1))) w.heap.size 61 s) := hS1
  have hX0 := Rw.sets s 0 _ _ hX1 (by rw [LC.out.fl, hs]; omega)
  rw [LC.out.put_set s hs] at hX0
  have hB4 := bsets (Nat.le_of_lt hk1) (ints s) 0 hB1
  generalize hX : (V.setCell ⟨W1.heap.size, 16, none⟩ (.int .i64 (A.own.cid + 1))).setCells W1.heap.size 0 (ints s) = X at *
  have HX : Hid (Rw X W1.heap.size 63 ({ A.own with cid := A.own.cid + 1, set := s } : Pp).fl) := hX0
  have HPL : Hid ({ A.own with cid := A.own.cid + 1, set := s } : Pp).L := ⟨hs, h.ol.lp, h.ol.lv⟩
  have HB4 : Hid (Below w.heap.size w X) := hB4
  have HA4 : Hid (A.Ok X B T) := h.still hB4
  have d665 : X.cell? ⟨A.b, 665, none⟩ = some (.int .i64 (A.id.getD 0 0)) := HA4.out.c 665 (by omega)
  have hcid := h.cid
  have hrev := h.rev
  have htop := h.top
  have hep := h.ep
  obtain ⟨ep, hep0⟩ : ∃ ep, A.id.getD 0 0 = ep := ⟨_, rfl⟩
  rw [hep0] at c665 d665 hep
  have Hep : Hid (A.id.getD 0 0 = ep) := hep0
  clear hep0
  clear h b1 b2 s1 k1 k2 hV0 hS0 hB0 hX1 hS1 hB1 hX0 hB4
  by_cases h1 : A.own.cid = 4611686018427387904
  · have Hc : Hid (A.own.cid = 4611686018427387904 ∨ A.id.getD 0 0 = 4611686018427387904) := .inl h1
    have e1 : (A.own.cid == 4611686018427387904) = true := by simpa using h1
    go_enter Try.func21, Try.ntmps21
    go_wp2_with (first
    | (refine load_mid 63 (.tmp 9) HA1.out.own_r _ Try.underlying63 rfl (by rw [ints_len, Lo.out.fl]; exact info_prop) rfl rfl rfl ?_)
    | (refine store_mid 63 (.tmp 5) (.tmp 10) (HK2.out.there 0 A.own.fl.length (by rw [Lo.out.fl]; exact Nat.le_refl _)) (by rw [Lo.out.fl]; exact info_prop) rfl rfl rfl rfl ?_; rw [hV])
    | fail)
    all_goals first | (exfalso; omega) | (go_ret; unfold Ag.begE Ag.begA; rw [if_pos Hc.out, if_pos Hc.out]; exact ⟨rfl, HA3.out, Kept.ofBelow HB3.out _⟩)
  have e1 : (A.own.cid == 4611686018427387904) = false := by simpa using h1
  by_cases h2 : ep = 4611686018427387904
  · have Hc : Hid (A.own.cid = 4611686018427387904 ∨ A.id.getD 0 0 = 4611686018427387904) := .inr (Hep.out.trans h2)
    have e2 : (ep == 4611686018427387904) = true := by simpa using h2
    go_enter Try.func21, Try.ntmps21
    go_wp2_with (first
    | (refine load_mid 63 (.tmp 9) HA1.out.own_r _ Try.underlying63 rfl (by rw [ints_len, Lo.out.fl]; exact info_prop) rfl rfl rfl ?_)
    | (refine store_mid 63 (.tmp 5) (.tmp 10) (HK2.out.there 0 A.own.fl.length (by rw [Lo.out.fl]; exact Nat.le_refl _)) (by rw [Lo.out.fl]; exact info_prop) rfl rfl rfl rfl ?_; rw [hV])
    | fail)
    all_goals first | (exfalso; omega) | (go_ret; unfold Ag.begE Ag.begA; rw [if_pos Hc.out, if_pos Hc.out]; exact ⟨rfl, HA3.out, Kept.ofBelow HB3.out _⟩)
  have Hn : Hid (¬ (A.own.cid = 4611686018427387904 ∨ A.id.getD 0 0 = 4611686018427387904)) := fun hh => hh.elim h1 (fun h => h2 (Hep.out.symm.trans h))
  have e2 : (ep == 4611686018427387904) = false := by simpa using h2
  by_cases h3 : A.id = [0, 0, 0, 0]
  · have HQ : Hid (decide (A.id = [0, 0, 0, 0]) = true) := decide_eq_true h3
    have HPe : Hid (A.begP s = { A.own with cid := A.own.cid + 1, set := s }) := if_pos h3
    clear h3
    have hc : 0 ≤ A.own.cid + 1 ∧ A.own.cid + 1 ≤ 4611686018427387904 := by omega
    go_enter Try.func21, Try.ntmps21
    go_wp2_with (first
    | (refine load_mid 63 (.tmp 9) HA1.out.own_r _ Try.underlying63 rfl (by rw [ints_len, Lo.out.fl]; exact info_prop) rfl rfl rfl ?_)
    | (refine store_mid 63 (.tmp 5) (.tmp 10) (HK2.out.there 0 A.own.fl.length (by rw [Lo.out.fl]; exact Nat.le_refl _)) (by rw [Lo.out.fl]; exact info_prop) rfl rfl rfl rfl ?_; rw [hV])
    | (refine load_mid 61 (.tmp 3) HS3.out.all _ Try.underlying61 rfl (by rw [ints_len, hs]; exact info_row) rfl rfl rfl ?_)
    | (refine store_mid 61 (.tmp 28) (.tmp 27) (HX1.out.there 0 s.length (by rw [LC.out.fl, hs]; omega)) (by rw [hs]; exact info_row) rfl rfl rfl rfl ?_; rw [hX])
    | (refine load_mid 31 (.tmp 32) HA4.out.id_r _ Try.underlying31 rfl (by rw [ints_len, Hil.out]; exact info_id) rfl rfl rfl ?_)
    | (refine neq_step 31 (.tmp 33) (.tmp 34) 31 (xs := (ints A.id).toArray) (ys := (ints [0, 0, 0, 0]).toArray) (eq_id_ A.id [0, 0, 0, 0] Hil.out rfl) (by kernel_rfl) rfl rfl rfl rfl ?_; rw [HQ.out])
    | (refine load_mid 63 (.tmp 5) HX.out.all _ Try.underlying63 rfl (by rw [ints_len, HPL.out.fl]; exact info_prop) rfl rfl rfl ?_)
    | (go_at_call 33; refine (begin_tail HA4.out _ HPL.out HX.out hc hrev htop).mono ?_; rintro e Wr (⟨rfl, hE, f0, f1, hO, hK⟩ | ⟨rfl, hE, hO, hK⟩))
    | fail)
    all_goals first
      | (exfalso; omega)
      | (go_ret; unfold Ag.begE Ag.begA; rw [if_neg Hn.out, if_neg Hn.out, HPe.out, hE, if_pos rfl]; exact ⟨rfl, hO.putChg' (revA_b _ _) true, ((Kept.ofBelow HB4.out _).trans hK).trans (kset _ _ _ _ rfl)⟩)
      | (go_ret; unfold Ag.begE Ag.begA; rw [if_neg Hn.out, if_neg Hn.out, HPe.out, hE, if_neg (by decide)]; exact ⟨rfl, hO, (Kept.ofBelow HB4.out _).trans hK⟩)
  · have HQ : Hid (decide (A.id = [0, 0, 0, 0]) = false) := decide_eq_false h3
    have HPe : Hid (A.begP s = { A.own with cid := A.own.cid + 1, set := s, top := ep, prev := A.id }) := (if_neg h3).trans (by rw [Hep.out])
    clear h3
    go_enter Try.func21, Try.ntmps21
    go_wp2_with (first
    | (refine load_mid 63 (.tmp 9) HA1.out.own_r _ Try.underlying63 rfl (by rw [ints_len, Lo.out.fl]; exact info_prop) rfl rfl rfl ?_)
    | (refine store_mid 63 (.tmp 5) (.tmp 10) (HK2.out.there 0 A.own.fl.length (by rw [Lo.out.fl]; exact Nat.le_refl _)) (by rw [Lo.out.fl]; exact info_prop) rfl rfl rfl rfl ?_; rw [hV])
    | (refine load_mid 61 (.tmp 3) HS3.out.all _ Try.underlying61 rfl (by rw [ints_len, hs]; exact info_row) rfl rfl rfl ?_)
    | (refine store_mid 61 (.tmp 28) (.tmp 27) (HX1.out.there 0 s.length (by rw [LC.out.fl, hs]; omega)) (by rw [hs]; exact info_row) rfl rfl rfl rfl ?_; rw [hX])
    | (refine load_mid 31 (.tmp 32) HA4.out.id_r _ Try.underlying31 rfl (by rw [ints_len, Hil.out]; exact info_id) rfl rfl rfl ?_)
    | (refine neq_step 31 (.tmp 33) (.tmp 34) 31 (xs := (ints A.id).toArray) (ys := (ints [0, 0, 0, 0]).toArray) (eq_id_ A.id [0, 0, 0, 0] Hil.out rfl) (by kernel_rfl) rfl rfl rfl rfl ?_; rw [HQ.out])
    | fail)
    have d18 := HX.out.cell (i := 18) (by rw [HPL.out.fl]; omega)
    have f18 := HX.out.fz 18
    have HX5 : Hid (Rw (X.setCell ⟨W1.heap.size, 18, none⟩ (.int .i64 ep)).drew W1.heap.size 63 ({ A.own with cid := A.own.cid + 1, set := s, top := ep } : Pp).fl) := by
      have := HX.out.set 18 ep
      rw [HPL.out.set_top] at this
      exact this.still (Below.refl _ _).drew
    have HP5 : Hid ({ A.own with cid := A.own.cid + 1, set := s, top := ep } : Pp).L := ⟨HPL.out.ls, HPL.out.lp, HPL.out.lv⟩
    have HP6 : Hid ({ A.own with cid := A.own.cid + 1, set := s, top := ep, prev := A.id } : Pp).L := ⟨HPL.out.ls, Hil.out, HPL.out.lv⟩
    have hB5 : Below w.heap.size w (X.setCell ⟨W1.heap.size, 18, none⟩ (.int .i64 ep)).drew := bstep (bset HB4.out (Nat.le_of_lt hk1) _ _) (Below.refl _ _).drew
    have hY0 := Rw.sets A.id 19 _ _ HX5.out (by rw [HP5.out.fl, Hil.out]; omega)
    rw [HP5.out.put_prev A.id Hil.out] at hY0
    have hB6 := bsets (Nat.le_of_lt hk1) (ints A.id) 19 hB5
    have kk2 := ksets (P := fun j => j = W1.heap.size) rfl (ints A.id) 19 (X.setCell ⟨W1.heap.size, 18, none⟩ (.int .i64 ep)).drew
    generalize hY : ((X.setCell ⟨W1.heap.size, 18, none⟩ (.int .i64 ep)).drew).setCells W1.heap.size 19 (ints A.id) = Y at *
    have HY : Hid (Rw Y W1.heap.size 63 ({ A.own with cid := A.own.cid + 1, set := s, top := ep, prev := A.id } : Pp).fl) := hY0
    have HB6 : Hid (Below w.heap.size w Y) := hB6
    have HA6 : Hid (A.Ok Y B T) := HA0.out.still hB6
    have hc : 0 ≤ A.own.cid + 1 ∧ A.own.cid + 1 ≤ 4611686018427387904 := by omega
    have ht6 : 0 ≤ ep ∧ ep ≤ T := by omega
    clear hY0 hB6 hB5
    have kk := (kset (P := fun j => j = W1.heap.size) X W1.heap.size 18 (.int .i64 ep) rfl).trans (Kept.ofBelow (Below.refl _ _).drew _)
    refine wp_region_held_drew (S := (fun w' => w'.cell? ⟨A.b, 665, none⟩ = some (.int .i64 ep) ∧ w'.rangeAt A.b 665 (ints A.id))) (by kernel_rfl) ⟨below_at (Below.refl _ _).drew d665, (World.rangeAt_drew _ _ _ _).2 HA4.out.id_r⟩ (fun hHeld => ?_)
    simp only [Act.put, List.size_toArray, List.length_cons, List.length_nil, Nat.zero_add]
    refine wpAnyH_take (i := 0) (v := .pointer (some ⟨A.b, 0, none⟩)) rfl (by kernel_rfl) (by kernel_rfl) (by kernel_rfl) (fun _ _ _ h => h) (Or.inl ⟨by rfl, fun w' hS => by go_simp⟩) hHeld ?_
    simp only [Act.put, gA9, gZ9, gC9, sA9, sZ9, sC9]
    refine wpAnyH_take (i := 1) (v := .pointer (some ⟨A.b, 0, none⟩)) rfl (by kernel_rfl) (by kernel_rfl) (by kernel_rfl) (fun _ _ _ h => h) (Or.inl ⟨by rfl, fun w' hS => by go_simp⟩) hHeld ?_
    simp only [Act.put, gA9, gZ9, gC9, sA9, sZ9, sC9]
    refine wpAnyH_take (i := 2) (v := .pointer (some ⟨A.b, 665, none⟩)) rfl (by kernel_rfl) (by kernel_rfl) (by kernel_rfl) (fun _ _ _ h => h) (Or.inl ⟨by rfl, fun w' hS => by go_simp⟩) hHeld ?_
    simp only [Act.put, gA9, gZ9, gC9, sA9, sZ9, sC9]
    refine wpAnyH_take (i := 3) (v := .pointer (some ⟨A.b, 665, none⟩)) rfl (by kernel_rfl) (by kernel_rfl) (by kernel_rfl) (fun _ _ _ h => h) (Or.inl ⟨by rfl, fun w' hS => by go_simp⟩) hHeld ?_
    simp only [Act.put, gA9, gZ9, gC9, sA9, sZ9, sC9]
    refine wpAnyH_take (i := 4) (v := .pointer (some ⟨A.b, 665, none⟩)) rfl (by kernel_rfl) (by kernel_rfl) (by kernel_rfl) (fun _ _ _ h => h) (Or.inl ⟨by rfl, fun w' hS => by go_simp⟩) hHeld ?_
    simp only [Act.put, gA9, gZ9, gC9, sA9, sZ9, sC9]
    refine wpAnyH_take (i := 5) (v := .int .i64 ep) rfl (by kernel_rfl) (by kernel_rfl) (by kernel_rfl) (fun _ _ _ h => h) (Or.inl ⟨by rfl, fun w' hS => by (obtain ⟨s0, s1⟩ := hS; go_simp)⟩) hHeld ?_
    simp only [Act.put, gA9, gZ9, gC9, sA9, sZ9, sC9]
    refine wpAnyH_take (i := 6) (v := .pointer (some ⟨A.b, 0, none⟩)) rfl (by kernel_rfl) (by kernel_rfl) (by kernel_rfl) (fun _ _ _ h => h) (Or.inl ⟨by rfl, fun w' hS => by go_simp⟩) hHeld ?_
    simp only [Act.put, gA9, gZ9, gC9, sA9, sZ9, sC9]
    refine wpAnyH_take (i := 7) (v := .pointer (some ⟨A.b, 0, none⟩)) rfl (by kernel_rfl) (by kernel_rfl) (by kernel_rfl) (fun _ _ _ h => h) (Or.inl ⟨by rfl, fun w' hS => by go_simp⟩) hHeld ?_
    simp only [Act.put, gA9, gZ9, gC9, sA9, sZ9, sC9]
    refine wpAnyH_take (i := 8) (v := .pointer (some ⟨A.b, 665, none⟩)) rfl (by kernel_rfl) (by kernel_rfl) (by kernel_rfl) (fun _ _ _ h => h) (Or.inl ⟨by rfl, fun w' hS => by go_simp⟩) hHeld ?_
    simp only [Act.put, gA9, gZ9, gC9, sA9, sZ9, sC9]
    refine wpAnyH_take (i := 9) (v := .pointer (some ⟨A.b, 665, none⟩)) rfl (by kernel_rfl) (by kernel_rfl) (by kernel_rfl) (fun _ _ _ h => h) (Or.inl ⟨by rfl, fun w' hS => by go_simp⟩) hHeld ?_
    simp only [Act.put, gA9, gZ9, gC9, sA9, sZ9, sC9]
    refine wpAnyH_take (i := 10) (v := .agg (ints A.id).toArray) rfl (by kernel_rfl) (by kernel_rfl) (by kernel_rfl) (fun _ _ _ h => h) (yieldsIf_load_mid (by rfl) 31 (.tmp 45) rfl A.b (665) (by rfl) (ints A.id) _ (fun w' hS => hS.2) Try.underlying31 rfl (by rw [ints_len, Hil.out]; exact info_id)) hHeld ?_
    simp only [Act.put, gA9, gZ9, gC9, sA9, sZ9, sC9]
    refine wpAnyH_take (i := 11) (v := .pointer (some ⟨W1.heap.size, 18, none⟩)) rfl (by kernel_rfl) (by kernel_rfl) (by kernel_rfl) (fun _ _ _ h => h) (Or.inl ⟨by rfl, fun w' hS => by go_simp⟩) hHeld ?_
    simp only [Act.put, gA9, gZ9, gC9, sA9, sZ9, sC9]
    refine wpAnyH_ready (rs := [12]) (by kernel_rfl) (by simp) ?_
    refine AllReadyH.cons rfl (fun K hK => ?_) AllReadyH.nil
    go_simp
    refine hK.out _ _ ⟨kk.cell d665 (by have := Hlt.out; omega), kk.range HA4.out.id_r (by have := Hlt.out; omega)⟩ (fun hHeld => ?_)
    clear hK K
    refine wpAnyH_take (i := 13) (v := .pointer (some ⟨W1.heap.size, 19, none⟩)) rfl (by kernel_rfl) (by kernel_rfl) (by kernel_rfl) (fun _ _ _ h => h) (Or.inl ⟨by rfl, fun w' hS => by go_simp⟩) hHeld ?_
    simp only [Act.put, gA9, gZ9, gC9, sA9, sZ9, sC9]
    refine wpAnyH_ready (rs := [14]) (by kernel_rfl) (by simp) ?_
    refine AllReadyH.cons rfl (fun K hK => ?_) AllReadyH.nil
    split
    · refine wp_store_mid 31 (.tmp 48) (.tmp 46) rfl W1.heap.size 19 (ints A.id).toArray rfl rfl (by simpa [ints, Hil.out] using HX5.out.there 19 4 (by rw [HP5.out.fl]; omega)) (by simpa [ints, Hil.out] using info_id) (all_oneCell_toArray (ints_one _)) ?_
      rw [List.toList_toArray, hY]
      refine hK.out _ _ ⟨kk2.cell (kk.cell d665 (by have := Hlt.out; omega)) (by have := Hlt.out; omega), kk2.range (kk.range HA4.out.id_r (by have := Hlt.out; omega)) (by have := Hlt.out; omega)⟩ (fun hHeld => ?_)
      clear hK K
      refine wpAnyH_done (by kernel_rfl) ?_ _
      clear hHeld
      go_wp2_with (first
      | (refine load_mid 63 (.tmp 5) HY.out.all _ Try.underlying63 rfl (by rw [ints_len, HP6.out.fl]; exact info_prop) rfl rfl rfl ?_)
      | (go_at_call 33; refine (begin_tail HA6.out _ HP6.out HY.out hc hrev ht6).mono ?_; rintro e Wr (⟨rfl, hE, f0, f1, hO, hK⟩ | ⟨rfl, hE, hO, hK⟩))
      | fail)
      all_goals first
        | (exfalso; omega)
        | (go_ret; unfold Ag.begE Ag.begA; rw [if_neg Hn.out, if_neg Hn.out, HPe.out, hE, if_pos rfl]; exact ⟨rfl, hO.putChg' (revA_b _ _) true, ((Kept.ofBelow HB6.out _).trans hK).trans (kset _ _ _ _ rfl)⟩)
        | (go_ret; unfold Ag.begE Ag.begA; rw [if_neg Hn.out, if_neg Hn.out, HPe.out, hE, if_neg (by decide)]; exact ⟨rfl, hO, (Kept.ofBelow HB6.out _).trans hK⟩)
    · rename_i hh; exact absurd rfl hh
end
end Go.Proofs.Ytdegjhkjmgimpaa.Mb
