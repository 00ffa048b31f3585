import Derived.Test.YtdegjhkjmgimpaaV16
namespace Go.Proofs.Ytdegjhkjmgimpaa.Mb
open Go.RowKit
set_option linter.unusedVariables false
set_option maxRecDepth 100000
set_option linter.unusedSimpArgs false
section
variable {A A' : Ag} {w w' W : World} {B : Nat} {T : Int}
set_option maxHeartbeats 8000000 in
theorem take_eq (h : A.Ok w B T) (q : Nat) (hq : q < A.n) (hqs0 : q ≠ A.self) (inc : Int) (hinc : 1 ≤ inc ∧ inc ≤ 4611686018427387904) (p : Pq) (hp : p.Rd w) (hT : 4611686018427387903 ≤ T) (hv : p.valid q inc A.n = true) (hold : inc = (A.lat q).set.getD q 0) (hle : (A.lat q).rev < p.rev) : Calls Try.prog 19 #[.pointer (some ⟨A.b, 0, none⟩), .int .i64 q, .int .i64 inc, .agg p.cs] w fun e w' => e = .returned (.tuple #[.bool ((A.set1 q p.pp).folB q), .int .i64 ((A.set1 q p.pp).folE q)]) ∧ (A.tk1 q p.pp).Ok w' B T ∧ Kept w w' (fun j => j = A.b) := by
  have Hv : Hid (p.valid q inc A.n = true) := hv
  clear hv
  have Htop : Hid (0 ≤ p.pp.top ∧ p.pp.top ≤ 4611686018427387903) := valid_top Hv.out
  have Ho : Hid (inc = (A.lat q).set.getD q 0) := hold
  have Hle : Hid ((A.lat q).rev < p.rev) := hle
  clear hold hle
  have h16 := h.n16
  generalize hW1 : w.alloc (.cells p.cs 33) = W1
  have b1 : Below w.heap.size w W1 := hW1 ▸ balloc (Below.refl _ _)
  have k1 : W1.heap[w.heap.size]? = some (.cells p.cs 33 (0, 0)) := by rw [← hW1]; exact heap_alloc_new w _
  have hlt1 : w.heap.size < W1.heap.size := lt_heap k1
  have c0 := (h.still b1).c0
  have c1 := (h.still b1).c1
  have HK1 : Hid (W1.heap[w.heap.size]? = some (.cells p.cs 33 (0, 0))) := k1
  have HB1 : Hid (Below w.heap.size w W1) := b1
  have HA0 : Hid (A.Ok w B T) := h
  have HA1 : Hid (A.Ok W1 B T) := h.still b1
  have HP1 : Hid (p.Rd W1) := hp.still b1
  have hlb := h.lt_b
  have hqs : ¬ ((q : Int) = (A.self : Int)) := by omega
  have i3 : (q : Int) < 16 := by omega
  have i4 : q < 16 := by omega
  have H0 : Hid (∀ W, Calls Try.prog 26 #[.int .i64 (q : Int), .int .i64 0, .int .i64 ((A.n : Int) - 1)] W fun e w' => e = .returned (.bool true) ∧ W = w') := fun W => (show wB (q : Int) 0 ((A.n : Int) - 1) = true from decide_eq_true (by omega)) ▸ within_w _ _ _
  have H1 : Hid (∀ W, Calls Try.prog 26 #[.int .i64 inc, .int .i64 1, .int .i64 4611686018427387904] W fun e w' => e = .returned (.bool true) ∧ W = w') := fun W => (show wB inc 1 4611686018427387904 = true from decide_eq_true hinc) ▸ within_w _ _ _
  have HPr : Hid (∀ W, Below W1.heap.size W1 W → Calls Try.prog 31 #[.agg p.cs, .int .i64 q, .int .i64 inc, .int .i64 A.n] W fun e w' => ∃ P0 : Pp, e = .returned (.tuple #[.agg (ints P0.fl).toArray, .bool (p.valid q inc A.n)]) ∧ P0.L ∧ (p.valid q inc A.n = true → P0 = p.pp) ∧ Below W.heap.size W w') := fun W hW => propOf_any p ((hp.still b1).still hW) q i4 inc A.n h16.2.1
  clear h b1 k1 hp
  go_enter Try.func19, Try.ntmps19
  go_wp2_with (first | (refine wl_at 21 rfl ?_) | fail)
  refine wl_step (by kernel_rfl) fun K hK => ?_
  go_simp
  refine (H0.out _).mono ?_
  rintro e w2 ⟨rfl, rfl⟩
  refine hK _ _ ?_
  clear hK K
  try (simp only [Act.put, gA9, gZ9, gC9, sA9, sZ9, sC9])
  refine wl_take (v := .bool false) (by kernel_rfl) (by go_simp) ?_
  simp only [Act.put, gA9, gZ9, gC9, sA9, sZ9, sC9]
  refine wl_take (v := .bool false) (by kernel_rfl) (by go_simp) ?_
  simp only [Act.put, gA9, gZ9, gC9, sA9, sZ9, sC9]
  refine wl_take (v := .int .i64 (q : Int)) (by kernel_rfl) (by go_simp) ?_
  simp only [Act.put, gA9, gZ9, gC9, sA9, sZ9, sC9]
  refine wl_take (v := .pointer (some ⟨A.b, 0, none⟩)) (by kernel_rfl) (by go_simp) ?_
  simp only [Act.put, gA9, gZ9, gC9, sA9, sZ9, sC9]
  refine wl_take (v := .pointer (some ⟨A.b, 0, none⟩)) (by kernel_rfl) (by go_simp) ?_
  simp only [Act.put, gA9, gZ9, gC9, sA9, sZ9, sC9]
  refine wl_take (v := .pointer (some ⟨A.b, 1, none⟩)) (by kernel_rfl) (by go_simp) ?_
  simp only [Act.put, gA9, gZ9, gC9, sA9, sZ9, sC9]
  refine wl_take (v := .int .i64 A.self) (by kernel_rfl) (by go_simp) ?_
  simp only [Act.put, gA9, gZ9, gC9, sA9, sZ9, sC9]
  refine wl_take (v := .bool false) (by kernel_rfl) (by (go_simp <;> first | omega | simp_all)) ?_
  simp only [Act.put, gA9, gZ9, gC9, sA9, sZ9, sC9]
  refine wl_take (v := .bool false) (by kernel_rfl) (by go_simp) ?_
  simp only [Act.put, gA9, gZ9, gC9, sA9, sZ9, sC9]
  refine wl_take (v := .bool false) (by kernel_rfl) (by go_simp) ?_
  simp only [Act.put, gA9, gZ9, gC9, sA9, sZ9, sC9]
  refine wl_take (v := .int .i64 inc) (by kernel_rfl) (by go_simp) ?_
  simp only [Act.put, gA9, gZ9, gC9, sA9, sZ9, sC9]
  refine wl_step (by kernel_rfl) fun K hK => ?_
  go_simp
  refine (H1.out _).mono ?_
  rintro e w2 ⟨rfl, rfl⟩
  refine hK _ _ ?_
  clear hK K
  try (simp only [Act.put, gA9, gZ9, gC9, sA9, sZ9, sC9])
  refine wl_take (v := .bool false) (by kernel_rfl) (by go_simp) ?_
  simp only [Act.put, gA9, gZ9, gC9, sA9, sZ9, sC9]
  refine wl_take (v := .bool false) (by kernel_rfl) (by go_simp) ?_
  simp only [Act.put, gA9, gZ9, gC9, sA9, sZ9, sC9]
  refine ⟨?_⟩
  go_wp2
  refine wp_region_held_drew (S := (fun w' => w'.heap[w.heap.size]? = some (.cells p.cs 33 (0, 0)) ∧ w'.cell? ⟨A.b, 0, none⟩ = some (.int .i64 A.n) ∧ Below W1.heap.size W1 w')) (by kernel_rfl) ⟨HK1.out, below_at (Below.refl _ _).drew c0, (Below.refl _ _).drew⟩ (fun hHeld => ?_)
  simp only [Act.put, List.size_toArray, List.length_cons, List.length_nil, Nat.zero_add]
  refine wpAnyH_take (i := 0) (v := .agg p.cs) rfl (by kernel_rfl) (by kernel_rfl) (by kernel_rfl) (fun _ _ _ h => h) (Or.inl ⟨by rfl, fun w' hS => run_loadrow 33 (.tmp 7) rfl (by rfl) hS.1 Try.underlying33 rfl (by kernel_rfl)⟩) hHeld ?_
  simp only [Act.put, gA9, gZ9, gC9, sA9, sZ9, sC9]
  refine wpAnyH_take (i := 1) (v := .int .i64 (q : Int)) rfl (by kernel_rfl) (by kernel_rfl) (by kernel_rfl) (fun _ _ _ h => h) (Or.inl ⟨by rfl, fun w' hS => by go_simp⟩) hHeld ?_
  simp only [Act.put, gA9, gZ9, gC9, sA9, sZ9, sC9]
  refine wpAnyH_take (i := 2) (v := .int .i64 inc) rfl (by kernel_rfl) (by kernel_rfl) (by kernel_rfl) (fun _ _ _ h => h) (Or.inl ⟨by rfl, fun w' hS => by go_simp⟩) hHeld ?_
  simp only [Act.put, gA9, gZ9, gC9, sA9, sZ9, sC9]
  refine wpAnyH_take (i := 3) (v := .pointer (some ⟨A.b, 0, none⟩)) rfl (by kernel_rfl) (by kernel_rfl) (by kernel_rfl) (fun _ _ _ h => h) (Or.inl ⟨by rfl, fun w' hS => by go_simp⟩) hHeld ?_
  simp only [Act.put, gA9, gZ9, gC9, sA9, sZ9, sC9]
  refine wpAnyH_take (i := 4) (v := .pointer (some ⟨A.b, 0, none⟩)) rfl (by kernel_rfl) (by kernel_rfl) (by kernel_rfl) (fun _ _ _ h => h) (Or.inl ⟨by rfl, fun w' hS => by go_simp⟩) hHeld ?_
  simp only [Act.put, gA9, gZ9, gC9, sA9, sZ9, sC9]
  refine wpAnyH_take (i := 5) (v := .pointer (some ⟨A.b, 0, none⟩)) rfl (by kernel_rfl) (by kernel_rfl) (by kernel_rfl) (fun _ _ _ h => h) (Or.inl ⟨by rfl, fun w' hS => by go_simp⟩) hHeld ?_
  simp only [Act.put, gA9, gZ9, gC9, sA9, sZ9, sC9]
  refine wpAnyH_take (i := 6) (v := .int .i64 A.n) rfl (by kernel_rfl) (by kernel_rfl) (by kernel_rfl) (fun _ _ _ h => h) (Or.inl ⟨by rfl, fun w' hS => by (obtain ⟨s0, s1, s2⟩ := hS; go_simp)⟩) hHeld ?_
  simp only [Act.put, gA9, gZ9, gC9, sA9, sZ9, sC9]
  refine wpAnyH_ready (rs := [7, 11]) (by kernel_rfl) (by simp) ?_
  refine AllReadyH.cons rfl (fun K hK => ?_) (AllReadyH.cons rfl (fun K hK => ?_) AllReadyH.nil)
  · go_simp
    refine (HPr.out _ hHeld.2.2).mono ?_
    rintro e W2 ⟨P0, rfl, hPL, hPe, hb2⟩
    refine hK.out _ _ ⟨(hb2.block _ (lt_heap hHeld.1)).trans hHeld.1, below_at hb2 hHeld.2.1, bstep hHeld.2.2 hb2⟩ (fun hHeld => ?_)
    clear hK K
    refine wpAnyH_take (i := 8) (v := .tuple #[.agg (ints P0.fl).toArray, .bool (p.valid q inc A.n)]) rfl (by kernel_rfl) (by kernel_rfl) (by kernel_rfl) (fun _ _ _ h => h) (Or.inl ⟨by rfl, fun w' hS => by go_simp⟩) hHeld ?_
    simp only [Act.put, gA9, gZ9, gC9, sA9, sZ9, sC9]
    refine wpAnyH_take (i := 9) (v := .agg (ints P0.fl).toArray) rfl (by kernel_rfl) (by kernel_rfl) (by kernel_rfl) (fun _ _ _ h => h) (Or.inl ⟨by rfl, fun w' hS => by go_simp⟩) hHeld ?_
    simp only [Act.put, gA9, gZ9, gC9, sA9, sZ9, sC9]
    refine wpAnyH_take (i := 10) (v := .bool (p.valid q inc A.n)) rfl (by kernel_rfl) (by kernel_rfl) (by kernel_rfl) (fun _ _ _ h => h) (Or.inl ⟨by rfl, fun w' hS => by go_simp⟩) hHeld ?_
    simp only [Act.put, gA9, gZ9, gC9, sA9, sZ9, sC9]
    refine wpAnyH_ready (rs := [11]) (by kernel_rfl) (by simp) ?_
    refine AllReadyH.cons rfl (fun K hK => ?_) AllReadyH.nil
    generalize hW3 : W2.alloc (.cells #[.int .i64 0, .int .i64 0, .int .i64 0, .int .i64 0, .int .i64 0, .int .i64 0, .int .i64 0, .int .i64 0, .int .i64 0, .int .i64 0, .int .i64 0, .int .i64 0, .int .i64 0, .int .i64 0, .int .i64 0, .int .i64 0, .int .i64 0, .int .i64 0, .int .i64 0, .int .i64 0, .int .i64 0, .int .i64 0, .int .i64 0, .int .i64 0, .int .i64 0, .int .i64 0, .int .i64 0, .int .i64 0, .int .i64 0, .int .i64 0, .int .i64 0, .int .i64 0, .int .i64 0, .int .i64 0, .int .i64 0, .int .i64 0, .int .i64 0, .int .i64 0, .int .i64 0] 63) = W3
    have bA : Below W2.heap.size W2 W3 := by rw [← hW3]; exact balloc (Below.refl _ _)
    have hZ : Rw W3 W2.heap.size 63 z39 := by unfold Rw; rw [← hW3]; exact heap_alloc_new W2 _
    have hktge : W1.heap.size ≤ W2.heap.size := hHeld.2.2.size
    go_simp
    refine hK.out _ _ ⟨(bA.block _ (lt_heap hHeld.1)).trans hHeld.1, below_at bA hHeld.2.1, bstep hHeld.2.2 bA⟩ (fun hHeld => ?_)
    clear hK K
    generalize hkt : W2.heap.size = kt at *
    have hT0 : Rw W3 kt 63 z39 := hZ
    refine wpAnyH_ready (rs := [12]) (by kernel_rfl) (by simp) ?_
    refine AllReadyH.cons rfl (fun K hK => ?_) AllReadyH.nil
    split
    · refine wp_store_mid 63 (.tmp 10) (.tmp 45) rfl kt 0 (ints P0.fl).toArray rfl rfl (by simpa [ints, hPL.fl] using hT0.there 0 39 (by show 0 + 39 ≤ 39; omega)) (by simpa [ints, hPL.fl] using info_prop) (all_oneCell_toArray (ints_one _)) ?_
      rw [List.toList_toArray]
      have hTF : Rw (W3.setCells kt 0 (ints P0.fl)) kt 63 P0.fl := hT0.whole (by rw [hPL.fl]; rfl)
      have kTF := ksets (P := fun j => j = kt) rfl (ints P0.fl) 0 W3
      have bTF : Below W1.heap.size W1 (W3.setCells kt 0 (ints P0.fl)) := bsets hktge _ _ hHeld.2.2
      generalize W3.setCells kt 0 (ints P0.fl) = V at *
      refine hK.out _ _ ⟨kTF.obj hHeld.1 (by omega), below_at bTF c0, bTF⟩ (fun hHeld => ?_)
      clear hK K
      refine wpAnyH_take (i := 13) (v := .bool (p.valid q inc A.n)) rfl (by kernel_rfl) (by kernel_rfl) (by kernel_rfl) (fun _ _ _ h => h) (Or.inl ⟨by rfl, fun w' hS => by go_simp⟩) hHeld ?_
      simp only [Act.put, gA9, gZ9, gC9, sA9, sZ9, sC9]
      refine wpAnyH_done (by kernel_rfl) ?_ _
      clear hHeld hT0 kTF bA hb2 hZ hW3 hkt
      obtain rfl := hPe Hv.out
      rw [Hv.out]
      have hAV := HA1.out.still bTF
      have hktl : kt < V.heap.size := hTF.lt
      have hsV := bTF.size
      generalize hV5 : V.alloc (.cells #[.int .i64 0, .int .i64 0, .int .i64 0, .int .i64 0, .int .i64 0, .int .i64 0, .int .i64 0, .int .i64 0, .int .i64 0, .int .i64 0, .int .i64 0, .int .i64 0, .int .i64 0, .int .i64 0, .int .i64 0, .int .i64 0, .int .i64 0, .int .i64 0, .int .i64 0, .int .i64 0, .int .i64 0, .int .i64 0, .int .i64 0, .int .i64 0, .int .i64 0, .int .i64 0, .int .i64 0, .int .i64 0, .int .i64 0, .int .i64 0, .int .i64 0, .int .i64 0, .int .i64 0, .int .i64 0, .int .i64 0, .int .i64 0, .int .i64 0, .int .i64 0, .int .i64 0] 63) = V5
      have b5 : Below V.heap.size V V5 := by rw [← hV5]; exact balloc (Below.refl _ _)
      have k5 : Rw V5 V.heap.size 63 z39 := by unfold Rw; rw [← hV5]; exact heap_alloc_new V _
      have lq := (HA0.out.ll q)
      have k6 := k5.whole (ys := (A.lat q).fl) (by rw [lq.fl]; rfl)
      have b6 : Below V.heap.size V (V5.setCells V.heap.size 0 (ints (A.lat q).fl)) := bsets (Nat.le_refl _) _ _ b5
      generalize hV6 : V5.setCells V.heap.size 0 (ints (A.lat q).fl) = V6 at *
      have hA6 := hAV.still b6
      have e1 : V6.cell? ⟨V.heap.size, q, none⟩ = some (.int .i64 ((A.lat q).set.getD q 0)) := by rw [k6.cell (i := q) (by rw [lq.fl]; omega), lq.at_set q i4]
      have e2 : V6.cell? ⟨V.heap.size, 17, none⟩ = some (.int .i64 (A.lat q).rev) := by rw [k6.cell (i := 17) (by rw [lq.fl]; omega), lq.rev]
      have e3 : V6.cell? ⟨kt, 17, none⟩ = some (.int .i64 p.rev) := by rw [(hTF.still b6).cell (i := 17) (by rw [hPL.fl]; omega), hPL.rev]; rfl
      have HAV : Hid (A.Ok V B T) := hAV
      have HK5 : Hid (Rw V5 V.heap.size 63 z39) := k5
      have HK6 : Hid (Rw V6 V.heap.size 63 (A.lat q).fl) := k6
      have HA6 : Hid (A.Ok V6 B T) := hA6
      have HT6 : Hid (Rw V6 kt 63 p.pp.fl) := hTF.still b6
      have HB6 : Hid (Below w.heap.size w V6) := bstep (bstep HB1.out bTF) b6
      have Hlq : Hid ((A.lat q).L) := lq
      have HPL : Hid p.pp.L := hPL
      generalize hsq : (A.lat q).set.getD q 0 = sq at *
      generalize hlr : (A.lat q).rev = lr at *
      have Hsq : Hid ((A.lat q).set.getD q 0 = sq) := hsq
      have Hlr : Hid ((A.lat q).rev = lr) := hlr
      clear hAV k5 k6 hA6 b5 b6 hTF lq hPL bTF hPe hsq hlr
      rw [← Ho.out] at e1
      have hle := Hle.out
      have hX1 := (HA6.out.still (Below.refl _ _).drew).putLat q i4 p.pp HPL.out Htop.out
      have kX := ksets (P := fun j => j = A.b) rfl (ints p.pp.fl) (41 + q * 39) V6.drew
      have kV := Kept.ofBelow (Below.refl V6.heap.size V6).drew (fun j => j = A.b)
      have HThX : Hid (V6.drew.there A.b (41 + q * 39) 39) := (HA6.out.still (Below.refl _ _).drew).blk.there _ _ (by omega)
      generalize hX : V6.drew.setCells A.b (41 + q * 39) (ints p.pp.fl) = X at *
      have HX : Hid ((A.set1 q p.pp).Ok X B T) := hX1
      have HKX : Hid (Kept w X (fun j => j = A.b)) := ((Kept.ofBelow HB6.out _).trans kV).trans kX
      have HKb : Hid (Rw X V.heap.size 63 (A.lat q).fl) := (HK6.out.keep kV (by omega)).keep kX (by omega)
      have HRX : Hid (X.rangeAt kt 0 (ints p.pp.fl)) := ((HT6.out.keep kV (by omega)).keep kX (by omega)).all
      clear hX1 kX kV
      go_wp2_with (first
        | (refine store_mid 63 (.tmp 12) (.tmp 54) (HK5.out.there 0 (A.lat q).fl.length (by rw [Hlq.out.fl]; exact Nat.le_refl _)) (by rw [Hlq.out.fl]; exact info_prop) rfl rfl rfl rfl ?_; rw [hV6])
        | (refine load_mid 63 (.tmp 53) (HAV.out.lat_r q i4) _ Try.underlying63 rfl (by rw [ints_len, Hlq.out.fl]; exact info_prop) rfl rfl rfl ?_)
        | fail)
      refine wp_region_held_drew (S := (fun w' => w'.rangeAt kt 0 (ints p.pp.fl))) (by kernel_rfl) ((World.rangeAt_drew _ _ _ _).2 HT6.out.all) (fun hHeld => ?_)
      simp only [Act.put, List.size_toArray, List.length_cons, List.length_nil, Nat.zero_add]
      refine wpAnyH_take (i := 0) (v := .pointer (some ⟨A.b, 0, none⟩)) rfl (by kernel_rfl) (by kernel_rfl) (by kernel_rfl) (fun _ _ _ h => h) (Or.inl ⟨by rfl, fun w' hS => by go_simp⟩) hHeld ?_
      simp only [Act.put, gA9, gZ9, gC9, sA9, sZ9, sC9]
      refine wpAnyH_take (i := 1) (v := .int .i64 (q : Int)) rfl (by kernel_rfl) (by kernel_rfl) (by kernel_rfl) (fun _ _ _ h => h) (Or.inl ⟨by rfl, fun w' hS => by go_simp⟩) hHeld ?_
      simp only [Act.put, gA9, gZ9, gC9, sA9, sZ9, sC9]
      refine wpAnyH_take (i := 2) (v := .agg (ints p.pp.fl).toArray) rfl (by kernel_rfl) (by kernel_rfl) (by kernel_rfl) (fun _ _ _ h => h) (yieldsIf_load_mid (by rfl) 63 (.tmp 10) rfl kt (0) (by rfl) (ints p.pp.fl) _ (fun w' hS => hS) Try.underlying63 rfl (by rw [ints_len, HPL.out.fl]; exact info_prop)) hHeld ?_
      simp only [Act.put, gA9, gZ9, gC9, sA9, sZ9, sC9]
      refine wpAnyH_take (i := 3) (v := .pointer (some ⟨A.b, 0, none⟩)) rfl (by kernel_rfl) (by kernel_rfl) (by kernel_rfl) (fun _ _ _ h => h) (Or.inl ⟨by rfl, fun w' hS => by go_simp⟩) hHeld ?_
      simp only [Act.put, gA9, gZ9, gC9, sA9, sZ9, sC9]
      refine wpAnyH_take (i := 4) (v := .pointer (some ⟨A.b, 41, none⟩)) rfl (by kernel_rfl) (by kernel_rfl) (by kernel_rfl) (fun _ _ _ h => h) (Or.inl ⟨by rfl, fun w' hS => by go_simp⟩) hHeld ?_
      simp only [Act.put, gA9, gZ9, gC9, sA9, sZ9, sC9]
      refine wpAnyH_take (i := 5) (v := .pointer (some ⟨A.b, 41 + q * 39, none⟩)) rfl (by kernel_rfl) (by kernel_rfl) (by kernel_rfl) (fun _ _ _ h => h) (Or.inl ⟨by rfl, fun w' hS => by (go_simp <;> (intro hh; omega))⟩) hHeld ?_
      simp only [Act.put, gA9, gZ9, gC9, sA9, sZ9, sC9]
      refine wpAnyH_ready (rs := [6]) (by kernel_rfl) (by simp) ?_
      refine AllReadyH.cons rfl (fun K hK => ?_) AllReadyH.nil
      split
      · refine wp_store_mid 63 (.tmp 79) (.tmp 76) rfl A.b (41 + q * 39) (ints p.pp.fl).toArray rfl rfl (by simpa [ints, HPL.out.fl] using HThX.out) (by simpa [ints, HPL.out.fl] using info_prop) (all_oneCell_toArray (ints_one _)) ?_
        rw [List.toList_toArray, hX]
        refine hK.out _ _ HRX.out (fun hHeld => ?_)
        clear hK K hHeld
        refine wpAnyH_done (by kernel_rfl) ?_ _
        have HFo : Hid (Calls Try.prog 32 #[.pointer (some ⟨A.b, 0, none⟩), .int .i64 q] X fun e w' => e = .returned (.tuple #[.bool ((A.set1 q p.pp).folB q), .int .i64 ((A.set1 q p.pp).folE q)]) ∧ ((A.set1 q p.pp).folA q).Ok w' B T ∧ Kept X w' (fun j => j = A.b)) := follow_any HX.out hT q i4
        have Her : Hid ((A.set1 q p.pp).folE q ≠ 0 → (A.set1 q p.pp).folA q = A.set1 q p.pp) := folA_err _ q
        obtain ⟨E, hE0⟩ : ∃ E, (A.set1 q p.pp).folE q = E := ⟨_, rfl⟩
        rw [hE0] at HFo Her
        have HE0 : Hid ((A.set1 q p.pp).folE q = E) := hE0
        clear hE0
        by_cases hE : E = 0
        · subst hE
          go_wp2_with (first | (go_at_call 32; refine HFo.out.mono ?_; rintro e w3 ⟨rfl, hO, hK⟩) | fail)
          (try simp only [Exit.inBlock, Exit.then]); refine bodyPost_ret (results_tmp2 rfl _ _ _) rfl ?_
          exact ⟨by rw [HE0.out]; rfl, by rw [show A.tk1 q p.pp = (A.set1 q p.pp).folA q from if_pos HE0.out]; exact hO, HKX.out.trans hK⟩
        · have hE2 : (E != 0) = true := by simpa using hE
          go_wp2_with (first | (go_at_call 32; refine HFo.out.mono ?_; rintro e w3 ⟨rfl, hO, hK⟩; have HO3 : Hid ((A.set1 q p.pp).Ok w3 B T) := (by rw [Her.out hE] at hO; exact hO); have HK3 : Hid (Kept X w3 (fun j => j = A.b)) := hK; clear hO hK) | fail)
          have HKb3 : Hid (Rw w3 V.heap.size 63 (A.lat q).fl) := HKb.out.keep HK3.out (by omega)
          have hY1 : ({ A.set1 q p.pp with lat := upd (A.set1 q p.pp).lat q (A.lat q) } : Ag).Ok (w3.drew.setCells A.b (41 + q * 39) (ints (A.lat q).fl)) B T := (HO3.out.still (Below.refl _ _).drew).putLat q i4 (A.lat q) Hlq.out (HA0.out.lt q)
          have kY := ksets (P := fun j => j = A.b) rfl (ints (A.lat q).fl) (41 + q * 39) w3.drew
          have kW := Kept.ofBelow (Below.refl w3.heap.size w3).drew (fun j => j = A.b)
          have HThY : Hid (w3.drew.there A.b (41 + q * 39) 39) := (HO3.out.still (Below.refl _ _).drew).blk.there _ _ (by omega)
          generalize hY : w3.drew.setCells A.b (41 + q * 39) (ints (A.lat q).fl) = Y at *
          have HY : Hid (A.Ok Y B T) := unset1 hY1
          have HKY : Hid (Kept w Y (fun j => j = A.b)) := ((HKX.out.trans HK3.out).trans kW).trans kY
          have HRY : Hid (Y.rangeAt V.heap.size 0 (ints (A.lat q).fl)) := ((HKb3.out.keep kW (by omega)).keep kY (by omega)).all
          clear hY1 kY kW
          refine wp_region_held_drew (S := (fun w' => w'.rangeAt V.heap.size 0 (ints (A.lat q).fl))) (by kernel_rfl) ((World.rangeAt_drew _ _ _ _).2 HKb3.out.all) (fun hHeld => ?_)
          simp only [Act.put, List.size_toArray, List.length_cons, List.length_nil, Nat.zero_add]
          refine wpAnyH_take (i := 0) (v := .pointer (some ⟨A.b, 0, none⟩)) rfl (by kernel_rfl) (by kernel_rfl) (by kernel_rfl) (fun _ _ _ h => h) (Or.inl ⟨by rfl, fun w' hS => by go_simp⟩) hHeld ?_
          simp only [Act.put, gA9, gZ9, gC9, sA9, sZ9, sC9]
          refine wpAnyH_take (i := 1) (v := .int .i64 (q : Int)) rfl (by kernel_rfl) (by kernel_rfl) (by kernel_rfl) (fun _ _ _ h => h) (Or.inl ⟨by rfl, fun w' hS => by go_simp⟩) hHeld ?_
          simp only [Act.put, gA9, gZ9, gC9, sA9, sZ9, sC9]
          refine wpAnyH_take (i := 2) (v := .agg (ints (A.lat q).fl).toArray) rfl (by kernel_rfl) (by kernel_rfl) (by kernel_rfl) (fun _ _ _ h => h) (yieldsIf_load_mid (by rfl) 63 (.tmp 12) rfl V.heap.size (0) (by rfl) (ints (A.lat q).fl) _ (fun w' hS => hS) Try.underlying63 rfl (by rw [ints_len, Hlq.out.fl]; exact info_prop)) hHeld ?_
          simp only [Act.put, gA9, gZ9, gC9, sA9, sZ9, sC9]
          refine wpAnyH_take (i := 3) (v := .pointer (some ⟨A.b, 0, none⟩)) rfl (by kernel_rfl) (by kernel_rfl) (by kernel_rfl) (fun _ _ _ h => h) (Or.inl ⟨by rfl, fun w' hS => by go_simp⟩) hHeld ?_
          simp only [Act.put, gA9, gZ9, gC9, sA9, sZ9, sC9]
          refine wpAnyH_take (i := 4) (v := .pointer (some ⟨A.b, 41, none⟩)) rfl (by kernel_rfl) (by kernel_rfl) (by kernel_rfl) (fun _ _ _ h => h) (Or.inl ⟨by rfl, fun w' hS => by go_simp⟩) hHeld ?_
          simp only [Act.put, gA9, gZ9, gC9, sA9, sZ9, sC9]
          refine wpAnyH_take (i := 5) (v := .pointer (some ⟨A.b, 41 + q * 39, none⟩)) rfl (by kernel_rfl) (by kernel_rfl) (by kernel_rfl) (fun _ _ _ h => h) (Or.inl ⟨by rfl, fun w' hS => by (go_simp <;> (intro hh; omega))⟩) hHeld ?_
          simp only [Act.put, gA9, gZ9, gC9, sA9, sZ9, sC9]
          refine wpAnyH_ready (rs := [6]) (by kernel_rfl) (by simp) ?_
          refine AllReadyH.cons rfl (fun K hK => ?_) AllReadyH.nil
          split
          · refine wp_store_mid 63 (.tmp 93) (.tmp 90) rfl A.b (41 + q * 39) (ints (A.lat q).fl).toArray rfl rfl (by simpa [ints, Hlq.out.fl] using HThY.out) (by simpa [ints, Hlq.out.fl] using info_prop) (all_oneCell_toArray (ints_one _)) ?_
            rw [List.toList_toArray, hY]
            refine hK.out _ _ HRY.out (fun hHeld => ?_)
            clear hK K hHeld
            refine wpAnyH_done (by kernel_rfl) ?_ _
            go_wp2
            (try simp only [Exit.inBlock, Exit.then]); refine bodyPost_ret (results_tmp2 rfl _ _ _) rfl ?_
            exact ⟨by rw [HE0.out]; rfl, by rw [show A.tk1 q p.pp = A from if_neg (fun hh => hE (HE0.out.symm.trans hh))]; exact HY.out, HKY.out⟩
          · rename_i hh; exact absurd rfl hh
      · rename_i hh; exact absurd rfl hh
    · rename_i hh; exact absurd rfl hh
  · generalize hW3 : (W1.alloc (.cells #[.int .i64 0, .int .i64 0, .int .i64 0, .int .i64 0, .int .i64 0, .int .i64 0, .int .i64 0, .int .i64 0, .int .i64 0, .int .i64 0, .int .i64 0, .int .i64 0, .int .i64 0, .int .i64 0, .int .i64 0, .int .i64 0, .int .i64 0, .int .i64 0, .int .i64 0, .int .i64 0, .int .i64 0, .int .i64 0, .int .i64 0, .int .i64 0, .int .i64 0, .int .i64 0, .int .i64 0, .int .i64 0, .int .i64 0, .int .i64 0, .int .i64 0, .int .i64 0, .int .i64 0, .int .i64 0, .int .i64 0, .int .i64 0, .int .i64 0, .int .i64 0, .int .i64 0] 63)).drew = W3
    have bA : Below W1.heap.size W1 W3 := by rw [← hW3]; exact (balloc (Below.refl _ _)).drew
    have hZ0 : Rw W3 W1.heap.size 63 z39 := by unfold Rw; rw [← hW3]; exact heap_alloc_new W1 _
    have hktge : W1.heap.size ≤ W1.heap.size := Nat.le_refl _
    go_simp
    refine hK.out _ _ ⟨(bA.block _ (lt_heap HK1.out)).trans HK1.out, below_at bA c0, bA⟩ (fun hHeld => ?_)
    clear hK K
    refine wpAnyH_ready (rs := [7]) (by kernel_rfl) (by simp) ?_
    refine AllReadyH.cons rfl (fun K hK => ?_) AllReadyH.nil
    go_simp
    refine (HPr.out _ hHeld.2.2).mono ?_
    rintro e W2 ⟨P0, rfl, hPL, hPe, hb2⟩
    have hZ : Rw W2 W1.heap.size 63 z39 := hZ0.still hb2
    refine hK.out _ _ ⟨(hb2.block _ (lt_heap hHeld.1)).trans hHeld.1, below_at hb2 hHeld.2.1, bstep hHeld.2.2 hb2⟩ (fun hHeld => ?_)
    clear hK K
    refine wpAnyH_take (i := 8) (v := .tuple #[.agg (ints P0.fl).toArray, .bool (p.valid q inc A.n)]) rfl (by kernel_rfl) (by kernel_rfl) (by kernel_rfl) (fun _ _ _ h => h) (Or.inl ⟨by rfl, fun w' hS => by go_simp⟩) hHeld ?_
    simp only [Act.put, gA9, gZ9, gC9, sA9, sZ9, sC9]
    refine wpAnyH_take (i := 9) (v := .agg (ints P0.fl).toArray) rfl (by kernel_rfl) (by kernel_rfl) (by kernel_rfl) (fun _ _ _ h => h) (Or.inl ⟨by rfl, fun w' hS => by go_simp⟩) hHeld ?_
    simp only [Act.put, gA9, gZ9, gC9, sA9, sZ9, sC9]
    refine wpAnyH_take (i := 10) (v := .bool (p.valid q inc A.n)) rfl (by kernel_rfl) (by kernel_rfl) (by kernel_rfl) (fun _ _ _ h => h) (Or.inl ⟨by rfl, fun w' hS => by go_simp⟩) hHeld ?_
    simp only [Act.put, gA9, gZ9, gC9, sA9, sZ9, sC9]
    have hT0 : Rw W2 W1.heap.size 63 z39 := hZ
    refine wpAnyH_ready (rs := [12]) (by kernel_rfl) (by simp) ?_
    refine AllReadyH.cons rfl (fun K hK => ?_) AllReadyH.nil
    split
    · refine wp_store_mid 63 (.tmp 10) (.tmp 45) rfl W1.heap.size 0 (ints P0.fl).toArray rfl rfl (by simpa [ints, hPL.fl] using hT0.there 0 39 (by show 0 + 39 ≤ 39; omega)) (by simpa [ints, hPL.fl] using info_prop) (all_oneCell_toArray (ints_one _)) ?_
      rw [List.toList_toArray]
      have hTF : Rw (W2.setCells W1.heap.size 0 (ints P0.fl)) W1.heap.size 63 P0.fl := hT0.whole (by rw [hPL.fl]; rfl)
      have kTF := ksets (P := fun j => j = W1.heap.size) rfl (ints P0.fl) 0 W2
      have bTF : Below W1.heap.size W1 (W2.setCells W1.heap.size 0 (ints P0.fl)) := bsets hktge _ _ hHeld.2.2
      generalize W2.setCells W1.heap.size 0 (ints P0.fl) = V at *
      refine hK.out _ _ ⟨kTF.obj hHeld.1 (by omega), below_at bTF c0, bTF⟩ (fun hHeld => ?_)
      clear hK K
      refine wpAnyH_take (i := 13) (v := .bool (p.valid q inc A.n)) rfl (by kernel_rfl) (by kernel_rfl) (by kernel_rfl) (fun _ _ _ h => h) (Or.inl ⟨by rfl, fun w' hS => by go_simp⟩) hHeld ?_
      simp only [Act.put, gA9, gZ9, gC9, sA9, sZ9, sC9]
      refine wpAnyH_done (by kernel_rfl) ?_ _
      clear hHeld hT0 kTF bA hb2 hZ hZ0 hW3
      obtain rfl := hPe Hv.out
      rw [Hv.out]
      have hAV := HA1.out.still bTF
      have hktl : W1.heap.size < V.heap.size := hTF.lt
      have hsV := bTF.size
      generalize hV5 : V.alloc (.cells #[.int .i64 0, .int .i64 0, .int .i64 0, .int .i64 0, .int .i64 0, .int .i64 0, .int .i64 0, .int .i64 0, .int .i64 0, .int .i64 0, .int .i64 0, .int .i64 0, .int .i64 0, .int .i64 0, .int .i64 0, .int .i64 0, .int .i64 0, .int .i64 0, .int .i64 0, .int .i64 0, .int .i64 0, .int .i64 0, .int .i64 0, .int .i64 0, .int .i64 0, .int .i64 0, .int .i64 0, .int .i64 0, .int .i64 0, .int .i64 0, .int .i64 0, .int .i64 0, .int .i64 0, .int .i64 0, .int .i64 0, .int .i64 0, .int .i64 0, .int .i64 0, .int .i64 0] 63) = V5
      have b5 : Below V.heap.size V V5 := by rw [← hV5]; exact balloc (Below.refl _ _)
      have k5 : Rw V5 V.heap.size 63 z39 := by unfold Rw; rw [← hV5]; exact heap_alloc_new V _
      have lq := (HA0.out.ll q)
      have k6 := k5.whole (ys := (A.lat q).fl) (by rw [lq.fl]; rfl)
      have b6 : Below V.heap.size V (V5.setCells V.heap.size 0 (ints (A.lat q).fl)) := bsets (Nat.le_refl _) _ _ b5
      generalize hV6 : V5.setCells V.heap.size 0 (ints (A.lat q).fl) = V6 at *
      have hA6 := hAV.still b6
      have e1 : V6.cell? ⟨V.heap.size, q, none⟩ = some (.int .i64 ((A.lat q).set.getD q 0)) := by rw [k6.cell (i := q) (by rw [lq.fl]; omega), lq.at_set q i4]
      have e2 : V6.cell? ⟨V.heap.size, 17, none⟩ = some (.int .i64 (A.lat q).rev) := by rw [k6.cell (i := 17) (by rw [lq.fl]; omega), lq.rev]
      have e3 : V6.cell? ⟨W1.heap.size, 17, none⟩ = some (.int .i64 p.rev) := by rw [(hTF.still b6).cell (i := 17) (by rw [hPL.fl]; omega), hPL.rev]; rfl
      have HAV : Hid (A.Ok V B T) := hAV
      have HK5 : Hid (Rw V5 V.heap.size 63 z39) := k5
      have HK6 : Hid (Rw V6 V.heap.size 63 (A.lat q).fl) := k6
      have HA6 : Hid (A.Ok V6 B T) := hA6
      have HT6 : Hid (Rw V6 W1.heap.size 63 p.pp.fl) := hTF.still b6
      have HB6 : Hid (Below w.heap.size w V6) := bstep (bstep HB1.out bTF) b6
      have Hlq : Hid ((A.lat q).L) := lq
      have HPL : Hid p.pp.L := hPL
      generalize hsq : (A.lat q).set.getD q 0 = sq at *
      generalize hlr : (A.lat q).rev = lr at *
      have Hsq : Hid ((A.lat q).set.getD q 0 = sq) := hsq
      have Hlr : Hid ((A.lat q).rev = lr) := hlr
      clear hAV k5 k6 hA6 b5 b6 hTF lq hPL bTF hPe hsq hlr
      rw [← Ho.out] at e1
      have hle := Hle.out
      have hX1 := (HA6.out.still (Below.refl _ _).drew).putLat q i4 p.pp HPL.out Htop.out
      have kX := ksets (P := fun j => j = A.b) rfl (ints p.pp.fl) (41 + q * 39) V6.drew
      have kV := Kept.ofBelow (Below.refl V6.heap.size V6).drew (fun j => j = A.b)
      have HThX : Hid (V6.drew.there A.b (41 + q * 39) 39) := (HA6.out.still (Below.refl _ _).drew).blk.there _ _ (by omega)
      generalize hX : V6.drew.setCells A.b (41 + q * 39) (ints p.pp.fl) = X at *
      have HX : Hid ((A.set1 q p.pp).Ok X B T) := hX1
      have HKX : Hid (Kept w X (fun j => j = A.b)) := ((Kept.ofBelow HB6.out _).trans kV).trans kX
      have HKb : Hid (Rw X V.heap.size 63 (A.lat q).fl) := (HK6.out.keep kV (by omega)).keep kX (by omega)
      have HRX : Hid (X.rangeAt W1.heap.size 0 (ints p.pp.fl)) := ((HT6.out.keep kV (by omega)).keep kX (by omega)).all
      clear hX1 kX kV
      go_wp2_with (first
        | (refine store_mid 63 (.tmp 12) (.tmp 54) (HK5.out.there 0 (A.lat q).fl.length (by rw [Hlq.out.fl]; exact Nat.le_refl _)) (by rw [Hlq.out.fl]; exact info_prop) rfl rfl rfl rfl ?_; rw [hV6])
        | (refine load_mid 63 (.tmp 53) (HAV.out.lat_r q i4) _ Try.underlying63 rfl (by rw [ints_len, Hlq.out.fl]; exact info_prop) rfl rfl rfl ?_)
        | fail)
      refine wp_region_held_drew (S := (fun w' => w'.rangeAt W1.heap.size 0 (ints p.pp.fl))) (by kernel_rfl) ((World.rangeAt_drew _ _ _ _).2 HT6.out.all) (fun hHeld => ?_)
      simp only [Act.put, List.size_toArray, List.length_cons, List.length_nil, Nat.zero_add]
      refine wpAnyH_take (i := 0) (v := .pointer (some ⟨A.b, 0, none⟩)) rfl (by kernel_rfl) (by kernel_rfl) (by kernel_rfl) (fun _ _ _ h => h) (Or.inl ⟨by rfl, fun w' hS => by go_simp⟩) hHeld ?_
      simp only [Act.put, gA9, gZ9, gC9, sA9, sZ9, sC9]
      refine wpAnyH_take (i := 1) (v := .int .i64 (q : Int)) rfl (by kernel_rfl) (by kernel_rfl) (by kernel_rfl) (fun _ _ _ h => h) (Or.inl ⟨by rfl, fun w' hS => by go_simp⟩) hHeld ?_
      simp only [Act.put, gA9, gZ9, gC9, sA9, sZ9, sC9]
      refine wpAnyH_take (i := 2) (v := .agg (ints p.pp.fl).toArray) rfl (by kernel_rfl) (by kernel_rfl) (by kernel_rfl) (fun _ _ _ h => h) (yieldsIf_load_mid (by rfl) 63 (.tmp 10) rfl W1.heap.size (0) (by rfl) (ints p.pp.fl) _ (fun w' hS => hS) Try.underlying63 rfl (by rw [ints_len, HPL.out.fl]; exact info_prop)) hHeld ?_
      simp only [Act.put, gA9, gZ9, gC9, sA9, sZ9, sC9]
      refine wpAnyH_take (i := 3) (v := .pointer (some ⟨A.b, 0, none⟩)) rfl (by kernel_rfl) (by kernel_rfl) (by kernel_rfl) (fun _ _ _ h => h) (Or.inl ⟨by rfl, fun w' hS => by go_simp⟩) hHeld ?_
      simp only [Act.put, gA9, gZ9, gC9, sA9, sZ9, sC9]
      refine wpAnyH_take (i := 4) (v := .pointer (some ⟨A.b, 41, none⟩)) rfl (by kernel_rfl) (by kernel_rfl) (by kernel_rfl) (fun _ _ _ h => h) (Or.inl ⟨by rfl, fun w' hS => by go_simp⟩) hHeld ?_
      simp only [Act.put, gA9, gZ9, gC9, sA9, sZ9, sC9]
      refine wpAnyH_take (i := 5) (v := .pointer (some ⟨A.b, 41 + q * 39, none⟩)) rfl (by kernel_rfl) (by kernel_rfl) (by kernel_rfl) (fun _ _ _ h => h) (Or.inl ⟨by rfl, fun w' hS => by (go_simp <;> (intro hh; omega))⟩) hHeld ?_
      simp only [Act.put, gA9, gZ9, gC9, sA9, sZ9, sC9]
      refine wpAnyH_ready (rs := [6]) (by kernel_rfl) (by simp) ?_
      refine AllReadyH.cons rfl (fun K hK => ?_) AllReadyH.nil
      split
      · refine wp_store_mid 63 (.tmp 79) (.tmp 76) rfl A.b (41 + q * 39) (ints p.pp.fl).toArray rfl rfl (by simpa [ints, HPL.out.fl] using HThX.out) (by simpa [ints, HPL.out.fl] using info_prop) (all_oneCell_toArray (ints_one _)) ?_
        rw [List.toList_toArray, hX]
        refine hK.out _ _ HRX.out (fun hHeld => ?_)
        clear hK K hHeld
        refine wpAnyH_done (by kernel_rfl) ?_ _
        have HFo : Hid (Calls Try.prog 32 #[.pointer (some ⟨A.b, 0, none⟩), .int .i64 q] X fun e w' => e = .returned (.tuple #[.bool ((A.set1 q p.pp).folB q), .int .i64 ((A.set1 q p.pp).folE q)]) ∧ ((A.set1 q p.pp).folA q).Ok w' B T ∧ Kept X w' (fun j => j = A.b)) := follow_any HX.out hT q i4
        have Her : Hid ((A.set1 q p.pp).folE q ≠ 0 → (A.set1 q p.pp).folA q = A.set1 q p.pp) := folA_err _ q
        obtain ⟨E, hE0⟩ : ∃ E, (A.set1 q p.pp).folE q = E := ⟨_, rfl⟩
        rw [hE0] at HFo Her
        have HE0 : Hid ((A.set1 q p.pp).folE q = E) := hE0
        clear hE0
        by_cases hE : E = 0
        · subst hE
          go_wp2_with (first | (go_at_call 32; refine HFo.out.mono ?_; rintro e w3 ⟨rfl, hO, hK⟩) | fail)
          (try simp only [Exit.inBlock, Exit.then]); refine bodyPost_ret (results_tmp2 rfl _ _ _) rfl ?_
          exact ⟨by rw [HE0.out]; rfl, by rw [show A.tk1 q p.pp = (A.set1 q p.pp).folA q from if_pos HE0.out]; exact hO, HKX.out.trans hK⟩
        · have hE2 : (E != 0) = true := by simpa using hE
          go_wp2_with (first | (go_at_call 32; refine HFo.out.mono ?_; rintro e w3 ⟨rfl, hO, hK⟩; have HO3 : Hid ((A.set1 q p.pp).Ok w3 B T) := (by rw [Her.out hE] at hO; exact hO); have HK3 : Hid (Kept X w3 (fun j => j = A.b)) := hK; clear hO hK) | fail)
          have HKb3 : Hid (Rw w3 V.heap.size 63 (A.lat q).fl) := HKb.out.keep HK3.out (by omega)
          have hY1 : ({ A.set1 q p.pp with lat := upd (A.set1 q p.pp).lat q (A.lat q) } : Ag).Ok (w3.drew.setCells A.b (41 + q * 39) (ints (A.lat q).fl)) B T := (HO3.out.still (Below.refl _ _).drew).putLat q i4 (A.lat q) Hlq.out (HA0.out.lt q)
          have kY := ksets (P := fun j => j = A.b) rfl (ints (A.lat q).fl) (41 + q * 39) w3.drew
          have kW := Kept.ofBelow (Below.refl w3.heap.size w3).drew (fun j => j = A.b)
          have HThY : Hid (w3.drew.there A.b (41 + q * 39) 39) := (HO3.out.still (Below.refl _ _).drew).blk.there _ _ (by omega)
          generalize hY : w3.drew.setCells A.b (41 + q * 39) (ints (A.lat q).fl) = Y at *
          have HY : Hid (A.Ok Y B T) := unset1 hY1
          have HKY : Hid (Kept w Y (fun j => j = A.b)) := ((HKX.out.trans HK3.out).trans kW).trans kY
          have HRY : Hid (Y.rangeAt V.heap.size 0 (ints (A.lat q).fl)) := ((HKb3.out.keep kW (by omega)).keep kY (by omega)).all
          clear hY1 kY kW
          refine wp_region_held_drew (S := (fun w' => w'.rangeAt V.heap.size 0 (ints (A.lat q).fl))) (by kernel_rfl) ((World.rangeAt_drew _ _ _ _).2 HKb3.out.all) (fun hHeld => ?_)
          simp only [Act.put, List.size_toArray, List.length_cons, List.length_nil, Nat.zero_add]
          refine wpAnyH_take (i := 0) (v := .pointer (some ⟨A.b, 0, none⟩)) rfl (by kernel_rfl) (by kernel_rfl) (by kernel_rfl) (fun _ _ _ h => h) (Or.inl ⟨by rfl, fun w' hS => by go_simp⟩) hHeld ?_
          simp only [Act.put, gA9, gZ9, gC9, sA9, sZ9, sC9]
          refine wpAnyH_take (i := 1) (v := .int .i64 (q : Int)) rfl (by kernel_rfl) (by kernel_rfl) (by kernel_rfl) (fun _ _ _ h => h) (Or.inl ⟨by rfl, fun w' hS => by go_simp⟩) hHeld ?_
          simp only [Act.put, gA9, gZ9, gC9, sA9, sZ9, sC9]
          refine wpAnyH_take (i := 2) (v := .agg (ints (A.lat q).fl).toArray) rfl (by kernel_rfl) (by kernel_rfl) (by kernel_rfl) (fun _ _ _ h => h) (yieldsIf_load_mid (by rfl) 63 (.tmp 12) rfl V.heap.size (0) (by rfl) (ints (A.lat q).fl) _ (fun w' hS => hS) Try.underlying63 rfl (by rw [ints_len, Hlq.out.fl]; exact info_prop)) hHeld ?_
          simp only [Act.put, gA9, gZ9, gC9, sA9, sZ9, sC9]
          refine wpAnyH_take (i := 3) (v := .pointer (some ⟨A.b, 0, none⟩)) rfl (by kernel_rfl) (by kernel_rfl) (by kernel_rfl) (fun _ _ _ h => h) (Or.inl ⟨by rfl, fun w' hS => by go_simp⟩) hHeld ?_
          simp only [Act.put, gA9, gZ9, gC9, sA9, sZ9, sC9]
          refine wpAnyH_take (i := 4) (v := .pointer (some ⟨A.b, 41, none⟩)) rfl (by kernel_rfl) (by kernel_rfl) (by kernel_rfl) (fun _ _ _ h => h) (Or.inl ⟨by rfl, fun w' hS => by go_simp⟩) hHeld ?_
          simp only [Act.put, gA9, gZ9, gC9, sA9, sZ9, sC9]
          refine wpAnyH_take (i := 5) (v := .pointer (some ⟨A.b, 41 + q * 39, none⟩)) rfl (by kernel_rfl) (by kernel_rfl) (by kernel_rfl) (fun _ _ _ h => h) (Or.inl ⟨by rfl, fun w' hS => by (go_simp <;> (intro hh; omega))⟩) hHeld ?_
          simp only [Act.put, gA9, gZ9, gC9, sA9, sZ9, sC9]
          refine wpAnyH_ready (rs := [6]) (by kernel_rfl) (by simp) ?_
          refine AllReadyH.cons rfl (fun K hK => ?_) AllReadyH.nil
          split
          · refine wp_store_mid 63 (.tmp 93) (.tmp 90) rfl A.b (41 + q * 39) (ints (A.lat q).fl).toArray rfl rfl (by simpa [ints, Hlq.out.fl] using HThY.out) (by simpa [ints, Hlq.out.fl] using info_prop) (all_oneCell_toArray (ints_one _)) ?_
            rw [List.toList_toArray, hY]
            refine hK.out _ _ HRY.out (fun hHeld => ?_)
            clear hK K hHeld
            refine wpAnyH_done (by kernel_rfl) ?_ _
            go_wp2
            (try simp only [Exit.inBlock, Exit.then]); refine bodyPost_ret (results_tmp2 rfl _ _ _) rfl ?_
            exact ⟨by rw [HE0.out]; rfl, by rw [show A.tk1 q p.pp = A from if_neg (fun hh => hE (HE0.out.symm.trans hh))]; exact HY.out, HKY.out⟩
          · rename_i hh; exact absurd rfl hh
      · rename_i hh; exact absurd rfl hh
    · rename_i hh; exact absurd rfl hh
end
end Go.Proofs.Ytdegjhkjmgimpaa.Mb
