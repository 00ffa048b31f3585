import Derived.Test.YtfbollifegngjaaWp
import Derived.Test.YtfbollifegngjaaXh
namespace Go.Proofs.Ytfbollifegngjaa.Dt
open Go.RowKit
set_option linter.unusedVariables false
set_option maxRecDepth 100000
set_option linter.unusedSimpArgs false
section
variable {D D' : De} {R R' : Rf} {w w' W V : World} {B m : Nat}
set_option maxHeartbeats 400000 in
theorem list2_hears (h : Du D R w B m) (hm : m ≤ 2513169434917) : Calls Try.prog 35 #[.pointer (some ⟨D.b, 0, none⟩), .pointer (some ⟨R.b, 0, none⟩), .int .i64 5] w fun e w' => ∃ v1 v2, e = .returned (.tuple #[v1, v2]) ∧ Two w' v1 v2 ∧ (∃ xs : List Int, w'.ownsRow w.heap.size 3 1 v1 xs.length (ints xs) ∧ xs.length ≤ 16) ∧ Below w.heap.size w w' := by
  have hlen := h.len
  have h16 := h.r.num
  have heq := h.sim.hears (h.sim.deaf h.r)
  have H1 := hears_any h.d
  unfold De.hears at H1
  have H2 : Hid (∀ w', Below w.heap.size w w' → Calls Try.prog 46 #[.pointer (some ⟨R.b, 0, none⟩)] w' fun e w2 => ∃ v, e = .returned v ∧ w2.ownsRow w'.heap.size 3 1 v (R.hears R.n).length (ints (R.hears R.n)) ∧ Below w'.heap.size w' w2) := fun w' hb => rhears_any (h.r.still hb) (by omega)
  have Hdn : Hid (D.n = R.n) := h.sim.n
  clear h
  go_enter Try.func35, Try.ntmps35
  go_wp2_with (fail)
  refine H1.mono ?_
  rintro e w1 ⟨v1, rfl, g1, rfl, hg1, ho1, hb1⟩
  have B1 : Hid (Below w.heap.size w w1) := hb1
  go_wp2_with (fail)
  refine (H2.out _ B1.out).mono ?_
  rintro e w2 ⟨v2, rfl, ho2, hb2⟩
  have Hrow : Hid (∃ xs : List Int, w2.ownsRow w.heap.size 3 1 (.slice (some ⟨g1, 0, none⟩) D.n D.n) xs.length (ints xs) ∧ xs.length ≤ 16) := ⟨_, (show World.ownsRow _ _ _ _ _ _ _ from by rw [lst_len]; exact (ho1.still hb2).own hg1 (lst_len _ _ _) (by unfold maxLen; have := Hdn.out; omega)), by rw [lst_len]; have := Hdn.out; omega⟩
  have Hfin : Hid (Two w2 (.slice (some ⟨g1, 0, none⟩) D.n D.n) v2 ∧ Below w.heap.size w w2) := by
    unfold De.hears at heq
    rw [heq] at ho1
    refine ⟨Two.of (xs := R.hears R.n) (by have := ((ho1.still hb2).own (B := 0) (n := R.n) (Nat.zero_le _) (by simp [Rf.hears]) (by unfold maxLen; omega)); simpa [Rf.hears, Hdn.out] using this) ho2 ?_, bstep B1.out hb2⟩
    simp [Rf.hears]; omega
  clear ho2 hb2 ho1 hb1
  go_wp2
  go_ret2
  exact ⟨_, _, rfl, Hfin.out.1, Hrow.out, Hfin.out.2⟩
set_option maxHeartbeats 400000 in
theorem list2_ests (h : Du D R w B m) (hm : m ≤ 2513169434917) : Calls Try.prog 35 #[.pointer (some ⟨D.b, 0, none⟩), .pointer (some ⟨R.b, 0, none⟩), .int .i64 6] w fun e w' => ∃ v1 v2, e = .returned (.tuple #[v1, v2]) ∧ Two w' v1 v2 ∧ (∃ xs : List Int, w'.ownsRow w.heap.size 3 1 v1 xs.length (ints xs) ∧ xs.length ≤ 16) ∧ Below w.heap.size w w' := by
  have hlen := h.len
  have h16 := h.r.num
  have heq := h.sim.ests
  have H1 := est_any h.d
  unfold De.ests at H1
  have H2 : Hid (∀ w', Below w.heap.size w w' → Calls Try.prog 47 #[.pointer (some ⟨R.b, 0, none⟩)] w' fun e w2 => ∃ v, e = .returned v ∧ w2.ownsRow w'.heap.size 3 1 v (R.ests R.n).length (ints (R.ests R.n)) ∧ Below w'.heap.size w' w2) := fun w' hb => rests_any (h.r.still hb) (by omega)
  have Hdn : Hid (D.n = R.n) := h.sim.n
  clear h
  go_enter Try.func35, Try.ntmps35
  go_wp2_with (fail)
  refine H1.mono ?_
  rintro e w1 ⟨v1, rfl, g1, rfl, hg1, ho1, hb1⟩
  have B1 : Hid (Below w.heap.size w w1) := hb1
  go_wp2_with (fail)
  refine (H2.out _ B1.out).mono ?_
  rintro e w2 ⟨v2, rfl, ho2, hb2⟩
  have Hrow : Hid (∃ xs : List Int, w2.ownsRow w.heap.size 3 1 (.slice (some ⟨g1, 0, none⟩) D.n D.n) xs.length (ints xs) ∧ xs.length ≤ 16) := ⟨_, (show World.ownsRow _ _ _ _ _ _ _ from by rw [lst_len]; exact (ho1.still hb2).own hg1 (lst_len _ _ _) (by unfold maxLen; have := Hdn.out; omega)), by rw [lst_len]; have := Hdn.out; omega⟩
  have Hfin : Hid (Two w2 (.slice (some ⟨g1, 0, none⟩) D.n D.n) v2 ∧ Below w.heap.size w w2) := by
    unfold De.ests at heq
    rw [heq] at ho1
    refine ⟨Two.of (xs := R.ests R.n) (by have := ((ho1.still hb2).own (B := 0) (n := R.n) (Nat.zero_le _) (by simp [Rf.ests]) (by unfold maxLen; omega)); simpa [Rf.ests, Hdn.out] using this) ho2 ?_, bstep B1.out hb2⟩
    simp [Rf.ests]; omega
  clear ho2 hb2 ho1 hb1
  go_wp2
  go_ret2
  exact ⟨_, _, rfl, Hfin.out.1, Hrow.out, Hfin.out.2⟩
set_option maxHeartbeats 400000 in
theorem list2_sus (h : Du D R w B m) (hm : m ≤ 2513169434917) : Calls Try.prog 35 #[.pointer (some ⟨D.b, 0, none⟩), .pointer (some ⟨R.b, 0, none⟩), .int .i64 7] w fun e w' => ∃ v1 v2, e = .returned (.tuple #[v1, v2]) ∧ Two w' v1 v2 ∧ (∃ xs : List Int, w'.ownsRow w.heap.size 3 1 v1 xs.length (ints xs) ∧ xs.length ≤ 16) ∧ Below w.heap.size w w' := by
  have hlen := h.len
  have h16 := h.r.num
  have heq := h.sim.sus h.d
  have H1 := sus_any h.d
  have H2 : Hid (∀ w', Below w.heap.size w w' → Calls Try.prog 49 #[.pointer (some ⟨R.b, 0, none⟩)] w' fun e w2 => ∃ v, e = .returned v ∧ w2.ownsRow w'.heap.size 3 1 v (R.sus R.n).length (ints (R.sus R.n)) ∧ Below w'.heap.size w' w2) := fun w' hb => rsus_any (h.r.still hb) (by omega)
  have Hdn : Hid (D.n = R.n) := h.sim.n
  clear h
  go_enter Try.func35, Try.ntmps35
  go_wp2_with (fail)
  refine H1.mono ?_
  rintro e w1 ⟨v1, rfl, ho1, hb1⟩
  have B1 : Hid (Below w.heap.size w w1) := hb1
  go_wp2_with (fail)
  refine (H2.out _ B1.out).mono ?_
  rintro e w2 ⟨v2, rfl, ho2, hb2⟩
  have Hrow : Hid (∃ xs : List Int, w2.ownsRow w.heap.size 3 1 v1 xs.length (ints xs) ∧ xs.length ≤ 16) := ⟨_, own_still ho1 hb2, (by have := susN_le D D.n; have := Hdn.out; unfold De.sus; omega)⟩
  have Hfin : Hid (Two w2 v1 v2 ∧ Below w.heap.size w w2) := by
    rw [heq] at ho1
    refine ⟨Two.of (own_still ho1 hb2) ho2 ?_, bstep B1.out hb2⟩
    unfold Rf.sus; rw [List.length_map]; exact Nat.le_trans (List.length_filter_le _ _) (by simp; omega)
  clear ho2 hb2 ho1 hb1
  go_wp2
  go_ret2
  exact ⟨_, _, rfl, Hfin.out.1, Hrow.out, Hfin.out.2⟩
set_option maxHeartbeats 2000000 in
theorem list2_beat (h : Du D R w B m) (hm : m ≤ 2513169434917) : Calls Try.prog 35 #[.pointer (some ⟨D.b, 0, none⟩), .pointer (some ⟨R.b, 0, none⟩), .int .i64 4] w fun e w' => ∃ v1 g2 c2, e = .returned (.tuple #[v1, .slice (some ⟨g2, 0, none⟩) (1 + D.n) c2]) ∧ 1 + D.n ≤ c2 ∧ RdI w' (some ⟨g2, 0, none⟩) (1 + D.n) (D.tick :: D.hears) ∧ Below w.heap.size w w' := by
  obtain ⟨i0, hi, hz0, hz1, hz2⟩ := info_parts info_i
  have hlen := h.len
  have h16 := h.r.num
  have heq := h.sim.hears (h.sim.deaf h.r)
  have htt : (R.tk : Int) = D.tick := h.sim.tick.symm
  have H1 := beat_any h.d
  have H2 : Hid (∀ w', Below w.heap.size w w' → Calls Try.prog 45 #[.pointer (some ⟨R.b, 0, none⟩)] w' fun e w2 => ∃ v, e = .returned (.agg #[.int .i64 (R.tk : Int), v]) ∧ w2.ownsRow w'.heap.size 3 1 v (R.hears R.n).length (ints (R.hears R.n)) ∧ Below w'.heap.size w' w2) := fun w' hb => rbeat_any (h.r.still hb) (by omega)
  have hdn : D.n = R.n := h.sim.n
  have hxl : (R.hears R.n).length = D.n := by rw [hdn]; simp [Rf.hears]
  clear h
  rw [heq] at H1 ⊢
  generalize R.hears R.n = xs at *
  generalize D.tick = ta at *
  generalize (R.tk : Int) = tb at *
  have Htt : Hid (tb = ta) := htt
  generalize D.n = n at *
  have h1n : 1 ≤ n := by omega
  have hn16 : n ≤ 16 := by omega
  rw [hxl] at H2
  clear htt heq hdn
  go_enter Try.func35, Try.ntmps35
  go_wp2_with (fail)
  refine H1.mono ?_
  rintro e w1 ⟨v1, rfl, ga, rfl, hg1, ho1, hb1⟩
  generalize hA1 : w1.alloc (.cells #[.int .i64 ta, .slice (some ⟨ga, 0, none⟩) n n] 38) = A1
  have hbA : Below w1.heap.size w1 A1 := by rw [← hA1]; exact balloc (Below.refl _ w1)
  have hkA : A1.heap[w1.heap.size]? = some (.cells #[.int .i64 ta, .slice (some ⟨ga, 0, none⟩) n n] 38 (0, 0)) := by rw [← hA1]; exact heap_alloc_new w1 _
  have BA : Hid (Below w.heap.size w A1) := bstep hb1 hbA
  have OA : Hid (BlkI A1 ga xs) := ho1.still hbA
  obtain ⟨ba, hba⟩ : ∃ g, w1.heap.size = g := ⟨_, rfl⟩
  rw [hba] at hkA
  have KA : Hid (A1.heap[ba]? = some (.cells #[.int .i64 ta, .slice (some ⟨ga, 0, none⟩) n n] 38 (0, 0))) := hkA
  clear hg1 ho1 hb1 hbA hkA
  go_wp2_with (fail)
  refine (H2.out _ BA.out).mono ?_
  rintro e w2 ⟨v2, rfl, ho2, hb2⟩
  obtain ⟨av, cb, hv⟩ := own_slice0 ho2
  subst hv
  have hrd := own_rd ho2
  obtain ⟨gb, hgb⟩ : ∃ gb, av = some ⟨gb, 0, none⟩ := by
    rcases ho2.2 with ⟨e1, e2⟩ | ⟨g, cap, cur, hv, _⟩
    · omega
    · simp at hv; exact ⟨g, hv.1⟩
  subst hgb
  generalize hA2 : w2.alloc (.cells #[.int .i64 tb, .slice (some ⟨gb, 0, none⟩) n cb] 38) = V
  have hbV : Below w2.heap.size w2 V := by rw [← hA2]; exact balloc (Below.refl _ w2)
  have hkV : V.heap[w2.heap.size]? = some (.cells #[.int .i64 tb, .slice (some ⟨gb, 0, none⟩) n cb] 38 (0, 0)) := by rw [← hA2]; exact heap_alloc_new w2 _
  have hbAV : Below A1.heap.size A1 V := bstep hb2 hbV
  have HV : Hid (Below w.heap.size w V) := bstep BA.out hbAV
  have KAV := (hbAV.block _ (lt_heap KA.out)).trans KA.out
  have HA : Hid (∀ w', Below V.heap.size V w' → ∀ j u, (ints xs)[j]? = some u → w'.cell? ((⟨ga, 0, none⟩ : Addr).add j) = some u) := fun w' hb => rd_news (((OA.out.still hbAV).still hb).rd hxl) (by omega)
  have HBb : Hid (∀ w', Below V.heap.size V w' → ∀ j u, (ints xs)[j]? = some u → w'.cell? ((⟨gb, 0, none⟩ : Addr).add j) = some u) := fun w' hb => rd_news ((hrd.still hbV).still hb) (by omega)
  obtain ⟨bb, hbb⟩ : ∃ g, w2.heap.size = g := ⟨_, rfl⟩
  rw [hbb] at hkV
  have HT1 : Hid (∀ w', Below V.heap.size V w' → w'.cell? ⟨ba, 0, none⟩ = some (.int .i64 ta)) := fun w' hb => below_at hb (blk_cell KAV 0)
  have HS1 : Hid (∀ w', Below V.heap.size V w' → w'.cell? ⟨ba, 1, none⟩ = some (.slice (some ⟨ga, 0, none⟩) n n)) := fun w' hb => below_at hb (blk_cell KAV 1)
  have HT2 : Hid (∀ w', Below V.heap.size V w' → w'.cell? ⟨bb, 0, none⟩ = some (.int .i64 tb)) := fun w' hb => below_at hb (blk_cell hkV 0)
  have HS2 : Hid (∀ w', Below V.heap.size V w' → w'.cell? ⟨bb, 1, none⟩ = some (.slice (some ⟨gb, 0, none⟩) n cb)) := fun w' hb => below_at hb (blk_cell hkV 1)
  clear ho2 hb2 hrd hbV hkV hbAV KAV
  go_wp2
  clear hba hbb hA1 hA2
  refine wp_region_held_drew (S := (fun w' => Below V.heap.size V w')) (by kernel_rfl) (Below.refl _ _).drew (fun hHeld => ?_)
  simp only [Act.put, List.size_toArray, List.length_cons, List.length_nil, Nat.zero_add]
  refine wpAnyH_take (i := 0) (v := .pointer (some ⟨ba, 0, none⟩)) rfl (by kernel_rfl) (by kernel_rfl) (by kernel_rfl) (fun _ _ _ h => h) (Or.inl ⟨by rfl, fun w' hS => by go_simp⟩) hHeld ?_
  simp only [Act.put, List.getElem_toArray, List.getElem_cons_zero, List.getElem_cons_succ, List.setIfInBounds_toArray, List.set_cons_zero, List.set_cons_succ]
  refine wpAnyH_take (i := 1) (v := .int .i64 ta) rfl (by kernel_rfl) (by kernel_rfl) (by kernel_rfl) (fun _ _ _ h => h) (Or.inl ⟨by rfl, fun w' hS => by (have hq := HT1.out w' hS; go_simp)⟩) hHeld ?_
  simp only [Act.put, List.getElem_toArray, List.getElem_cons_zero, List.getElem_cons_succ, List.setIfInBounds_toArray, List.set_cons_zero, List.set_cons_succ]
  refine wpAnyH_take (i := 3) (v := .pointer (some ⟨ba, 1, none⟩)) rfl (by kernel_rfl) (by kernel_rfl) (by kernel_rfl) (fun _ _ _ h => h) (Or.inl ⟨by rfl, fun w' hS => by go_simp⟩) hHeld ?_
  simp only [Act.put, List.getElem_toArray, List.getElem_cons_zero, List.getElem_cons_succ, List.setIfInBounds_toArray, List.set_cons_zero, List.set_cons_succ]
  refine wpAnyH_take (i := 4) (v := .slice (some ⟨ga, 0, none⟩) n n) rfl (by kernel_rfl) (by kernel_rfl) (by kernel_rfl) (fun _ _ _ h => h) (Or.inl ⟨by rfl, fun w' hS => by (have hq := HS1.out w' hS; go_simp)⟩) hHeld ?_
  simp only [Act.put, List.getElem_toArray, List.getElem_cons_zero, List.getElem_cons_succ, List.setIfInBounds_toArray, List.set_cons_zero, List.set_cons_succ]
  refine wpAnyH_take (i := 6) (v := .pointer (some ⟨bb, 0, none⟩)) rfl (by kernel_rfl) (by kernel_rfl) (by kernel_rfl) (fun _ _ _ h => h) (Or.inl ⟨by rfl, fun w' hS => by go_simp⟩) hHeld ?_
  simp only [Act.put, List.getElem_toArray, List.getElem_cons_zero, List.getElem_cons_succ, List.setIfInBounds_toArray, List.set_cons_zero, List.set_cons_succ]
  refine wpAnyH_take (i := 7) (v := .int .i64 tb) rfl (by kernel_rfl) (by kernel_rfl) (by kernel_rfl) (fun _ _ _ h => h) (Or.inl ⟨by rfl, fun w' hS => by (have hq := HT2.out w' hS; go_simp)⟩) hHeld ?_
  simp only [Act.put, List.getElem_toArray, List.getElem_cons_zero, List.getElem_cons_succ, List.setIfInBounds_toArray, List.set_cons_zero, List.set_cons_succ]
  refine wpAnyH_take (i := 9) (v := .pointer (some ⟨bb, 1, none⟩)) rfl (by kernel_rfl) (by kernel_rfl) (by kernel_rfl) (fun _ _ _ h => h) (Or.inl ⟨by rfl, fun w' hS => by go_simp⟩) hHeld ?_
  simp only [Act.put, List.getElem_toArray, List.getElem_cons_zero, List.getElem_cons_succ, List.setIfInBounds_toArray, List.set_cons_zero, List.set_cons_succ]
  refine wpAnyH_take (i := 10) (v := .slice (some ⟨gb, 0, none⟩) n cb) rfl (by kernel_rfl) (by kernel_rfl) (by kernel_rfl) (fun _ _ _ h => h) (Or.inl ⟨by rfl, fun w' hS => by (have hq := HS2.out w' hS; go_simp)⟩) hHeld ?_
  simp only [Act.put, List.getElem_toArray, List.getElem_cons_zero, List.getElem_cons_succ, List.setIfInBounds_toArray, List.set_cons_zero, List.set_cons_succ]
  obtain ⟨V0, hV0, BV0⟩ : ∃ V0, V.drew = V0 ∧ Hid (Below V.heap.size V V0) := ⟨_, rfl, (Below.refl _ _).drew⟩
  rw [hV0] at hHeld ⊢
  clear hV0
  refine wpAnyH_ready (rs := [2, 8]) (by kernel_rfl) (by simp) ?_
  refine AllReadyH.cons rfl (fun K hK => ?_) (AllReadyH.cons rfl (fun K hK => ?_) AllReadyH.nil)
  · skip
    go_simp
    obtain ⟨X1, hX1⟩ : ∃ X, V0.alloc (.cells #[.int .i64 ta] 3) = X := ⟨_, rfl⟩
    have BX2 : Hid (Below V.heap.size V X1) := by rw [← hX1]; exact balloc BV0.out
    have hF3 : BlkI X1 V0.heap.size [ta] := by rw [← hX1]; exact heap_alloc_new V0 _
    have F30 := hF3.own (B := V.heap.size) (n := 1) BV0.out.size rfl (by unfold maxLen; omega)
    refine hK.out _ _ (by rw [hX1]; exact BX2.out) (fun hHeld => ?_)
    clear hK K
    rw [hX1] at hHeld ⊢
    obtain ⟨g4, hg4⟩ : ∃ g, V0.heap.size = g := ⟨_, rfl⟩
    rw [hg4] at F30 ⊢
    have F3 : Hid (X1.ownsRow V.heap.size 3 1 (.slice (some ⟨g4, 0, none⟩) 1 1) 1 [.int .i64 ta]) := F30
    clear hF3 F30 hg4 hX1
    refine wpAnyH_ready (rs := [5, 8]) (by kernel_rfl) (by simp) ?_
    refine AllReadyH.cons rfl (fun K hK => ?_) (AllReadyH.cons rfl (fun K hK => ?_) AllReadyH.nil)
    · skip
      refine step_append_lies _ (by rfl) _ _ 25 (by rfl) V.heap.size 3 i0 (.int .i64 0) 1 8 Try.underlying25 hi hz0 hz1 hz2 (by rfl) (by omega) (.slice (some ⟨g4, 0, none⟩) 1 1) 1 [.int .i64 ta] (by rfl) F3.out ⟨ga, 0, none⟩ n n (ints xs) (by rfl) (by rw [ints_len]; omega) (HA.out X1 BX2.out) (ints_one xs) (by omega) (by unfold maxLen; omega) (by omega) BX2.out.size _ (by rfl) ?_
      intro k5 c6 Y7 hoY7 hgY7 haY7 hlY7
      have BY8 : Hid (Below V.heap.size V Y7) := BX2.out.grown hgY7 (by have := BX2.out.size; omega) (fun q hq => (World.ownsRow.lt F3.out q hq).1)
      have F9 : Hid (Y7.ownsRow V.heap.size 3 1 (.slice (some ⟨k5, 0, none⟩) (1 + n) c6) (1 + n) ([.int .i64 ta] ++ ints xs)) := hoY7
      refine hK.out _ _ BY8.out (fun hHeld => ?_)
      clear hK K hoY7 hgY7 haY7 hlY7
      refine wpAnyH_ready (rs := [8]) (by kernel_rfl) (by simp) ?_
      refine AllReadyH.cons rfl (fun K hK => ?_) AllReadyH.nil
      go_simp
      obtain ⟨X10, hX10⟩ : ∃ X, Y7.alloc (.cells #[.int .i64 tb] 3) = X := ⟨_, rfl⟩
      have BX11 : Hid (Below V.heap.size V X10) := by rw [← hX10]; exact balloc BY8.out
      have hF12 : BlkI X10 Y7.heap.size [tb] := by rw [← hX10]; exact heap_alloc_new Y7 _
      have F120 := hF12.own (B := V.heap.size) (n := 1) BY8.out.size rfl (by unfold maxLen; omega)
      have ltF14 : k5 < Y7.heap.size := (World.ownsRow.lt F9.out _ rfl).2
      have F14 : Hid (X10.ownsRow V.heap.size 3 1 (.slice (some ⟨k5, 0, none⟩) (1 + n) c6) (1 + n) ([.int .i64 ta] ++ ints xs)) := by rw [← hX10]; exact World.ownsRow.alloc F9.out _
      refine hK.out _ _ (by rw [hX10]; exact BX11.out) (fun hHeld => ?_)
      clear hK K
      rw [hX10] at hHeld ⊢
      obtain ⟨g13, hg13⟩ : ∃ g, Y7.heap.size = g := ⟨_, rfl⟩
      rw [hg13] at F120 ⊢
      have neg13 : g13 ≠ k5 := by omega
      have F12 : Hid (X10.ownsRow V.heap.size 3 1 (.slice (some ⟨g13, 0, none⟩) 1 1) 1 [.int .i64 tb]) := F120
      clear hF12 F120 hg13 hX10
      refine wpAnyH_ready (rs := [11]) (by kernel_rfl) (by simp) ?_
      refine AllReadyH.cons rfl (fun K hK => ?_) AllReadyH.nil
      refine step_append_lies _ (by rfl) _ _ 25 (by rfl) V.heap.size 3 i0 (.int .i64 0) 1 8 Try.underlying25 hi hz0 hz1 hz2 (by rfl) (by omega) (.slice (some ⟨g13, 0, none⟩) 1 1) 1 [.int .i64 tb] (by rfl) F12.out ⟨gb, 0, none⟩ n cb (ints xs) (by rfl) (by rw [ints_len]; omega) (HBb.out X10 BX11.out) (ints_one xs) (by omega) (by unfold maxLen; omega) (by omega) BX11.out.size _ (by rfl) ?_
      intro k15 c16 Y17 hoY17 hgY17 haY17 hlY17
      have BY18 : Hid (Below V.heap.size V Y17) := BX11.out.grown hgY17 (by have := BX11.out.size; omega) (fun q hq => (World.ownsRow.lt F12.out q hq).1)
      have ltF20 : k5 < X10.heap.size := (World.ownsRow.lt F14.out _ rfl).2
      have F20 : Hid (Y17.ownsRow V.heap.size 3 1 (.slice (some ⟨k5, 0, none⟩) (1 + n) c6) (1 + n) ([.int .i64 ta] ++ ints xs)) := (Kept.ofGrown hgY17).owns F14.out (fun k hk e => by simp [Value.ownBlock] at hk e; exact neg13.symm (by omega))
      have nek15 : k15 ≠ k5 := by rcases haY17 with e | e; (simp [Value.ownBlock] at e; have := neg13; omega); (omega)
      have F19 : Hid (Y17.ownsRow V.heap.size 3 1 (.slice (some ⟨k15, 0, none⟩) (1 + n) c16) (1 + n) ([.int .i64 tb] ++ ints xs)) := hoY17
      refine hK.out _ _ BY18.out (fun hHeld => ?_)
      clear hK K hoY17 hgY17 haY17 hlY17
      refine wpAnyH_take (i := 12) (v := .slice (some ⟨k5, 0, none⟩) (1 + n) c6) rfl (by kernel_rfl) (by kernel_rfl) (by kernel_rfl) (fun _ _ _ h => h) (Or.inl ⟨by rfl, fun w' hS => by go_simp⟩) hHeld ?_
      simp only [Act.put, List.getElem_toArray, List.getElem_cons_zero, List.getElem_cons_succ, List.setIfInBounds_toArray, List.set_cons_zero, List.set_cons_succ]
      refine wpAnyH_take (i := 13) (v := .slice (some ⟨k15, 0, none⟩) (1 + n) c16) rfl (by kernel_rfl) (by kernel_rfl) (by kernel_rfl) (fun _ _ _ h => h) (Or.inl ⟨by rfl, fun w' hS => by go_simp⟩) hHeld ?_
      simp only [Act.put, List.getElem_toArray, List.getElem_cons_zero, List.getElem_cons_succ, List.setIfInBounds_toArray, List.set_cons_zero, List.set_cons_succ]
      refine wpAnyH_done (by kernel_rfl) ?_ _
      clear hHeld
      go_wp2
      go_ret2
      exact ⟨_, _, _, rfl, own_cap F19.out, own_rd (xs := ta :: xs) (by have := F19.out; rw [Htt.out] at this; exact this), HV.out.trans (BY18.out.mono HV.out.size)⟩
    · skip
      go_simp
      obtain ⟨X21, hX21⟩ : ∃ X, X1.alloc (.cells #[.int .i64 tb] 3) = X := ⟨_, rfl⟩
      have BX22 : Hid (Below V.heap.size V X21) := by rw [← hX21]; exact balloc BX2.out
      have hF23 : BlkI X21 X1.heap.size [tb] := by rw [← hX21]; exact heap_alloc_new X1 _
      have F230 := hF23.own (B := V.heap.size) (n := 1) BX2.out.size rfl (by unfold maxLen; omega)
      have ltF25 : g4 < X1.heap.size := (World.ownsRow.lt F3.out _ rfl).2
      have F25 : Hid (X21.ownsRow V.heap.size 3 1 (.slice (some ⟨g4, 0, none⟩) 1 1) 1 [.int .i64 ta]) := by rw [← hX21]; exact World.ownsRow.alloc F3.out _
      refine hK.out _ _ (by rw [hX21]; exact BX22.out) (fun hHeld => ?_)
      clear hK K
      rw [hX21] at hHeld ⊢
      obtain ⟨g24, hg24⟩ : ∃ g, X1.heap.size = g := ⟨_, rfl⟩
      rw [hg24] at F230 ⊢
      have neg24 : g24 ≠ g4 := by omega
      have F23 : Hid (X21.ownsRow V.heap.size 3 1 (.slice (some ⟨g24, 0, none⟩) 1 1) 1 [.int .i64 tb]) := F230
      clear hF23 F230 hg24 hX21
      refine wpAnyH_ready (rs := [5]) (by kernel_rfl) (by simp) ?_
      refine AllReadyH.cons rfl (fun K hK => ?_) AllReadyH.nil
      refine step_append_lies _ (by rfl) _ _ 25 (by rfl) V.heap.size 3 i0 (.int .i64 0) 1 8 Try.underlying25 hi hz0 hz1 hz2 (by rfl) (by omega) (.slice (some ⟨g4, 0, none⟩) 1 1) 1 [.int .i64 ta] (by rfl) F25.out ⟨ga, 0, none⟩ n n (ints xs) (by rfl) (by rw [ints_len]; omega) (HA.out X21 BX22.out) (ints_one xs) (by omega) (by unfold maxLen; omega) (by omega) BX22.out.size _ (by rfl) ?_
      intro k26 c27 Y28 hoY28 hgY28 haY28 hlY28
      have BY29 : Hid (Below V.heap.size V Y28) := BX22.out.grown hgY28 (by have := BX22.out.size; omega) (fun q hq => (World.ownsRow.lt F25.out q hq).1)
      have ltF31 : g24 < X21.heap.size := (World.ownsRow.lt F23.out _ rfl).2
      have F31 : Hid (Y28.ownsRow V.heap.size 3 1 (.slice (some ⟨g24, 0, none⟩) 1 1) 1 [.int .i64 tb]) := (Kept.ofGrown hgY28).owns F23.out (fun k hk e => by simp [Value.ownBlock] at hk e; exact neg24 (by omega))
      have nek26 : k26 ≠ g24 := by rcases haY28 with e | e; (simp [Value.ownBlock] at e; have := neg24.symm; omega); (omega)
      have F30 : Hid (Y28.ownsRow V.heap.size 3 1 (.slice (some ⟨k26, 0, none⟩) (1 + n) c27) (1 + n) ([.int .i64 ta] ++ ints xs)) := hoY28
      refine hK.out _ _ BY29.out (fun hHeld => ?_)
      clear hK K hoY28 hgY28 haY28 hlY28
      refine wpAnyH_ready (rs := [11]) (by kernel_rfl) (by simp) ?_
      refine AllReadyH.cons rfl (fun K hK => ?_) AllReadyH.nil
      refine step_append_lies _ (by rfl) _ _ 25 (by rfl) V.heap.size 3 i0 (.int .i64 0) 1 8 Try.underlying25 hi hz0 hz1 hz2 (by rfl) (by omega) (.slice (some ⟨g24, 0, none⟩) 1 1) 1 [.int .i64 tb] (by rfl) F31.out ⟨gb, 0, none⟩ n cb (ints xs) (by rfl) (by rw [ints_len]; omega) (HBb.out Y28 BY29.out) (ints_one xs) (by omega) (by unfold maxLen; omega) (by omega) BY29.out.size _ (by rfl) ?_
      intro k32 c33 Y34 hoY34 hgY34 haY34 hlY34
      have BY35 : Hid (Below V.heap.size V Y34) := BY29.out.grown hgY34 (by have := BY29.out.size; omega) (fun q hq => (World.ownsRow.lt F31.out q hq).1)
      have ltF37 : k26 < Y28.heap.size := (World.ownsRow.lt F30.out _ rfl).2
      have F37 : Hid (Y34.ownsRow V.heap.size 3 1 (.slice (some ⟨k26, 0, none⟩) (1 + n) c27) (1 + n) ([.int .i64 ta] ++ ints xs)) := (Kept.ofGrown hgY34).owns F30.out (fun k hk e => by simp [Value.ownBlock] at hk e; exact nek26 (by omega))
      have nek32 : k32 ≠ k26 := by rcases haY34 with e | e; (simp [Value.ownBlock] at e; have := nek26.symm; omega); (omega)
      have F36 : Hid (Y34.ownsRow V.heap.size 3 1 (.slice (some ⟨k32, 0, none⟩) (1 + n) c33) (1 + n) ([.int .i64 tb] ++ ints xs)) := hoY34
      refine hK.out _ _ BY35.out (fun hHeld => ?_)
      clear hK K hoY34 hgY34 haY34 hlY34
      refine wpAnyH_take (i := 12) (v := .slice (some ⟨k26, 0, none⟩) (1 + n) c27) rfl (by kernel_rfl) (by kernel_rfl) (by kernel_rfl) (fun _ _ _ h => h) (Or.inl ⟨by rfl, fun w' hS => by go_simp⟩) hHeld ?_
      simp only [Act.put, List.getElem_toArray, List.getElem_cons_zero, List.getElem_cons_succ, List.setIfInBounds_toArray, List.set_cons_zero, List.set_cons_succ]
      refine wpAnyH_take (i := 13) (v := .slice (some ⟨k32, 0, none⟩) (1 + n) c33) rfl (by kernel_rfl) (by kernel_rfl) (by kernel_rfl) (fun _ _ _ h => h) (Or.inl ⟨by rfl, fun w' hS => by go_simp⟩) hHeld ?_
      simp only [Act.put, List.getElem_toArray, List.getElem_cons_zero, List.getElem_cons_succ, List.setIfInBounds_toArray, List.set_cons_zero, List.set_cons_succ]
      refine wpAnyH_done (by kernel_rfl) ?_ _
      clear hHeld
      go_wp2
      go_ret2
      exact ⟨_, _, _, rfl, own_cap F36.out, own_rd (xs := ta :: xs) (by have := F36.out; rw [Htt.out] at this; exact this), HV.out.trans (BY35.out.mono HV.out.size)⟩
  · skip
    go_simp
    obtain ⟨X38, hX38⟩ : ∃ X, V0.alloc (.cells #[.int .i64 tb] 3) = X := ⟨_, rfl⟩
    have BX39 : Hid (Below V.heap.size V X38) := by rw [← hX38]; exact balloc BV0.out
    have hF40 : BlkI X38 V0.heap.size [tb] := by rw [← hX38]; exact heap_alloc_new V0 _
    have F400 := hF40.own (B := V.heap.size) (n := 1) BV0.out.size rfl (by unfold maxLen; omega)
    refine hK.out _ _ (by rw [hX38]; exact BX39.out) (fun hHeld => ?_)
    clear hK K
    rw [hX38] at hHeld ⊢
    obtain ⟨g41, hg41⟩ : ∃ g, V0.heap.size = g := ⟨_, rfl⟩
    rw [hg41] at F400 ⊢
    have F40 : Hid (X38.ownsRow V.heap.size 3 1 (.slice (some ⟨g41, 0, none⟩) 1 1) 1 [.int .i64 tb]) := F400
    clear hF40 F400 hg41 hX38
    refine wpAnyH_ready (rs := [2]) (by kernel_rfl) (by simp) ?_
    refine AllReadyH.cons rfl (fun K hK => ?_) AllReadyH.nil
    go_simp
    obtain ⟨X42, hX42⟩ : ∃ X, X38.alloc (.cells #[.int .i64 ta] 3) = X := ⟨_, rfl⟩
    have BX43 : Hid (Below V.heap.size V X42) := by rw [← hX42]; exact balloc BX39.out
    have hF44 : BlkI X42 X38.heap.size [ta] := by rw [← hX42]; exact heap_alloc_new X38 _
    have F440 := hF44.own (B := V.heap.size) (n := 1) BX39.out.size rfl (by unfold maxLen; omega)
    have ltF46 : g41 < X38.heap.size := (World.ownsRow.lt F40.out _ rfl).2
    have F46 : Hid (X42.ownsRow V.heap.size 3 1 (.slice (some ⟨g41, 0, none⟩) 1 1) 1 [.int .i64 tb]) := by rw [← hX42]; exact World.ownsRow.alloc F40.out _
    refine hK.out _ _ (by rw [hX42]; exact BX43.out) (fun hHeld => ?_)
    clear hK K
    rw [hX42] at hHeld ⊢
    obtain ⟨g45, hg45⟩ : ∃ g, X38.heap.size = g := ⟨_, rfl⟩
    rw [hg45] at F440 ⊢
    have neg45 : g45 ≠ g41 := by omega
    have F44 : Hid (X42.ownsRow V.heap.size 3 1 (.slice (some ⟨g45, 0, none⟩) 1 1) 1 [.int .i64 ta]) := F440
    clear hF44 F440 hg45 hX42
    refine wpAnyH_ready (rs := [5]) (by kernel_rfl) (by simp) ?_
    refine AllReadyH.cons rfl (fun K hK => ?_) AllReadyH.nil
    refine step_append_lies _ (by rfl) _ _ 25 (by rfl) V.heap.size 3 i0 (.int .i64 0) 1 8 Try.underlying25 hi hz0 hz1 hz2 (by rfl) (by omega) (.slice (some ⟨g45, 0, none⟩) 1 1) 1 [.int .i64 ta] (by rfl) F44.out ⟨ga, 0, none⟩ n n (ints xs) (by rfl) (by rw [ints_len]; omega) (HA.out X42 BX43.out) (ints_one xs) (by omega) (by unfold maxLen; omega) (by omega) BX43.out.size _ (by rfl) ?_
    intro k47 c48 Y49 hoY49 hgY49 haY49 hlY49
    have BY50 : Hid (Below V.heap.size V Y49) := BX43.out.grown hgY49 (by have := BX43.out.size; omega) (fun q hq => (World.ownsRow.lt F44.out q hq).1)
    have ltF52 : g41 < X42.heap.size := (World.ownsRow.lt F46.out _ rfl).2
    have F52 : Hid (Y49.ownsRow V.heap.size 3 1 (.slice (some ⟨g41, 0, none⟩) 1 1) 1 [.int .i64 tb]) := (Kept.ofGrown hgY49).owns F46.out (fun k hk e => by simp [Value.ownBlock] at hk e; exact neg45.symm (by omega))
    have nek47 : k47 ≠ g41 := by rcases haY49 with e | e; (simp [Value.ownBlock] at e; have := neg45; omega); (omega)
    have F51 : Hid (Y49.ownsRow V.heap.size 3 1 (.slice (some ⟨k47, 0, none⟩) (1 + n) c48) (1 + n) ([.int .i64 ta] ++ ints xs)) := hoY49
    refine hK.out _ _ BY50.out (fun hHeld => ?_)
    clear hK K hoY49 hgY49 haY49 hlY49
    refine wpAnyH_ready (rs := [11]) (by kernel_rfl) (by simp) ?_
    refine AllReadyH.cons rfl (fun K hK => ?_) AllReadyH.nil
    refine step_append_lies _ (by rfl) _ _ 25 (by rfl) V.heap.size 3 i0 (.int .i64 0) 1 8 Try.underlying25 hi hz0 hz1 hz2 (by rfl) (by omega) (.slice (some ⟨g41, 0, none⟩) 1 1) 1 [.int .i64 tb] (by rfl) F52.out ⟨gb, 0, none⟩ n cb (ints xs) (by rfl) (by rw [ints_len]; omega) (HBb.out Y49 BY50.out) (ints_one xs) (by omega) (by unfold maxLen; omega) (by omega) BY50.out.size _ (by rfl) ?_
    intro k53 c54 Y55 hoY55 hgY55 haY55 hlY55
    have BY56 : Hid (Below V.heap.size V Y55) := BY50.out.grown hgY55 (by have := BY50.out.size; omega) (fun q hq => (World.ownsRow.lt F52.out q hq).1)
    have ltF58 : k47 < Y49.heap.size := (World.ownsRow.lt F51.out _ rfl).2
    have F58 : Hid (Y55.ownsRow V.heap.size 3 1 (.slice (some ⟨k47, 0, none⟩) (1 + n) c48) (1 + n) ([.int .i64 ta] ++ ints xs)) := (Kept.ofGrown hgY55).owns F51.out (fun k hk e => by simp [Value.ownBlock] at hk e; exact nek47 (by omega))
    have nek53 : k53 ≠ k47 := by rcases haY55 with e | e; (simp [Value.ownBlock] at e; have := nek47.symm; omega); (omega)
    have F57 : Hid (Y55.ownsRow V.heap.size 3 1 (.slice (some ⟨k53, 0, none⟩) (1 + n) c54) (1 + n) ([.int .i64 tb] ++ ints xs)) := hoY55
    refine hK.out _ _ BY56.out (fun hHeld => ?_)
    clear hK K hoY55 hgY55 haY55 hlY55
    refine wpAnyH_take (i := 12) (v := .slice (some ⟨k47, 0, none⟩) (1 + n) c48) rfl (by kernel_rfl) (by kernel_rfl) (by kernel_rfl) (fun _ _ _ h => h) (Or.inl ⟨by rfl, fun w' hS => by go_simp⟩) hHeld ?_
    simp only [Act.put, List.getElem_toArray, List.getElem_cons_zero, List.getElem_cons_succ, List.setIfInBounds_toArray, List.set_cons_zero, List.set_cons_succ]
    refine wpAnyH_take (i := 13) (v := .slice (some ⟨k53, 0, none⟩) (1 + n) c54) rfl (by kernel_rfl) (by kernel_rfl) (by kernel_rfl) (fun _ _ _ h => h) (Or.inl ⟨by rfl, fun w' hS => by go_simp⟩) hHeld ?_
    simp only [Act.put, List.getElem_toArray, List.getElem_cons_zero, List.getElem_cons_succ, List.setIfInBounds_toArray, List.set_cons_zero, List.set_cons_succ]
    refine wpAnyH_done (by kernel_rfl) ?_ _
    clear hHeld
    go_wp2
    go_ret2
    exact ⟨_, _, _, rfl, own_cap F57.out, own_rd (xs := ta :: xs) (by have := F57.out; rw [Htt.out] at this; exact this), HV.out.trans (BY56.out.mono HV.out.size)⟩
end
end Go.Proofs.Ytfbollifegngjaa.Dt
