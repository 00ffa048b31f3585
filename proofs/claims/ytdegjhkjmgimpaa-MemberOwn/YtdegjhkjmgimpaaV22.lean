import Derived.Test.YtdegjhkjmgimpaaV21
import Derived.Test.YtdegjhkjmgimpaaV08
namespace Go.Proofs.Ytdegjhkjmgimpaa.Mb
open Go.RowKit
set_option linter.unusedVariables false
set_option maxRecDepth 100000
set_option linter.unusedSimpArgs false
section
variable {A A' : Ag} {w w' W : World} {B : Nat} {T : Int}
theorem info_m : (Try.prog.info? 79).map (fun i => (i.zero, i.size, i.bytes)) = some (some (.agg #[.int .i64 0, .int .i64 0, .int .i64 0]), 3, 24) := by kernel_rfl
def Ag.mids (A : Ag) : List Nat := (List.range A.n).filter fun q => A.own.set.getD q 0 != 0 && A.all1 q
theorem wl_mids (A : Ag) : A.wl A.all1 = A.mids.map (fun q : Nat => (q : Int)) := rfl
def Ag.msL (A : Ag) (l : List Nat) : List Int := l.flatMap fun q : Nat => [(q : Int), A.own.set.getD q 0, A.own.vec.getD q 0]
def Ag.topL (A : Ag) (l : List Nat) : Int := l.foldl (fun t q => max t (A.lat q).top) A.own.top
theorem mids_lt (A : Ag) {q : Nat} (h : q ∈ A.mids) : q < A.n := List.mem_range.1 (List.mem_filter.1 h).1
theorem mids_len (A : Ag) : A.mids.length ≤ A.n := by
  unfold Ag.mids
  exact Nat.le_trans (List.length_filter_le _ _) (by simp)
theorem topL_le (A : Ag) (h0 : 0 ≤ A.own.top ∧ A.own.top ≤ 4611686018427387904) (hl : ∀ q, 0 ≤ (A.lat q).top ∧ (A.lat q).top ≤ 4611686018427387903) (l : List Nat) : 0 ≤ A.topL l ∧ A.topL l ≤ 4611686018427387904 := by
  unfold Ag.topL
  generalize A.own.top = t at *
  induction l generalizing t with
  | nil => exact h0
  | cons q l ih => exact ih (max t (A.lat q).top) (by have := hl q; omega)
theorem take_next {l : List Nat} {k : Nat} (hk : k < l.length) : l.take (k + 1) = l.take k ++ [l.getD k 0] := by
  rw [List.take_add_one]
  simp [List.getD, hk]
def Ag.avC (A : Ag) (g c : Nat) : Array Value := #[.int .i64 (A.topL A.mids + 1), .int .i64 ((A.mids.getD 0 0 : Nat) : Int), .int .i64 (A.own.set.getD (A.mids.getD 0 0) 0), .int .i64 (A.own.vec.getD (A.mids.getD 0 0) 0), .slice (some ⟨g, 0, none⟩) A.mids.length c]
set_option maxHeartbeats 4000000 in
theorem agreedView_any (h : A.Ok w B T) (hT : T ≤ 4611686018427387904) (hne : 0 < A.mids.length) : Calls Try.prog 28 #[.pointer (some ⟨A.b, 0, none⟩)] w fun e w' => ∃ g c, e = .returned (.agg (A.avC g c)) ∧ w'.ownsRow w.heap.size 79 3 (.slice (some ⟨g, 0, none⟩) A.mids.length c) A.mids.length (ints (A.msL A.mids)) ∧ Below w.heap.size w w' := by
  obtain ⟨j0, hj, hy0, hy1, hy2⟩ := info_parts info_m
  have h16 := h.n16
  have hml := mids_len A
  generalize hW1 : w.alloc (.cells #[.int .i64 0, .int .i64 0, .int .i64 0, .int .i64 0, .slice none 0 0] 42) = W1
  have b1 : Below w.heap.size w W1 := hW1 ▸ balloc (Below.refl _ _)
  have hs1 : w.heap.size < W1.heap.size := by rw [← hW1]; simp
  have HZ1 : Hid (W1.heap[w.heap.size]? = some (.cells #[.int .i64 0, .int .i64 0, .int .i64 0, .int .i64 0, .slice none 0 0] 42 (0, 0))) := by show _ = _; rw [← hW1]; exact heap_alloc_new w _
  have hA := h.still b1
  have c1 := hA.top_c
  have htop := h.top
  have HA1 : Hid (A.Ok W1 B T) := hA
  have HB1 : Hid (Below w.heap.size w W1) := b1
  have HW : Hid (Calls Try.prog 36 #[.pointer (some ⟨A.b, 0, none⟩), .func (.func 37) #[] #[]] W1 fun e w' => ∃ v, e = .returned v ∧ w'.ownsRow W1.heap.size 3 1 v (A.wl (A.all1)).length (ints (A.wl (A.all1))) ∧ Below W1.heap.size W1 w') := wanted_all hA
  have Hll : Hid (∀ q, 0 ≤ (A.lat q).top ∧ (A.lat q).top ≤ 4611686018427387903) := h.lt
  have Hot : Hid (0 ≤ A.own.top ∧ A.own.top ≤ 4611686018427387904) := ⟨htop.1, by omega⟩
  clear h b1 hA
  go_enter Try.func28, Try.ntmps28
  go_wp2_with (first | (go_at_call 36; refine HW.out.mono ?_; rintro e W2 ⟨v, rfl, ho, hb2⟩; obtain ⟨ao, cp, rfl⟩ := own_slice ho; have hrd := own_rd ho; rw [wl_mids, List.length_map] at hrd; have HRd : Hid (RdI W2 ao A.mids.length (A.mids.map (fun q : Nat => (q : Int)))) := hrd; have HB2 : Hid (Below W1.heap.size W1 W2) := hb2; have hlen : (A.wl A.all1).length = A.mids.length := (by rw [wl_mids, List.length_map]); rw [hlen]; clear ho hrd hb2 hlen) | fail)
  have HA2 : Hid (A.Ok W2 B T) := HA1.out.still HB2.out
  go_loopw [3, 4, 16] (fun t v i wr => ∃ k : Nat, k ≤ A.mids.length ∧ i = .int .i64 k ∧ t = .int .i64 (A.topL (A.mids.take k)) ∧ wr.ownsRow W2.heap.size 79 3 v k (ints (A.msL (A.mids.take k))) ∧ Below W2.heap.size W2 wr) (fun _ _ i _ => A.mids.length - (intOf i).toNat)
  case atStart => exact ⟨0, Nat.zero_le _, rfl, rfl, ⟨by simp [Ag.msL, ints], .inl ⟨rfl, rfl⟩⟩, Below.refl _ _⟩
  case round =>
    obtain ⟨k, hk, rfl, rfl, ho, hb⟩ := hrel
    have HB : Hid (Below W2.heap.size W2 wr) := hb
    by_cases hlt : k < A.mids.length
    · obtain ⟨ga, oa, hga, d0⟩ := (HRd.out.still hb).at hlt
      have hqm : A.mids.getD k 0 < A.n := mids_lt A (by simp [List.getD, hlt])
      have e0 : (A.mids.map (fun q : Nat => (q : Int))).getD k 0 = ((A.mids.getD k 0 : Nat) : Int) := by simp [List.getD, hlt]
      rw [e0] at d0
      have hR := HA2.out.still hb
      have Hms : Hid (ints (A.msL (A.mids.take (k + 1))) = ints (A.msL (A.mids.take k)) ++ ints [((A.mids.getD k 0 : Nat) : Int), A.own.set.getD (A.mids.getD k 0) 0, A.own.vec.getD (A.mids.getD k 0) 0]) := by
        show _ = _
        rw [take_next hlt]
        simp [Ag.msL, ints]
      have Htp : Hid (A.topL (A.mids.take (k + 1)) = max (A.topL (A.mids.take k)) (A.lat (A.mids.getD k 0)).top) := by
        show _ = _
        rw [take_next hlt]
        simp [Ag.topL]
      have hlt16 : A.mids.getD k 0 < 16 := by omega
      generalize A.mids.getD k 0 = q at *
      have d1 : wr.cell? ⟨A.b, 2 + q, none⟩ = some (.int .i64 (A.own.set.getD q 0)) := by rw [hR.own_c q (by omega), hR.ol.at_set q (by omega)]
      have d2 : wr.cell? ⟨A.b, 25 + q, none⟩ = some (.int .i64 (A.own.vec.getD q 0)) := by rw [show 25 + q = 2 + (23 + q) by omega, hR.own_c (23 + q) (by omega), hR.ol.at_vec q (by omega)]
      have i1 : (0 : Int) ≤ (k : Int) := Int.natCast_nonneg _
      have i2 : (k : Int) < (A.mids.length : Int) := by omega
      have i3 : (q : Int) < 16 := by omega
      have hsz := hb.size
      obtain ⟨xs, hxs⟩ : ∃ xs, A.own.set.getD q 0 = xs := ⟨_, rfl⟩
      obtain ⟨xv, hxv⟩ : ∃ xs, A.own.vec.getD q 0 = xs := ⟨_, rfl⟩
      have Hxs : Hid (A.own.set.getD q 0 = xs) := hxs
      have Hxv : Hid (A.own.vec.getD q 0 = xv) := hxv
      rw [hxs] at d1 Hms
      rw [hxv] at d2 Hms
      have HO : Hid (wr.ownsRow W2.heap.size 79 3 u4 k (ints (A.msL (A.mids.take k)))) := ho
      generalize A.topL (A.mids.take k) = tp at *
      generalize ints (A.msL (A.mids.take k)) = I at *
      subst hga
      clear ho hb hR e0 hxs hxv
      go_wp2
      refine wp_region_held_drew (S := (fun w' => w'.cell? ⟨A.b, 2 + q, none⟩ = some (.int .i64 xs) ∧ w'.cell? ⟨A.b, 25 + q, none⟩ = some (.int .i64 xv))) (by kernel_rfl) ⟨below_at (Below.refl _ _).drew d1, below_at (Below.refl _ _).drew d2⟩ (fun hHeld => ?_)
      simp only [Act.put, List.size_toArray, List.length_cons, List.length_nil, Nat.zero_add]
      refine wpAnyH_take (i := 0) (v := u4) rfl (by kernel_rfl) (by kernel_rfl) (by kernel_rfl) (fun _ _ _ h => h) (Or.inl ⟨by rfl, fun w' hS => by go_simp⟩) hHeld ?_
      simp only [Act.put, gA9, gZ9, gC9, sA9, sZ9, sC9]
      refine wpAnyH_take (i := 1) (v := .int .i64 (q : Int)) rfl (by kernel_rfl) (by kernel_rfl) (by kernel_rfl) (fun _ _ _ h => h) (Or.inl ⟨by rfl, fun w' hS => by go_simp⟩) hHeld ?_
      simp only [Act.put, gA9, gZ9, gC9, sA9, sZ9, sC9]
      refine wpAnyH_take (i := 2) (v := .pointer (some ⟨A.b, 0, none⟩)) rfl (by kernel_rfl) (by kernel_rfl) (by kernel_rfl) (fun _ _ _ h => h) (Or.inl ⟨by rfl, fun w' hS => by go_simp⟩) hHeld ?_
      simp only [Act.put, gA9, gZ9, gC9, sA9, sZ9, sC9]
      refine wpAnyH_take (i := 3) (v := .int .i64 (q : Int)) rfl (by kernel_rfl) (by kernel_rfl) (by kernel_rfl) (fun _ _ _ h => h) (Or.inl ⟨by rfl, fun w' hS => by go_simp⟩) hHeld ?_
      simp only [Act.put, gA9, gZ9, gC9, sA9, sZ9, sC9]
      refine wpAnyH_take (i := 4) (v := .pointer (some ⟨A.b, 0, none⟩)) rfl (by kernel_rfl) (by kernel_rfl) (by kernel_rfl) (fun _ _ _ h => h) (Or.inl ⟨by rfl, fun w' hS => by go_simp⟩) hHeld ?_
      simp only [Act.put, gA9, gZ9, gC9, sA9, sZ9, sC9]
      refine wpAnyH_take (i := 5) (v := .pointer (some ⟨A.b, 2, none⟩)) rfl (by kernel_rfl) (by kernel_rfl) (by kernel_rfl) (fun _ _ _ h => h) (Or.inl ⟨by rfl, fun w' hS => by go_simp⟩) hHeld ?_
      simp only [Act.put, gA9, gZ9, gC9, sA9, sZ9, sC9]
      refine wpAnyH_take (i := 6) (v := .pointer (some ⟨A.b, 2, none⟩)) rfl (by kernel_rfl) (by kernel_rfl) (by kernel_rfl) (fun _ _ _ h => h) (Or.inl ⟨by rfl, fun w' hS => by go_simp⟩) hHeld ?_
      simp only [Act.put, gA9, gZ9, gC9, sA9, sZ9, sC9]
      refine wpAnyH_take (i := 7) (v := .pointer (some ⟨A.b, 2 + q, none⟩)) rfl (by kernel_rfl) (by kernel_rfl) (by kernel_rfl) (fun _ _ _ h => h) (Or.inl ⟨by rfl, fun w' hS => by (go_simp <;> (intro hh; omega))⟩) hHeld ?_
      simp only [Act.put, gA9, gZ9, gC9, sA9, sZ9, sC9]
      refine wpAnyH_take (i := 8) (v := .int .i64 xs) rfl (by kernel_rfl) (by kernel_rfl) (by kernel_rfl) (fun _ _ _ h => h) (Or.inl ⟨by rfl, fun w' hS => by (obtain ⟨s0, s1⟩ := hS; go_simp)⟩) hHeld ?_
      simp only [Act.put, gA9, gZ9, gC9, sA9, sZ9, sC9]
      refine wpAnyH_take (i := 9) (v := .pointer (some ⟨A.b, 0, none⟩)) rfl (by kernel_rfl) (by kernel_rfl) (by kernel_rfl) (fun _ _ _ h => h) (Or.inl ⟨by rfl, fun w' hS => by go_simp⟩) hHeld ?_
      simp only [Act.put, gA9, gZ9, gC9, sA9, sZ9, sC9]
      refine wpAnyH_take (i := 10) (v := .int .i64 (q : Int)) rfl (by kernel_rfl) (by kernel_rfl) (by kernel_rfl) (fun _ _ _ h => h) (Or.inl ⟨by rfl, fun w' hS => by go_simp⟩) hHeld ?_
      simp only [Act.put, gA9, gZ9, gC9, sA9, sZ9, sC9]
      refine wpAnyH_take (i := 11) (v := .pointer (some ⟨A.b, 0, none⟩)) rfl (by kernel_rfl) (by kernel_rfl) (by kernel_rfl) (fun _ _ _ h => h) (Or.inl ⟨by rfl, fun w' hS => by go_simp⟩) hHeld ?_
      simp only [Act.put, gA9, gZ9, gC9, sA9, sZ9, sC9]
      refine wpAnyH_take (i := 12) (v := .pointer (some ⟨A.b, 2, none⟩)) rfl (by kernel_rfl) (by kernel_rfl) (by kernel_rfl) (fun _ _ _ h => h) (Or.inl ⟨by rfl, fun w' hS => by go_simp⟩) hHeld ?_
      simp only [Act.put, gA9, gZ9, gC9, sA9, sZ9, sC9]
      refine wpAnyH_take (i := 13) (v := .pointer (some ⟨A.b, 25, none⟩)) rfl (by kernel_rfl) (by kernel_rfl) (by kernel_rfl) (fun _ _ _ h => h) (Or.inl ⟨by rfl, fun w' hS => by go_simp⟩) hHeld ?_
      simp only [Act.put, gA9, gZ9, gC9, sA9, sZ9, sC9]
      refine wpAnyH_take (i := 14) (v := .pointer (some ⟨A.b, 25 + q, none⟩)) rfl (by kernel_rfl) (by kernel_rfl) (by kernel_rfl) (fun _ _ _ h => h) (Or.inl ⟨by rfl, fun w' hS => by (go_simp <;> (intro hh; omega))⟩) hHeld ?_
      simp only [Act.put, gA9, gZ9, gC9, sA9, sZ9, sC9]
      refine wpAnyH_take (i := 15) (v := .int .i64 xv) rfl (by kernel_rfl) (by kernel_rfl) (by kernel_rfl) (fun _ _ _ h => h) (Or.inl ⟨by rfl, fun w' hS => by (obtain ⟨s0, s1⟩ := hS; go_simp)⟩) hHeld ?_
      simp only [Act.put, gA9, gZ9, gC9, sA9, sZ9, sC9]
      refine wpAnyH_take (i := 16) (v := .agg #[.int .i64 (q : Int), .int .i64 xs, .int .i64 xv]) rfl (by kernel_rfl) (by kernel_rfl) (by kernel_rfl) (fun _ _ _ h => h) (Or.inl ⟨by rfl, fun w' hS => run_buildop 79 _ rfl _ (by kernel_rfl)⟩) hHeld ?_
      simp only [Act.put, gA9, gZ9, gC9, sA9, sZ9, sC9]
      refine wpAnyH_ready (rs := [17]) (by kernel_rfl) (by simp) ?_
      refine AllReadyH.cons rfl (fun K hK => ?_) AllReadyH.nil
      go_simp
      obtain ⟨X, hX⟩ : ∃ X, (wr.alloc (.cells #[.int .i64 (q : Int), .int .i64 xs, .int .i64 xv] 79)).drew = X := ⟨_, rfl⟩
      have bX : Below wr.heap.size wr X := by rw [← hX]; exact (balloc (Below.refl _ _)).drew
      have kX : Rw X wr.heap.size 79 [(q : Int), xs, xv] := by unfold Rw; rw [← hX]; exact heap_alloc_new wr _
      have HoX : Hid (X.ownsRow W2.heap.size 79 3 u4 k I) := own_still HO.out bX
      refine hK.out _ _ ⟨by rw [hX]; exact below_at bX d1, by rw [hX]; exact below_at bX d2⟩ (fun hHeld => ?_)
      clear hK K
      rw [hX] at hHeld ⊢
      clear hX
      refine wpAnyH_ready (rs := [18]) (by kernel_rfl) (by simp) ?_
      refine AllReadyH.cons rfl (fun K hK => ?_) AllReadyH.nil
      have hsX := bX.size
      refine step_append_lies _ (by rfl) _ _ 40 (by rfl) W2.heap.size 79 j0 (.agg #[.int .i64 0, .int .i64 0, .int .i64 0]) 3 24 Try.underlying40 hj hy0 hy1 hy2 (by rfl) (by omega) u4 k I (by rfl) HoX.out ⟨wr.heap.size, 0, none⟩ 1 1 (ints [(q : Int), xs, xv]) (by rfl) (by rfl) (fun j u hu => by rw [Addr.add_mid, Nat.zero_add]; exact take_cell (n := 3) kX (by simpa using hu)) (ints_one _) (by omega) (by unfold maxLen; omega) (by omega) (by omega) _ (by rfl) ?_
      intro g3 cap3 Y hown3 hgrow3 hat3 hlt3
      have HBY : Hid (Below W2.heap.size W2 Y) := (bstep HB.out bX).grown hgrow3 (by omega) (fun q hq => (World.ownsRow.lt HoX.out q hq).1)
      have hAY := HA2.out.still HBY.out
      refine hK.out _ _ ⟨by rw [hAY.own_c q (by omega), hAY.ol.at_set q (by omega)]; exact Hxs.out ▸ rfl, by rw [show 25 + q = 2 + (23 + q) by omega, hAY.own_c (23 + q) (by omega), hAY.ol.at_vec q (by omega)]; exact Hxv.out ▸ rfl⟩ (fun hHeld => ?_)
      clear hK K
      refine wpAnyH_take (i := 19) (v := .slice (some ⟨g3, 0, none⟩) (k + 1) cap3) rfl (by kernel_rfl) (by kernel_rfl) (by kernel_rfl) (fun _ _ _ h => h) (Or.inl ⟨by rfl, fun w' hS => by go_simp⟩) hHeld ?_
      simp only [Act.put, gA9, gZ9, gC9, sA9, sZ9, sC9]
      refine wpAnyH_done (by kernel_rfl) ?_ _
      clear hHeld
      have d3 : Y.cell? ⟨A.b, 41 + q * 39 + 18, none⟩ = some (.int .i64 (A.lat q).top) := by rw [hAY.lat_c q 18 hlt16 (by omega), (hAY.ll q).top]
      clear hAY d0 d1 d2
      go_wp2
      exact ⟨⟨k + 1, by omega, by go_num, by rw [Htp.out]; congr 1; split <;> omega, by rw [Hms.out]; exact hown3, HBY.out⟩, by simp [intOf]; omega⟩
    · obtain rfl : k = A.mids.length := by omega
      rw [List.take_length] at ho ⊢
      have htl := topL_le A Hot.out Hll.out A.mids
      obtain ⟨g, cap, cur, rfl, hgB, hgr⟩ : ∃ g cap cur, u4 = .slice (some ⟨g, 0, none⟩) A.mids.length cap ∧ W2.heap.size ≤ g ∧ wr.heap[g]? = some (.cells cur 79 (0, 0)) := by
        rcases ho.2 with ⟨_, h2⟩ | ⟨g, cap, cur, h1, h2, h3, _⟩
        · omega
        · exact ⟨g, cap, cur, h1, h2, h3⟩
      have hrm := own_rdM ho
      obtain ⟨g', hg', hr3⟩ := hrm.at hne
      obtain rfl : g = g' := by cases hg'; rfl
      obtain ⟨q0, l', hq0⟩ : ∃ q l, A.mids = q :: l := by
        cases hm : A.mids with
        | nil => rw [hm] at hne; cases hne
        | cons q l => exact ⟨q, l, rfl⟩
      have e1 : (A.msL A.mids).getD (0 * 3) 0 = (q0 : Int) := by rw [hq0]; simp [Ag.msL]
      have e2 : (A.msL A.mids).getD (0 * 3 + 1) 0 = A.own.set.getD q0 0 := by rw [hq0]; simp [Ag.msL]
      have e3 : (A.msL A.mids).getD (0 * 3 + 2) 0 = A.own.vec.getD q0 0 := by rw [hq0]; simp [Ag.msL]
      have e4 : A.mids.getD 0 0 = q0 := by rw [hq0]; rfl
      rw [e1, e2, e3, Nat.zero_mul] at hr3
      have HF : Hid (∀ g c, A.avC g c = #[.int .i64 (A.topL A.mids + 1), .int .i64 (q0 : Int), .int .i64 (A.own.set.getD q0 0), .int .i64 (A.own.vec.getD q0 0), .slice (some ⟨g, 0, none⟩) A.mids.length c]) := fun g c => by unfold Ag.avC; rw [e4]
      generalize A.own.set.getD q0 0 = x1 at *
      generalize A.own.vec.getD q0 0 = x2 at *
      generalize hX : wr.alloc (.cells #[.int .i64 0, .int .i64 0, .int .i64 0] 79) = X
      have bX : Below wr.heap.size wr X := hX ▸ balloc (Below.refl _ _)
      have kX : Rw X wr.heap.size 79 [0, 0, 0] := by unfold Rw; rw [← hX]; exact heap_alloc_new wr _
      have hgl : g < wr.heap.size := lt_heap hgr
      have HR3 : Hid (wr.rangeAt g 0 (ints [(q0 : Int), x1, x2])) := hr3
      have HKX : Hid (Rw X wr.heap.size 79 [0, 0, 0]) := kX
      have hV := kX.whole (ys := [(q0 : Int), x1, x2]) rfl
      have hsz2 := hb.size
      have hsz1 := HB2.out.size
      have bV : Below w.heap.size w (X.setCells wr.heap.size 0 (ints [(q0 : Int), x1, x2])) := bsets (by omega) _ _ (bstep (bstep (bstep HB1.out HB2.out) hb) bX)
      have bV2 : Below wr.heap.size wr (X.setCells wr.heap.size 0 (ints [(q0 : Int), x1, x2])) := bsets (Nat.le_refl _) _ _ bX
      generalize hVe : X.setCells wr.heap.size 0 (ints [(q0 : Int), x1, x2]) = V at *
      have v0 : V.cell? ⟨wr.heap.size, 0, none⟩ = some (.int .i64 (q0 : Int)) := hV.cell (i := 0) (by simp)
      have v1 : V.cell? ⟨wr.heap.size, 1, none⟩ = some (.int .i64 x1) := hV.cell (i := 1) (by simp)
      have v2 : V.cell? ⟨wr.heap.size, 2, none⟩ = some (.int .i64 x2) := hV.cell (i := 2) (by simp)
      have HZV : Hid (V.heap[w.heap.size]? = some (.cells #[.int .i64 0, .int .i64 0, .int .i64 0, .int .i64 0, .slice none 0 0] 42 (0, 0))) := (bV2.block _ (by omega)).trans ((hb.block _ (by omega)).trans ((HB2.out.block _ hs1).trans HZ1.out))
      have HOV : Hid (V.ownsRow W2.heap.size 79 3 (.slice (some ⟨g, 0, none⟩) A.mids.length cap) A.mids.length (ints (A.msL A.mids))) := own_still ho bV2
      have HBV : Hid (Below w.heap.size w V) := bV
      have Hne : Hid (0 < A.mids.length) := hne
      have i1 : (0 : Int) < (A.mids.length : Int) := by omega
      have Hg : Hid (w.heap.size < g) := by show _ < _; omega
      have Hgs : Hid (W2.heap.size ≤ g ∧ w.heap.size ≤ W2.heap.size) := ⟨hgB, by omega⟩
      clear ho hb hrm hr3 e1 e2 e3 e4 hV bV bV2 bX kX hg' hgr hq0
      generalize A.topL A.mids = tp at *
      go_wp2_with (first
        | (refine load_mid 79 (.tmp 50) HR3.out _ Try.underlying79 rfl (by rw [ints_len]; exact info_mem) rfl rfl rfl ?_)
        | (refine store_mid 79 (.tmp 7) (.tmp 51) (HKX.out.there 0 [(q0 : Int), x1, x2].length (by simp)) info_mem rfl rfl rfl rfl ?_; rw [hVe])
        | (refine wpList_store_row rfl 42 (.tmp 2) (.tmp 62) rfl w.heap.size #[.int .i64 (tp + 1), .int .i64 (q0 : Int), .int .i64 x1, .int .i64 x2, .slice (some ⟨g, 0, none⟩) A.mids.length cap] rfl rfl 42 _ HZV.out (by kernel_rfl) rfl (by simp [Value.oneCell']) ?_)
        | fail)
      (try simp only [Exit.inBlock, Exit.then])
      have hF := setRow_heap V w.heap.size _ #[.int .i64 (tp + 1), .int .i64 (q0 : Int), .int .i64 x1, .int .i64 x2, .slice (some ⟨g, 0, none⟩) A.mids.length cap] 42 _ HZV.out
      have hBF : Below w.heap.size w (V.setRow w.heap.size #[.int .i64 (tp + 1), .int .i64 (q0 : Int), .int .i64 x1, .int .i64 x2, .slice (some ⟨g, 0, none⟩) A.mids.length cap]) := below_setRow HBV.out (Nat.le_refl _) _
      have kF : Kept V (V.setRow w.heap.size #[.int .i64 (tp + 1), .int .i64 (q0 : Int), .int .i64 x1, .int .i64 x2, .slice (some ⟨g, 0, none⟩) A.mids.length cap]) (fun j => j = w.heap.size) := ⟨rfl, rfl, rfl, by simp [World.setRow], fun k hk hp => setRow_other V _ k _ hp⟩
      refine bodyPost_ret (v := .agg #[.int .i64 (tp + 1), .int .i64 (q0 : Int), .int .i64 x1, .int .i64 x2, .slice (some ⟨g, 0, none⟩) A.mids.length cap]) ?_ ?_ ?_
      · exact results_cell_row rfl _ _ w.heap.size 42 _ (0, 0) _ rfl hF Try.underlying42 rfl (by kernel_rfl)
      · rfl
      · refine ⟨g, cap, by rw [HF.out], own_lower (kF.owns HOV.out (fun k hk e => ?_)) Hgs.out.2, hBF⟩
        have := Hg.out
        simp [Value.ownBlock] at hk
        omega
end
end Go.Proofs.Ytdegjhkjmgimpaa.Mb
