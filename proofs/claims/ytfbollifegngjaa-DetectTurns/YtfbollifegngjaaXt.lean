import Derived.Test.YtfbollifegngjaaXs
namespace Go.Proofs.Ytfbollifegngjaa.Dt
open Go.RowKit
set_option linter.unusedVariables false
set_option maxRecDepth 100000
set_option linter.unusedSimpArgs false
section
variable {w w' W : World} {B : Nat}
structure Hs (w : World) (B hb : Nat) (vg vw vr : Value) (E K : List El) (X : Nat → List Int) : Prop where
  blk : w.heap[hb]? = some (.cells #[vg, vw, .slice none 0 0, vr] 55 (0, 0))
  al : Al w B vg E X
  kl : K.length = E.length
  kr : w.ownsRow B 25 1 vw K.length (K.map El.v)
  ke : ∀ i, i < E.length → w.ownsRow B 3 1 (K.getD i el0).v (X i).length (ints (X i))
  sm : ∀ i, i < E.length → (X i).length ≤ 16
  rr : w.ownsRow B 3 1 vr 0 []
  gw : ∀ j, vg.ownBlock = some j → vw.ownBlock ≠ some j
  ek : ∀ e ∈ E, ∀ k ∈ K, ∀ j, e.b = some j → k.b ≠ some j
  er : ∀ e ∈ E, ∀ j, vr.ownBlock = some j → e.b ≠ some j
  rk : ∀ k ∈ K, ∀ j, vr.ownBlock = some j → k.b ≠ some j
  hB : B ≤ hb ∧ B ≤ w.heap.size
def hown (hb : Nat) (vg vw vr : Value) (E K : List El) (j : Nat) : Prop := j = hb ∨ vg.ownBlock = some j ∨ vw.ownBlock = some j ∨ vr.ownBlock = some j ∨ (∃ e ∈ E, e.b = some j) ∨ (∃ k ∈ K, k.b = some j)
theorem mem_getD {E : List El} {i : Nat} (hi : i < E.length) : E.getD i el0 ∈ E := by simp [List.getD, hi]
theorem cell_keepX {W V : World} {P : Nat → Prop} {k i : Nat} {v : Value} (hk : Kept W V P) (hp : ¬ P k) (h : W.cell? ⟨k, i, none⟩ = some v) : V.cell? ⟨k, i, none⟩ = some v := by
  have hl := World.block_lt_of_cell? W _ h
  unfold World.cell? at h ⊢
  rw [hk.block k hl hp]
  exact h
section
variable {hb : Nat} {vg vw vr : Value} {E K : List El} {X : Nat → List Int}
theorem Hs.keep {P : Nat → Prop} (h : Hs w B hb vg vw vr E K X) (k : Kept w w' P) (hp : ∀ j, hown hb vg vw vr E K j → ¬ P j) : Hs w' B hb vg vw vr E K X :=
  ⟨k.obj h.blk (hp _ (.inl rfl)), ⟨k.owns h.al.row (fun j hj => hp j (.inr (.inl hj))), fun i hi => k.owns (h.al.el i hi) (fun j hj => hp j (.inr (.inr (.inr (.inr (.inl ⟨_, mem_getD hi, hj⟩))))))  , h.al.ap⟩, h.kl, k.owns h.kr (fun j hj => hp j (.inr (.inr (.inl hj)))), fun i hi => k.owns (h.ke i hi) (fun j hj => hp j (.inr (.inr (.inr (.inr (.inr ⟨_, mem_getD (by rw [h.kl]; exact hi), hj⟩)))))), h.sm, k.owns h.rr (fun j hj => hp j (.inr (.inr (.inr (.inl hj))))), h.gw, h.ek, h.er, h.rk, h.hB.1, Nat.le_trans h.hB.2 k.size⟩
theorem Hs.still (h : Hs w B hb vg vw vr E K X) (b : Below w.heap.size w w') : Hs w' B hb vg vw vr E K X := h.keep (Kept.ofBelow b (fun _ => False)) (fun _ _ => id)
theorem Hs.lt (h : Hs w B hb vg vw vr E K X) {j : Nat} (hj : hown hb vg vw vr E K j) : j < w.heap.size := by
  rcases hj with rfl | hj | hj | hj | ⟨e, he, hj⟩ | ⟨e, he, hj⟩
  · exact lt_heap h.blk
  · exact (World.ownsRow.lt h.al.row j hj).2
  · exact (World.ownsRow.lt h.kr j hj).2
  · exact (World.ownsRow.lt h.rr j hj).2
  · obtain ⟨i, hi, rfl⟩ := List.mem_iff_getElem.1 he
    have := h.al.el i hi
    rw [show E.getD i el0 = E[i] by simp [List.getD, hi]] at this
    exact (World.ownsRow.lt this j hj).2
  · obtain ⟨i, hi, rfl⟩ := List.mem_iff_getElem.1 he
    have := h.ke i (by rw [← h.kl]; exact hi)
    rw [show K.getD i el0 = K[i] by simp [List.getD, hi]] at this
    exact (World.ownsRow.lt this j hj).2
theorem Hs.ge (h : Hs w B hb vg vw vr E K X) {j : Nat} (hj : hown hb vg vw vr E K j) : B ≤ j := by
  rcases hj with rfl | hj | hj | hj | ⟨e, he, hj⟩ | ⟨e, he, hj⟩
  · exact h.hB.1
  · exact (World.ownsRow.lt h.al.row j hj).1
  · exact (World.ownsRow.lt h.kr j hj).1
  · exact (World.ownsRow.lt h.rr j hj).1
  · obtain ⟨i, hi, rfl⟩ := List.mem_iff_getElem.1 he
    have := h.al.el i hi
    rw [show E.getD i el0 = E[i] by simp [List.getD, hi]] at this
    exact (World.ownsRow.lt this j hj).1
  · obtain ⟨i, hi, rfl⟩ := List.mem_iff_getElem.1 he
    have := h.ke i (by rw [← h.kl]; exact hi)
    rw [show K.getD i el0 = K[i] by simp [List.getD, hi]] at this
    exact (World.ownsRow.lt this j hj).1
end
set_option maxHeartbeats 16000000 in
theorem alone_h {hb : Nat} {vg vw vr : Value} {E K : List El} {X : Nat → List Int} (h : Hs w B hb vg vw vr E K X) (hN : E.length ≤ 100000) : Calls Try.prog 17 #[.pointer (some ⟨hb, 0, none⟩)] w fun e w' => e = .returned (.bool true) ∧ Kept w w' (fun q => inE E q ∨ q = hb) := by
  have HH : Hid (Hs w B hb vg vw vr E K X) := h
  obtain ⟨N, hNe⟩ : ∃ N, E.length = N := ⟨_, rfl⟩
  have HNe : Hid (E.length = N) := hNe
  obtain ⟨a, c, hv⟩ := own_sliceD h.al.row
  obtain ⟨b, d, hw⟩ := own_sliceD h.kr
  rw [hNe] at hN hv
  rw [h.kl, hNe] at hw
  have Hv : Hid (vg = .slice a N c ∧ vw = .slice b N d) := ⟨hv, hw⟩
  have hB := h.hB.2
  obtain ⟨ln, hln⟩ : ∃ f : Nat → Nat, (fun i => (X i).length) = f := ⟨_, rfl⟩
  have HC : Hid (∀ i, i < E.length → ln i ≤ 1000) := fun i hi => by rw [← hln]; have := h.sm i hi; show (X i).length ≤ 1000; omega
  have HEb : Hid (∀ q, inE E q → q < w.heap.size) := fun q ⟨i, hi, hq⟩ => (World.ownsRow.lt (h.al.el i hi) q hq).2
  have HVb : Hid (∀ q, vg.ownBlock = some q → q < w.heap.size) := fun q hq => (World.ownsRow.lt h.al.row q hq).2
  have HnE : Hid (¬ inE E hb) := fun ⟨i, hi, hq⟩ => by
    obtain ⟨cur, hc⟩ := own_typeT (h.al.el i hi) hq
    exact ty_ne h.blk hc (by decide) rfl
  have Hln : Hid ((fun i => (X i).length) = ln) := hln
  subst hv hw
  clear h hNe hln
  go_enter Try.func17, Try.ntmps17
  go_wp2_with (fail)
  go_loopw [3] (fun i wr => ∃ k : Nat, k ≤ N ∧ i = .int .i64 (k : Int) ∧ Below w.heap.size w wr) (fun i _ => N - (intOf i).toNat)
  case atStart => exact ⟨0, Nat.zero_le _, rfl, Below.refl _ _⟩
  case round =>
  obtain ⟨k, hk, rfl, hbl⟩ := hrel
  have HS : Hid (Hs wr B hb (.slice a N c) (.slice b N d) vr E K X) := HH.out.still hbl
  have HBl : Hid (Below w.heap.size w wr) := hbl
  have c0 := blk_cell HS.out.blk 0
  have c1 := blk_cell HS.out.blk 1
  simp only [List.getElem?_toArray, List.getElem?_cons_succ, List.getElem?_cons_zero] at c0 c1
  clear hbl
  by_cases hlt : k < N
  · have i1 : (0 : Int) ≤ (k : Int) := Int.natCast_nonneg _
    have i2 : (k : Int) < (N : Int) := by omega
    have hkE : k < E.length := by rw [HNe.out]; exact hlt
    have hkK : k < K.length := by rw [HS.out.kl]; exact hkE
    have hrow := HS.out.al.row
    rw [HNe.out] at hrow
    obtain ⟨g, rfl, u1, -⟩ := row_at hrow hlt
    rw [getD_v hkE] at u1
    have hrow2 := HS.out.kr
    rw [HS.out.kl, HNe.out] at hrow2
    obtain ⟨g2, rfl, u2, -⟩ := row_at hrow2 hlt
    rw [getD_v hkK] at u2
    have e1 := HS.out.al.el k hkE
    have e2 := HS.out.ke k hkE
    obtain ⟨xa, xc, hx⟩ := own_sliceD e1
    obtain ⟨ya, yc, hy⟩ := own_sliceD e2
    rw [hx] at u1 e1
    rw [hy] at u2 e2
    have hm16 := HS.out.sm k hkE
    have HSm : Hid (∀ w', Below wr.heap.size wr w' → Calls Try.prog 33 #[.slice xa (X k).length xc, .slice ya (X k).length yc] w' fun e w2 => e = .returned (.bool true) ∧ Below w'.heap.size w' w2) := fun w' hb => same_any ((own_rd e1).still hb) ((own_rd e2).still hb) (by omega)
    obtain ⟨m, hm⟩ : ∃ m, (X k).length = m := ⟨_, rfl⟩
    rw [hm] at u1 u2 HSm
    clear hrow hrow2 e1 e2 hx hy hkE hkK hm hm16
    go_wp2_with (fail)
    refine wp_region_held_drew (S := (fun w' => w'.cell? ⟨hb, 0, none⟩ = some (.slice (some ⟨g, 0, none⟩) N c) ∧ w'.cell? ⟨hb, 1, none⟩ = some (.slice (some ⟨g2, 0, none⟩) N d) ∧ w'.cell? ⟨g, k, none⟩ = some (.slice xa m xc) ∧ w'.cell? ⟨g2, k, none⟩ = some (.slice ya m yc))) (by kernel_rfl) ⟨cell_drew c0, cell_drew c1, cell_drew u1, cell_drew u2⟩ (fun hHeld => ?_)
    simp only [Act.put, List.size_toArray, List.length_cons, List.length_nil, Nat.zero_add]
    refine wpAnyH_take (i := 0) (v := .pointer (some ⟨hb, 0, none⟩)) rfl (by kernel_rfl) (by kernel_rfl) (by kernel_rfl) (fun _ _ _ h => h) (Or.inl ⟨by rfl, fun w' hS => by go_simp⟩) hHeld ?_
    simp only [Act.put, List.getElem_toArray, List.getElem_cons_zero, List.getElem_cons_succ, List.setIfInBounds_toArray, List.set_cons_zero, List.set_cons_succ]
    refine wpAnyH_take (i := 1) (v := .pointer (some ⟨hb, 0, none⟩)) rfl (by kernel_rfl) (by kernel_rfl) (by kernel_rfl) (fun _ _ _ h => h) (Or.inl ⟨by rfl, fun w' hS => by go_simp⟩) hHeld ?_
    simp only [Act.put, List.getElem_toArray, List.getElem_cons_zero, List.getElem_cons_succ, List.setIfInBounds_toArray, List.set_cons_zero, List.set_cons_succ]
    refine wpAnyH_take (i := 2) (v := .pointer (some ⟨hb, 0, none⟩)) rfl (by kernel_rfl) (by kernel_rfl) (by kernel_rfl) (fun _ _ _ h => h) (Or.inl ⟨by rfl, fun w' hS => by go_simp⟩) hHeld ?_
    simp only [Act.put, List.getElem_toArray, List.getElem_cons_zero, List.getElem_cons_succ, List.setIfInBounds_toArray, List.set_cons_zero, List.set_cons_succ]
    refine wpAnyH_take (i := 3) (v := .slice (some ⟨g, 0, none⟩) N c) rfl (by kernel_rfl) (by kernel_rfl) (by kernel_rfl) (fun _ _ _ h => h) (Or.inl ⟨by rfl, fun w' hS => by (obtain ⟨h0, h1, h2, h3⟩ := hS; go_simp)⟩) hHeld ?_
    simp only [Act.put, List.getElem_toArray, List.getElem_cons_zero, List.getElem_cons_succ, List.setIfInBounds_toArray, List.set_cons_zero, List.set_cons_succ]
    refine wpAnyH_take (i := 4) (v := .int .i64 (k : Int)) rfl (by kernel_rfl) (by kernel_rfl) (by kernel_rfl) (fun _ _ _ h => h) (Or.inl ⟨by rfl, fun w' hS => by go_simp⟩) hHeld ?_
    simp only [Act.put, List.getElem_toArray, List.getElem_cons_zero, List.getElem_cons_succ, List.setIfInBounds_toArray, List.set_cons_zero, List.set_cons_succ]
    refine wpAnyH_take (i := 5) (v := .pointer (some ⟨g, k, none⟩)) rfl (by kernel_rfl) (by kernel_rfl) (by kernel_rfl) (fun _ _ _ h => h) (Or.inl ⟨by rfl, fun w' hS => by go_simp⟩) hHeld ?_
    simp only [Act.put, List.getElem_toArray, List.getElem_cons_zero, List.getElem_cons_succ, List.setIfInBounds_toArray, List.set_cons_zero, List.set_cons_succ]
    refine wpAnyH_take (i := 6) (v := .slice xa m xc) rfl (by kernel_rfl) (by kernel_rfl) (by kernel_rfl) (fun _ _ _ h => h) (Or.inl ⟨by rfl, fun w' hS => by (obtain ⟨h0, h1, h2, h3⟩ := hS; go_simp)⟩) hHeld ?_
    simp only [Act.put, List.getElem_toArray, List.getElem_cons_zero, List.getElem_cons_succ, List.setIfInBounds_toArray, List.set_cons_zero, List.set_cons_succ]
    refine wpAnyH_take (i := 7) (v := .pointer (some ⟨hb, 0, none⟩)) rfl (by kernel_rfl) (by kernel_rfl) (by kernel_rfl) (fun _ _ _ h => h) (Or.inl ⟨by rfl, fun w' hS => by go_simp⟩) hHeld ?_
    simp only [Act.put, List.getElem_toArray, List.getElem_cons_zero, List.getElem_cons_succ, List.setIfInBounds_toArray, List.set_cons_zero, List.set_cons_succ]
    refine wpAnyH_take (i := 8) (v := .pointer (some ⟨hb, 0, none⟩)) rfl (by kernel_rfl) (by kernel_rfl) (by kernel_rfl) (fun _ _ _ h => h) (Or.inl ⟨by rfl, fun w' hS => by go_simp⟩) hHeld ?_
    simp only [Act.put, List.getElem_toArray, List.getElem_cons_zero, List.getElem_cons_succ, List.setIfInBounds_toArray, List.set_cons_zero, List.set_cons_succ]
    refine wpAnyH_take (i := 9) (v := .pointer (some ⟨hb, 1, none⟩)) rfl (by kernel_rfl) (by kernel_rfl) (by kernel_rfl) (fun _ _ _ h => h) (Or.inl ⟨by rfl, fun w' hS => by go_simp⟩) hHeld ?_
    simp only [Act.put, List.getElem_toArray, List.getElem_cons_zero, List.getElem_cons_succ, List.setIfInBounds_toArray, List.set_cons_zero, List.set_cons_succ]
    refine wpAnyH_take (i := 10) (v := .slice (some ⟨g2, 0, none⟩) N d) rfl (by kernel_rfl) (by kernel_rfl) (by kernel_rfl) (fun _ _ _ h => h) (Or.inl ⟨by rfl, fun w' hS => by (obtain ⟨h0, h1, h2, h3⟩ := hS; go_simp)⟩) hHeld ?_
    simp only [Act.put, List.getElem_toArray, List.getElem_cons_zero, List.getElem_cons_succ, List.setIfInBounds_toArray, List.set_cons_zero, List.set_cons_succ]
    refine wpAnyH_take (i := 11) (v := .int .i64 (k : Int)) rfl (by kernel_rfl) (by kernel_rfl) (by kernel_rfl) (fun _ _ _ h => h) (Or.inl ⟨by rfl, fun w' hS => by go_simp⟩) hHeld ?_
    simp only [Act.put, List.getElem_toArray, List.getElem_cons_zero, List.getElem_cons_succ, List.setIfInBounds_toArray, List.set_cons_zero, List.set_cons_succ]
    refine wpAnyH_take (i := 12) (v := .pointer (some ⟨g2, k, none⟩)) rfl (by kernel_rfl) (by kernel_rfl) (by kernel_rfl) (fun _ _ _ h => h) (Or.inl ⟨by rfl, fun w' hS => by go_simp⟩) hHeld ?_
    simp only [Act.put, List.getElem_toArray, List.getElem_cons_zero, List.getElem_cons_succ, List.setIfInBounds_toArray, List.set_cons_zero, List.set_cons_succ]
    refine wpAnyH_take (i := 13) (v := .slice ya m yc) rfl (by kernel_rfl) (by kernel_rfl) (by kernel_rfl) (fun _ _ _ h => h) (Or.inl ⟨by rfl, fun w' hS => by (obtain ⟨h0, h1, h2, h3⟩ := hS; go_simp)⟩) hHeld ?_
    simp only [Act.put, List.getElem_toArray, List.getElem_cons_zero, List.getElem_cons_succ, List.setIfInBounds_toArray, List.set_cons_zero, List.set_cons_succ]
    refine wpAnyH_ready (rs := [14]) (by kernel_rfl) (by simp) ?_
    refine AllReadyH.cons rfl (fun K hK => ?_) AllReadyH.nil
    go_simp
    refine (HSm.out _ (Below.refl _ _).drew).mono ?_
    rintro e w3 ⟨rfl, hb3⟩
    have B3 : Below wr.heap.size wr w3 := bstep (Below.refl _ _).drew hb3
    refine hK.out _ _ ⟨below_at B3 c0, below_at B3 c1, below_at B3 u1, below_at B3 u2⟩ (fun hHeld => ?_)
    clear hK K
    refine wpAnyH_take (i := 15) (v := .bool false) rfl (by kernel_rfl) (by kernel_rfl) (by kernel_rfl) (fun _ _ _ h => h) (Or.inl ⟨by rfl, fun w' hS => by go_simp⟩) hHeld ?_
    simp only [Act.put, List.getElem_toArray, List.getElem_cons_zero, List.getElem_cons_succ, List.setIfInBounds_toArray, List.set_cons_zero, List.set_cons_succ]
    refine wpAnyH_done (by kernel_rfl) ?_ _
    clear hHeld
    have HB4 : Hid (Below w.heap.size w w3) := bstep HBl.out B3
    clear B3 hb3 c0 c1 u1 u2 HSm
    go_wp2_with (fail)
    first
      | exact ⟨⟨k + 1, by omega, by go_num, HB4.out⟩, by simp [intOf]; omega⟩
      | (go_roundw
         case rel => exact ⟨k + 1, by omega, by go_num, HB4.out⟩
         case measure => simp [intOf]; omega)
  · have i2 : ¬ (k : Int) < (N : Int) := by omega
    obtain ⟨wz, hwz⟩ : ∃ w0, w0 = wr := ⟨_, rfl⟩
    rw [← hwz] at HS HBl c0 c1 ⊢
    clear hwz
    have HS0 : Hid (S1 wz B (.slice a N c) E ln 0 0 wz) := by rw [← Hln.out]; exact S1.start HS.out.al
    have HhB : Hid (wz.heap[hb]? = some (.cells #[.slice a N c, .slice b N d, .slice none 0 0, vr] 55 (0, 0))) := HS.out.blk
    have HEb2 : Hid (∀ q, inE E q → q < wz.heap.size) := fun q hq => Nat.lt_of_lt_of_le (HEb.out q hq) HBl.out.size
    have HVb2 : Hid (∀ q, (Value.slice a N c).ownBlock = some q → q < wz.heap.size) := fun q hq => Nat.lt_of_lt_of_le (HVb.out q hq) HBl.out.size
    have hB2 : B ≤ wz.heap.size := Nat.le_trans hB HBl.out.size
    clear HEb HVb hB hlt
    go_wp2_with (fail)
    go_loopw [4, 5] (fun i j wr => ∃ k : Nat, k ≤ N ∧ i = .int .i64 (k : Int) ∧ Hid (S1 wz B (.slice a N c) E ln k 0 wr)) (fun i _ _ => N - (intOf i).toNat)
    case atStart => exact ⟨0, Nat.zero_le _, rfl, HS0.out⟩
    case round =>
    obtain ⟨k, hk, rfl, HI⟩ := hrel
    clear HS0
    have c0 : wr.cell? ⟨hb, 0, none⟩ = some (.slice a N c) := cell_keepX HI.out.kp HnE.out (blk_cell HhB.out 0)
    by_cases hlt : k < N
    · have i1 : (0 : Int) ≤ (k : Int) := Int.natCast_nonneg _
      have i2 : (k : Int) < (N : Int) := by omega
      go_wp2_with (fail)
      go_loopw [5] (fun j wr => ∃ q : Nat, q ≤ ln k ∧ j = .int .i64 (q : Int) ∧ Hid (S1 wz B (.slice a N c) E ln k q wr)) (fun j _ => ln k - (intOf j).toNat)
      case atStart => exact ⟨0, Nat.zero_le _, rfl, HI.out⟩
      case round =>
      obtain ⟨q, hq, rfl, HJ⟩ := hrel
      clear HI c0
      have c0 : wr.cell? ⟨hb, 0, none⟩ = some (.slice a N c) := cell_keepX HJ.out.kp HnE.out (blk_cell HhB.out 0)
      obtain ⟨C2, hAl, _⟩ := HJ.out.ex
      have hrow := hAl.row
      rw [HNe.out] at hrow
      obtain ⟨g, rfl, u1, -⟩ := row_at hrow hlt
      rw [getD_v (by rw [HNe.out]; exact hlt)] at u1
      obtain ⟨ys, hys, hr2⟩ := HJ.out.row (i := k) (by rw [HNe.out]; exact hlt)
      obtain ⟨xa, xc, hx⟩ := own_sliceD hr2
      have Hx : Hid ((E.getD k el0).v = .slice xa (ln k) xc) := hx
      rw [hx] at u1 hr2
      clear hx hAl hrow
      obtain ⟨m, hm⟩ : ∃ m, ln k = m := ⟨_, rfl⟩
      have Hm : Hid (ln k = m) := hm
      have hm1 : m ≤ 1000 := by rw [← hm]; exact HC.out k (by rw [HNe.out]; exact hlt)
      rw [hm] at hq u1 hr2 hys ⊢
      clear hm
      by_cases hql : q < m
      · have k1 : (0 : Int) ≤ (q : Int) := Int.natCast_nonneg _
        have k2 : (q : Int) < (m : Int) := by omega
        obtain ⟨g2, rfl, u2, u3⟩ := row_at hr2 hql
        rw [ints_getD (by omega)] at u2
        generalize ys.getD q 0 = y at u2
        have hmk := mk_num k (by omega)
        have HN : Hid (S1 wz B (.slice (some ⟨g, 0, none⟩) N c) E ln k (q + 1) (wr.setCell ⟨g2, q, none⟩ (.int .i64 (mkI k)))) := HJ.out.set (by rw [HNe.out]; exact hlt) (by rw [Hm.out]; exact hql) Hx.out
        clear hr2 hys
        go_wp2_with (fail)
        refine ⟨⟨q + 1, by omega, by go_num, ?_⟩, by simp [intOf]; omega⟩
        first | exact HN.out | (simp only [hmk]; exact HN.out)
      · have k2 : ¬ (q : Int) < (m : Int) := by omega
        have HN : Hid (S1 wz B (.slice (some ⟨g, 0, none⟩) N c) E ln (k + 1) 0 wr) := HJ.out.turn (by rw [Hm.out]; omega)
        clear hr2 hys
        go_wp2_with (fail)
        exact ⟨⟨k + 1, by omega, by go_num, HN.out⟩, by simp [intOf]; omega⟩
    · have i2 : ¬ (k : Int) < (N : Int) := by omega
      obtain rfl : k = N := by omega
      have HT0 : Hid (S2 hb (.slice b k d) vr wr B (.slice a k c) E ln 0 (.slice none 0 0) wr) := S2.start (HI.out.all (by rw [HNe.out]; exact Nat.le_refl _)) (HI.out.kp.obj HhB.out HnE.out)
      have HK1 : Hid (Kept wz wr (inE E)) := HI.out.kp
      have HEb1 : Hid (∀ q, inE E q → q < wr.heap.size) := fun q hq => Nat.lt_of_lt_of_le (HEb2.out q hq) HK1.out.size
      have HVb1 : Hid (∀ q, (Value.slice a k c).ownBlock = some q → q < wr.heap.size) := fun q hq => Nat.lt_of_lt_of_le (HVb2.out q hq) HK1.out.size
      have hB1 : B ≤ wr.heap.size := Nat.le_trans hB2 HK1.out.size
      clear HI HEb2 HVb2 hlt hk hB2 HhB
      have HSt : Hid (∃ w0, w0 = wr) := ⟨_, rfl⟩
      obtain ⟨w0, hw0⟩ := HSt.out
      clear HSt
      rw [← hw0] at HT0 HK1 HEb1 HVb1 hB1 c0 ⊢
      clear hw0
      go_wp2_with (fail)
      clear c0 i2
      go_loopw [6, 7, 8] (fun i _ _ wr => ∃ (p : Nat) (mv : Value) (w1 : World), p ≤ k ∧ i = .int .i64 (p : Int) ∧ w1 = wr ∧ Hid (S2 hb (.slice b k d) vr w0 B (.slice a k c) E ln p mv w1)) (fun i _ _ _ => k - (intOf i).toNat)
      case atStart => exact ⟨0, _, _, Nat.zero_le _, rfl, rfl, HT0.out⟩
      case round =>
      obtain ⟨p, mv, w1, hp, rfl, rfl, HI⟩ := hrel
      clear HT0
      have c0 : w1.cell? ⟨hb, 0, none⟩ = some (.slice a k c) := blk_cell HI.out.blk 0
      by_cases hlt : p < k
      · have i1 : (0 : Int) ≤ (p : Int) := Int.natCast_nonneg _
        have i2 : (p : Int) < (k : Int) := by omega
        have hpE : p < E.length := by rw [HNe.out]; exact hlt
        have hrow := HI.out.al.row
        rw [HNe.out] at hrow
        obtain ⟨g, rfl, u1, -⟩ := row_at hrow hlt
        rw [getD_v hpE] at u1
        have hr2 := HI.out.al.el p hpE
        have hcl : (Cm ln p).length = ln p := by unfold Cm; rw [List.length_replicate]
        rw [hcl] at hr2
        obtain ⟨xa, xc, hx⟩ := own_sliceD hr2
        have Hx : Hid ((E.getD p el0).v = .slice xa (ln p) xc) := hx
        rw [hx] at u1 hr2
        have hm1 : ln p ≤ 1000 := HC.out p hpE
        have HG0 : Hid (Gi w1 B (ln p) (.slice xa (ln p) xc) (Cm ln p) (mkI p) 0 (.slice xa (ln p) xc) w1) := Gi.start hr2
        have HLt : Hid (∀ q, (Value.slice xa (ln p) xc).ownBlock = some q → q < w1.heap.size) := fun q hq => (World.ownsRow.lt hr2 q hq).2
        have hB3 : B ≤ w1.heap.size := Nat.le_trans hB1 HI.out.kp.size
        have Hcl : Hid ((Cm ln p).length = ln p) := hcl
        have HpE : Hid (p < E.length) := hpE
        clear hx hrow hr2 hcl hpE
        obtain ⟨n, hn⟩ : ∃ n, ln p = n := ⟨_, rfl⟩
        have Hn : Hid (ln p = n) := hn
        rw [hn] at hm1 HG0 HLt Hcl u1
        clear hn
        have hmk := mk_num p (by omega)
        go_wp2_with (fail)
        go_loopw [7, 8] (fun g j wr => ∃ q : Nat, q ≤ 64 ∧ j = .int .i64 (q : Int) ∧ Hid (Gi w1 B n (.slice xa n xc) (Cm ln p) (mkI p) q g wr)) (fun _ j _ => 64 - (intOf j).toNat)
        case atStart => exact ⟨0, Nat.zero_le _, rfl, HG0.out⟩
        case round =>
        obtain ⟨q, hq, rfl, HJ⟩ := hrel
        clear HG0
        have hrow := HJ.out.row
        obtain ⟨ga, gc, hg⟩ := own_sliceD hrow
        rw [hg] at HJ hrow
        rw [hg]
        clear hg
        by_cases hql : q < 64
        · have j2 : (q : Int) < 64 := by omega
          obtain ⟨X1, hX1⟩ : ∃ Y, wr.alloc (.cells #[.int .i64 (mkI p)] 3) = Y := ⟨_, rfl⟩
          have HB1 : Hid (Below wr.heap.size wr X1) := by rw [← hX1]; exact balloc (Below.refl _ _)
          have HG1 : Hid (Gi w1 B n (.slice xa n xc) (Cm ln p) (mkI p) q (.slice ga (n + q) gc) X1) := HJ.out.still HB1.out
          have Hsz : Hid (B ≤ X1.heap.size) := Nat.le_trans hB3 (Nat.le_trans HJ.out.kp.size HB1.out.size)
          have HNw : Hid (∀ j u, [Value.int .i64 (mkI p)][j]? = some u → X1.cell? ((⟨wr.heap.size, 0, none⟩ : Addr).add j) = some u) := by
            rw [← hX1]
            exact cell_one_new wr _ _
          clear hrow
          obtain ⟨i0, hi, hz0, hz1, hz2⟩ := info_parts info_i
          subst hX1
          unfold mkI at HNw HG1 Hsz HB1
          go_wp2_with (first
            | (at_builtin; refine wpList_app_keep rfl (.tmp 89) (.tmp 92) 25 rfl B 3 i0 (.int .i64 0) 8 Try.underlying25 hi hz0 hz1 hz2 (by rfl) _ (n + q) (ints (Cm ln p ++ List.replicate q (mkI p))) rfl HG1.out.row ⟨wr.heap.size, 0, none⟩ 1 1 [.int .i64 (mkI p)] rfl rfl HNw.out (by intro u hu; rw [List.mem_singleton.1 hu]; rfl) (by decide) (by unfold maxLen; omega) (by omega) Hsz.out ?_)
            | fail)
          intro v' w2 q1 q2 q3 q4
          have HN : Hid (Gi w1 B n (.slice xa n xc) (Cm ln p) (mkI p) (q + 1) v' w2) := HG1.out.next q1 q2 (by
            rcases q3 with ⟨g, cap, ⟨e1, e2⟩, e3⟩ | e3
            · exact .inl ⟨g, cap, by rw [e1, e2], e3⟩
            · exact .inr (by rw [e3]; simp)) q4 Hcl.out HLt.out
          clear q1 q2 q3 q4
          go_wp2_with (fail)
          exact ⟨⟨q + 1, by omega, by go_num, HN.out⟩, by simp [intOf]; omega⟩
        · have j2 : ¬ (q : Int) < 64 := by omega
          obtain rfl : q = 64 := by omega
          have HJx : Hid (Gi w1 B (ln p) (E.getD p el0).v (Cm ln p) (mkI p) 64 (.slice ga (n + 64) gc) wr) := by
            rw [Hx.out, Hn.out]
            exact HJ.out
          have HS : Hid (S2 hb (.slice b k d) vr w0 B (.slice (some ⟨g, 0, none⟩) k c) E ln p mv wr) := HI.out.grow HEb1.out HpE.out (Nat.le_of_lt HpE.out) HJx.out
          obtain ⟨X1, hX1⟩ : ∃ Y, wr.alloc (.cells #[.slice ga (n + 64) gc] 25) = Y := ⟨_, rfl⟩
          have HB1 : Hid (Below wr.heap.size wr X1) := by rw [← hX1]; exact balloc (Below.refl _ _)
          have HS1 : Hid (S2 hb (.slice b k d) vr w0 B (.slice (some ⟨g, 0, none⟩) k c) E ln p mv X1) := HS.out.still HB1.out
          have HR1 : Hid (X1.ownsRow B 3 1 (.slice ga (n + 64) gc) (ln p + 64) (ints (List.replicate (ln p + 64) (mkI p)))) := by
            have := own_still hrow HB1.out
            unfold Cm at this
            rw [Hn.out, List.replicate_append_replicate] at this
            rw [Hn.out]
            exact this
          have HRb : Hid (∀ q, (Value.slice ga (n + 64) gc).ownBlock = some q → (E.getD p el0).b = some q ∨ w0.heap.size ≤ q) := fun q hq => by
            rcases HJx.out.block q hq with h5 | h5
            · exact .inl h5
            · exact .inr (Nat.le_trans HI.out.kp.size h5)
          have HNw : Hid (∀ j u, [Value.slice ga (n + 64) gc][j]? = some u → X1.cell? ((⟨wr.heap.size, 0, none⟩ : Addr).add j) = some u) := by
            rw [← hX1]
            exact cell_one_new wr _ _
          have Hsz : Hid (w0.heap.size ≤ X1.heap.size) := HS1.out.kp.size
          obtain ⟨F, hF, hFr, hFe⟩ := HS1.out.more
          have HF : Hid (F.length = p) := hF
          have HFr : Hid (X1.ownsRow w0.heap.size 25 1 mv p F) := hFr
          have HFe : Hid (∀ i, i < p → X1.ownsRow B 3 1 (F.getD i undef) (ln i + 64) (ints (List.replicate (ln i + 64) (mkI i))) ∧ ∀ g, (F.getD i undef).ownBlock = some g → (E.getD i el0).b = some g ∨ w0.heap.size ≤ g) := hFe
          obtain ⟨ma, mc, hmv⟩ := own_sliceD hFr
          rw [hmv] at HS1 HFr
          rw [hmv] at HI HS
          have c2 : wr.cell? ⟨hb, 2, none⟩ = some (.slice ma p mc) := blk_cell HS.out.blk 2
          clear hrow hF hFr hFe hmv HI HS HJ HJx
          obtain ⟨i0, hi, hz0, hz1, hz2⟩ := info_parts info_is
          subst hX1
          go_wp2_with (first
            | (at_builtin; refine wpList_append_own _ rfl (.tmp 98) (.tmp 100) 53 rfl w0.heap.size 25 i0 (.slice none 0 0) 1 24 Try.underlying53 hi hz0 hz1 hz2 (by rfl) (by decide) _ p F rfl HFr.out ⟨wr.heap.size, 0, none⟩ 1 1 [.slice ga (n + 64) gc] rfl rfl HNw.out (by intro u hu; rw [List.mem_singleton.1 hu]; rfl) (by unfold maxLen; omega) (by omega) Hsz.out ?_)
            | fail)
          intro v' w2 q1 q2 q3
          obtain ⟨va, vc, hva⟩ := own_sliceD q1
          rw [hva] at q1 ⊢
          have hnh : ¬ some hb = (Value.slice ma p mc).ownBlock := fun e => by
            obtain ⟨c3, h4⟩ := own_typeT HFr.out e.symm
            exact ty_ne HS1.out.blk h4 (by decide) rfl
          have hX2 := (Kept.ofGrown q2).obj HS1.out.blk hnh
          have f2 := frozen_of_row w2 hb 2 _ _ hX2
          have g2 := blk_cell hX2 2
          simp only [List.getElem?_toArray, List.getElem?_cons_succ, List.getElem?_cons_zero] at g2
          have HN : Hid (S2 hb (.slice b k d) vr w0 B (.slice (some ⟨g, 0, none⟩) k c) E ln (p + 1) (.slice va (p + 1) vc) (w2.setCell ⟨hb, 2, none⟩ (.slice va (p + 1) vc))) := S2.next F HS1.out HF.out HFr.out HFe.out HVb1.out HR1.out HRb.out q1 q2
          clear q1 q2 q3 hX2 hnh hva
          go_wp2_with (fail)
          exact ⟨⟨p + 1, _, _, by omega, by go_num, rfl, HN.out⟩, by simp [intOf]; omega⟩
      · have i2 : ¬ (p : Int) < (k : Int) := by omega
        obtain rfl : p = k := by omega
        have HKw : Hid (Kept w w1 (fun q => inE E q ∨ q = hb)) := ((Kept.ofBelow HBl.out _).trans (HK1.out.mono (fun q _ h => .inl h))).trans HI.out.kp
        obtain ⟨F, hF, hFr, hFe⟩ := HI.out.more
        obtain ⟨ma, mc, hmv⟩ := own_sliceD hFr
        have HF : Hid (∀ i, i < p → w1.ownsRow B 3 1 (F.getD i undef) (ln i + 64) (ints (List.replicate (ln i + 64) (mkI i)))) := fun i hi => (hFe i hi).1
        have HFr : Hid (w1.ownsRow w0.heap.size 25 1 (.slice ma p mc) p F) := by rw [← hmv]; exact hFr
        have HAl : Hid (Al w1 B (.slice a p c) E (Cm ln)) := HI.out.al
        have c2 : w1.cell? ⟨hb, 2, none⟩ = some (.slice ma p mc) := by
          have := blk_cell HI.out.blk 2
          rw [hmv] at this
          exact this
        clear hFr hFe hmv HI HEb1 HVb1 HK1 hB1
        go_wp2_with (fail)
        go_loopw [9, 10, 11] (fun i _ _ wr => ∃ z : Nat, z ≤ p ∧ i = .int .i64 (z : Int) ∧ w1 = wr) (fun i _ _ _ => p - (intOf i).toNat)
        case atStart => exact ⟨0, Nat.zero_le _, rfl, rfl⟩
        case round =>
        obtain ⟨z, hz, rfl, rfl⟩ := hrel
        by_cases hlt : z < p
        · have k1 : (0 : Int) ≤ (z : Int) := Int.natCast_nonneg _
          have k2 : (z : Int) < (p : Int) := by omega
          have hzE : z < E.length := by rw [HNe.out]; exact hlt
          have hrow := HAl.out.row
          rw [HNe.out] at hrow
          obtain ⟨g, rfl, u1, -⟩ := row_at hrow hlt
          rw [getD_v hzE] at u1
          have hr2 := HAl.out.el z hzE
          have hcl : (Cm ln z).length = ln z := by unfold Cm; rw [List.length_replicate]
          rw [hcl] at hr2
          obtain ⟨xa, xc, hx⟩ := own_sliceD hr2
          rw [hx] at u1 hr2
          obtain ⟨mg, rfl, u2, -⟩ := row_at HFr.out hlt
          have hr3 := HF.out z hlt
          obtain ⟨ya, yc, hy⟩ := own_sliceD hr3
          rw [hy] at u2 hr3
          have hm1 : ln z ≤ 1000 := HC.out z hzE
          unfold Cm at hr2
          clear hx hy hrow hcl
          generalize ln z = n at *
          have HR2 : Hid (w1.ownsRow B 3 1 (.slice xa n xc) n (ints (List.replicate n (mkI z)))) := hr2
          have HR3 : Hid (w1.ownsRow B 3 1 (.slice ya (n + 64) yc) (n + 64) (ints (List.replicate (n + 64) (mkI z)))) := hr3
          have hmk := mk_num z (by omega)
          clear hr2 hr3
          go_wp2_with (fail)
          go_loopw [11] (fun j wr => ∃ q : Nat, q ≤ n + 64 ∧ j = .int .i64 (q : Int) ∧ w1 = wr) (fun j _ => n + 64 - (intOf j).toNat)
          case atStart => exact ⟨0, Nat.zero_le _, rfl, rfl⟩
          case round =>
          obtain ⟨q, hq, rfl, rfl⟩ := hrel
          by_cases hql : q < n + 64
          · have l1 : (0 : Int) ≤ (q : Int) := Int.natCast_nonneg _
            have l2 : (q : Int) < (n : Int) + 64 := by omega
            have l3 : (q : Int) < ((n + 64 : Nat) : Int) := by omega
            obtain ⟨yg, rfl, u3, -⟩ := row_at HR3.out hql
            rw [ints_getD (by rw [List.length_replicate]; exact hql)] at u3
            have e3 : (List.replicate (n + 64) (mkI z)).getD q 0 = -1000 - (z : Int) := by simp [List.getD, List.getElem?_replicate, hql, mkI]
            rw [e3] at u3
            clear e3
            by_cases hqn : q < n
            · have l4 : (q : Int) < (n : Int) := by omega
              obtain ⟨xg, rfl, u4, -⟩ := row_at HR2.out hqn
              rw [ints_getD (by rw [List.length_replicate]; exact hqn)] at u4
              have e4 : (List.replicate n (mkI z)).getD q 0 = -1000 - (z : Int) := by simp [List.getD, List.getElem?_replicate, hqn, mkI]
              rw [e4] at u4
              clear e4
              go_wp2_with (fail)
              exact ⟨⟨q + 1, by omega, by go_num, by first | exact trivial | rfl⟩, by simp [intOf]; omega⟩
            · have l4 : ¬ (q : Int) < (n : Int) := by omega
              go_wp2_with (fail)
              exact ⟨⟨q + 1, by omega, by go_num, by first | exact trivial | rfl⟩, by simp [intOf]; omega⟩
          · have l2 : ¬ (q : Int) < (n : Int) + 64 := by omega
            go_wp2_with (fail)
            exact ⟨⟨z + 1, by omega, by go_num, by first | exact trivial | rfl⟩, by simp [intOf]; omega⟩
        · have k2 : ¬ (z : Int) < (p : Int) := by omega
          go_wp2
          go_ret
          exact ⟨rfl, HKw.out⟩
end
end Go.Proofs.Ytfbollifegngjaa.Dt
