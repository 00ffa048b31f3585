import Derived.Test.YtjgjpepmfiklfaaGreatDoorMCa
namespace Go.Proofs.YtjgjpepmfiklfaaGreatDoor.Mx
open Go.RowKit Mb Mh Lo
set_option linter.unusedVariables false
set_option maxRecDepth 100000
set_option linter.unusedSimpArgs false
section
variable {w w' W : World} {B : Nat}
theorem oth_ok : okC 1 2 3 2 ⟨#[111, 116, 104, 101, 114]⟩ ⟨#[]⟩ ⟨#[]⟩ = true := by kernel_rfl
set_option maxHeartbeats 40000000 in
theorem commands_any (hg : Gl w) {cl inc req op : Int} (ky v old : ByteArray) {ao : Option Addr} {n c : Nat} {bs : List Int} (hr : Rd w ao n c bs) (hnc : n ≤ c) (hn : n ≤ 140737488351232) : Calls Tryz.prog 4 #[.agg #[.int .i64 cl, .int .i64 inc, .int .i64 req, .int .i64 op, .string ky, .string v, .string old], .slice ao n c] w fun e w' => e = .returned (.bool true) ∧ Below w.heap.size w w' := by
  obtain rfl : bs.length = n := hr.1
  obtain ⟨W, hW⟩ : ∃ X, w.alloc (.cells #[.int .i64 cl, .int .i64 inc, .int .i64 req, .int .i64 op, .string ky, .string v, .string old] 23) = X := ⟨_, rfl⟩
  obtain ⟨cb, hcb⟩ : ∃ x, w.heap.size = x := ⟨_, rfl⟩
  have HcW : Hid (W.heap[cb]? = some (.cells #[.int .i64 cl, .int .i64 inc, .int .i64 req, .int .i64 op, .string ky, .string v, .string old] 23 (0, 0))) := by rw [← hW, ← hcb]; exact heap_alloc_new w _
  have LW : Hid (Below w.heap.size w W) := by rw [← hW]; exact balloc (Below.refl _ _)
  have HG : Hid (Gl w) := hg
  have HR : Hid (Rd w ao bs.length c bs) := hr
  have HL : Hid (bs.length ≤ c ∧ bs.length ≤ 140737488351232) := ⟨hnc, hn⟩
  have HK : Hid (okC cl inc req op ky v old = true ∨ True) := .inr trivial
  obtain ⟨X, hX⟩ : ∃ X, encX cl inc req op ky v old = X := ⟨_, rfl⟩
  obtain ⟨E, hE⟩ : ∃ E, encE cl inc req op ky v old = E := ⟨_, rfl⟩
  have HXr : Hid (rng X) := by show rng X; rw [← hX]; exact encX_rng _ _ _ _ _ _ _
  have hXl : X.length ≤ 200 := by rw [← hX]; exact encX_len _ _ _ _ _ _ _
  have HEnc : Hid (∀ w1, Below w.heap.size w w1 → Calls Tryz.prog 5 #[.agg #[.int .i64 cl, .int .i64 inc, .int .i64 req, .int .i64 op, .string ky, .string v, .string old]] w1 fun e w' => ∃ a c, e = .returned (.tuple #[.slice a X.length c, .int .i64 E]) ∧ Own w' w1.heap.size (.slice a X.length c) X ∧ Below w1.heap.size w1 w') := fun w1 h => by have := enc_u (cl := cl) (inc := inc) (req := req) (op := op) (hg.still h) ky v old; rw [hX, hE] at this; exact this
  have HQenc : Hid (∀ w1 : World, Calls Tryz.prog 12 #[.agg #[.int .i64 cl, .int .i64 inc, .int .i64 req, .int .i64 op, .string ky, .string v, .string old]] w1 fun e w' => ∃ a c, e = .returned (.tuple #[.slice a X.length c, .int .i64 E]) ∧ Own w' w1.heap.size (.slice a X.length c) X ∧ Below w1.heap.size w1 w') := fun w1 => by have := qenc_u (w := w1) (cl := cl) (inc := inc) (req := req) (op := op) ky v old; rw [hX, hE] at this; exact this
  obtain ⟨sK, hsK⟩ : ∃ s : ByteArray, (⟨#[111, 116, 104, 101, 114]⟩ : ByteArray) = s := ⟨_, rfl⟩
  obtain ⟨O, hO⟩ : ∃ O, encX 1 2 3 2 sK ⟨#[]⟩ ⟨#[]⟩ = O := ⟨_, rfl⟩
  have HOr : Hid (rng O) := by show rng O; rw [← hO]; exact encX_rng _ _ _ _ _ _ _
  have hOl : O.length ≤ 200 := by rw [← hO]; exact encX_len _ _ _ _ _ _ _
  have HOe : Hid (∀ w1, Below w.heap.size w w1 → Calls Tryz.prog 5 #[.agg #[.int .i64 1, .int .i64 2, .int .i64 3, .int .i64 2, .string sK, .string ⟨#[]⟩, .string ⟨#[]⟩]] w1 fun e w' => ∃ a c, e = .returned (.tuple #[.slice a O.length c, .int .i64 0]) ∧ Own w' w1.heap.size (.slice a O.length c) O ∧ Below w1.heap.size w1 w') := fun w1 h => by
    have := enc_u (cl := 1) (inc := 2) (req := 3) (op := 2) (hg.still h) sK ⟨#[]⟩ ⟨#[]⟩
    have e0 : encE 1 2 3 2 sK ⟨#[]⟩ ⟨#[]⟩ = 0 := by rw [← hsK]; exact if_pos oth_ok
    rw [hO, e0] at this
    exact this
  obtain ⟨x, ex, hx⟩ := decV_shape bs
  have HDx : Hid (∀ w1 (a : Option Addr) (c1 : Nat), Below w.heap.size w w1 → Rd w1 a bs.length c1 bs → bs.length ≤ c1 → Calls Tryz.prog 6 #[.slice a bs.length c1] w1 fun e w' => e = .returned (.tuple #[.agg #[.int .i64 x.a, .int .i64 x.b, .int .i64 x.c, .int .i64 x.d, .string x.e, .string x.f, .string x.g], .int .i64 ex]) ∧ Below w1.heap.size w1 w') := fun w1 a c1 h h2 h3 => by have := dec_any (hg.still h) h2 h3 (by omega); rw [hx] at this; exact this
  have HQx : Hid (∀ w1 (a : Option Addr) (c1 : Nat), Rd w1 a bs.length c1 bs → bs.length ≤ c1 → Calls Tryz.prog 14 #[.slice a bs.length c1] w1 fun e w' => e = .returned (.tuple #[.agg #[.int .i64 x.a, .int .i64 x.b, .int .i64 x.c, .int .i64 x.d, .string x.e, .string x.f, .string x.g], .int .i64 ex]) ∧ Below w1.heap.size w1 w') := fun w1 a c1 h2 h3 => by have := qdec_any h2 h3 (by omega); rw [hx] at this; exact this
  obtain ⟨ts, hts⟩ : ∃ t, tw bs.length bs = t := ⟨_, rfl⟩
  have htl : ts.length = bs.length := by rw [← hts, tw_len]
  have HTr : Hid (rng ts) := by show rng ts; rw [← hts]; exact tw_rng _ _ hr.2.2.2
  obtain ⟨t, et, ht⟩ := decV_shape ts
  have HDt : Hid (∀ w1 (a : Option Addr) (c1 : Nat), Below w.heap.size w w1 → Rd w1 a bs.length c1 ts → bs.length ≤ c1 → Calls Tryz.prog 6 #[.slice a bs.length c1] w1 fun e w' => e = .returned (.tuple #[.agg #[.int .i64 t.a, .int .i64 t.b, .int .i64 t.c, .int .i64 t.d, .string t.e, .string t.f, .string t.g], .int .i64 et]) ∧ Below w1.heap.size w1 w') := fun w1 a c1 h h2 h3 => by have := dec_any (hg.still h) h2 h3 (by omega); rw [ht] at this; exact this
  have HQt : Hid (∀ w1 (a : Option Addr) (c1 : Nat), Rd w1 a bs.length c1 ts → bs.length ≤ c1 → Calls Tryz.prog 14 #[.slice a bs.length c1] w1 fun e w' => e = .returned (.tuple #[.agg #[.int .i64 t.a, .int .i64 t.b, .int .i64 t.c, .int .i64 t.d, .string t.e, .string t.f, .string t.g], .int .i64 et]) ∧ Below w1.heap.size w1 w') := fun w1 a c1 h2 h3 => by have := qdec_any h2 h3 (by omega); rw [ht] at this; exact this
  have HCk : Hid (∀ w1, Below w.heap.size w w1 → Calls Tryz.prog 8 #[.agg #[.int .i64 cl, .int .i64 inc, .int .i64 req, .int .i64 op, .string ky, .string v, .string old]] w1 fun e w' => e = .returned (.int .i64 E) ∧ Below w1.heap.size w1 w') := fun w1 h => by have := check_any (cl := cl) (inc := inc) (req := req) (op := op) (hg.still h) ky v old; rw [← hE]; exact this
  have HQk : Hid (∀ w1 : World, Calls Tryz.prog 11 #[.agg #[.int .i64 cl, .int .i64 inc, .int .i64 req, .int .i64 op, .string ky, .string v, .string old]] w1 fun e w' => e = .returned (.int .i64 E) ∧ Below w1.heap.size w1 w') := fun w1 => by have := qcheck_any (w := w1) (cl := cl) (inc := inc) (req := req) (op := op) ky v old; rw [← hE]; exact this
  have HTw : Hid (tw bs.length bs = ts) := hts
  clear hX hE hO hx hts ht hg hr
  go_enter Tryz.func4, Tryz.ntmps4
  go_wp2_with (fail)
  refine wp_region_held_drew (S := (fun w' => Below W.heap.size W w')) (by kernel_rfl) (Below.refl _ W).drew (fun hHeld => ?_)
  simp only [Act.put, List.size_toArray, List.length_cons, List.length_nil, Nat.zero_add]
  refine wpAnyH_take (i := 0) (v := .agg #[.int .i64 cl, .int .i64 inc, .int .i64 req, .int .i64 op, .string ky, .string v, .string old]) rfl (by kernel_rfl) (by kernel_rfl) (by kernel_rfl) (fun _ _ _ h => h) (Or.inl ⟨by rfl, fun w' hS => by (have Hx := blk_below HcW.out hS; have s0 := blk_cell Hx 0; have s1 := blk_cell Hx 1; have s2 := blk_cell Hx 2; have s3 := blk_cell Hx 3; have s4 := blk_cell Hx 4; have s5 := blk_cell Hx 5; have s6 := blk_cell Hx 6; simp only [List.getElem?_toArray, List.getElem?_cons_succ, List.getElem?_cons_zero] at s0 s1 s2 s3 s4 s5 s6; go_simp)⟩) hHeld ?_
  simp only [Act.put, List.getElem_toArray, List.getElem_cons_zero, List.getElem_cons_succ, List.setIfInBounds_toArray, List.set_cons_zero, List.set_cons_succ]
  refine wpAnyH_take (i := 3) (v := .agg #[.int .i64 cl, .int .i64 inc, .int .i64 req, .int .i64 op, .string ky, .string v, .string old]) rfl (by kernel_rfl) (by kernel_rfl) (by kernel_rfl) (fun _ _ _ h => h) (Or.inl ⟨by rfl, fun w' hS => by (have Hx := blk_below HcW.out hS; have s0 := blk_cell Hx 0; have s1 := blk_cell Hx 1; have s2 := blk_cell Hx 2; have s3 := blk_cell Hx 3; have s4 := blk_cell Hx 4; have s5 := blk_cell Hx 5; have s6 := blk_cell Hx 6; simp only [List.getElem?_toArray, List.getElem?_cons_succ, List.getElem?_cons_zero] at s0 s1 s2 s3 s4 s5 s6; go_simp)⟩) hHeld ?_
  simp only [Act.put, List.getElem_toArray, List.getElem_cons_zero, List.getElem_cons_succ, List.setIfInBounds_toArray, List.set_cons_zero, List.set_cons_succ]
  refine wpAnyH_ready (rs := [1]) (by kernel_rfl) (by simp) ?_
  refine AllReadyH.cons rfl (fun K hK => ?_) AllReadyH.nil
  go_simp
  refine (HCk.out _ (Mb.bstep LW.out hHeld)).mono ?_
  rintro e y1 ⟨rfl, hb1⟩
  refine hK.out _ _ (Mb.bstep hHeld hb1) (fun hHeld => ?_)
  clear hK K hb1
  refine wpAnyH_ready (rs := [2]) (by kernel_rfl) (by simp) ?_
  refine AllReadyH.cons rfl (fun K hK => ?_) AllReadyH.nil
  go_simp
  refine (num_any _).mono ?_
  rintro e wx ⟨rfl, rfl⟩
  refine hK.out _ _ hHeld (fun hHeld => ?_)
  clear hK K
  refine wpAnyH_ready (rs := [4]) (by kernel_rfl) (by simp) ?_
  refine AllReadyH.cons rfl (fun K hK => ?_) AllReadyH.nil
  go_simp
  refine (HQk.out _).mono ?_
  rintro e w1 ⟨rfl, hb2⟩
  have LV : Below W.heap.size W w1 := Mb.bstep hHeld hb2
  refine hK.out _ _ LV (fun hHeld => ?_)
  clear hK K hb2
  refine wpAnyH_take (i := 5) (v := .bool false) rfl (by kernel_rfl) (by kernel_rfl) (by kernel_rfl) (fun _ _ _ h => h) (Or.inl ⟨by rfl, fun w' hS => by go_simp⟩) hHeld ?_
  simp only [Act.put, List.getElem_toArray, List.getElem_cons_zero, List.getElem_cons_succ, List.setIfInBounds_toArray, List.set_cons_zero, List.set_cons_succ]
  refine wpAnyH_done (by kernel_rfl) ?_ _
  clear hHeld HCk HQk
  have L1 : Hid (Below w.heap.size w w1) := Mb.bstep LW.out LV
  have E1 : Hid (Env w1 [(cb, #[.int .i64 cl, .int .i64 inc, .int .i64 req, .int .i64 op, .string ky, .string v, .string old])] []) := ⟨fun b hm => by obtain rfl := List.mem_singleton.1 hm; exact ⟨blk_below HcW.out LV, rfl⟩, fun o hm => by cases hm⟩
  have hcB : cb < w1.heap.size := by have := LV.size; have := lt_heap HcW.out; omega
  obtain ⟨B, hB⟩ : ∃ B, w1.heap.size = B := ⟨_, rfl⟩
  clear LV hW
  have s0 := blk_cell (E1.out.1 _ (List.mem_singleton.2 rfl)).1 0
  have s1 := blk_cell (E1.out.1 _ (List.mem_singleton.2 rfl)).1 1
  have s2 := blk_cell (E1.out.1 _ (List.mem_singleton.2 rfl)).1 2
  have s3 := blk_cell (E1.out.1 _ (List.mem_singleton.2 rfl)).1 3
  have s4 := blk_cell (E1.out.1 _ (List.mem_singleton.2 rfl)).1 4
  have s5 := blk_cell (E1.out.1 _ (List.mem_singleton.2 rfl)).1 5
  have s6 := blk_cell (E1.out.1 _ (List.mem_singleton.2 rfl)).1 6
  simp only [List.getElem?_toArray, List.getElem?_cons_succ, List.getElem?_cons_zero] at s0 s1 s2 s3 s4 s5 s6
  go_wp2_with (fail)
  clear s0 s1 s2 s3 s4 s5 s6
  refine (HEnc.out _ L1.out).mono ?_
  rintro e w2 ⟨pa, pc, rfl, ho, hb⟩
  have L2 : Hid (Below w.heap.size w w2) := Mb.bstep L1.out hb
  have E2 : Hid (Env w2 [(cb, #[.int .i64 cl, .int .i64 inc, .int .i64 req, .int .i64 op, .string ky, .string v, .string old])] ((w1.heap.size, .slice pa X.length pc, X) :: [])) := (E1.out.still hb).own ho
  have Rp : Hid (∀ j, (Value.slice pa X.length pc).ownBlock = some j → w1.heap.size ≤ j ∧ j < w2.heap.size) := fun j hj => ho.lt j hj
  have z2 := hb.size
  clear ho hb E1
  go_wp2_with (fail)
  try simp only [hsK]
  refine (HOe.out _ L2.out).mono ?_
  rintro e w3 ⟨oa, oc, rfl, ho, hb⟩
  have L3 : Hid (Below w.heap.size w w3) := Mb.bstep L2.out hb
  have E3 : Hid (Env w3 [(cb, #[.int .i64 cl, .int .i64 inc, .int .i64 req, .int .i64 op, .string ky, .string v, .string old])] ((w2.heap.size, .slice oa O.length oc, O) :: [(w1.heap.size, .slice pa X.length pc, X)])) := (E2.out.still hb).own ho
  have Ro : Hid (∀ j, (Value.slice oa O.length oc).ownBlock = some j → w2.heap.size ≤ j ∧ j < w3.heap.size) := fun j hj => ho.lt j hj
  have z3 := hb.size
  clear ho hb E2
  have s0 := blk_cell (E3.out.1 _ (List.mem_singleton.2 rfl)).1 0
  have s1 := blk_cell (E3.out.1 _ (List.mem_singleton.2 rfl)).1 1
  have s2 := blk_cell (E3.out.1 _ (List.mem_singleton.2 rfl)).1 2
  have s3 := blk_cell (E3.out.1 _ (List.mem_singleton.2 rfl)).1 3
  have s4 := blk_cell (E3.out.1 _ (List.mem_singleton.2 rfl)).1 4
  have s5 := blk_cell (E3.out.1 _ (List.mem_singleton.2 rfl)).1 5
  have s6 := blk_cell (E3.out.1 _ (List.mem_singleton.2 rfl)).1 6
  simp only [List.getElem?_toArray, List.getElem?_cons_succ, List.getElem?_cons_zero] at s0 s1 s2 s3 s4 s5 s6
  go_wp2_with (fail)
  clear s0 s1 s2 s3 s4 s5 s6
  refine (HEnc.out _ L3.out).mono ?_
  rintro e w4 ⟨qa, qc, rfl, ho, hb⟩
  have L4 : Hid (Below w.heap.size w w4) := Mb.bstep L3.out hb
  have E4 : Hid (Env w4 [(cb, #[.int .i64 cl, .int .i64 inc, .int .i64 req, .int .i64 op, .string ky, .string v, .string old])] ((w3.heap.size, .slice qa X.length qc, X) :: [(w2.heap.size, .slice oa O.length oc, O), (w1.heap.size, .slice pa X.length pc, X)])) := (E3.out.still hb).own ho
  have Rq : Hid (∀ j, (Value.slice qa X.length qc).ownBlock = some j → w3.heap.size ≤ j ∧ j < w4.heap.size) := fun j hj => ho.lt j hj
  have z4 := hb.size
  clear ho hb E3
  have s0 := blk_cell (E4.out.1 _ (List.mem_singleton.2 rfl)).1 0
  have s1 := blk_cell (E4.out.1 _ (List.mem_singleton.2 rfl)).1 1
  have s2 := blk_cell (E4.out.1 _ (List.mem_singleton.2 rfl)).1 2
  have s3 := blk_cell (E4.out.1 _ (List.mem_singleton.2 rfl)).1 3
  have s4 := blk_cell (E4.out.1 _ (List.mem_singleton.2 rfl)).1 4
  have s5 := blk_cell (E4.out.1 _ (List.mem_singleton.2 rfl)).1 5
  have s6 := blk_cell (E4.out.1 _ (List.mem_singleton.2 rfl)).1 6
  simp only [List.getElem?_toArray, List.getElem?_cons_succ, List.getElem?_cons_zero] at s0 s1 s2 s3 s4 s5 s6
  go_wp2_with (fail)
  clear s0 s1 s2 s3 s4 s5 s6
  refine (HQenc.out _).mono ?_
  rintro e w5 ⟨ra, rc, rfl, ho, hb⟩
  have L5 : Hid (Below w.heap.size w w5) := Mb.bstep L4.out hb
  have E5 : Hid (Env w5 [(cb, #[.int .i64 cl, .int .i64 inc, .int .i64 req, .int .i64 op, .string ky, .string v, .string old])] ((w4.heap.size, .slice ra X.length rc, X) :: [(w3.heap.size, .slice qa X.length qc, X), (w2.heap.size, .slice oa O.length oc, O), (w1.heap.size, .slice pa X.length pc, X)])) := (E4.out.still hb).own ho
  have Rr : Hid (∀ j, (Value.slice ra X.length rc).ownBlock = some j → w4.heap.size ≤ j ∧ j < w5.heap.size) := fun j hj => ho.lt j hj
  have z5 := hb.size
  clear ho hb E4
  go_wp2_with (first | (go_at_call 7; refine (num_any _).mono ?_; rintro e wx ⟨rfl, rfl⟩) | fail)
  refine (same_any _ _ _ _ _ X _ (ownRd (E5.out.2 (w1.heap.size, .slice pa X.length pc, X) (by simp)) HXr.out) (ownRd (E5.out.2 (w4.heap.size, .slice ra X.length rc, X) (by simp)) HXr.out) (by omega)).mono ?_
  rintro e w6 ⟨rfl, hb⟩
  have L6 : Hid (Below w.heap.size w w6) := Mb.bstep L5.out hb
  have E6 : Hid (Env w6 [(cb, #[.int .i64 cl, .int .i64 inc, .int .i64 req, .int .i64 op, .string ky, .string v, .string old])] [(w4.heap.size, .slice ra X.length rc, X), (w3.heap.size, .slice qa X.length qc, X), (w2.heap.size, .slice oa O.length oc, O), (w1.heap.size, .slice pa X.length pc, X)]) := E5.out.still hb
  have z6 := hb.size
  clear hb E5
  go_wp2_with (first | (go_at_call 7; refine (num_any _).mono ?_; rintro e wx ⟨rfl, rfl⟩) | fail)
  refine (same_any _ _ _ _ _ X _ (ownRd (E6.out.2 (w3.heap.size, .slice qa X.length qc, X) (by simp)) HXr.out) (ownRd (E6.out.2 (w4.heap.size, .slice ra X.length rc, X) (by simp)) HXr.out) (by omega)).mono ?_
  rintro e w7 ⟨rfl, hb⟩
  have L7 : Hid (Below w.heap.size w w7) := Mb.bstep L6.out hb
  have E7 : Hid (Env w7 [(cb, #[.int .i64 cl, .int .i64 inc, .int .i64 req, .int .i64 op, .string ky, .string v, .string old])] [(w4.heap.size, .slice ra X.length rc, X), (w3.heap.size, .slice qa X.length qc, X), (w2.heap.size, .slice oa O.length oc, O), (w1.heap.size, .slice pa X.length pc, X)]) := E6.out.still hb
  have z7 := hb.size
  clear hb E6
  go_wp2_with (fail)
  refine (loose_shape ao c bs _ (HR.out.below L7.out) (by omega)).mono ?_
  rintro e w8 ⟨g, capl, rfl, hcl, hg8, ho, hb⟩
  have L8 : Hid (Below w.heap.size w w8) := Mb.bstep L7.out hb
  have E8 : Hid (Env w8 [(cb, #[.int .i64 cl, .int .i64 inc, .int .i64 req, .int .i64 op, .string ky, .string v, .string old])] [(w4.heap.size, .slice ra X.length rc, X), (w3.heap.size, .slice qa X.length qc, X), (w2.heap.size, .slice oa O.length oc, O), (w1.heap.size, .slice pa X.length pc, X)]) := E7.out.still hb
  have G8 : Hid (Own w8 w7.heap.size (.slice (some ⟨g, 0, none⟩) (bs ++ marks 64).length capl) (bs ++ marks 64)) := ho
  have hgl := (ho.lt g rfl).2
  have z8 := hb.size
  clear ho hb E7
  have i1 : (0 : Int) ≤ (bs.length : Int) := Int.natCast_nonneg _
  have i2 : (bs.length : Int) ≤ (capl : Int) := by omega
  have i3 : bs.length ≤ capl := by omega
  go_wp2_with (fail)
  refine (HDx.out _ _ _ L8.out (G8.out.rdPrefix HR.out.2.2.2) (by omega)).mono ?_
  rintro e w9 ⟨rfl, hb⟩
  have L9 : Hid (Below w.heap.size w w9) := Mb.bstep L8.out hb
  have E9 : Hid (Env w9 [(cb, #[.int .i64 cl, .int .i64 inc, .int .i64 req, .int .i64 op, .string ky, .string v, .string old])] [(w4.heap.size, .slice ra X.length rc, X), (w3.heap.size, .slice qa X.length qc, X), (w2.heap.size, .slice oa O.length oc, O), (w1.heap.size, .slice pa X.length pc, X)]) := E8.out.still hb
  have G9 : Hid (Own w9 w7.heap.size (.slice (some ⟨g, 0, none⟩) (bs ++ marks 64).length capl) (bs ++ marks 64)) := owns_below G8.out hb
  have z9 := hb.size
  clear hb E8 G8
  obtain ⟨aA, aS0, aS1, aS2, aS3, aS4, aS5, wA, ahA, af0, aq0, ah0, af1, aq1, ah1, af2, aq2, ah2, af3, aq3, ah3, af4, aq4, ah4, af5, aq5, ah5, af6, aq6, ah6, aH, aB⟩ := newcmd w9 (.int .i64 x.a) (.int .i64 x.b) (.int .i64 x.c) (.int .i64 x.d) (.string x.e) (.string x.f) (.string x.g)
  obtain ⟨db, hdb⟩ : ∃ d, w9.heap.size = d := ⟨_, rfl⟩
  rw [hdb] at af0 aq0 ah0 af1 aq1 ah1 af2 aq2 ah2 af3 aq3 ah3 af4 aq4 ah4 af5 aq5 ah5 af6 aq6 ah6 aH
  have LA : Hid (Below w.heap.size w wA) := Mb.bstep L9.out aB.out
  have EA : Hid (Env wA [(db, #[.int .i64 x.a, .int .i64 x.b, .int .i64 x.c, .int .i64 x.d, .string x.e, .string x.f, .string x.g]), (cb, #[.int .i64 cl, .int .i64 inc, .int .i64 req, .int .i64 op, .string ky, .string v, .string old])] [(w4.heap.size, .slice ra X.length rc, X), (w3.heap.size, .slice qa X.length qc, X), (w2.heap.size, .slice oa O.length oc, O), (w1.heap.size, .slice pa X.length pc, X)]) := (E9.out.still aB.out).blk aH.out rfl
  have GA : Hid (Own wA w7.heap.size (.slice (some ⟨g, 0, none⟩) (bs ++ marks 64).length capl) (bs ++ marks 64)) := owns_below G9.out aB.out
  have zA := aB.out.size
  have zdA := lt_heap aH.out
  go_wp2_with (fail)
  clear ahA af0 aq0 ah0 af1 aq1 ah1 af2 aq2 ah2 af3 aq3 ah3 af4 aq4 ah4 af5 aq5 ah5 af6 aq6 ah6 aH aB E9 G9
  refine (HQx.out _ _ _ (HR.out.below LA.out) HL.out.1).mono ?_
  rintro e wB ⟨rfl, hb⟩
  have LB : Hid (Below w.heap.size w wB) := Mb.bstep LA.out hb
  have EB : Hid (Env wB [(db, #[.int .i64 x.a, .int .i64 x.b, .int .i64 x.c, .int .i64 x.d, .string x.e, .string x.f, .string x.g]), (cb, #[.int .i64 cl, .int .i64 inc, .int .i64 req, .int .i64 op, .string ky, .string v, .string old])] [(w4.heap.size, .slice ra X.length rc, X), (w3.heap.size, .slice qa X.length qc, X), (w2.heap.size, .slice oa O.length oc, O), (w1.heap.size, .slice pa X.length pc, X)]) := EA.out.still hb
  have GB : Hid (Own wB w7.heap.size (.slice (some ⟨g, 0, none⟩) (bs ++ marks 64).length capl) (bs ++ marks 64)) := owns_below GA.out hb
  have zB := hb.size
  clear hb EA GA
  obtain ⟨aA, aS0, aS1, aS2, aS3, aS4, aS5, wC, ahA, af0, aq0, ah0, af1, aq1, ah1, af2, aq2, ah2, af3, aq3, ah3, af4, aq4, ah4, af5, aq5, ah5, af6, aq6, ah6, aH, aB⟩ := newcmd wB (.int .i64 x.a) (.int .i64 x.b) (.int .i64 x.c) (.int .i64 x.d) (.string x.e) (.string x.f) (.string x.g)
  obtain ⟨vb, hvb⟩ : ∃ d, wB.heap.size = d := ⟨_, rfl⟩
  rw [hvb] at af0 aq0 ah0 af1 aq1 ah1 af2 aq2 ah2 af3 aq3 ah3 af4 aq4 ah4 af5 aq5 ah5 af6 aq6 ah6 aH
  have LC : Hid (Below w.heap.size w wC) := Mb.bstep LB.out aB.out
  have EC : Hid (Env wC [(vb, #[.int .i64 x.a, .int .i64 x.b, .int .i64 x.c, .int .i64 x.d, .string x.e, .string x.f, .string x.g]), (db, #[.int .i64 x.a, .int .i64 x.b, .int .i64 x.c, .int .i64 x.d, .string x.e, .string x.f, .string x.g]), (cb, #[.int .i64 cl, .int .i64 inc, .int .i64 req, .int .i64 op, .string ky, .string v, .string old])] [(w4.heap.size, .slice ra X.length rc, X), (w3.heap.size, .slice qa X.length qc, X), (w2.heap.size, .slice oa O.length oc, O), (w1.heap.size, .slice pa X.length pc, X)]) := (EB.out.still aB.out).blk aH.out rfl
  have GC : Hid (Own wC w7.heap.size (.slice (some ⟨g, 0, none⟩) (bs ++ marks 64).length capl) (bs ++ marks 64)) := owns_below GB.out aB.out
  have zC := aB.out.size
  have zvC := lt_heap aH.out
  obtain ⟨wD, hwD⟩ : ∃ X, wC.alloc (.cells #[.slice none 0 0, .slice none 0 0, .int .i64 0] 44) = X := ⟨_, rfl⟩
  obtain ⟨kb, hkb⟩ : ∃ k, wC.heap.size = k := ⟨_, rfl⟩
  have hb0 : Below wC.heap.size wC wD := by rw [← hwD]; exact balloc (Below.refl _ _)
  have KD : Hid (Bk.BkAt wD B kb 0 []) := by show Bk.BkAt wD B kb 0 []; rw [← hwD, ← hkb]; exact Bk.book_new wC B (by omega)
  have LD : Hid (Below w.heap.size w wD) := Mb.bstep LC.out hb0
  have ED : Hid (Env wD [(vb, #[.int .i64 x.a, .int .i64 x.b, .int .i64 x.c, .int .i64 x.d, .string x.e, .string x.f, .string x.g]), (db, #[.int .i64 x.a, .int .i64 x.b, .int .i64 x.c, .int .i64 x.d, .string x.e, .string x.f, .string x.g]), (cb, #[.int .i64 cl, .int .i64 inc, .int .i64 req, .int .i64 op, .string ky, .string v, .string old])] [(w4.heap.size, .slice ra X.length rc, X), (w3.heap.size, .slice qa X.length qc, X), (w2.heap.size, .slice oa O.length oc, O), (w1.heap.size, .slice pa X.length pc, X)]) := EC.out.still hb0
  have GD : Hid (Own wD w7.heap.size (.slice (some ⟨g, 0, none⟩) (bs ++ marks 64).length capl) (bs ++ marks 64)) := owns_below GC.out hb0
  have zD := hb0.size
  clear hb0 EB GB EC GC
  go_wp2_with (fail)
  clear ahA af0 aq0 ah0 af1 aq1 ah1 af2 aq2 ah2 af3 aq3 ah3 af4 aq4 ah4 af5 aq5 ah5 af6 aq6 ah6 aH aB hwD hkb
  have hwB : w.heap.size ≤ B := by have := L1.out.size; omega
  have Hmem : Hid (w9.heap.size = db ∧ wB.heap.size = vb ∧ w1.heap.size = B) := ⟨hdb, hvb, hB⟩
  refine (Bk.keep_at B kb 0 [] pa pc w1.heap.size X wD KD.out (ED.out.2 (w1.heap.size, .slice pa X.length pc, X) (by simp)) (by omega) (by omega) (by simp) HXr.out (by omega) (by simp)).mono ?_
  rintro e wE ⟨rfl, p1, hk1, hg1, hB1, hh1, hsp⟩
  have KE : Hid (Bk.BkAt wE B kb 1 [p1]) := hk1
  have G1 : Hid (p1.gr = p1.dn ∧ p1.B = .slice pa X.length pc ∧ ∀ k, Bk.holds p1 k → (Value.slice pa X.length pc).ownBlock = some k ∨ wD.heap.size ≤ k) := ⟨hg1, hB1, hh1⟩
  have EE : Hid (Env wE [(vb, #[.int .i64 x.a, .int .i64 x.b, .int .i64 x.c, .int .i64 x.d, .string x.e, .string x.f, .string x.g]), (db, #[.int .i64 x.a, .int .i64 x.b, .int .i64 x.c, .int .i64 x.d, .string x.e, .string x.f, .string x.g]), (cb, #[.int .i64 cl, .int .i64 inc, .int .i64 req, .int .i64 op, .string ky, .string v, .string old])] [(w4.heap.size, .slice ra X.length rc, X), (w3.heap.size, .slice qa X.length qc, X), (w2.heap.size, .slice oa O.length oc, O)]) := (ED.out.sub (by simp)).sp hsp (by simp) (by simp)
  have GE : Hid (Own wE w7.heap.size (.slice (some ⟨g, 0, none⟩) (bs ++ marks 64).length capl) (bs ++ marks 64)) := hsp.u8 GD.out (by simp)
  have LE : Hid (Below w.heap.size w wE) := LD.out.trans (hsp.bel.mono hwB)
  have zE := hsp.siz
  clear hk1 hg1 hB1 hh1 hsp KD ED GD
  go_wp2_with (fail)
  refine (Bk.write_at B kb 1 [p1] qa qc w3.heap.size X wE KE.out (EE.out.2 (w3.heap.size, .slice qa X.length qc, X) (by simp)) (by omega) (by omega) (by simp) (by omega) ?_).mono ?_
  · intro k hk p hp hh
    obtain rfl := List.mem_singleton.1 hp
    have := Rq.out k hk
    rcases G1.out.2.2 k hh with e | e
    · have := Rp.out k e; omega
    · omega
  rintro e wF ⟨rfl, p2, hk1, hg1, hB1, hh1, hsp⟩
  have KF : Hid (Bk.BkAt wF B kb 2 [p1, p2]) := hk1
  have G2 : Hid (p2.gr = p2.dn ∧ p2.B = .slice qa X.length qc ∧ ∀ k, Bk.holds p2 k → (Value.slice qa X.length qc).ownBlock = some k ∨ wE.heap.size ≤ k) := ⟨hg1, hB1, hh1⟩
  have EF : Hid (Env wF [(vb, #[.int .i64 x.a, .int .i64 x.b, .int .i64 x.c, .int .i64 x.d, .string x.e, .string x.f, .string x.g]), (db, #[.int .i64 x.a, .int .i64 x.b, .int .i64 x.c, .int .i64 x.d, .string x.e, .string x.f, .string x.g]), (cb, #[.int .i64 cl, .int .i64 inc, .int .i64 req, .int .i64 op, .string ky, .string v, .string old])] [(w4.heap.size, .slice ra X.length rc, X), (w2.heap.size, .slice oa O.length oc, O)]) := (EE.out.sub (by simp)).sp hsp (by
    intro b hm e
    have := Rq.out _ e
    simp only [List.mem_cons, List.not_mem_nil, or_false] at hm
    rcases hm with rfl | rfl | rfl
    · show False; simp only at this; omega
    · show False; simp only at this; omega
    · show False; simp only at this; omega) (by
    intro o hm k hk e
    have := Rq.out _ e
    simp only [List.mem_cons, List.not_mem_nil, or_false] at hm
    rcases hm with rfl | rfl
    · have := Rr.out k hk; omega
    · have := Ro.out k hk; omega)
  have GF : Hid (Own wF w7.heap.size (.slice (some ⟨g, 0, none⟩) (bs ++ marks 64).length capl) (bs ++ marks 64)) := hsp.u8 GE.out (fun k hk e => by
    have := Rq.out k e
    simp [Value.ownBlock] at hk
    omega)
  have LF : Hid (Below w.heap.size w wF) := LE.out.trans (hsp.bel.mono hwB)
  have zF := hsp.siz
  clear hk1 hg1 hB1 hh1 hsp KE EE GE
  go_wp2_with (fail)
  refine (Bk.keep_at B kb 2 [p1, p2] oa oc w2.heap.size O wF KF.out (EF.out.2 (w2.heap.size, .slice oa O.length oc, O) (by simp)) (by omega) (by omega) (by simp) HOr.out (by omega) ?_).mono ?_
  · intro k hk p hp hh
    have := Ro.out k hk
    rcases List.mem_cons.1 hp with rfl | hp
    · rcases G1.out.2.2 k hh with e | e
      · have := Rp.out k e; omega
      · omega
    · obtain rfl := List.mem_singleton.1 hp
      rcases G2.out.2.2 k hh with e | e
      · have := Rq.out k e; omega
      · omega
  rintro e wG ⟨rfl, p3, hk1, hg1, hB1, hh1, hsp⟩
  have KG : Hid (Bk.BkAt wG B kb 3 [p1, p2, p3]) := hk1
  have G3 : Hid (p3.gr = p3.dn ∧ p3.B = .slice oa O.length oc ∧ ∀ k, Bk.holds p3 k → (Value.slice oa O.length oc).ownBlock = some k ∨ wF.heap.size ≤ k) := ⟨hg1, hB1, hh1⟩
  have EG : Hid (Env wG [(vb, #[.int .i64 x.a, .int .i64 x.b, .int .i64 x.c, .int .i64 x.d, .string x.e, .string x.f, .string x.g]), (db, #[.int .i64 x.a, .int .i64 x.b, .int .i64 x.c, .int .i64 x.d, .string x.e, .string x.f, .string x.g]), (cb, #[.int .i64 cl, .int .i64 inc, .int .i64 req, .int .i64 op, .string ky, .string v, .string old])] [(w4.heap.size, .slice ra X.length rc, X)]) := (EF.out.sub (by simp)).sp hsp (by simp) (by simp)
  have GG : Hid (Own wG w7.heap.size (.slice (some ⟨g, 0, none⟩) (bs ++ marks 64).length capl) (bs ++ marks 64)) := hsp.u8 GF.out (by simp)
  have LG : Hid (Below w.heap.size w wG) := LF.out.trans (hsp.bel.mono hwB)
  have zG := hsp.siz
  clear hk1 hg1 hB1 hh1 hsp KF EF GF
  have s0 := blk_cell (EG.out.1 (db, #[.int .i64 x.a, .int .i64 x.b, .int .i64 x.c, .int .i64 x.d, .string x.e, .string x.f, .string x.g]) (by simp)).1 0
  have s1 := blk_cell (EG.out.1 (db, #[.int .i64 x.a, .int .i64 x.b, .int .i64 x.c, .int .i64 x.d, .string x.e, .string x.f, .string x.g]) (by simp)).1 1
  have s2 := blk_cell (EG.out.1 (db, #[.int .i64 x.a, .int .i64 x.b, .int .i64 x.c, .int .i64 x.d, .string x.e, .string x.f, .string x.g]) (by simp)).1 2
  have s3 := blk_cell (EG.out.1 (db, #[.int .i64 x.a, .int .i64 x.b, .int .i64 x.c, .int .i64 x.d, .string x.e, .string x.f, .string x.g]) (by simp)).1 3
  have s4 := blk_cell (EG.out.1 (db, #[.int .i64 x.a, .int .i64 x.b, .int .i64 x.c, .int .i64 x.d, .string x.e, .string x.f, .string x.g]) (by simp)).1 4
  have s5 := blk_cell (EG.out.1 (db, #[.int .i64 x.a, .int .i64 x.b, .int .i64 x.c, .int .i64 x.d, .string x.e, .string x.f, .string x.g]) (by simp)).1 5
  have s6 := blk_cell (EG.out.1 (db, #[.int .i64 x.a, .int .i64 x.b, .int .i64 x.c, .int .i64 x.d, .string x.e, .string x.f, .string x.g]) (by simp)).1 6
  simp only [List.getElem?_toArray, List.getElem?_cons_succ, List.getElem?_cons_zero] at s0 s1 s2 s3 s4 s5 s6
  have y0 := blk_cell (EG.out.1 (vb, #[.int .i64 x.a, .int .i64 x.b, .int .i64 x.c, .int .i64 x.d, .string x.e, .string x.f, .string x.g]) (by simp)).1 0
  have y1 := blk_cell (EG.out.1 (vb, #[.int .i64 x.a, .int .i64 x.b, .int .i64 x.c, .int .i64 x.d, .string x.e, .string x.f, .string x.g]) (by simp)).1 1
  have y2 := blk_cell (EG.out.1 (vb, #[.int .i64 x.a, .int .i64 x.b, .int .i64 x.c, .int .i64 x.d, .string x.e, .string x.f, .string x.g]) (by simp)).1 2
  have y3 := blk_cell (EG.out.1 (vb, #[.int .i64 x.a, .int .i64 x.b, .int .i64 x.c, .int .i64 x.d, .string x.e, .string x.f, .string x.g]) (by simp)).1 3
  have y4 := blk_cell (EG.out.1 (vb, #[.int .i64 x.a, .int .i64 x.b, .int .i64 x.c, .int .i64 x.d, .string x.e, .string x.f, .string x.g]) (by simp)).1 4
  have y5 := blk_cell (EG.out.1 (vb, #[.int .i64 x.a, .int .i64 x.b, .int .i64 x.c, .int .i64 x.d, .string x.e, .string x.f, .string x.g]) (by simp)).1 5
  have y6 := blk_cell (EG.out.1 (vb, #[.int .i64 x.a, .int .i64 x.b, .int .i64 x.c, .int .i64 x.d, .string x.e, .string x.f, .string x.g]) (by simp)).1 6
  simp only [List.getElem?_toArray, List.getElem?_cons_succ, List.getElem?_cons_zero] at y0 y1 y2 y3 y4 y5 y6
  go_wp2_with (first | (go_at_call 7; refine (num_any _).mono ?_; rintro e wx ⟨rfl, rfl⟩) | fail)
  clear s0 s1 s2 s3 s4 s5 s6 y0 y1 y2 y3 y4 y5 y6
  refine (unspoilt_own g capl w7.heap.size ao c bs _ (HR.out.below LG.out) (by omega) GG.out).mono ?_
  rintro e wH ⟨rfl, hb⟩
  have KH : Hid (Bk.BkAt wH B kb 3 [p1, p2, p3]) := KG.out.below hb
  have EH : Hid (Env wH [(vb, #[.int .i64 x.a, .int .i64 x.b, .int .i64 x.c, .int .i64 x.d, .string x.e, .string x.f, .string x.g]), (db, #[.int .i64 x.a, .int .i64 x.b, .int .i64 x.c, .int .i64 x.d, .string x.e, .string x.f, .string x.g]), (cb, #[.int .i64 cl, .int .i64 inc, .int .i64 req, .int .i64 op, .string ky, .string v, .string old])] [(w4.heap.size, .slice ra X.length rc, X)]) := EG.out.still hb
  have GH : Hid (Own wH w7.heap.size (.slice (some ⟨g, 0, none⟩) (bs ++ marks 64).length capl) (bs ++ marks 64)) := owns_below GG.out hb
  have LH : Hid (Below w.heap.size w wH) := Mb.bstep LG.out hb
  have zH := hb.size
  clear hb KG EG GG
  go_wp2_with (fail)
  have Hps : Hid (∀ p ∈ [p1, p2, p3], ∀ k, (Bk.holds p k ∨ p.B.ownBlock = some k) → (w1.heap.size ≤ k ∧ k < w4.heap.size) ∨ wD.heap.size ≤ k) := fun p hp k hk => by
    simp only [List.mem_cons, List.not_mem_nil, or_false] at hp
    rcases hp with rfl | rfl | rfl
    · rcases hk with h | h
      · rcases G1.out.2.2 k h with e | e
        · have := Rp.out k e; omega
        · omega
      · rw [G1.out.2.1] at h; have := Rp.out k h; omega
    · rcases hk with h | h
      · rcases G2.out.2.2 k h with e | e
        · have := Rq.out k e; omega
        · omega
      · rw [G2.out.2.1] at h; have := Rq.out k h; omega
    · rcases hk with h | h
      · rcases G3.out.2.2 k h with e | e
        · have := Ro.out k e; omega
        · omega
      · rw [G3.out.2.1] at h; have := Ro.out k h; omega
  refine (Bk.settle_at B kb 3 [p1, p2, p3] wH KH.out (by simp) ?_).mono ?_
  · intro p hp
    simp only [List.mem_cons, List.not_mem_nil, or_false] at hp
    rcases hp with rfl | rfl | rfl
    · exact G1.out.1
    · exact G2.out.1
    · exact G3.out.1
  rintro e wI ⟨rfl, qs, hk1, hl1, hg1, hh1, hsp⟩
  have KI : Hid (Bk.BkAt wI B kb 3 qs) := hk1
  have GQ : Hid (∀ q ∈ qs, q.gr = q.dn) := hg1
  have HQh : Hid (∀ q ∈ qs, ∀ j, Bk.holds q j → (w1.heap.size ≤ j ∧ j < w4.heap.size) ∨ wD.heap.size ≤ j) := fun q hq j hj => by
    rcases hh1 q hq j hj with ⟨p, hp, h⟩ | h
    · exact Hps.out p hp j (.inl h)
    · omega
  have EI : Hid (Env wI [(vb, #[.int .i64 x.a, .int .i64 x.b, .int .i64 x.c, .int .i64 x.d, .string x.e, .string x.f, .string x.g]), (db, #[.int .i64 x.a, .int .i64 x.b, .int .i64 x.c, .int .i64 x.d, .string x.e, .string x.f, .string x.g]), (cb, #[.int .i64 cl, .int .i64 inc, .int .i64 req, .int .i64 op, .string ky, .string v, .string old])] [(w4.heap.size, .slice ra X.length rc, X)]) := EH.out.sp hsp (by
    intro b hm e
    obtain ⟨p, hp, h⟩ := e
    have := Hps.out p hp _ (.inr h)
    simp only [List.mem_cons, List.not_mem_nil, or_false] at hm
    rcases hm with rfl | rfl | rfl
    · simp only at this; omega
    · simp only at this; omega
    · simp only at this; omega) (by
    intro o hm k hk e
    obtain ⟨p, hp, h⟩ := e
    have := Hps.out p hp _ (.inr h)
    simp only [List.mem_cons, List.not_mem_nil, or_false] at hm
    subst hm
    have := Rr.out k hk
    omega)
  have GI : Hid (Own wI w7.heap.size (.slice (some ⟨g, 0, none⟩) (bs ++ marks 64).length capl) (bs ++ marks 64)) := hsp.u8 GH.out (fun k hk e => by
    obtain ⟨p, hp, h⟩ := e
    have := Hps.out p hp _ (.inr h)
    simp [Value.ownBlock] at hk
    omega)
  have LI : Hid (Below w.heap.size w wI) := LH.out.trans (hsp.bel.mono hwB)
  have zI := hsp.siz
  clear hk1 hl1 hg1 hh1 hsp KH EH GH Hps
  have s0 := blk_cell (EI.out.1 (cb, #[.int .i64 cl, .int .i64 inc, .int .i64 req, .int .i64 op, .string ky, .string v, .string old]) (by simp)).1 0
  have s1 := blk_cell (EI.out.1 (cb, #[.int .i64 cl, .int .i64 inc, .int .i64 req, .int .i64 op, .string ky, .string v, .string old]) (by simp)).1 1
  have s2 := blk_cell (EI.out.1 (cb, #[.int .i64 cl, .int .i64 inc, .int .i64 req, .int .i64 op, .string ky, .string v, .string old]) (by simp)).1 2
  have s3 := blk_cell (EI.out.1 (cb, #[.int .i64 cl, .int .i64 inc, .int .i64 req, .int .i64 op, .string ky, .string v, .string old]) (by simp)).1 3
  have s4 := blk_cell (EI.out.1 (cb, #[.int .i64 cl, .int .i64 inc, .int .i64 req, .int .i64 op, .string ky, .string v, .string old]) (by simp)).1 4
  have s5 := blk_cell (EI.out.1 (cb, #[.int .i64 cl, .int .i64 inc, .int .i64 req, .int .i64 op, .string ky, .string v, .string old]) (by simp)).1 5
  have s6 := blk_cell (EI.out.1 (cb, #[.int .i64 cl, .int .i64 inc, .int .i64 req, .int .i64 op, .string ky, .string v, .string old]) (by simp)).1 6
  simp only [List.getElem?_toArray, List.getElem?_cons_succ, List.getElem?_cons_zero] at s0 s1 s2 s3 s4 s5 s6
  go_wp2_with (fail)
  clear s0 s1 s2 s3 s4 s5 s6
  refine (HEnc.out _ LI.out).mono ?_
  rintro e wJ ⟨za, zc, rfl, ho, hb⟩
  have LJ : Hid (Below w.heap.size w wJ) := Mb.bstep LI.out hb
  have EJ : Hid (Env wJ [(vb, #[.int .i64 x.a, .int .i64 x.b, .int .i64 x.c, .int .i64 x.d, .string x.e, .string x.f, .string x.g]), (db, #[.int .i64 x.a, .int .i64 x.b, .int .i64 x.c, .int .i64 x.d, .string x.e, .string x.f, .string x.g]), (cb, #[.int .i64 cl, .int .i64 inc, .int .i64 req, .int .i64 op, .string ky, .string v, .string old])] [(wI.heap.size, .slice za X.length zc, X), (w4.heap.size, .slice ra X.length rc, X)]) := (EI.out.still hb).own ho
  have Rz : Hid (∀ j, (Value.slice za X.length zc).ownBlock = some j → wI.heap.size ≤ j ∧ j < wJ.heap.size) := fun j hj => ho.lt j hj
  have GJ : Hid (Own wJ w7.heap.size (.slice (some ⟨g, 0, none⟩) (bs ++ marks 64).length capl) (bs ++ marks 64)) := owns_below GI.out hb
  have KJ : Hid (Bk.BkAt wJ B kb 3 qs) := KI.out.below hb
  have zJ := hb.size
  clear ho hb EI GI KI
  go_wp2_with (fail)
  go_loopw [21] (fun s wr => ∃ k : Nat, k ≤ bs.length ∧ s = .int .i64 (k : Int) ∧ Own wr w7.heap.size (.slice (some ⟨g, 0, none⟩) (bs ++ marks 64).length capl) (tw k bs ++ marks 64) ∧ wJ.grownBy wr (some g)) (fun s _ => bs.length - (intOf s).toNat)
  case atStart => exact ⟨0, Nat.zero_le _, rfl, by rw [tw_zero]; exact GJ.out, ⟨rfl, rfl, rfl, Nat.le_refl _, fun _ _ _ => rfl⟩⟩
  case round =>
    obtain ⟨k, hk, rfl, ho, hgr⟩ := hrel
    have hlm : (bs ++ marks 64).length = bs.length + 64 := by simp [marks_len]
    by_cases hlt : k < bs.length
    · obtain ⟨hfz, hc, hO2, hg2⟩ := own_tw ho hlt
      have HO2 : Hid (Own (wr.setCell ⟨g, k, none⟩ (.int .u8 (x1 (bs.getD k 0)))) w7.heap.size (.slice (some ⟨g, 0, none⟩) (bs ++ marks 64).length capl) (tw (k + 1) bs ++ marks 64)) := hO2
      have HG2 : Hid (wJ.grownBy (wr.setCell ⟨g, k, none⟩ (.int .u8 (x1 (bs.getD k 0)))) (some g)) := grownBy_trans hgr hg2
      have j1 : (0 : Int) ≤ (k : Int) := Int.natCast_nonneg _
      have j2 : (k : Int) < (bs.length : Int) := by omega
      have j3 : (k : Int) < (bs.length : Int) + 64 := by omega
      have j4 : (k : Int) < ((bs.length + 64 : Nat) : Int) := by omega
      obtain ⟨y, hy⟩ : ∃ y, bs.getD k 0 = y := ⟨_, rfl⟩
      rw [hy] at hc HO2 HG2
      obtain ⟨Z, hZ⟩ : ∃ Z, wr.setCell ⟨g, k, none⟩ (.int .u8 (x1 y)) = Z := ⟨_, rfl⟩
      rw [hZ] at HO2 HG2
      unfold x1 at hZ
      clear hO2 hg2 ho hgr hy
      go_wp2_with (fail)
      first
        | exact ⟨⟨k + 1, by omega, by go_num, HO2.out, HG2.out⟩, by simp [intOf]; omega⟩
        | (go_roundw
           case rel => exact ⟨k + 1, by omega, by go_num, HO2.out, HG2.out⟩
           case measure => simp [intOf]; omega)
    · have hkl : Hid (k = bs.length) := by show _ = _; omega
      have j2 : ¬ (k : Int) < (bs.length : Int) := by omega
      have htl2 : Hid ((ts ++ marks 64).length = (bs ++ marks 64).length) := by show _ = _; simp [htl]
      have GK : Hid (Own wr w7.heap.size (.slice (some ⟨g, 0, none⟩) (ts ++ marks 64).length capl) (ts ++ marks 64)) := by
        have := ho
        rw [hkl.out, HTw.out] at this
        rw [htl2.out]
        exact this
      have hng : ∀ b ∈ ([(vb, #[.int .i64 x.a, .int .i64 x.b, .int .i64 x.c, .int .i64 x.d, .string x.e, .string x.f, .string x.g]), (db, #[.int .i64 x.a, .int .i64 x.b, .int .i64 x.c, .int .i64 x.d, .string x.e, .string x.f, .string x.g]), (cb, #[.int .i64 cl, .int .i64 inc, .int .i64 req, .int .i64 op, .string ky, .string v, .string old])] : List (Nat × Array Value)), b.1 ≠ g := by
        intro b hm
        simp only [List.mem_cons, List.not_mem_nil, or_false] at hm
        have hm1 := Hmem.out
        rcases hm with rfl | rfl | rfl
        · simp only; omega
        · simp only; omega
        · simp only; omega
      have EK : Hid (Env wr [(vb, #[.int .i64 x.a, .int .i64 x.b, .int .i64 x.c, .int .i64 x.d, .string x.e, .string x.f, .string x.g]), (db, #[.int .i64 x.a, .int .i64 x.b, .int .i64 x.c, .int .i64 x.d, .string x.e, .string x.f, .string x.g]), (cb, #[.int .i64 cl, .int .i64 inc, .int .i64 req, .int .i64 op, .string ky, .string v, .string old])] [(wI.heap.size, .slice za X.length zc, X), (w4.heap.size, .slice ra X.length rc, X)]) := EJ.out.grown hgr hng (by
        intro o hm k hk
        simp only [List.mem_cons, List.not_mem_nil, or_false] at hm
        rcases hm with rfl | rfl
        · have := Rz.out k hk; omega
        · have := Rr.out k hk; omega)
      have KK : Hid (Bk.BkAt wr B kb 3 qs) := bk_grown KJ.out hgr GJ.out (fun q hq j hj => by have := HQh.out q hq j hj; omega)
      have LK : Hid (Below w.heap.size w wr) := LJ.out.trans ⟨hgr.os, hgr.tape, hgr.output, hgr.size, fun j hj => hgr.block j (by have := LJ.out.size; omega) (fun e => by have := Option.some.inj e; have := L7.out.size; omega)⟩
      have zK := hgr.size
      clear ho hgr EJ KJ GJ hng
      have i2 : (bs.length : Int) ≤ (capl : Int) := by omega
      go_wp2_with (fail)
      refine (copied_any (some ⟨g, 0, none⟩) bs.length capl ts _ (by have := GK.out.rdPrefix HTr.out; rw [htl] at this; exact this) (by omega)).mono ?_
      rintro e wL ⟨tv, rfl, ho, hb⟩
      obtain ⟨ta, tc, rfl⟩ := shape ho HTr.out
      have htc := own_le ho
      rw [htl] at ho htc ⊢
      have LL : Hid (Below w.heap.size w wL) := Mb.bstep LK.out hb
      have EL : Hid (Env wL [(vb, #[.int .i64 x.a, .int .i64 x.b, .int .i64 x.c, .int .i64 x.d, .string x.e, .string x.f, .string x.g]), (db, #[.int .i64 x.a, .int .i64 x.b, .int .i64 x.c, .int .i64 x.d, .string x.e, .string x.f, .string x.g]), (cb, #[.int .i64 cl, .int .i64 inc, .int .i64 req, .int .i64 op, .string ky, .string v, .string old])] [(wr.heap.size, .slice ta bs.length tc, ts), (wI.heap.size, .slice za X.length zc, X), (w4.heap.size, .slice ra X.length rc, X)]) := (EK.out.still hb).own ho
      have Rt : Hid (∀ j, (Value.slice ta bs.length tc).ownBlock = some j → wr.heap.size ≤ j ∧ j < wL.heap.size) := fun j hj => ho.lt j hj
      have GL : Hid (Own wL w7.heap.size (.slice (some ⟨g, 0, none⟩) (ts ++ marks 64).length capl) (ts ++ marks 64)) := owns_below GK.out hb
      have KL : Hid (Bk.BkAt wL B kb 3 qs) := KK.out.below hb
      have zL := hb.size
      clear ho hb EK GK KK
      go_wp2_with (fail)
      refine (HDt.out _ _ _ LL.out (by have := GL.out.rdPrefix HTr.out; rw [htl] at this; exact this) (by omega)).mono ?_
      rintro e wM ⟨rfl, hb⟩
      have LM : Hid (Below w.heap.size w wM) := Mb.bstep LL.out hb
      have EM : Hid (Env wM [(vb, #[.int .i64 x.a, .int .i64 x.b, .int .i64 x.c, .int .i64 x.d, .string x.e, .string x.f, .string x.g]), (db, #[.int .i64 x.a, .int .i64 x.b, .int .i64 x.c, .int .i64 x.d, .string x.e, .string x.f, .string x.g]), (cb, #[.int .i64 cl, .int .i64 inc, .int .i64 req, .int .i64 op, .string ky, .string v, .string old])] [(wr.heap.size, .slice ta bs.length tc, ts), (wI.heap.size, .slice za X.length zc, X), (w4.heap.size, .slice ra X.length rc, X)]) := EL.out.still hb
      have GM : Hid (Own wM w7.heap.size (.slice (some ⟨g, 0, none⟩) (ts ++ marks 64).length capl) (ts ++ marks 64)) := owns_below GL.out hb
      have KM : Hid (Bk.BkAt wM B kb 3 qs) := KL.out.below hb
      have zM := hb.size
      clear hb EL GL KL
      have hMd := (EM.out.1 (db, #[.int .i64 x.a, .int .i64 x.b, .int .i64 x.c, .int .i64 x.d, .string x.e, .string x.f, .string x.g]) (by simp)).1
      obtain ⟨S0, S1, S2, S3, S4, S5, wN, af0, aq0, ah0, af1, aq1, ah1, af2, aq2, ah2, af3, aq3, ah3, af4, aq4, ah4, af5, aq5, ah5, af6, aq6, ah6, aH, aK⟩ := setcmd wM (.int .i64 t.a) (.int .i64 t.b) (.int .i64 t.c) (.int .i64 t.d) (.string t.e) (.string t.f) (.string t.g) hMd
      have hm1 := Hmem.out
      have hw7 := L7.out.size
      have LN : Hid (Below w.heap.size w wN) := LM.out.trans (aK.out.below LM.out.size (fun j hj e => by omega))
      have EN : Hid (Env wN [(db, #[.int .i64 t.a, .int .i64 t.b, .int .i64 t.c, .int .i64 t.d, .string t.e, .string t.f, .string t.g]), (vb, #[.int .i64 x.a, .int .i64 x.b, .int .i64 x.c, .int .i64 x.d, .string x.e, .string x.f, .string x.g])] [(wr.heap.size, .slice ta bs.length tc, ts), (wI.heap.size, .slice za X.length zc, X), (w4.heap.size, .slice ra X.length rc, X)]) := by
        have e1 : Env wM [(vb, #[.int .i64 x.a, .int .i64 x.b, .int .i64 x.c, .int .i64 x.d, .string x.e, .string x.f, .string x.g])] [(wr.heap.size, .slice ta bs.length tc, ts), (wI.heap.size, .slice za X.length zc, X), (w4.heap.size, .slice ra X.length rc, X)] := ⟨fun b hm => EM.out.1 b (by simp at hm ⊢; exact .inl hm), EM.out.2⟩
        refine (e1.kept aK.out (fun b hm e => ?_) (fun o hm k hk e => ?_)).blk aH.out rfl
        · simp only [List.mem_singleton] at hm
          subst hm
          simp only at e
          omega
        · exact own_notC (EM.out.2 o hm) hMd k hk e
      have GN : Hid (Own wN w7.heap.size (.slice (some ⟨g, 0, none⟩) (ts ++ marks 64).length capl) (ts ++ marks 64)) := aK.out.owns GM.out (fun k hk e => own_notC GM.out hMd k hk e)
      have KN : Hid (Bk.BkAt wN B kb 3 qs) := bk_kept KM.out (kept_bk aK.out) hMd rfl (fun q hq j hj => by have := HQh.out q hq j hj; omega)
      have zN := aK.out.size
      go_wp2_with (fail)
      clear af0 aq0 ah0 af1 aq1 ah1 af2 aq2 ah2 af3 aq3 ah3 af4 aq4 ah4 af5 aq5 ah5 af6 aq6 ah6 aH aK EM GM KM hMd
      refine (HQt.out _ _ _ (ownRd (EN.out.2 (wr.heap.size, .slice ta bs.length tc, ts) (by simp)) HTr.out) htc).mono ?_
      rintro e wO ⟨rfl, hb⟩
      have LO : Hid (Below w.heap.size w wO) := Mb.bstep LN.out hb
      have EO : Hid (Env wO [(db, #[.int .i64 t.a, .int .i64 t.b, .int .i64 t.c, .int .i64 t.d, .string t.e, .string t.f, .string t.g]), (vb, #[.int .i64 x.a, .int .i64 x.b, .int .i64 x.c, .int .i64 x.d, .string x.e, .string x.f, .string x.g])] [(wr.heap.size, .slice ta bs.length tc, ts), (wI.heap.size, .slice za X.length zc, X), (w4.heap.size, .slice ra X.length rc, X)]) := EN.out.still hb
      have GO : Hid (Own wO w7.heap.size (.slice (some ⟨g, 0, none⟩) (ts ++ marks 64).length capl) (ts ++ marks 64)) := owns_below GN.out hb
      have KO : Hid (Bk.BkAt wO B kb 3 qs) := KN.out.below hb
      have zO := hb.size
      clear hb EN GN KN
      have hMv := (EO.out.1 (vb, #[.int .i64 x.a, .int .i64 x.b, .int .i64 x.c, .int .i64 x.d, .string x.e, .string x.f, .string x.g]) (by simp)).1
      obtain ⟨S0, S1, S2, S3, S4, S5, wP, af0, aq0, ah0, af1, aq1, ah1, af2, aq2, ah2, af3, aq3, ah3, af4, aq4, ah4, af5, aq5, ah5, af6, aq6, ah6, aH, aK⟩ := setcmd wO (.int .i64 t.a) (.int .i64 t.b) (.int .i64 t.c) (.int .i64 t.d) (.string t.e) (.string t.f) (.string t.g) hMv
      have LP : Hid (Below w.heap.size w wP) := LO.out.trans (aK.out.below LO.out.size (fun j hj e => by omega))
      have EP : Hid (Env wP [(vb, #[.int .i64 t.a, .int .i64 t.b, .int .i64 t.c, .int .i64 t.d, .string t.e, .string t.f, .string t.g]), (db, #[.int .i64 t.a, .int .i64 t.b, .int .i64 t.c, .int .i64 t.d, .string t.e, .string t.f, .string t.g])] [(wr.heap.size, .slice ta bs.length tc, ts), (wI.heap.size, .slice za X.length zc, X), (w4.heap.size, .slice ra X.length rc, X)]) := by
        have e1 : Env wO [(db, #[.int .i64 t.a, .int .i64 t.b, .int .i64 t.c, .int .i64 t.d, .string t.e, .string t.f, .string t.g])] [(wr.heap.size, .slice ta bs.length tc, ts), (wI.heap.size, .slice za X.length zc, X), (w4.heap.size, .slice ra X.length rc, X)] := ⟨fun b hm => EO.out.1 b (by simp at hm ⊢; exact .inl hm), EO.out.2⟩
        refine (e1.kept aK.out (fun b hm e => ?_) (fun o hm k hk e => ?_)).blk aH.out rfl
        · simp only [List.mem_singleton] at hm
          subst hm
          simp only at e
          omega
        · exact own_notC (EO.out.2 o hm) hMv k hk e
      have GP : Hid (Own wP w7.heap.size (.slice (some ⟨g, 0, none⟩) (ts ++ marks 64).length capl) (ts ++ marks 64)) := aK.out.owns GO.out (fun k hk e => own_notC GO.out hMv k hk e)
      have KP : Hid (Bk.BkAt wP B kb 3 qs) := bk_kept KO.out (kept_bk aK.out) hMv rfl (fun q hq j hj => by have := HQh.out q hq j hj; omega)
      have zP := aK.out.size
      have s0 := blk_cell (EP.out.1 (db, #[.int .i64 t.a, .int .i64 t.b, .int .i64 t.c, .int .i64 t.d, .string t.e, .string t.f, .string t.g]) (by simp)).1 0
      have s1 := blk_cell (EP.out.1 (db, #[.int .i64 t.a, .int .i64 t.b, .int .i64 t.c, .int .i64 t.d, .string t.e, .string t.f, .string t.g]) (by simp)).1 1
      have s2 := blk_cell (EP.out.1 (db, #[.int .i64 t.a, .int .i64 t.b, .int .i64 t.c, .int .i64 t.d, .string t.e, .string t.f, .string t.g]) (by simp)).1 2
      have s3 := blk_cell (EP.out.1 (db, #[.int .i64 t.a, .int .i64 t.b, .int .i64 t.c, .int .i64 t.d, .string t.e, .string t.f, .string t.g]) (by simp)).1 3
      have s4 := blk_cell (EP.out.1 (db, #[.int .i64 t.a, .int .i64 t.b, .int .i64 t.c, .int .i64 t.d, .string t.e, .string t.f, .string t.g]) (by simp)).1 4
      have s5 := blk_cell (EP.out.1 (db, #[.int .i64 t.a, .int .i64 t.b, .int .i64 t.c, .int .i64 t.d, .string t.e, .string t.f, .string t.g]) (by simp)).1 5
      have s6 := blk_cell (EP.out.1 (db, #[.int .i64 t.a, .int .i64 t.b, .int .i64 t.c, .int .i64 t.d, .string t.e, .string t.f, .string t.g]) (by simp)).1 6
      simp only [List.getElem?_toArray, List.getElem?_cons_succ, List.getElem?_cons_zero] at s0 s1 s2 s3 s4 s5 s6
      have y0 := blk_cell (EP.out.1 (vb, #[.int .i64 t.a, .int .i64 t.b, .int .i64 t.c, .int .i64 t.d, .string t.e, .string t.f, .string t.g]) (by simp)).1 0
      have y1 := blk_cell (EP.out.1 (vb, #[.int .i64 t.a, .int .i64 t.b, .int .i64 t.c, .int .i64 t.d, .string t.e, .string t.f, .string t.g]) (by simp)).1 1
      have y2 := blk_cell (EP.out.1 (vb, #[.int .i64 t.a, .int .i64 t.b, .int .i64 t.c, .int .i64 t.d, .string t.e, .string t.f, .string t.g]) (by simp)).1 2
      have y3 := blk_cell (EP.out.1 (vb, #[.int .i64 t.a, .int .i64 t.b, .int .i64 t.c, .int .i64 t.d, .string t.e, .string t.f, .string t.g]) (by simp)).1 3
      have y4 := blk_cell (EP.out.1 (vb, #[.int .i64 t.a, .int .i64 t.b, .int .i64 t.c, .int .i64 t.d, .string t.e, .string t.f, .string t.g]) (by simp)).1 4
      have y5 := blk_cell (EP.out.1 (vb, #[.int .i64 t.a, .int .i64 t.b, .int .i64 t.c, .int .i64 t.d, .string t.e, .string t.f, .string t.g]) (by simp)).1 5
      have y6 := blk_cell (EP.out.1 (vb, #[.int .i64 t.a, .int .i64 t.b, .int .i64 t.c, .int .i64 t.d, .string t.e, .string t.f, .string t.g]) (by simp)).1 6
      simp only [List.getElem?_toArray, List.getElem?_cons_succ, List.getElem?_cons_zero] at y0 y1 y2 y3 y4 y5 y6
      go_wp2_with (first | (go_at_call 7; refine (num_any _).mono ?_; rintro e wx ⟨rfl, rfl⟩) | fail)
      clear af0 aq0 ah0 af1 aq1 ah1 af2 aq2 ah2 af3 aq3 ah3 af4 aq4 ah4 af5 aq5 ah5 af6 aq6 ah6 aH aK EO GO KO hMv s0 s1 s2 s3 s4 s5 s6 y0 y1 y2 y3 y4 y5 y6
      refine (by have := unspoilt_own g capl w7.heap.size ta tc ts wP (by have := ownRd (EP.out.2 (wr.heap.size, .slice ta bs.length tc, ts) (by simp)) HTr.out; rw [htl]; exact this) (by omega) GP.out; rw [htl] at this; exact this : Calls Tryz.prog 17 #[.slice (some ⟨g, 0, none⟩) (bs.length + 64) capl, .slice ta bs.length tc] wP fun e w' => e = .returned (.bool true) ∧ Below wP.heap.size wP w').mono ?_
      rintro e wQ ⟨rfl, hb⟩
      have LQ : Hid (Below w.heap.size w wQ) := Mb.bstep LP.out hb
      have EQ : Hid (Env wQ [(vb, #[.int .i64 t.a, .int .i64 t.b, .int .i64 t.c, .int .i64 t.d, .string t.e, .string t.f, .string t.g]), (db, #[.int .i64 t.a, .int .i64 t.b, .int .i64 t.c, .int .i64 t.d, .string t.e, .string t.f, .string t.g])] [(wr.heap.size, .slice ta bs.length tc, ts), (wI.heap.size, .slice za X.length zc, X), (w4.heap.size, .slice ra X.length rc, X)]) := EP.out.still hb
      have KQ : Hid (Bk.BkAt wQ B kb 3 qs) := KP.out.below hb
      clear hb EP GP KP
      go_wp2_with (first | (go_at_call 7; refine (num_any _).mono ?_; rintro e wx ⟨rfl, rfl⟩) | fail)
      refine (same_any _ _ _ _ _ X _ (ownRd (EQ.out.2 (wI.heap.size, .slice za X.length zc, X) (by simp)) HXr.out) (ownRd (EQ.out.2 (w4.heap.size, .slice ra X.length rc, X) (by simp)) HXr.out) (by omega)).mono ?_
      rintro e wR ⟨rfl, hb⟩
      have LR : Hid (Below w.heap.size w wR) := Mb.bstep LQ.out hb
      have KR : Hid (Bk.BkAt wR B kb 3 qs) := KQ.out.below hb
      clear hb EQ KQ
      go_wp2_with (fail)
      refine (Bk.intact_at B kb 3 qs _ KR.out GQ.out).mono ?_
      rintro e wS ⟨rfl, hb⟩
      have LS : Hid (Below w.heap.size w wS) := Mb.bstep LR.out hb
      clear hb KR
      go_wp2_with (fail)
      go_ret
      exact ⟨rfl, LS.out⟩
end
end Go.Proofs.YtjgjpepmfiklfaaGreatDoor.Mx
