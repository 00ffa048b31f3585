import Derived.Test.YtpgckdbjedepcaaDoorMhj
import Derived.Test.YtpgckdbjedepcaaDoorMhf
namespace Go.Proofs.YtpgckdbjedepcaaDoor.Mh
open Go.RowKit Mb Go.Maps
set_option linter.unusedVariables false
set_option maxRecDepth 100000
set_option linter.unusedSimpArgs false
section
variable {w w' W : World} {B : Nat}
theorem ops_fld1 (w : World) : (Instr.field 52 (.agg #[fv 15, fv 16, fv 17, fv 18]) 3).run Tryd.prog w = .ok (fv 18) w := by kernel_rfl
theorem ops_fld3 (w : World) : (Instr.field 52 (.agg #[fv 15, fv 16, fv 16, fv 20]) 3).run Tryd.prog w = .ok (fv 20) w := by kernel_rfl
theorem sess_info : (Tryd.prog.info? 37).map (·.size) = some 5 := by kernel_rfl
theorem sess_one (a r c n : Int) (s : ByteArray) : ∀ u ∈ [Value.int .i64 a, Value.int .i64 r, Value.int .i64 c, Value.string s, Value.int .i64 n], u.oneCell' = true := by
  intro u hu
  simp only [List.mem_cons, List.not_mem_nil, or_false] at hu
  rcases hu with rfl | rfl | rfl | rfl | rfl <;> rfl
theorem res_info : (Tryd.prog.info? 27).map (·.size) = some 3 := by kernel_rfl
theorem res_one (c n : Int) (s : ByteArray) : ∀ u ∈ [Value.int .i64 c, Value.string s, Value.int .i64 n], u.oneCell' = true := by
  intro u hu
  simp only [List.mem_cons, List.not_mem_nil, or_false] at hu
  rcases hu with rfl | rfl | rfl <;> rfl
structure Pf (w : World) (mb pb lb n : Nat) (f : Nat → Value) (D : DataW Unit) (C Z : Array Value) (X : World) : Prop where
  kp : Kept w X (fun j => j = pb)
  cm : X.heap[w.heap.size]? = some (.cells C 30 (0, 0))
  zr : X.heap[w.heap.size + 1]? = some (.cells Z 27 (0, 0))
  ms : Ms X mb pb lb n f D
section
variable {mb pb lb n n' : Nat} {f : Nat → Value} {D D' : DataW Unit} {C Z : Array Value} {X Y : World}
theorem Pf.still (h : Pf w mb pb lb n f D C Z X) (hb : Below X.heap.size X Y) : Pf w mb pb lb n f D C Z Y := ⟨h.kp.trans (Kept.ofBelow hb _), (hb.block _ (lt_heap h.cm)).trans h.cm, (hb.block _ (lt_heap h.zr)).trans h.zr, h.ms.still hb⟩
theorem Pf.upd (h : Pf w mb pb lb n f D C Z X) (hl : pb < w.heap.size) (k : Kept X Y (fun j => j = pb)) (hm : Y.ownsMap Tryd.prog 9 prE pb n' D') : Pf w mb pb lb n' f D' C Z Y := ⟨h.kp.trans k, k.obj h.cm (by omega), k.obj h.zr (by omega), h.ms.newmap k hm⟩
theorem Pf.c0 (h : Pf w mb pb lb n f D C Z X) : X.cell? ⟨mb, 0, none⟩ = some (.map (some pb)) := by
  have h1 := h.ms.blk.cell 0 (by omega)
  rw [h.ms.f0] at h1
  exact h1
theorem Pf.big (h : Pf w mb pb lb n f D C Z X) : w.heap.size + 2 ≤ X.heap.size := by
  have := lt_heap h.zr
  omega
theorem Pf.sets (h : Pf w mb pb lb n f D C Z X) (hl : mb < w.heap.size ∧ pb < w.heap.size ∧ lb < w.heap.size) {pk : Nat} (hp : w.heap.size + 2 ≤ pk) (L : List Value) : Pf w mb pb lb n f D C Z (X.setCells pk 0 L) := by
  have k : Kept X (X.setCells pk 0 L) (fun j => j = pk) := ksets (P := fun j => j = pk) rfl _ _ _
  exact ⟨h.kp.step k (fun j hj => .inr (by omega)), k.obj h.cm (by omega), k.obj h.zr (by omega), h.ms.keep k (by omega) (by omega) (by omega)⟩
end
set_option maxHeartbeats 8000000 in
theorem carry1 {mb pb lb n n' : Nat} {f : Nat → Value} {D D' : DataW Unit} (h : Ms w mb pb lb n f D) {q : Nat} (hq : q < 16) {inc req c0 n0 : Int} {v old s0 : ByteArray}
    (hdo : ∀ X : World, X.cell? ⟨mb, 0, none⟩ = some (.map (some pb)) → X.ownsMap Tryd.prog 9 prE pb n D → Calls Tryd.prog 18 #[.pointer (some ⟨mb, 0, none⟩), .agg #[.int .i64 (q : Int), .int .i64 inc, .int .i64 req, .int .i64 1, .string lead, .string v, .string old]] X fun e w' => e = .returned (.agg #[.int .i64 c0, .string s0, .int .i64 n0]) ∧ w'.ownsMap Tryd.prog 9 prE pb n' D' ∧ Kept X w' (fun j => j = pb)) :
    Calls Tryd.prog 8 #[.pointer (some ⟨mb, 0, none⟩), .agg #[.int .i64 (q : Int), .int .i64 inc, .int .i64 req, .int .i64 1, .string lead, .string v, .string old]] w fun e w' => e = .returned (.agg #[.int .i64 c0, .string s0, .int .i64 n0]) ∧ Ms w' mb pb lb n' (upS f q [.int .i64 inc, .int .i64 req, .int .i64 c0, .string s0, .int .i64 n0]) D' ∧ Kept w w' (fun j => j = mb ∨ j = pb) := by
  obtain ⟨W0, hW0⟩ : ∃ X, w.alloc (.cells #[.int .i64 (q : Int), .int .i64 inc, .int .i64 req, .int .i64 1, .string lead, .string v, .string old] 30) = X := ⟨_, rfl⟩
  obtain ⟨W, hW⟩ : ∃ X, W0.alloc (.cells #[.int .i64 0, .string ⟨#[]⟩, .int .i64 0] 27) = X := ⟨_, rfl⟩
  have hb0 : Below w.heap.size w W0 := by rw [← hW0]; exact balloc (Below.refl _ _)
  have hb1 : Below W0.heap.size W0 W := by rw [← hW]; exact balloc (Below.refl _ _)
  have hs0 : W0.heap.size = w.heap.size + 1 := by rw [← hW0]; simp
  have hs1 : W.heap.size = w.heap.size + 2 := by rw [← hW]; simp [hs0]
  have hc : W0.heap[w.heap.size]? = some (.cells #[.int .i64 (q : Int), .int .i64 inc, .int .i64 req, .int .i64 1, .string lead, .string v, .string old] 30 (0, 0)) := by rw [← hW0]; exact heap_alloc_new w _
  have hz : W.heap[W0.heap.size]? = some (.cells #[.int .i64 0, .string ⟨#[]⟩, .int .i64 0] 27 (0, 0)) := by rw [← hW]; exact heap_alloc_new W0 _
  rw [hs0] at hz
  have HbW : Hid (Below w.heap.size w W) := bstep hb0 hb1
  have HcW : Hid (W.heap[w.heap.size]? = some (.cells #[.int .i64 (q : Int), .int .i64 inc, .int .i64 req, .int .i64 1, .string lead, .string v, .string old] 30 (0, 0))) := (hb1.block _ (lt_heap hc)).trans hc
  have HzW : Hid (W.heap[w.heap.size + 1]? = some (.cells #[.int .i64 0, .string ⟨#[]⟩, .int .i64 0] 27 (0, 0))) := hz
  have HMW : Hid (Ms W mb pb lb n f D) := h.still HbW.out
  have Hlt : Hid (mb < w.heap.size ∧ pb < w.heap.size ∧ lb < w.heap.size) := ⟨h.blk.lt, h.pm.lt, h.lm.lt⟩
  obtain ⟨a, r, cd, nn, vl, e0, e1, e2, e3, e4⟩ := h.ss q hq
  have y0 : Hid (W.cell? ⟨w.heap.size, 0, none⟩ = some (.int .i64 (q : Int))) := blk_cell HcW.out 0
  have y1 : Hid (W.cell? ⟨w.heap.size, 1, none⟩ = some (.int .i64 inc)) := blk_cell HcW.out 1
  have ys : Hid (W.cell? ⟨mb, 3 + q * 5, none⟩ = some (.int .i64 a)) := by
    have h7 := HMW.out.blk.cell (3 + q * 5) (by omega)
    rw [e0] at h7
    exact h7
  have hq1 : (q : Int) < 16 := by omega
  have hq0 : (0 : Int) ≤ (q : Int) := Int.natCast_nonneg _
  have HDo : Hid (∀ X : World, X.cell? ⟨mb, 0, none⟩ = some (.map (some pb)) → X.ownsMap Tryd.prog 9 prE pb n D → Calls Tryd.prog 18 #[.pointer (some ⟨mb, 0, none⟩), .agg #[.int .i64 (q : Int), .int .i64 inc, .int .i64 req, .int .i64 1, .string lead, .string v, .string old]] X fun e w' => e = .returned (.agg #[.int .i64 c0, .string s0, .int .i64 n0]) ∧ w'.ownsMap Tryd.prog 9 prE pb n' D' ∧ Kept X w' (fun j => j = pb)) := hdo
  clear hb0 hb1 hc hz e0 e1 e2 e3 e4 h hdo
  go_enter Tryd.func8, Tryd.ntmps8
  go_wp2_with (fail)
  refine wp_region_held_drew (S := (fun w' => Below W.heap.size W w')) (by kernel_rfl) (Below.refl _ W).drew (fun hHeld => ?_)
  simp only [Act.put, List.size_toArray, List.length_cons, List.length_nil, Nat.zero_add]
  refine wpAnyH_take (i := 0) (v := .pointer (some ⟨mb, 0, none⟩)) rfl (by kernel_rfl) (by kernel_rfl) (by kernel_rfl) (fun _ _ _ h => h) (Or.inl ⟨by rfl, fun w' hS => by go_simp⟩) hHeld ?_
  simp only [Act.put, List.getElem_toArray, List.getElem_cons_zero, List.getElem_cons_succ, List.setIfInBounds_toArray, List.set_cons_zero, List.set_cons_succ]
  refine wpAnyH_take (i := 1) (v := .pointer (some ⟨w.heap.size, 0, none⟩)) rfl (by kernel_rfl) (by kernel_rfl) (by kernel_rfl) (fun _ _ _ h => h) (Or.inl ⟨by rfl, fun w' hS => by go_simp⟩) hHeld ?_
  simp only [Act.put, List.getElem_toArray, List.getElem_cons_zero, List.getElem_cons_succ, List.setIfInBounds_toArray, List.set_cons_zero, List.set_cons_succ]
  refine wpAnyH_take (i := 2) (v := .int .i64 (q : Int)) rfl (by kernel_rfl) (by kernel_rfl) (by kernel_rfl) (fun _ _ _ h => h) (Or.inl ⟨by rfl, fun w' hS => by (have s0 := below_at hS y0.out; go_simp)⟩) hHeld ?_
  simp only [Act.put, List.getElem_toArray, List.getElem_cons_zero, List.getElem_cons_succ, List.setIfInBounds_toArray, List.set_cons_zero, List.set_cons_succ]
  refine wpAnyH_take (i := 3) (v := .pointer (some ⟨mb, 0, none⟩)) rfl (by kernel_rfl) (by kernel_rfl) (by kernel_rfl) (fun _ _ _ h => h) (Or.inl ⟨by rfl, fun w' hS => by go_simp⟩) hHeld ?_
  simp only [Act.put, List.getElem_toArray, List.getElem_cons_zero, List.getElem_cons_succ, List.setIfInBounds_toArray, List.set_cons_zero, List.set_cons_succ]
  refine wpAnyH_take (i := 4) (v := .pointer (some ⟨mb, 3, none⟩)) rfl (by kernel_rfl) (by kernel_rfl) (by kernel_rfl) (fun _ _ _ h => h) (Or.inl ⟨by rfl, fun w' hS => by go_simp⟩) hHeld ?_
  simp only [Act.put, List.getElem_toArray, List.getElem_cons_zero, List.getElem_cons_succ, List.setIfInBounds_toArray, List.set_cons_zero, List.set_cons_succ]
  refine wpAnyH_take (i := 5) (v := .pointer (some ⟨mb, 3 + q * 5, none⟩)) rfl (by kernel_rfl) (by kernel_rfl) (by kernel_rfl) (fun _ _ _ h => h) (Or.inl ⟨by rfl, fun w' hS => by (go_simp)⟩) hHeld ?_
  simp only [Act.put, List.getElem_toArray, List.getElem_cons_zero, List.getElem_cons_succ, List.setIfInBounds_toArray, List.set_cons_zero, List.set_cons_succ]
  refine wpAnyH_take (i := 6) (v := .pointer (some ⟨mb, 3 + q * 5, none⟩)) rfl (by kernel_rfl) (by kernel_rfl) (by kernel_rfl) (fun _ _ _ h => h) (Or.inl ⟨by rfl, fun w' hS => by go_simp⟩) hHeld ?_
  simp only [Act.put, List.getElem_toArray, List.getElem_cons_zero, List.getElem_cons_succ, List.setIfInBounds_toArray, List.set_cons_zero, List.set_cons_succ]
  refine wpAnyH_take (i := 7) (v := .int .i64 a) rfl (by kernel_rfl) (by kernel_rfl) (by kernel_rfl) (fun _ _ _ h => h) (Or.inl ⟨by rfl, fun w' hS => by (have s0 := below_at hS ys.out; go_simp)⟩) hHeld ?_
  simp only [Act.put, List.getElem_toArray, List.getElem_cons_zero, List.getElem_cons_succ, List.setIfInBounds_toArray, List.set_cons_zero, List.set_cons_succ]
  refine wpAnyH_take (i := 8) (v := .pointer (some ⟨w.heap.size, 1, none⟩)) rfl (by kernel_rfl) (by kernel_rfl) (by kernel_rfl) (fun _ _ _ h => h) (Or.inl ⟨by rfl, fun w' hS => by go_simp⟩) hHeld ?_
  simp only [Act.put, List.getElem_toArray, List.getElem_cons_zero, List.getElem_cons_succ, List.setIfInBounds_toArray, List.set_cons_zero, List.set_cons_succ]
  refine wpAnyH_take (i := 9) (v := .int .i64 inc) rfl (by kernel_rfl) (by kernel_rfl) (by kernel_rfl) (fun _ _ _ h => h) (Or.inl ⟨by rfl, fun w' hS => by (have s0 := below_at hS y1.out; go_simp)⟩) hHeld ?_
  simp only [Act.put, List.getElem_toArray, List.getElem_cons_zero, List.getElem_cons_succ, List.setIfInBounds_toArray, List.set_cons_zero, List.set_cons_succ]
  refine wpAnyH_take (i := 10) (v := .bool (decide (a < inc))) rfl (by kernel_rfl) (by kernel_rfl) (by kernel_rfl) (fun _ _ _ h => h) (Or.inl ⟨by rfl, fun w' hS => by go_simp⟩) hHeld ?_
  simp only [Act.put, List.getElem_toArray, List.getElem_cons_zero, List.getElem_cons_succ, List.setIfInBounds_toArray, List.set_cons_zero, List.set_cons_succ]
  refine wpAnyH_done (by kernel_rfl) ?_ _
  clear hHeld
  go_upto_if 16 with (fail)
  go_cut [] (fun wx => Hid (Below W.heap.size W wx))
  case first =>
    have HRl : Hid (∀ X, Below W.heap.size W X → Calls Tryd.prog 13 #[.pointer (some ⟨mb, 0, none⟩), .int .i64 (q : Int)] X fun e w' => e = .returned (.int .i64 0) ∧ Below X.heap.size X w') := fun X hX => by
      have hM := HMW.out.still hX
      have h8 := hM.blk.cell 1 (by omega)
      rw [hM.f1] at h8
      exact release_nil h8 hM.lm
    have HB0 : Hid (Below W.heap.size W W.drew) := (Below.refl _ W).drew
    have z0 := y0.out
    by_cases hai : a < inc
    · go_wp2_with (first
        | (go_at_call 13; refine (HRl.out _ HB0.out).mono ?_; rintro e wx ⟨rfl, hbx⟩; replace HB0 : Hid (Below W.heap.size W wx) := bstep HB0.out hbx; clear hbx)
        | fail)
      go_meet
      exact HB0.out
    · go_wp2_with (fail)
      go_meet
      exact HB0.out
  case rest =>
  have HP0 : Hid (Pf w mb pb lb n f D #[.int .i64 (q : Int), .int .i64 inc, .int .i64 req, .int .i64 1, .string lead, .string v, .string old] #[.int .i64 0, .string ⟨#[]⟩, .int .i64 0] wc) := ⟨bstep HbW.out hcut.out |> fun hb => Kept.ofBelow hb _, (hcut.out.block _ (lt_heap HcW.out)).trans HcW.out, (hcut.out.block _ (lt_heap HzW.out)).trans HzW.out, HMW.out.still hcut.out⟩
  clear HMW HcW HzW HbW y0 y1 ys
  go_upto_region 3 with (fail)
  go_cut [5] (fun p wx => ∃ pk : Nat, p = .pointer (some ⟨pk, 0, none⟩) ∧ Hid (w.heap.size + 2 ≤ pk) ∧ Hid (Pf w mb pb lb n' f D' #[.int .i64 (q : Int), .int .i64 inc, .int .i64 req, .int .i64 1, .string lead, .string v, .string old] #[.int .i64 0, .string ⟨#[]⟩, .int .i64 0] wx) ∧ Hid (wx.heap[pk]? = some (.cells #[.int .i64 c0, .string s0, .int .i64 n0] 27 (0, 0))))
  case first =>
    have HS0 : Hid (Pf w mb pb lb n f D #[.int .i64 (q : Int), .int .i64 inc, .int .i64 req, .int .i64 1, .string lead, .string v, .string old] #[.int .i64 0, .string ⟨#[]⟩, .int .i64 0] wc.drew) := HP0.out.still (Below.refl _ wc).drew
    have hbig : w.heap.size + 2 ≤ wc.heap.size := by rw [← hs1]; exact hcut.out.size
    clear HP0 hcut
    refine wp_region_held_drew (S := (fun w' => w'.heap[w.heap.size]? = some (.cells #[.int .i64 (q : Int), .int .i64 inc, .int .i64 req, .int .i64 1, .string lead, .string v, .string old] 30 (0, 0)))) (by kernel_rfl) HS0.out.cm (fun hHeld => ?_)
    simp only [Act.put, List.size_toArray, List.length_cons, List.length_nil, Nat.zero_add]
    refine wpAnyH_take (i := 1) (v := .pointer (some ⟨w.heap.size, 3, none⟩)) rfl (by kernel_rfl) (by kernel_rfl) (by kernel_rfl) (fun _ _ _ h => h) (Or.inl ⟨by rfl, fun w' hS => by go_simp⟩) hHeld ?_
    simp only [Act.put, List.getElem_toArray, List.getElem_cons_zero, List.getElem_cons_succ, List.setIfInBounds_toArray, List.set_cons_zero, List.set_cons_succ]
    refine wpAnyH_take (i := 2) (v := .int .i64 1) rfl (by kernel_rfl) (by kernel_rfl) (by kernel_rfl) (fun _ _ _ h => h) (Or.inl ⟨by rfl, fun w' hS => by (have s0 := blk_cell hS 3; simp only [List.getElem?_toArray, List.getElem?_cons_succ, List.getElem?_cons_zero] at s0; go_simp)⟩) hHeld ?_
    simp only [Act.put, List.getElem_toArray, List.getElem_cons_zero, List.getElem_cons_succ, List.setIfInBounds_toArray, List.set_cons_zero, List.set_cons_succ]
    refine wpAnyH_take (i := 5) (v := .pointer (some ⟨mb, 0, none⟩)) rfl (by kernel_rfl) (by kernel_rfl) (by kernel_rfl) (fun _ _ _ h => h) (Or.inl ⟨by rfl, fun w' hS => by go_simp⟩) hHeld ?_
    simp only [Act.put, List.getElem_toArray, List.getElem_cons_zero, List.getElem_cons_succ, List.setIfInBounds_toArray, List.set_cons_zero, List.set_cons_succ]
    refine wpAnyH_take (i := 6) (v := .agg #[.int .i64 (q : Int), .int .i64 inc, .int .i64 req, .int .i64 1, .string lead, .string v, .string old]) rfl (by kernel_rfl) (by kernel_rfl) (by kernel_rfl) (fun _ _ _ h => h) (yieldsIf_load_mid rfl 30 (.tmp 3) rfl w.heap.size 0 rfl [.int .i64 (q : Int), .int .i64 inc, .int .i64 req, .int .i64 1, .string lead, .string v, .string old] _ (fun w' hS => blk_range hS) Tryd.underlying30 rfl cmd_info) hHeld ?_
    simp only [Act.put, List.getElem_toArray, List.getElem_cons_zero, List.getElem_cons_succ, List.setIfInBounds_toArray, List.set_cons_zero, List.set_cons_succ]
    refine wpAnyH_ready (rs := [0, 8]) (by kernel_rfl) (by simp) ?_
    refine AllReadyH.cons rfl (fun K hK => ?_) (AllReadyH.cons rfl (fun K hK => ?_) AllReadyH.nil)
    · go_simp
      refine (operations_any).mono ?_
      rintro e X1 ⟨rfl, hb⟩
      have HX1 : Hid (Pf w mb pb lb n f D #[.int .i64 (q : Int), .int .i64 inc, .int .i64 req, .int .i64 1, .string lead, .string v, .string old] #[.int .i64 0, .string ⟨#[]⟩, .int .i64 0] X1) := HS0.out.still hb
      clear hb
      refine hK.out _ _ HX1.out.cm (fun hHeld => ?_)
      clear hK K
      refine wpAnyH_take (i := 3) (v := .agg #[fv 15, fv 16, fv 17, fv 18]) rfl (by kernel_rfl) (by kernel_rfl) (by kernel_rfl) (fun _ _ _ h => h) (Or.inl ⟨by rfl, fun w' hS => by (have s0 := ops_idx1 w'; go_simp)⟩) hHeld ?_
      simp only [Act.put, List.getElem_toArray, List.getElem_cons_zero, List.getElem_cons_succ, List.setIfInBounds_toArray, List.set_cons_zero, List.set_cons_succ]
      refine wpAnyH_take (i := 4) (v := fv 18) rfl (by kernel_rfl) (by kernel_rfl) (by kernel_rfl) (fun _ _ _ h => h) (Or.inl ⟨by rfl, fun w' hS => by (have s0 := ops_fld1 w'; go_simp)⟩) hHeld ?_
      simp only [Act.put, List.getElem_toArray, List.getElem_cons_zero, List.getElem_cons_succ, List.setIfInBounds_toArray, List.set_cons_zero, List.set_cons_succ]
      refine wpAnyH_ready (rs := [7, 8]) (by kernel_rfl) (by simp) ?_
      refine AllReadyH.cons rfl (fun K hK => ?_) (AllReadyH.cons rfl (fun K hK => ?_) AllReadyH.nil)
      · (try unfold fv)
        go_simp
        refine (HDo.out _ HX1.out.c0 HX1.out.ms.pm).mono ?_
        rintro e X2 ⟨rfl, hm, hk⟩
        have HX2 : Hid (Pf w mb pb lb n' f D' #[.int .i64 (q : Int), .int .i64 inc, .int .i64 req, .int .i64 1, .string lead, .string v, .string old] #[.int .i64 0, .string ⟨#[]⟩, .int .i64 0] X2) := HX1.out.upd Hlt.out.2.1 hk hm
        clear hm hk
        refine hK.out _ _ HX2.out.cm (fun hHeld => ?_)
        clear hK K
        refine wpAnyH_ready (rs := [8]) (by kernel_rfl) (by simp) ?_
        refine AllReadyH.cons rfl (fun K hK => ?_) AllReadyH.nil
        obtain ⟨X3, hX3⟩ : ∃ X, X2.alloc (.cells #[.int .i64 0, .string ⟨#[]⟩, .int .i64 0] 27) = X := ⟨_, rfl⟩
        have hb : Below X2.heap.size X2 X3 := by rw [← hX3]; exact balloc (Below.refl _ _)
        have HX3 : Hid (Pf w mb pb lb n' f D' #[.int .i64 (q : Int), .int .i64 inc, .int .i64 req, .int .i64 1, .string lead, .string v, .string old] #[.int .i64 0, .string ⟨#[]⟩, .int .i64 0] X3) := HX2.out.still hb
        have HRX3 : Hid (X3.heap[X2.heap.size]? = some (.cells #[.int .i64 0, .string ⟨#[]⟩, .int .i64 0] 27 (0, 0))) := by rw [← hX3]; exact heap_alloc_new _ _
        go_simp
        (try rw [hX3])
        clear hb hX3
        refine hK.out _ _ HX3.out.cm (fun hHeld => ?_)
        clear hK K
        have hbg : w.heap.size + 2 ≤ X2.heap.size := HX2.out.big
        refine wpAnyH_ready (rs := [9]) (by kernel_rfl) (by simp) ?_
        refine AllReadyH.cons rfl (fun K hK => ?_) AllReadyH.nil
        rw [if_pos (by rfl)]
        refine wp_store_mid 27 (.tmp 5) (.tmp 28) rfl (X2.heap.size) 0 #[.int .i64 c0, .string s0, .int .i64 n0] rfl rfl (blk_there HRX3.out rfl) res_info (all_oneCell_toArray (res_one _ _ _)) ?_
        obtain ⟨V, hV⟩ : ∃ X, X3.setCells (X2.heap.size) 0 [.int .i64 c0, .string s0, .int .i64 n0] = X := ⟨_, rfl⟩
        have HV : Hid (Pf w mb pb lb n' f D' #[.int .i64 (q : Int), .int .i64 inc, .int .i64 req, .int .i64 1, .string lead, .string v, .string old] #[.int .i64 0, .string ⟨#[]⟩, .int .i64 0] V) := by rw [← hV]; exact HX3.out.sets Hlt.out (by omega) _
        have HVr : Hid (V.heap[X2.heap.size]? = some (.cells #[.int .i64 c0, .string s0, .int .i64 n0] 27 (0, 0))) := by rw [← hV]; exact sets_whole HRX3.out rfl
        rw [show X3.setCells (X2.heap.size) 0 (#[.int .i64 c0, .string s0, .int .i64 n0]).toList = V from hV]
        refine hK.out _ _ HV.out.cm (fun hHeld => ?_)
        clear hK K
        refine wpAnyH_done (by kernel_rfl) ?_ _
        clear hHeld
        go_wp2_with (fail)
        go_meet
        exact ⟨X2.heap.size, rfl, by show _ ≤ _; omega, HV.out, HVr.out⟩
      · obtain ⟨X3, hX3⟩ : ∃ X, X1.alloc (.cells #[.int .i64 0, .string ⟨#[]⟩, .int .i64 0] 27) = X := ⟨_, rfl⟩
        have hb : Below X1.heap.size X1 X3 := by rw [← hX3]; exact balloc (Below.refl _ _)
        have HX3 : Hid (Pf w mb pb lb n f D #[.int .i64 (q : Int), .int .i64 inc, .int .i64 req, .int .i64 1, .string lead, .string v, .string old] #[.int .i64 0, .string ⟨#[]⟩, .int .i64 0] X3) := HX1.out.still hb
        have HRX3 : Hid (X3.heap[X1.heap.size]? = some (.cells #[.int .i64 0, .string ⟨#[]⟩, .int .i64 0] 27 (0, 0))) := by rw [← hX3]; exact heap_alloc_new _ _
        go_simp
        (try rw [hX3])
        clear hb hX3
        refine hK.out _ _ HX3.out.cm (fun hHeld => ?_)
        clear hK K
        have hbg : w.heap.size + 2 ≤ X1.heap.size := HX1.out.big
        refine wpAnyH_ready (rs := [7]) (by kernel_rfl) (by simp) ?_
        refine AllReadyH.cons rfl (fun K hK => ?_) AllReadyH.nil
        (try unfold fv)
        go_simp
        refine (HDo.out _ HX3.out.c0 HX3.out.ms.pm).mono ?_
        rintro e X2 ⟨rfl, hm, hk⟩
        have HX2 : Hid (Pf w mb pb lb n' f D' #[.int .i64 (q : Int), .int .i64 inc, .int .i64 req, .int .i64 1, .string lead, .string v, .string old] #[.int .i64 0, .string ⟨#[]⟩, .int .i64 0] X2) := HX3.out.upd Hlt.out.2.1 hk hm
        have HRX2 : Hid (X2.heap[X1.heap.size]? = some (.cells #[.int .i64 0, .string ⟨#[]⟩, .int .i64 0] 27 (0, 0))) := hk.obj HRX3.out (by have := Hlt.out.2.1; omega)
        clear hm hk
        refine hK.out _ _ HX2.out.cm (fun hHeld => ?_)
        clear hK K
        refine wpAnyH_ready (rs := [9]) (by kernel_rfl) (by simp) ?_
        refine AllReadyH.cons rfl (fun K hK => ?_) AllReadyH.nil
        rw [if_pos (by rfl)]
        refine wp_store_mid 27 (.tmp 5) (.tmp 28) rfl (X1.heap.size) 0 #[.int .i64 c0, .string s0, .int .i64 n0] rfl rfl (blk_there HRX2.out rfl) res_info (all_oneCell_toArray (res_one _ _ _)) ?_
        obtain ⟨V, hV⟩ : ∃ X, X2.setCells (X1.heap.size) 0 [.int .i64 c0, .string s0, .int .i64 n0] = X := ⟨_, rfl⟩
        have HV : Hid (Pf w mb pb lb n' f D' #[.int .i64 (q : Int), .int .i64 inc, .int .i64 req, .int .i64 1, .string lead, .string v, .string old] #[.int .i64 0, .string ⟨#[]⟩, .int .i64 0] V) := by rw [← hV]; exact HX2.out.sets Hlt.out (by omega) _
        have HVr : Hid (V.heap[X1.heap.size]? = some (.cells #[.int .i64 c0, .string s0, .int .i64 n0] 27 (0, 0))) := by rw [← hV]; exact sets_whole HRX2.out rfl
        rw [show X2.setCells (X1.heap.size) 0 (#[.int .i64 c0, .string s0, .int .i64 n0]).toList = V from hV]
        refine hK.out _ _ HV.out.cm (fun hHeld => ?_)
        clear hK K
        refine wpAnyH_done (by kernel_rfl) ?_ _
        clear hHeld
        go_wp2_with (fail)
        go_meet
        exact ⟨X1.heap.size, rfl, by show _ ≤ _; omega, HV.out, HVr.out⟩
    · obtain ⟨X3, hX3⟩ : ∃ X, wc.drew.alloc (.cells #[.int .i64 0, .string ⟨#[]⟩, .int .i64 0] 27) = X := ⟨_, rfl⟩
      have hb : Below wc.drew.heap.size wc.drew X3 := by rw [← hX3]; exact balloc (Below.refl _ _)
      have HX3 : Hid (Pf w mb pb lb n f D #[.int .i64 (q : Int), .int .i64 inc, .int .i64 req, .int .i64 1, .string lead, .string v, .string old] #[.int .i64 0, .string ⟨#[]⟩, .int .i64 0] X3) := HS0.out.still hb
      have HRX3 : Hid (X3.heap[wc.heap.size]? = some (.cells #[.int .i64 0, .string ⟨#[]⟩, .int .i64 0] 27 (0, 0))) := by rw [← hX3]; exact heap_alloc_new _ _
      go_simp
      (try rw [hX3])
      clear hb hX3
      refine hK.out _ _ HX3.out.cm (fun hHeld => ?_)
      clear hK K
      refine wpAnyH_ready (rs := [0]) (by kernel_rfl) (by simp) ?_
      refine AllReadyH.cons rfl (fun K hK => ?_) AllReadyH.nil
      go_simp
      refine (operations_any).mono ?_
      rintro e X1 ⟨rfl, hb⟩
      have HX1 : Hid (Pf w mb pb lb n f D #[.int .i64 (q : Int), .int .i64 inc, .int .i64 req, .int .i64 1, .string lead, .string v, .string old] #[.int .i64 0, .string ⟨#[]⟩, .int .i64 0] X1) := HX3.out.still hb
      have HRX1 : Hid (X1.heap[wc.heap.size]? = some (.cells #[.int .i64 0, .string ⟨#[]⟩, .int .i64 0] 27 (0, 0))) := (hb.block _ (lt_heap HRX3.out)).trans HRX3.out
      clear hb
      refine hK.out _ _ HX1.out.cm (fun hHeld => ?_)
      clear hK K
      refine wpAnyH_take (i := 3) (v := .agg #[fv 15, fv 16, fv 17, fv 18]) rfl (by kernel_rfl) (by kernel_rfl) (by kernel_rfl) (fun _ _ _ h => h) (Or.inl ⟨by rfl, fun w' hS => by (have s0 := ops_idx1 w'; go_simp)⟩) hHeld ?_
      simp only [Act.put, List.getElem_toArray, List.getElem_cons_zero, List.getElem_cons_succ, List.setIfInBounds_toArray, List.set_cons_zero, List.set_cons_succ]
      refine wpAnyH_take (i := 4) (v := fv 18) rfl (by kernel_rfl) (by kernel_rfl) (by kernel_rfl) (fun _ _ _ h => h) (Or.inl ⟨by rfl, fun w' hS => by (have s0 := ops_fld1 w'; go_simp)⟩) hHeld ?_
      simp only [Act.put, List.getElem_toArray, List.getElem_cons_zero, List.getElem_cons_succ, List.setIfInBounds_toArray, List.set_cons_zero, List.set_cons_succ]
      refine wpAnyH_ready (rs := [7]) (by kernel_rfl) (by simp) ?_
      refine AllReadyH.cons rfl (fun K hK => ?_) AllReadyH.nil
      (try unfold fv)
      go_simp
      refine (HDo.out _ HX1.out.c0 HX1.out.ms.pm).mono ?_
      rintro e X2 ⟨rfl, hm, hk⟩
      have HX2 : Hid (Pf w mb pb lb n' f D' #[.int .i64 (q : Int), .int .i64 inc, .int .i64 req, .int .i64 1, .string lead, .string v, .string old] #[.int .i64 0, .string ⟨#[]⟩, .int .i64 0] X2) := HX1.out.upd Hlt.out.2.1 hk hm
      have HRX2 : Hid (X2.heap[wc.heap.size]? = some (.cells #[.int .i64 0, .string ⟨#[]⟩, .int .i64 0] 27 (0, 0))) := hk.obj HRX1.out (by have := Hlt.out.2.1; omega)
      clear hm hk
      refine hK.out _ _ HX2.out.cm (fun hHeld => ?_)
      clear hK K
      refine wpAnyH_ready (rs := [9]) (by kernel_rfl) (by simp) ?_
      refine AllReadyH.cons rfl (fun K hK => ?_) AllReadyH.nil
      rw [if_pos (by rfl)]
      refine wp_store_mid 27 (.tmp 5) (.tmp 28) rfl (wc.heap.size) 0 #[.int .i64 c0, .string s0, .int .i64 n0] rfl rfl (blk_there HRX2.out rfl) res_info (all_oneCell_toArray (res_one _ _ _)) ?_
      obtain ⟨V, hV⟩ : ∃ X, X2.setCells (wc.heap.size) 0 [.int .i64 c0, .string s0, .int .i64 n0] = X := ⟨_, rfl⟩
      have HV : Hid (Pf w mb pb lb n' f D' #[.int .i64 (q : Int), .int .i64 inc, .int .i64 req, .int .i64 1, .string lead, .string v, .string old] #[.int .i64 0, .string ⟨#[]⟩, .int .i64 0] V) := by rw [← hV]; exact HX2.out.sets Hlt.out (by omega) _
      have HVr : Hid (V.heap[wc.heap.size]? = some (.cells #[.int .i64 c0, .string s0, .int .i64 n0] 27 (0, 0))) := by rw [← hV]; exact sets_whole HRX2.out rfl
      rw [show X2.setCells (wc.heap.size) 0 (#[.int .i64 c0, .string s0, .int .i64 n0]).toList = V from hV]
      refine hK.out _ _ HV.out.cm (fun hHeld => ?_)
      clear hK K
      refine wpAnyH_done (by kernel_rfl) ?_ _
      clear hHeld
      go_wp2_with (fail)
      go_meet
      exact ⟨wc.heap.size, rfl, by show _ ≤ _; omega, HV.out, HVr.out⟩
  case rest =>
  obtain ⟨pk, rfl, Hpk, HQ, HRk⟩ := hcut
  go_upto_region 4 with (fail)
  refine wp_region_held_drew (S := (fun w' => w'.heap[w.heap.size]? = some (.cells #[.int .i64 (q : Int), .int .i64 inc, .int .i64 req, .int .i64 1, .string lead, .string v, .string old] 30 (0, 0)) ∧ w'.heap[pk]? = some (.cells #[.int .i64 c0, .string s0, .int .i64 n0] 27 (0, 0)))) (by kernel_rfl) ⟨HQ.out.cm, HRk.out⟩ (fun hHeld => ?_)
  simp only [Act.put, List.size_toArray, List.length_cons, List.length_nil, Nat.zero_add]
  refine wpAnyH_take (i := 0) (v := .pointer (some ⟨mb, 0, none⟩)) rfl (by kernel_rfl) (by kernel_rfl) (by kernel_rfl) (fun _ _ _ h => h) (Or.inl ⟨by rfl, fun w' hS => by go_simp⟩) hHeld ?_
  simp only [Act.put, List.getElem_toArray, List.getElem_cons_zero, List.getElem_cons_succ, List.setIfInBounds_toArray, List.set_cons_zero, List.set_cons_succ]
  refine wpAnyH_take (i := 1) (v := .pointer (some ⟨w.heap.size, 0, none⟩)) rfl (by kernel_rfl) (by kernel_rfl) (by kernel_rfl) (fun _ _ _ h => h) (Or.inl ⟨by rfl, fun w' hS => by go_simp⟩) hHeld ?_
  simp only [Act.put, List.getElem_toArray, List.getElem_cons_zero, List.getElem_cons_succ, List.setIfInBounds_toArray, List.set_cons_zero, List.set_cons_succ]
  refine wpAnyH_take (i := 2) (v := .int .i64 (q : Int)) rfl (by kernel_rfl) (by kernel_rfl) (by kernel_rfl) (fun _ _ _ h => h) (Or.inl ⟨by rfl, fun w' hS => by (have s0 := blk_cell hS.1 0; simp only [List.getElem?_toArray, List.getElem?_cons_succ, List.getElem?_cons_zero] at s0; go_simp)⟩) hHeld ?_
  simp only [Act.put, List.getElem_toArray, List.getElem_cons_zero, List.getElem_cons_succ, List.setIfInBounds_toArray, List.set_cons_zero, List.set_cons_succ]
  refine wpAnyH_take (i := 3) (v := .pointer (some ⟨w.heap.size, 1, none⟩)) rfl (by kernel_rfl) (by kernel_rfl) (by kernel_rfl) (fun _ _ _ h => h) (Or.inl ⟨by rfl, fun w' hS => by go_simp⟩) hHeld ?_
  simp only [Act.put, List.getElem_toArray, List.getElem_cons_zero, List.getElem_cons_succ, List.setIfInBounds_toArray, List.set_cons_zero, List.set_cons_succ]
  refine wpAnyH_take (i := 4) (v := .int .i64 inc) rfl (by kernel_rfl) (by kernel_rfl) (by kernel_rfl) (fun _ _ _ h => h) (Or.inl ⟨by rfl, fun w' hS => by (have s0 := blk_cell hS.1 1; simp only [List.getElem?_toArray, List.getElem?_cons_succ, List.getElem?_cons_zero] at s0; go_simp)⟩) hHeld ?_
  simp only [Act.put, List.getElem_toArray, List.getElem_cons_zero, List.getElem_cons_succ, List.setIfInBounds_toArray, List.set_cons_zero, List.set_cons_succ]
  refine wpAnyH_take (i := 5) (v := .pointer (some ⟨w.heap.size, 2, none⟩)) rfl (by kernel_rfl) (by kernel_rfl) (by kernel_rfl) (fun _ _ _ h => h) (Or.inl ⟨by rfl, fun w' hS => by go_simp⟩) hHeld ?_
  simp only [Act.put, List.getElem_toArray, List.getElem_cons_zero, List.getElem_cons_succ, List.setIfInBounds_toArray, List.set_cons_zero, List.set_cons_succ]
  refine wpAnyH_take (i := 6) (v := .int .i64 req) rfl (by kernel_rfl) (by kernel_rfl) (by kernel_rfl) (fun _ _ _ h => h) (Or.inl ⟨by rfl, fun w' hS => by (have s0 := blk_cell hS.1 2; simp only [List.getElem?_toArray, List.getElem?_cons_succ, List.getElem?_cons_zero] at s0; go_simp)⟩) hHeld ?_
  simp only [Act.put, List.getElem_toArray, List.getElem_cons_zero, List.getElem_cons_succ, List.setIfInBounds_toArray, List.set_cons_zero, List.set_cons_succ]
  refine wpAnyH_take (i := 7) (v := .agg #[.int .i64 c0, .string s0, .int .i64 n0]) rfl (by kernel_rfl) (by kernel_rfl) (by kernel_rfl) (fun _ _ _ h => h) (yieldsIf_load_mid rfl 27 (.tmp 5) rfl pk 0 rfl [.int .i64 c0, .string s0, .int .i64 n0] _ (fun w' hS => blk_range hS.2) Tryd.underlying27 rfl res_info) hHeld ?_
  simp only [Act.put, List.getElem_toArray, List.getElem_cons_zero, List.getElem_cons_succ, List.setIfInBounds_toArray, List.set_cons_zero, List.set_cons_succ]
  refine wpAnyH_take (i := 8) (v := .agg #[.int .i64 inc, .int .i64 req, .int .i64 c0, .string s0, .int .i64 n0]) rfl (by kernel_rfl) (by kernel_rfl) (by kernel_rfl) (fun _ _ _ h => h) (Or.inl ⟨by rfl, fun w' hS => by go_simp⟩) hHeld ?_
  simp only [Act.put, List.getElem_toArray, List.getElem_cons_zero, List.getElem_cons_succ, List.setIfInBounds_toArray, List.set_cons_zero, List.set_cons_succ]
  refine wpAnyH_take (i := 9) (v := .pointer (some ⟨mb, 0, none⟩)) rfl (by kernel_rfl) (by kernel_rfl) (by kernel_rfl) (fun _ _ _ h => h) (Or.inl ⟨by rfl, fun w' hS => by go_simp⟩) hHeld ?_
  simp only [Act.put, List.getElem_toArray, List.getElem_cons_zero, List.getElem_cons_succ, List.setIfInBounds_toArray, List.set_cons_zero, List.set_cons_succ]
  refine wpAnyH_take (i := 10) (v := .pointer (some ⟨mb, 3, none⟩)) rfl (by kernel_rfl) (by kernel_rfl) (by kernel_rfl) (fun _ _ _ h => h) (Or.inl ⟨by rfl, fun w' hS => by go_simp⟩) hHeld ?_
  simp only [Act.put, List.getElem_toArray, List.getElem_cons_zero, List.getElem_cons_succ, List.setIfInBounds_toArray, List.set_cons_zero, List.set_cons_succ]
  refine wpAnyH_take (i := 11) (v := .pointer (some ⟨mb, 3 + q * 5, none⟩)) rfl (by kernel_rfl) (by kernel_rfl) (by kernel_rfl) (fun _ _ _ h => h) (Or.inl ⟨by rfl, fun w' hS => by go_simp⟩) hHeld ?_
  simp only [Act.put, List.getElem_toArray, List.getElem_cons_zero, List.getElem_cons_succ, List.setIfInBounds_toArray, List.set_cons_zero, List.set_cons_succ]
  refine wpAnyH_ready (rs := [12]) (by kernel_rfl) (by simp) ?_
  refine AllReadyH.cons rfl (fun K hK => ?_) AllReadyH.nil
  rw [if_pos (by rfl)]
  refine wp_store_mid 37 (.tmp 40) (.tmp 37) rfl mb (3 + q * 5) #[.int .i64 inc, .int .i64 req, .int .i64 c0, .string s0, .int .i64 n0] rfl rfl (HQ.out.ms.blk.there (3 + q * 5) 5 (by omega)) sess_info (all_oneCell_toArray (sess_one _ _ _ _ _)) ?_
  obtain ⟨V, hV⟩ : ∃ X, wc.drew.setCells mb (3 + q * 5) [.int .i64 inc, .int .i64 req, .int .i64 c0, .string s0, .int .i64 n0] = X := ⟨_, rfl⟩
  have hk : Kept wc V (fun j => j = mb) := by rw [← hV]; exact (Kept.ofBelow (Below.refl _ wc).drew _).trans (ksets (P := fun j => j = mb) rfl _ _ wc.drew)
  have HMV : Hid (Ms V mb pb lb n' (upS f q [.int .i64 inc, .int .i64 req, .int .i64 c0, .string s0, .int .i64 n0]) D') := by rw [← hV]; exact Ms.sess (w := wc.drew) (HQ.out.ms.still (Below.refl _ wc).drew) hq _ _ _ _ _
  have HcV : Hid (V.heap[w.heap.size]? = some (.cells #[.int .i64 (q : Int), .int .i64 inc, .int .i64 req, .int .i64 1, .string lead, .string v, .string old] 30 (0, 0))) := hk.obj HQ.out.cm (by have := Hlt.out.1; omega)
  have HzV : Hid (V.heap[w.heap.size + 1]? = some (.cells #[.int .i64 0, .string ⟨#[]⟩, .int .i64 0] 27 (0, 0))) := hk.obj HQ.out.zr (by have := Hlt.out.1; omega)
  have HrV : Hid (V.heap[pk]? = some (.cells #[.int .i64 c0, .string s0, .int .i64 n0] 27 (0, 0))) := hk.obj HRk.out (by have := Hlt.out.1; have := Hpk.out; omega)
  have HkV : Hid (Kept w V (fun j => j = mb ∨ j = pb)) := (HQ.out.kp.mono (fun j _ e => Or.inr e)).step hk (fun j hj => .inl (.inl hj))
  rw [show wc.drew.setCells mb (3 + q * 5) (#[.int .i64 inc, .int .i64 req, .int .i64 c0, .string s0, .int .i64 n0] : Array Value).toList = V from hV]
  refine hK.out _ _ ⟨HcV.out, HrV.out⟩ (fun hHeld => ?_)
  clear hK K hk hV
  refine wpAnyH_done (by kernel_rfl) ?_ _
  clear hHeld
  obtain ⟨U, hU⟩ : ∃ X, V.setCells (w.heap.size + 1) 0 [.int .i64 c0, .string s0, .int .i64 n0] = X := ⟨_, rfl⟩
  have hku : Kept V U (fun j => j = w.heap.size + 1) := by rw [← hU]; exact ksets (P := fun j => j = w.heap.size + 1) rfl _ _ _
  have HUr : Hid (U.heap[w.heap.size + 1]? = some (.cells #[.int .i64 c0, .string s0, .int .i64 n0] 27 (0, 0))) := by rw [← hU]; exact sets_whole HzV.out rfl
  have HTh : Hid (V.there (w.heap.size + 1) 0 3) := blk_there HzV.out rfl
  have HRg : Hid (V.rangeAt pk 0 [.int .i64 c0, .string s0, .int .i64 n0]) := blk_range HrV.out
  have HMU : Hid (Ms U mb pb lb n' (upS f q [.int .i64 inc, .int .i64 req, .int .i64 c0, .string s0, .int .i64 n0]) D') := HMV.out.keep hku (by have := Hlt.out; omega) (by have := Hlt.out; omega) (by have := Hlt.out; omega)
  have HkU : Hid (Kept w U (fun j => j = mb ∨ j = pb)) := HkV.out.step hku (fun j hj => .inr (by omega))
  clear hku HMV HkV
  go_wp2_with (first
    | (refine load_mid 27 (.tmp 5) HRg.out _ Tryd.underlying27 rfl res_info rfl rfl rfl ?_)
    | (refine store_rowL (L := [.int .i64 c0, .string s0, .int .i64 n0]) 27 (.tmp 4) (.tmp 41) HTh.out res_info (res_one _ _ _) rfl rfl rfl rfl ?_; rw [hU])
    | fail)
  (try simp only [Exit.inBlock, Exit.then])
  exact bodyPost_ret (results_cell (b := w.heap.size + 1) Tryd.results8 rfl (blk_range (L := [.int .i64 c0, .string s0, .int .i64 n0]) HUr.out) _ Tryd.underlying27 rfl res_info) rfl ⟨rfl, HMU.out, HkU.out⟩
set_option maxHeartbeats 8000000 in
theorem carry3 {mb pb lb n n' : Nat} {f : Nat → Value} {D D' : DataW Unit} (h : Ms w mb pb lb n f D) {q : Nat} (hq : q < 16) {inc req c0 n0 : Int} {v old s0 : ByteArray}
    (hdo : ∀ X : World, X.cell? ⟨mb, 0, none⟩ = some (.map (some pb)) → X.ownsMap Tryd.prog 9 prE pb n D → Calls Tryd.prog 20 #[.pointer (some ⟨mb, 0, none⟩), .agg #[.int .i64 (q : Int), .int .i64 inc, .int .i64 req, .int .i64 3, .string lead, .string v, .string old]] X fun e w' => e = .returned (.agg #[.int .i64 c0, .string s0, .int .i64 n0]) ∧ w'.ownsMap Tryd.prog 9 prE pb n' D' ∧ Kept X w' (fun j => j = pb)) :
    Calls Tryd.prog 8 #[.pointer (some ⟨mb, 0, none⟩), .agg #[.int .i64 (q : Int), .int .i64 inc, .int .i64 req, .int .i64 3, .string lead, .string v, .string old]] w fun e w' => e = .returned (.agg #[.int .i64 c0, .string s0, .int .i64 n0]) ∧ Ms w' mb pb lb n' (upS f q [.int .i64 inc, .int .i64 req, .int .i64 c0, .string s0, .int .i64 n0]) D' ∧ Kept w w' (fun j => j = mb ∨ j = pb) := by
  obtain ⟨W0, hW0⟩ : ∃ X, w.alloc (.cells #[.int .i64 (q : Int), .int .i64 inc, .int .i64 req, .int .i64 3, .string lead, .string v, .string old] 30) = X := ⟨_, rfl⟩
  obtain ⟨W, hW⟩ : ∃ X, W0.alloc (.cells #[.int .i64 0, .string ⟨#[]⟩, .int .i64 0] 27) = X := ⟨_, rfl⟩
  have hb0 : Below w.heap.size w W0 := by rw [← hW0]; exact balloc (Below.refl _ _)
  have hb1 : Below W0.heap.size W0 W := by rw [← hW]; exact balloc (Below.refl _ _)
  have hs0 : W0.heap.size = w.heap.size + 1 := by rw [← hW0]; simp
  have hs1 : W.heap.size = w.heap.size + 2 := by rw [← hW]; simp [hs0]
  have hc : W0.heap[w.heap.size]? = some (.cells #[.int .i64 (q : Int), .int .i64 inc, .int .i64 req, .int .i64 3, .string lead, .string v, .string old] 30 (0, 0)) := by rw [← hW0]; exact heap_alloc_new w _
  have hz : W.heap[W0.heap.size]? = some (.cells #[.int .i64 0, .string ⟨#[]⟩, .int .i64 0] 27 (0, 0)) := by rw [← hW]; exact heap_alloc_new W0 _
  rw [hs0] at hz
  have HbW : Hid (Below w.heap.size w W) := bstep hb0 hb1
  have HcW : Hid (W.heap[w.heap.size]? = some (.cells #[.int .i64 (q : Int), .int .i64 inc, .int .i64 req, .int .i64 3, .string lead, .string v, .string old] 30 (0, 0))) := (hb1.block _ (lt_heap hc)).trans hc
  have HzW : Hid (W.heap[w.heap.size + 1]? = some (.cells #[.int .i64 0, .string ⟨#[]⟩, .int .i64 0] 27 (0, 0))) := hz
  have HMW : Hid (Ms W mb pb lb n f D) := h.still HbW.out
  have Hlt : Hid (mb < w.heap.size ∧ pb < w.heap.size ∧ lb < w.heap.size) := ⟨h.blk.lt, h.pm.lt, h.lm.lt⟩
  obtain ⟨a, r, cd, nn, vl, e0, e1, e2, e3, e4⟩ := h.ss q hq
  have y0 : Hid (W.cell? ⟨w.heap.size, 0, none⟩ = some (.int .i64 (q : Int))) := blk_cell HcW.out 0
  have y1 : Hid (W.cell? ⟨w.heap.size, 1, none⟩ = some (.int .i64 inc)) := blk_cell HcW.out 1
  have ys : Hid (W.cell? ⟨mb, 3 + q * 5, none⟩ = some (.int .i64 a)) := by
    have h7 := HMW.out.blk.cell (3 + q * 5) (by omega)
    rw [e0] at h7
    exact h7
  have hq1 : (q : Int) < 16 := by omega
  have hq0 : (0 : Int) ≤ (q : Int) := Int.natCast_nonneg _
  have HDo : Hid (∀ X : World, X.cell? ⟨mb, 0, none⟩ = some (.map (some pb)) → X.ownsMap Tryd.prog 9 prE pb n D → Calls Tryd.prog 20 #[.pointer (some ⟨mb, 0, none⟩), .agg #[.int .i64 (q : Int), .int .i64 inc, .int .i64 req, .int .i64 3, .string lead, .string v, .string old]] X fun e w' => e = .returned (.agg #[.int .i64 c0, .string s0, .int .i64 n0]) ∧ w'.ownsMap Tryd.prog 9 prE pb n' D' ∧ Kept X w' (fun j => j = pb)) := hdo
  clear hb0 hb1 hc hz e0 e1 e2 e3 e4 h hdo
  go_enter Tryd.func8, Tryd.ntmps8
  go_wp2_with (fail)
  refine wp_region_held_drew (S := (fun w' => Below W.heap.size W w')) (by kernel_rfl) (Below.refl _ W).drew (fun hHeld => ?_)
  simp only [Act.put, List.size_toArray, List.length_cons, List.length_nil, Nat.zero_add]
  refine wpAnyH_take (i := 0) (v := .pointer (some ⟨mb, 0, none⟩)) rfl (by kernel_rfl) (by kernel_rfl) (by kernel_rfl) (fun _ _ _ h => h) (Or.inl ⟨by rfl, fun w' hS => by go_simp⟩) hHeld ?_
  simp only [Act.put, List.getElem_toArray, List.getElem_cons_zero, List.getElem_cons_succ, List.setIfInBounds_toArray, List.set_cons_zero, List.set_cons_succ]
  refine wpAnyH_take (i := 1) (v := .pointer (some ⟨w.heap.size, 0, none⟩)) rfl (by kernel_rfl) (by kernel_rfl) (by kernel_rfl) (fun _ _ _ h => h) (Or.inl ⟨by rfl, fun w' hS => by go_simp⟩) hHeld ?_
  simp only [Act.put, List.getElem_toArray, List.getElem_cons_zero, List.getElem_cons_succ, List.setIfInBounds_toArray, List.set_cons_zero, List.set_cons_succ]
  refine wpAnyH_take (i := 2) (v := .int .i64 (q : Int)) rfl (by kernel_rfl) (by kernel_rfl) (by kernel_rfl) (fun _ _ _ h => h) (Or.inl ⟨by rfl, fun w' hS => by (have s0 := below_at hS y0.out; go_simp)⟩) hHeld ?_
  simp only [Act.put, List.getElem_toArray, List.getElem_cons_zero, List.getElem_cons_succ, List.setIfInBounds_toArray, List.set_cons_zero, List.set_cons_succ]
  refine wpAnyH_take (i := 3) (v := .pointer (some ⟨mb, 0, none⟩)) rfl (by kernel_rfl) (by kernel_rfl) (by kernel_rfl) (fun _ _ _ h => h) (Or.inl ⟨by rfl, fun w' hS => by go_simp⟩) hHeld ?_
  simp only [Act.put, List.getElem_toArray, List.getElem_cons_zero, List.getElem_cons_succ, List.setIfInBounds_toArray, List.set_cons_zero, List.set_cons_succ]
  refine wpAnyH_take (i := 4) (v := .pointer (some ⟨mb, 3, none⟩)) rfl (by kernel_rfl) (by kernel_rfl) (by kernel_rfl) (fun _ _ _ h => h) (Or.inl ⟨by rfl, fun w' hS => by go_simp⟩) hHeld ?_
  simp only [Act.put, List.getElem_toArray, List.getElem_cons_zero, List.getElem_cons_succ, List.setIfInBounds_toArray, List.set_cons_zero, List.set_cons_succ]
  refine wpAnyH_take (i := 5) (v := .pointer (some ⟨mb, 3 + q * 5, none⟩)) rfl (by kernel_rfl) (by kernel_rfl) (by kernel_rfl) (fun _ _ _ h => h) (Or.inl ⟨by rfl, fun w' hS => by (go_simp)⟩) hHeld ?_
  simp only [Act.put, List.getElem_toArray, List.getElem_cons_zero, List.getElem_cons_succ, List.setIfInBounds_toArray, List.set_cons_zero, List.set_cons_succ]
  refine wpAnyH_take (i := 6) (v := .pointer (some ⟨mb, 3 + q * 5, none⟩)) rfl (by kernel_rfl) (by kernel_rfl) (by kernel_rfl) (fun _ _ _ h => h) (Or.inl ⟨by rfl, fun w' hS => by go_simp⟩) hHeld ?_
  simp only [Act.put, List.getElem_toArray, List.getElem_cons_zero, List.getElem_cons_succ, List.setIfInBounds_toArray, List.set_cons_zero, List.set_cons_succ]
  refine wpAnyH_take (i := 7) (v := .int .i64 a) rfl (by kernel_rfl) (by kernel_rfl) (by kernel_rfl) (fun _ _ _ h => h) (Or.inl ⟨by rfl, fun w' hS => by (have s0 := below_at hS ys.out; go_simp)⟩) hHeld ?_
  simp only [Act.put, List.getElem_toArray, List.getElem_cons_zero, List.getElem_cons_succ, List.setIfInBounds_toArray, List.set_cons_zero, List.set_cons_succ]
  refine wpAnyH_take (i := 8) (v := .pointer (some ⟨w.heap.size, 1, none⟩)) rfl (by kernel_rfl) (by kernel_rfl) (by kernel_rfl) (fun _ _ _ h => h) (Or.inl ⟨by rfl, fun w' hS => by go_simp⟩) hHeld ?_
  simp only [Act.put, List.getElem_toArray, List.getElem_cons_zero, List.getElem_cons_succ, List.setIfInBounds_toArray, List.set_cons_zero, List.set_cons_succ]
  refine wpAnyH_take (i := 9) (v := .int .i64 inc) rfl (by kernel_rfl) (by kernel_rfl) (by kernel_rfl) (fun _ _ _ h => h) (Or.inl ⟨by rfl, fun w' hS => by (have s0 := below_at hS y1.out; go_simp)⟩) hHeld ?_
  simp only [Act.put, List.getElem_toArray, List.getElem_cons_zero, List.getElem_cons_succ, List.setIfInBounds_toArray, List.set_cons_zero, List.set_cons_succ]
  refine wpAnyH_take (i := 10) (v := .bool (decide (a < inc))) rfl (by kernel_rfl) (by kernel_rfl) (by kernel_rfl) (fun _ _ _ h => h) (Or.inl ⟨by rfl, fun w' hS => by go_simp⟩) hHeld ?_
  simp only [Act.put, List.getElem_toArray, List.getElem_cons_zero, List.getElem_cons_succ, List.setIfInBounds_toArray, List.set_cons_zero, List.set_cons_succ]
  refine wpAnyH_done (by kernel_rfl) ?_ _
  clear hHeld
  go_upto_if 16 with (fail)
  go_cut [] (fun wx => Hid (Below W.heap.size W wx))
  case first =>
    have HRl : Hid (∀ X, Below W.heap.size W X → Calls Tryd.prog 13 #[.pointer (some ⟨mb, 0, none⟩), .int .i64 (q : Int)] X fun e w' => e = .returned (.int .i64 0) ∧ Below X.heap.size X w') := fun X hX => by
      have hM := HMW.out.still hX
      have h8 := hM.blk.cell 1 (by omega)
      rw [hM.f1] at h8
      exact release_nil h8 hM.lm
    have HB0 : Hid (Below W.heap.size W W.drew) := (Below.refl _ W).drew
    have z0 := y0.out
    by_cases hai : a < inc
    · go_wp2_with (first
        | (go_at_call 13; refine (HRl.out _ HB0.out).mono ?_; rintro e wx ⟨rfl, hbx⟩; replace HB0 : Hid (Below W.heap.size W wx) := bstep HB0.out hbx; clear hbx)
        | fail)
      go_meet
      exact HB0.out
    · go_wp2_with (fail)
      go_meet
      exact HB0.out
  case rest =>
  have HP0 : Hid (Pf w mb pb lb n f D #[.int .i64 (q : Int), .int .i64 inc, .int .i64 req, .int .i64 3, .string lead, .string v, .string old] #[.int .i64 0, .string ⟨#[]⟩, .int .i64 0] wc) := ⟨bstep HbW.out hcut.out |> fun hb => Kept.ofBelow hb _, (hcut.out.block _ (lt_heap HcW.out)).trans HcW.out, (hcut.out.block _ (lt_heap HzW.out)).trans HzW.out, HMW.out.still hcut.out⟩
  clear HMW HcW HzW HbW y0 y1 ys
  go_upto_region 3 with (fail)
  go_cut [5] (fun p wx => ∃ pk : Nat, p = .pointer (some ⟨pk, 0, none⟩) ∧ Hid (w.heap.size + 2 ≤ pk) ∧ Hid (Pf w mb pb lb n' f D' #[.int .i64 (q : Int), .int .i64 inc, .int .i64 req, .int .i64 3, .string lead, .string v, .string old] #[.int .i64 0, .string ⟨#[]⟩, .int .i64 0] wx) ∧ Hid (wx.heap[pk]? = some (.cells #[.int .i64 c0, .string s0, .int .i64 n0] 27 (0, 0))))
  case first =>
    have HS0 : Hid (Pf w mb pb lb n f D #[.int .i64 (q : Int), .int .i64 inc, .int .i64 req, .int .i64 3, .string lead, .string v, .string old] #[.int .i64 0, .string ⟨#[]⟩, .int .i64 0] wc.drew) := HP0.out.still (Below.refl _ wc).drew
    have hbig : w.heap.size + 2 ≤ wc.heap.size := by rw [← hs1]; exact hcut.out.size
    clear HP0 hcut
    refine wp_region_held_drew (S := (fun w' => w'.heap[w.heap.size]? = some (.cells #[.int .i64 (q : Int), .int .i64 inc, .int .i64 req, .int .i64 3, .string lead, .string v, .string old] 30 (0, 0)))) (by kernel_rfl) HS0.out.cm (fun hHeld => ?_)
    simp only [Act.put, List.size_toArray, List.length_cons, List.length_nil, Nat.zero_add]
    refine wpAnyH_take (i := 1) (v := .pointer (some ⟨w.heap.size, 3, none⟩)) rfl (by kernel_rfl) (by kernel_rfl) (by kernel_rfl) (fun _ _ _ h => h) (Or.inl ⟨by rfl, fun w' hS => by go_simp⟩) hHeld ?_
    simp only [Act.put, List.getElem_toArray, List.getElem_cons_zero, List.getElem_cons_succ, List.setIfInBounds_toArray, List.set_cons_zero, List.set_cons_succ]
    refine wpAnyH_take (i := 2) (v := .int .i64 3) rfl (by kernel_rfl) (by kernel_rfl) (by kernel_rfl) (fun _ _ _ h => h) (Or.inl ⟨by rfl, fun w' hS => by (have s0 := blk_cell hS 3; simp only [List.getElem?_toArray, List.getElem?_cons_succ, List.getElem?_cons_zero] at s0; go_simp)⟩) hHeld ?_
    simp only [Act.put, List.getElem_toArray, List.getElem_cons_zero, List.getElem_cons_succ, List.setIfInBounds_toArray, List.set_cons_zero, List.set_cons_succ]
    refine wpAnyH_take (i := 5) (v := .pointer (some ⟨mb, 0, none⟩)) rfl (by kernel_rfl) (by kernel_rfl) (by kernel_rfl) (fun _ _ _ h => h) (Or.inl ⟨by rfl, fun w' hS => by go_simp⟩) hHeld ?_
    simp only [Act.put, List.getElem_toArray, List.getElem_cons_zero, List.getElem_cons_succ, List.setIfInBounds_toArray, List.set_cons_zero, List.set_cons_succ]
    refine wpAnyH_take (i := 6) (v := .agg #[.int .i64 (q : Int), .int .i64 inc, .int .i64 req, .int .i64 3, .string lead, .string v, .string old]) rfl (by kernel_rfl) (by kernel_rfl) (by kernel_rfl) (fun _ _ _ h => h) (yieldsIf_load_mid rfl 30 (.tmp 3) rfl w.heap.size 0 rfl [.int .i64 (q : Int), .int .i64 inc, .int .i64 req, .int .i64 3, .string lead, .string v, .string old] _ (fun w' hS => blk_range hS) Tryd.underlying30 rfl cmd_info) hHeld ?_
    simp only [Act.put, List.getElem_toArray, List.getElem_cons_zero, List.getElem_cons_succ, List.setIfInBounds_toArray, List.set_cons_zero, List.set_cons_succ]
    refine wpAnyH_ready (rs := [0, 8]) (by kernel_rfl) (by simp) ?_
    refine AllReadyH.cons rfl (fun K hK => ?_) (AllReadyH.cons rfl (fun K hK => ?_) AllReadyH.nil)
    · go_simp
      refine (operations_any).mono ?_
      rintro e X1 ⟨rfl, hb⟩
      have HX1 : Hid (Pf w mb pb lb n f D #[.int .i64 (q : Int), .int .i64 inc, .int .i64 req, .int .i64 3, .string lead, .string v, .string old] #[.int .i64 0, .string ⟨#[]⟩, .int .i64 0] X1) := HS0.out.still hb
      clear hb
      refine hK.out _ _ HX1.out.cm (fun hHeld => ?_)
      clear hK K
      refine wpAnyH_take (i := 3) (v := .agg #[fv 15, fv 16, fv 16, fv 20]) rfl (by kernel_rfl) (by kernel_rfl) (by kernel_rfl) (fun _ _ _ h => h) (Or.inl ⟨by rfl, fun w' hS => by (have s0 := ops_idx3 w'; go_simp)⟩) hHeld ?_
      simp only [Act.put, List.getElem_toArray, List.getElem_cons_zero, List.getElem_cons_succ, List.setIfInBounds_toArray, List.set_cons_zero, List.set_cons_succ]
      refine wpAnyH_take (i := 4) (v := fv 20) rfl (by kernel_rfl) (by kernel_rfl) (by kernel_rfl) (fun _ _ _ h => h) (Or.inl ⟨by rfl, fun w' hS => by (have s0 := ops_fld3 w'; go_simp)⟩) hHeld ?_
      simp only [Act.put, List.getElem_toArray, List.getElem_cons_zero, List.getElem_cons_succ, List.setIfInBounds_toArray, List.set_cons_zero, List.set_cons_succ]
      refine wpAnyH_ready (rs := [7, 8]) (by kernel_rfl) (by simp) ?_
      refine AllReadyH.cons rfl (fun K hK => ?_) (AllReadyH.cons rfl (fun K hK => ?_) AllReadyH.nil)
      · (try unfold fv)
        go_simp
        refine (HDo.out _ HX1.out.c0 HX1.out.ms.pm).mono ?_
        rintro e X2 ⟨rfl, hm, hk⟩
        have HX2 : Hid (Pf w mb pb lb n' f D' #[.int .i64 (q : Int), .int .i64 inc, .int .i64 req, .int .i64 3, .string lead, .string v, .string old] #[.int .i64 0, .string ⟨#[]⟩, .int .i64 0] X2) := HX1.out.upd Hlt.out.2.1 hk hm
        clear hm hk
        refine hK.out _ _ HX2.out.cm (fun hHeld => ?_)
        clear hK K
        refine wpAnyH_ready (rs := [8]) (by kernel_rfl) (by simp) ?_
        refine AllReadyH.cons rfl (fun K hK => ?_) AllReadyH.nil
        obtain ⟨X3, hX3⟩ : ∃ X, X2.alloc (.cells #[.int .i64 0, .string ⟨#[]⟩, .int .i64 0] 27) = X := ⟨_, rfl⟩
        have hb : Below X2.heap.size X2 X3 := by rw [← hX3]; exact balloc (Below.refl _ _)
        have HX3 : Hid (Pf w mb pb lb n' f D' #[.int .i64 (q : Int), .int .i64 inc, .int .i64 req, .int .i64 3, .string lead, .string v, .string old] #[.int .i64 0, .string ⟨#[]⟩, .int .i64 0] X3) := HX2.out.still hb
        have HRX3 : Hid (X3.heap[X2.heap.size]? = some (.cells #[.int .i64 0, .string ⟨#[]⟩, .int .i64 0] 27 (0, 0))) := by rw [← hX3]; exact heap_alloc_new _ _
        go_simp
        (try rw [hX3])
        clear hb hX3
        refine hK.out _ _ HX3.out.cm (fun hHeld => ?_)
        clear hK K
        have hbg : w.heap.size + 2 ≤ X2.heap.size := HX2.out.big
        refine wpAnyH_ready (rs := [9]) (by kernel_rfl) (by simp) ?_
        refine AllReadyH.cons rfl (fun K hK => ?_) AllReadyH.nil
        rw [if_pos (by rfl)]
        refine wp_store_mid 27 (.tmp 5) (.tmp 28) rfl (X2.heap.size) 0 #[.int .i64 c0, .string s0, .int .i64 n0] rfl rfl (blk_there HRX3.out rfl) res_info (all_oneCell_toArray (res_one _ _ _)) ?_
        obtain ⟨V, hV⟩ : ∃ X, X3.setCells (X2.heap.size) 0 [.int .i64 c0, .string s0, .int .i64 n0] = X := ⟨_, rfl⟩
        have HV : Hid (Pf w mb pb lb n' f D' #[.int .i64 (q : Int), .int .i64 inc, .int .i64 req, .int .i64 3, .string lead, .string v, .string old] #[.int .i64 0, .string ⟨#[]⟩, .int .i64 0] V) := by rw [← hV]; exact HX3.out.sets Hlt.out (by omega) _
        have HVr : Hid (V.heap[X2.heap.size]? = some (.cells #[.int .i64 c0, .string s0, .int .i64 n0] 27 (0, 0))) := by rw [← hV]; exact sets_whole HRX3.out rfl
        rw [show X3.setCells (X2.heap.size) 0 (#[.int .i64 c0, .string s0, .int .i64 n0]).toList = V from hV]
        refine hK.out _ _ HV.out.cm (fun hHeld => ?_)
        clear hK K
        refine wpAnyH_done (by kernel_rfl) ?_ _
        clear hHeld
        go_wp2_with (fail)
        go_meet
        exact ⟨X2.heap.size, rfl, by show _ ≤ _; omega, HV.out, HVr.out⟩
      · obtain ⟨X3, hX3⟩ : ∃ X, X1.alloc (.cells #[.int .i64 0, .string ⟨#[]⟩, .int .i64 0] 27) = X := ⟨_, rfl⟩
        have hb : Below X1.heap.size X1 X3 := by rw [← hX3]; exact balloc (Below.refl _ _)
        have HX3 : Hid (Pf w mb pb lb n f D #[.int .i64 (q : Int), .int .i64 inc, .int .i64 req, .int .i64 3, .string lead, .string v, .string old] #[.int .i64 0, .string ⟨#[]⟩, .int .i64 0] X3) := HX1.out.still hb
        have HRX3 : Hid (X3.heap[X1.heap.size]? = some (.cells #[.int .i64 0, .string ⟨#[]⟩, .int .i64 0] 27 (0, 0))) := by rw [← hX3]; exact heap_alloc_new _ _
        go_simp
        (try rw [hX3])
        clear hb hX3
        refine hK.out _ _ HX3.out.cm (fun hHeld => ?_)
        clear hK K
        have hbg : w.heap.size + 2 ≤ X1.heap.size := HX1.out.big
        refine wpAnyH_ready (rs := [7]) (by kernel_rfl) (by simp) ?_
        refine AllReadyH.cons rfl (fun K hK => ?_) AllReadyH.nil
        (try unfold fv)
        go_simp
        refine (HDo.out _ HX3.out.c0 HX3.out.ms.pm).mono ?_
        rintro e X2 ⟨rfl, hm, hk⟩
        have HX2 : Hid (Pf w mb pb lb n' f D' #[.int .i64 (q : Int), .int .i64 inc, .int .i64 req, .int .i64 3, .string lead, .string v, .string old] #[.int .i64 0, .string ⟨#[]⟩, .int .i64 0] X2) := HX3.out.upd Hlt.out.2.1 hk hm
        have HRX2 : Hid (X2.heap[X1.heap.size]? = some (.cells #[.int .i64 0, .string ⟨#[]⟩, .int .i64 0] 27 (0, 0))) := hk.obj HRX3.out (by have := Hlt.out.2.1; omega)
        clear hm hk
        refine hK.out _ _ HX2.out.cm (fun hHeld => ?_)
        clear hK K
        refine wpAnyH_ready (rs := [9]) (by kernel_rfl) (by simp) ?_
        refine AllReadyH.cons rfl (fun K hK => ?_) AllReadyH.nil
        rw [if_pos (by rfl)]
        refine wp_store_mid 27 (.tmp 5) (.tmp 28) rfl (X1.heap.size) 0 #[.int .i64 c0, .string s0, .int .i64 n0] rfl rfl (blk_there HRX2.out rfl) res_info (all_oneCell_toArray (res_one _ _ _)) ?_
        obtain ⟨V, hV⟩ : ∃ X, X2.setCells (X1.heap.size) 0 [.int .i64 c0, .string s0, .int .i64 n0] = X := ⟨_, rfl⟩
        have HV : Hid (Pf w mb pb lb n' f D' #[.int .i64 (q : Int), .int .i64 inc, .int .i64 req, .int .i64 3, .string lead, .string v, .string old] #[.int .i64 0, .string ⟨#[]⟩, .int .i64 0] V) := by rw [← hV]; exact HX2.out.sets Hlt.out (by omega) _
        have HVr : Hid (V.heap[X1.heap.size]? = some (.cells #[.int .i64 c0, .string s0, .int .i64 n0] 27 (0, 0))) := by rw [← hV]; exact sets_whole HRX2.out rfl
        rw [show X2.setCells (X1.heap.size) 0 (#[.int .i64 c0, .string s0, .int .i64 n0]).toList = V from hV]
        refine hK.out _ _ HV.out.cm (fun hHeld => ?_)
        clear hK K
        refine wpAnyH_done (by kernel_rfl) ?_ _
        clear hHeld
        go_wp2_with (fail)
        go_meet
        exact ⟨X1.heap.size, rfl, by show _ ≤ _; omega, HV.out, HVr.out⟩
    · obtain ⟨X3, hX3⟩ : ∃ X, wc.drew.alloc (.cells #[.int .i64 0, .string ⟨#[]⟩, .int .i64 0] 27) = X := ⟨_, rfl⟩
      have hb : Below wc.drew.heap.size wc.drew X3 := by rw [← hX3]; exact balloc (Below.refl _ _)
      have HX3 : Hid (Pf w mb pb lb n f D #[.int .i64 (q : Int), .int .i64 inc, .int .i64 req, .int .i64 3, .string lead, .string v, .string old] #[.int .i64 0, .string ⟨#[]⟩, .int .i64 0] X3) := HS0.out.still hb
      have HRX3 : Hid (X3.heap[wc.heap.size]? = some (.cells #[.int .i64 0, .string ⟨#[]⟩, .int .i64 0] 27 (0, 0))) := by rw [← hX3]; exact heap_alloc_new _ _
      go_simp
      (try rw [hX3])
      clear hb hX3
      refine hK.out _ _ HX3.out.cm (fun hHeld => ?_)
      clear hK K
      refine wpAnyH_ready (rs := [0]) (by kernel_rfl) (by simp) ?_
      refine AllReadyH.cons rfl (fun K hK => ?_) AllReadyH.nil
      go_simp
      refine (operations_any).mono ?_
      rintro e X1 ⟨rfl, hb⟩
      have HX1 : Hid (Pf w mb pb lb n f D #[.int .i64 (q : Int), .int .i64 inc, .int .i64 req, .int .i64 3, .string lead, .string v, .string old] #[.int .i64 0, .string ⟨#[]⟩, .int .i64 0] X1) := HX3.out.still hb
      have HRX1 : Hid (X1.heap[wc.heap.size]? = some (.cells #[.int .i64 0, .string ⟨#[]⟩, .int .i64 0] 27 (0, 0))) := (hb.block _ (lt_heap HRX3.out)).trans HRX3.out
      clear hb
      refine hK.out _ _ HX1.out.cm (fun hHeld => ?_)
      clear hK K
      refine wpAnyH_take (i := 3) (v := .agg #[fv 15, fv 16, fv 16, fv 20]) rfl (by kernel_rfl) (by kernel_rfl) (by kernel_rfl) (fun _ _ _ h => h) (Or.inl ⟨by rfl, fun w' hS => by (have s0 := ops_idx3 w'; go_simp)⟩) hHeld ?_
      simp only [Act.put, List.getElem_toArray, List.getElem_cons_zero, List.getElem_cons_succ, List.setIfInBounds_toArray, List.set_cons_zero, List.set_cons_succ]
      refine wpAnyH_take (i := 4) (v := fv 20) rfl (by kernel_rfl) (by kernel_rfl) (by kernel_rfl) (fun _ _ _ h => h) (Or.inl ⟨by rfl, fun w' hS => by (have s0 := ops_fld3 w'; go_simp)⟩) hHeld ?_
      simp only [Act.put, List.getElem_toArray, List.getElem_cons_zero, List.getElem_cons_succ, List.setIfInBounds_toArray, List.set_cons_zero, List.set_cons_succ]
      refine wpAnyH_ready (rs := [7]) (by kernel_rfl) (by simp) ?_
      refine AllReadyH.cons rfl (fun K hK => ?_) AllReadyH.nil
      (try unfold fv)
      go_simp
      refine (HDo.out _ HX1.out.c0 HX1.out.ms.pm).mono ?_
      rintro e X2 ⟨rfl, hm, hk⟩
      have HX2 : Hid (Pf w mb pb lb n' f D' #[.int .i64 (q : Int), .int .i64 inc, .int .i64 req, .int .i64 3, .string lead, .string v, .string old] #[.int .i64 0, .string ⟨#[]⟩, .int .i64 0] X2) := HX1.out.upd Hlt.out.2.1 hk hm
      have HRX2 : Hid (X2.heap[wc.heap.size]? = some (.cells #[.int .i64 0, .string ⟨#[]⟩, .int .i64 0] 27 (0, 0))) := hk.obj HRX1.out (by have := Hlt.out.2.1; omega)
      clear hm hk
      refine hK.out _ _ HX2.out.cm (fun hHeld => ?_)
      clear hK K
      refine wpAnyH_ready (rs := [9]) (by kernel_rfl) (by simp) ?_
      refine AllReadyH.cons rfl (fun K hK => ?_) AllReadyH.nil
      rw [if_pos (by rfl)]
      refine wp_store_mid 27 (.tmp 5) (.tmp 28) rfl (wc.heap.size) 0 #[.int .i64 c0, .string s0, .int .i64 n0] rfl rfl (blk_there HRX2.out rfl) res_info (all_oneCell_toArray (res_one _ _ _)) ?_
      obtain ⟨V, hV⟩ : ∃ X, X2.setCells (wc.heap.size) 0 [.int .i64 c0, .string s0, .int .i64 n0] = X := ⟨_, rfl⟩
      have HV : Hid (Pf w mb pb lb n' f D' #[.int .i64 (q : Int), .int .i64 inc, .int .i64 req, .int .i64 3, .string lead, .string v, .string old] #[.int .i64 0, .string ⟨#[]⟩, .int .i64 0] V) := by rw [← hV]; exact HX2.out.sets Hlt.out (by omega) _
      have HVr : Hid (V.heap[wc.heap.size]? = some (.cells #[.int .i64 c0, .string s0, .int .i64 n0] 27 (0, 0))) := by rw [← hV]; exact sets_whole HRX2.out rfl
      rw [show X2.setCells (wc.heap.size) 0 (#[.int .i64 c0, .string s0, .int .i64 n0]).toList = V from hV]
      refine hK.out _ _ HV.out.cm (fun hHeld => ?_)
      clear hK K
      refine wpAnyH_done (by kernel_rfl) ?_ _
      clear hHeld
      go_wp2_with (fail)
      go_meet
      exact ⟨wc.heap.size, rfl, by show _ ≤ _; omega, HV.out, HVr.out⟩
  case rest =>
  obtain ⟨pk, rfl, Hpk, HQ, HRk⟩ := hcut
  go_upto_region 4 with (fail)
  refine wp_region_held_drew (S := (fun w' => w'.heap[w.heap.size]? = some (.cells #[.int .i64 (q : Int), .int .i64 inc, .int .i64 req, .int .i64 3, .string lead, .string v, .string old] 30 (0, 0)) ∧ w'.heap[pk]? = some (.cells #[.int .i64 c0, .string s0, .int .i64 n0] 27 (0, 0)))) (by kernel_rfl) ⟨HQ.out.cm, HRk.out⟩ (fun hHeld => ?_)
  simp only [Act.put, List.size_toArray, List.length_cons, List.length_nil, Nat.zero_add]
  refine wpAnyH_take (i := 0) (v := .pointer (some ⟨mb, 0, none⟩)) rfl (by kernel_rfl) (by kernel_rfl) (by kernel_rfl) (fun _ _ _ h => h) (Or.inl ⟨by rfl, fun w' hS => by go_simp⟩) hHeld ?_
  simp only [Act.put, List.getElem_toArray, List.getElem_cons_zero, List.getElem_cons_succ, List.setIfInBounds_toArray, List.set_cons_zero, List.set_cons_succ]
  refine wpAnyH_take (i := 1) (v := .pointer (some ⟨w.heap.size, 0, none⟩)) rfl (by kernel_rfl) (by kernel_rfl) (by kernel_rfl) (fun _ _ _ h => h) (Or.inl ⟨by rfl, fun w' hS => by go_simp⟩) hHeld ?_
  simp only [Act.put, List.getElem_toArray, List.getElem_cons_zero, List.getElem_cons_succ, List.setIfInBounds_toArray, List.set_cons_zero, List.set_cons_succ]
  refine wpAnyH_take (i := 2) (v := .int .i64 (q : Int)) rfl (by kernel_rfl) (by kernel_rfl) (by kernel_rfl) (fun _ _ _ h => h) (Or.inl ⟨by rfl, fun w' hS => by (have s0 := blk_cell hS.1 0; simp only [List.getElem?_toArray, List.getElem?_cons_succ, List.getElem?_cons_zero] at s0; go_simp)⟩) hHeld ?_
  simp only [Act.put, List.getElem_toArray, List.getElem_cons_zero, List.getElem_cons_succ, List.setIfInBounds_toArray, List.set_cons_zero, List.set_cons_succ]
  refine wpAnyH_take (i := 3) (v := .pointer (some ⟨w.heap.size, 1, none⟩)) rfl (by kernel_rfl) (by kernel_rfl) (by kernel_rfl) (fun _ _ _ h => h) (Or.inl ⟨by rfl, fun w' hS => by go_simp⟩) hHeld ?_
  simp only [Act.put, List.getElem_toArray, List.getElem_cons_zero, List.getElem_cons_succ, List.setIfInBounds_toArray, List.set_cons_zero, List.set_cons_succ]
  refine wpAnyH_take (i := 4) (v := .int .i64 inc) rfl (by kernel_rfl) (by kernel_rfl) (by kernel_rfl) (fun _ _ _ h => h) (Or.inl ⟨by rfl, fun w' hS => by (have s0 := blk_cell hS.1 1; simp only [List.getElem?_toArray, List.getElem?_cons_succ, List.getElem?_cons_zero] at s0; go_simp)⟩) hHeld ?_
  simp only [Act.put, List.getElem_toArray, List.getElem_cons_zero, List.getElem_cons_succ, List.setIfInBounds_toArray, List.set_cons_zero, List.set_cons_succ]
  refine wpAnyH_take (i := 5) (v := .pointer (some ⟨w.heap.size, 2, none⟩)) rfl (by kernel_rfl) (by kernel_rfl) (by kernel_rfl) (fun _ _ _ h => h) (Or.inl ⟨by rfl, fun w' hS => by go_simp⟩) hHeld ?_
  simp only [Act.put, List.getElem_toArray, List.getElem_cons_zero, List.getElem_cons_succ, List.setIfInBounds_toArray, List.set_cons_zero, List.set_cons_succ]
  refine wpAnyH_take (i := 6) (v := .int .i64 req) rfl (by kernel_rfl) (by kernel_rfl) (by kernel_rfl) (fun _ _ _ h => h) (Or.inl ⟨by rfl, fun w' hS => by (have s0 := blk_cell hS.1 2; simp only [List.getElem?_toArray, List.getElem?_cons_succ, List.getElem?_cons_zero] at s0; go_simp)⟩) hHeld ?_
  simp only [Act.put, List.getElem_toArray, List.getElem_cons_zero, List.getElem_cons_succ, List.setIfInBounds_toArray, List.set_cons_zero, List.set_cons_succ]
  refine wpAnyH_take (i := 7) (v := .agg #[.int .i64 c0, .string s0, .int .i64 n0]) rfl (by kernel_rfl) (by kernel_rfl) (by kernel_rfl) (fun _ _ _ h => h) (yieldsIf_load_mid rfl 27 (.tmp 5) rfl pk 0 rfl [.int .i64 c0, .string s0, .int .i64 n0] _ (fun w' hS => blk_range hS.2) Tryd.underlying27 rfl res_info) hHeld ?_
  simp only [Act.put, List.getElem_toArray, List.getElem_cons_zero, List.getElem_cons_succ, List.setIfInBounds_toArray, List.set_cons_zero, List.set_cons_succ]
  refine wpAnyH_take (i := 8) (v := .agg #[.int .i64 inc, .int .i64 req, .int .i64 c0, .string s0, .int .i64 n0]) rfl (by kernel_rfl) (by kernel_rfl) (by kernel_rfl) (fun _ _ _ h => h) (Or.inl ⟨by rfl, fun w' hS => by go_simp⟩) hHeld ?_
  simp only [Act.put, List.getElem_toArray, List.getElem_cons_zero, List.getElem_cons_succ, List.setIfInBounds_toArray, List.set_cons_zero, List.set_cons_succ]
  refine wpAnyH_take (i := 9) (v := .pointer (some ⟨mb, 0, none⟩)) rfl (by kernel_rfl) (by kernel_rfl) (by kernel_rfl) (fun _ _ _ h => h) (Or.inl ⟨by rfl, fun w' hS => by go_simp⟩) hHeld ?_
  simp only [Act.put, List.getElem_toArray, List.getElem_cons_zero, List.getElem_cons_succ, List.setIfInBounds_toArray, List.set_cons_zero, List.set_cons_succ]
  refine wpAnyH_take (i := 10) (v := .pointer (some ⟨mb, 3, none⟩)) rfl (by kernel_rfl) (by kernel_rfl) (by kernel_rfl) (fun _ _ _ h => h) (Or.inl ⟨by rfl, fun w' hS => by go_simp⟩) hHeld ?_
  simp only [Act.put, List.getElem_toArray, List.getElem_cons_zero, List.getElem_cons_succ, List.setIfInBounds_toArray, List.set_cons_zero, List.set_cons_succ]
  refine wpAnyH_take (i := 11) (v := .pointer (some ⟨mb, 3 + q * 5, none⟩)) rfl (by kernel_rfl) (by kernel_rfl) (by kernel_rfl) (fun _ _ _ h => h) (Or.inl ⟨by rfl, fun w' hS => by go_simp⟩) hHeld ?_
  simp only [Act.put, List.getElem_toArray, List.getElem_cons_zero, List.getElem_cons_succ, List.setIfInBounds_toArray, List.set_cons_zero, List.set_cons_succ]
  refine wpAnyH_ready (rs := [12]) (by kernel_rfl) (by simp) ?_
  refine AllReadyH.cons rfl (fun K hK => ?_) AllReadyH.nil
  rw [if_pos (by rfl)]
  refine wp_store_mid 37 (.tmp 40) (.tmp 37) rfl mb (3 + q * 5) #[.int .i64 inc, .int .i64 req, .int .i64 c0, .string s0, .int .i64 n0] rfl rfl (HQ.out.ms.blk.there (3 + q * 5) 5 (by omega)) sess_info (all_oneCell_toArray (sess_one _ _ _ _ _)) ?_
  obtain ⟨V, hV⟩ : ∃ X, wc.drew.setCells mb (3 + q * 5) [.int .i64 inc, .int .i64 req, .int .i64 c0, .string s0, .int .i64 n0] = X := ⟨_, rfl⟩
  have hk : Kept wc V (fun j => j = mb) := by rw [← hV]; exact (Kept.ofBelow (Below.refl _ wc).drew _).trans (ksets (P := fun j => j = mb) rfl _ _ wc.drew)
  have HMV : Hid (Ms V mb pb lb n' (upS f q [.int .i64 inc, .int .i64 req, .int .i64 c0, .string s0, .int .i64 n0]) D') := by rw [← hV]; exact Ms.sess (w := wc.drew) (HQ.out.ms.still (Below.refl _ wc).drew) hq _ _ _ _ _
  have HcV : Hid (V.heap[w.heap.size]? = some (.cells #[.int .i64 (q : Int), .int .i64 inc, .int .i64 req, .int .i64 3, .string lead, .string v, .string old] 30 (0, 0))) := hk.obj HQ.out.cm (by have := Hlt.out.1; omega)
  have HzV : Hid (V.heap[w.heap.size + 1]? = some (.cells #[.int .i64 0, .string ⟨#[]⟩, .int .i64 0] 27 (0, 0))) := hk.obj HQ.out.zr (by have := Hlt.out.1; omega)
  have HrV : Hid (V.heap[pk]? = some (.cells #[.int .i64 c0, .string s0, .int .i64 n0] 27 (0, 0))) := hk.obj HRk.out (by have := Hlt.out.1; have := Hpk.out; omega)
  have HkV : Hid (Kept w V (fun j => j = mb ∨ j = pb)) := (HQ.out.kp.mono (fun j _ e => Or.inr e)).step hk (fun j hj => .inl (.inl hj))
  rw [show wc.drew.setCells mb (3 + q * 5) (#[.int .i64 inc, .int .i64 req, .int .i64 c0, .string s0, .int .i64 n0] : Array Value).toList = V from hV]
  refine hK.out _ _ ⟨HcV.out, HrV.out⟩ (fun hHeld => ?_)
  clear hK K hk hV
  refine wpAnyH_done (by kernel_rfl) ?_ _
  clear hHeld
  obtain ⟨U, hU⟩ : ∃ X, V.setCells (w.heap.size + 1) 0 [.int .i64 c0, .string s0, .int .i64 n0] = X := ⟨_, rfl⟩
  have hku : Kept V U (fun j => j = w.heap.size + 1) := by rw [← hU]; exact ksets (P := fun j => j = w.heap.size + 1) rfl _ _ _
  have HUr : Hid (U.heap[w.heap.size + 1]? = some (.cells #[.int .i64 c0, .string s0, .int .i64 n0] 27 (0, 0))) := by rw [← hU]; exact sets_whole HzV.out rfl
  have HTh : Hid (V.there (w.heap.size + 1) 0 3) := blk_there HzV.out rfl
  have HRg : Hid (V.rangeAt pk 0 [.int .i64 c0, .string s0, .int .i64 n0]) := blk_range HrV.out
  have HMU : Hid (Ms U mb pb lb n' (upS f q [.int .i64 inc, .int .i64 req, .int .i64 c0, .string s0, .int .i64 n0]) D') := HMV.out.keep hku (by have := Hlt.out; omega) (by have := Hlt.out; omega) (by have := Hlt.out; omega)
  have HkU : Hid (Kept w U (fun j => j = mb ∨ j = pb)) := HkV.out.step hku (fun j hj => .inr (by omega))
  clear hku HMV HkV
  go_wp2_with (first
    | (refine load_mid 27 (.tmp 5) HRg.out _ Tryd.underlying27 rfl res_info rfl rfl rfl ?_)
    | (refine store_rowL (L := [.int .i64 c0, .string s0, .int .i64 n0]) 27 (.tmp 4) (.tmp 41) HTh.out res_info (res_one _ _ _) rfl rfl rfl rfl ?_; rw [hU])
    | fail)
  (try simp only [Exit.inBlock, Exit.then])
  exact bodyPost_ret (results_cell (b := w.heap.size + 1) Tryd.results8 rfl (blk_range (L := [.int .i64 c0, .string s0, .int .i64 n0]) HUr.out) _ Tryd.underlying27 rfl res_info) rfl ⟨rfl, HMU.out, HkU.out⟩
end
end Go.Proofs.YtpgckdbjedepcaaDoor.Mh
