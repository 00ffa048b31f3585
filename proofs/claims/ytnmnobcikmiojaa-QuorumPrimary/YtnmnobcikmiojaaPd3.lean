import Derived.Test.YtnmnobcikmiojaaPc3
namespace Go.Proofs.Ytnmnobcikmiojaa.Qm
open Go.RowKit Mb
set_option linter.unusedVariables false
set_option maxRecDepth 100000
set_option linter.unusedSimpArgs false
section
variable {w w' W : World} {B : Nat}
structure WpL (ops : Array Oper) (Q : Exit → Act → World → Prop) (l : List Oper) (a : Act) (w : World) : Prop where
  out : wpList Try.prog ops Q l a w
theorem wl_step {ops : Array Oper} {rest : List Oper} {o : Oper} {a : Act} {Q : Exit → Act → World → Prop} (hw : Region.wanted o (yielded ops a.tmps) = true) (h : ∀ K : Act → World → Prop, (∀ a w, WpL ops Q rest a w → K a w) → o.wp Try.prog a w K Q) : WpL ops Q (o :: rest) a w :=
  ⟨wpList_step fun K hK => by
    rw [if_pos hw]
    exact h K (fun a w h => hK a w h.out)⟩
theorem wl_take {ops : Array Oper} {rest : List Oper} {o : Oper} {a : Act} {Q : Exit → Act → World → Prop} {v : Value} (hw : Region.wanted o (yielded ops a.tmps) = true) (hx : (execOp a.eval o).run Try.prog w = .ok (.value v) w) (h : WpL ops Q rest (a.put o.dst v) w) : WpL ops Q (o :: rest) a w :=
  wl_step hw fun K hK => by
    unfold Oper.wp
    rw [hx]
    exact hK _ _ h
theorem wl_skip {ops : Array Oper} {rest : List Oper} {o : Oper} {a : Act} {Q : Exit → Act → World → Prop} (hw : Region.wanted o (yielded ops a.tmps) = false) (h : WpL ops Q rest (a.put o.dst undef) w) : WpL ops Q (o :: rest) a w :=
  ⟨wpList_step fun K hK => by
    rw [if_neg (by rw [hw]; simp)]
    exact hK _ _ h.out⟩
theorem wl_at {ops : Array Oper} {rest : List Oper} {o : Oper} {a : Act} {Q : Exit → Act → World → Prop} (d : Nat) (hd : o.dst = some d) (h : WpL ops Q (o :: rest) a w) : wpList Try.prog ops Q (o :: rest) a w := h.out
theorem wp_app_io {w0 : World} {o : Oper} {a : Act} {K : Act → World → Prop} {Q : Exit → Act → World → Prop} (s x : Operand)
    (ho : o.op = .call { callee := .builtin .append, args := #[s, x], argTypes := #[22, 22] })
    (v : Value) (n : Nat) (xs : List Int) (hs : a.eval s = v) (hown : w.ownsRow w0.heap.size 3 1 v n (ints xs)) (hb : Below w0.heap.size w0 w)
    (ao : Option Addr) (k c : Nat) (ys : List Int) (hx : a.eval x = .slice ao k c) (hr : RdI w ao k c ys) (hn : n + k ≤ 17592186044416)
    (h : ∀ v' w', Hid (w'.ownsRow w0.heap.size 3 1 v' (n + k) (ints (xs ++ ys))) → Hid (Below w0.heap.size w0 w') → Hid (Kept w w' (fun j => some j = v.ownBlock)) → K (a.put o.dst v') w') : o.wp Try.prog a w K Q := by
  obtain ⟨i0, hi, hz0, hz1, hz2⟩ := int_info
  have hk := hr.len
  cases ao with
  | some ad =>
    refine wp_append_own w s x 22 ho w0.heap.size 3 i0 (.int .i64 0) 1 8 Try.underlying22 hi hz0 hz1 hz2 (by rfl) (by decide) v n (ints xs) hs hown ad k c (ints ys) hx (by rw [ints_len]; omega) (rd_cells hr ad rfl) (ints_one _) (by unfold maxLen; omega) (by omega) hb.size ?_
    intro v' w' h2 h3 _
    exact h v' w' (by show World.ownsRow _ _ _ _ _ _ _; simpa [ints] using h2) (hb.grown h3 hb.size (fun q hq => (World.ownsRow.lt hown q hq).1)) (Kept.ofGrown h3)
  | none =>
    obtain rfl := hr.nil rfl
    obtain rfl : k = 0 := by have := hr.cap; omega
    obtain rfl : ys = [] := List.eq_nil_of_length_eq_zero hk
    have hrun := run_append_owned_none (P := Try.prog) (w := w) w0.heap.size 22 o.type 3 i0 1 Try.underlying22 hi v n (ints xs) hown
    unfold Oper.wp
    simp [execOp, ho, resolve, invoke, builtin, hs, hx, hrun, Result.andThen]
    exact h v w (by show World.ownsRow _ _ _ _ _ _ _; simpa using hown) hb (Kept.refl _ _)
theorem own_empty (w : World) (h : B ≤ w.heap.size) : (w.alloc (.cells #[] 3)).ownsRow B 3 1 (.slice (some ⟨w.heap.size, 0, none⟩) 0 0) 0 (ints []) :=
  ⟨rfl, .inr ⟨w.heap.size, 0, _, rfl, h, heap_alloc_new w _, Nat.le_refl _, by unfold maxLen; omega, rfl, rfl⟩⟩
theorem own_one (w : World) (x : Int) (h : B ≤ w.heap.size) : (w.alloc (.cells #[.int .i64 x] 3)).ownsRow B 3 1 (.slice (some ⟨w.heap.size, 0, none⟩) 1 1) 1 (ints [x]) :=
  ⟨rfl, .inr ⟨w.heap.size, 1, _, rfl, h, heap_alloc_new w _, Nat.le_refl _, by unfold maxLen; omega, rfl, rfl⟩⟩
structure WRes (w : World) (v : List Nat) (ns : List Int) (r : Value) (wx : World) : Prop where
  row : wx.ownsRow w.heap.size 3 1 r (sel v (ns.take 40)).length (ints (zi (sel v (ns.take 40))))
  bel : Below w.heap.size w wx
theorem RdI.keep {P : Nat → Prop} {ao : Option Addr} {n c : Nat} {xs : List Int} (h : RdI w ao n c xs) (k : Kept w w' P) (hp : ∀ b off, ao = some ⟨b, off, none⟩ → ¬ P b) : RdI w' ao n c xs :=
  ⟨h.len, h.cap, h.nil, h.at_.elim (fun hh => .inl hh) (fun ⟨b, off, e, hc⟩ => .inr ⟨b, off, e, fun i hi => Kept.cell k (hc i hi) (hp b off e)⟩)⟩
theorem take_mem {α : Type} {l : List α} {i : Nat} {d : α} (h : i < l.length) : l.getD i d ∈ l := by
  simp [List.getD, h]
set_option maxHeartbeats 16000000 in
theorem primary_any {a0 : Option Addr} {n0 c0 : Nat} {xs0 : List Int} (hr0 : RdI w a0 n0 c0 xs0) {ga : Option Addr} {gn gc : Nat} {gs : List Int} (hg : RdI w ga gn gc gs) (hgn : gn ≤ 17592186043904) {na : Option Addr} {nn nc : Nat} {ns : List Int} (hn : RdI w na nn nc ns) (hnn : nn ≤ 17592186043904) {oa : Option Addr} {on oc : Nat} {os : List Int} (ho : RdI w oa on oc os) (hon : on ≤ 17592186043904) : Calls Try.prog 3 #[.agg #[.slice a0 n0 c0, .slice ga gn gc, .slice na nn nc, .slice oa on oc]] w fun e w' => e = .returned (.bool true) ∧ Below w.heap.size w w' := by
  generalize hW : w.alloc (.cells #[.slice a0 n0 c0, .slice ga gn gc, .slice na nn nc, .slice oa on oc] 24) = W
  have hbW : Below w.heap.size w W := by rw [← hW]; exact balloc (Below.refl _ w)
  have hblk : W.heap[w.heap.size]? = some (.cells #[.slice a0 n0 c0, .slice ga gn gc, .slice na nn nc, .slice oa on oc] 24 (0, 0)) := by rw [← hW]; exact heap_alloc_new w _
  have HF : Hid (Calls Try.prog 7 #[.slice a0 n0 c0] W fun e w' => ∃ a m d v, e = .returned (.slice a m d) ∧ RdI w' a m d (zi v) ∧ Ok v ∧ v.length = m ∧ Below W.heap.size W w') := fit_any (hr0.still hbW)
  have q0 : W.cell? ⟨w.heap.size, 0, none⟩ = some (.slice a0 n0 c0) := blk_cell hblk 0
  have HQ1 : Hid (W.cell? ⟨w.heap.size, 1, none⟩ = some (.slice ga gn gc)) := blk_cell hblk 1
  have HQ2 : Hid (W.cell? ⟨w.heap.size, 2, none⟩ = some (.slice na nn nc)) := blk_cell hblk 2
  have HQ3 : Hid (W.cell? ⟨w.heap.size, 3, none⟩ = some (.slice oa on oc)) := blk_cell hblk 3
  have HBW : Hid (Below w.heap.size w W) := hbW
  have HG : Hid (RdI W ga gn gc gs) := hg.still hbW
  have HN : Hid (RdI W na nn nc ns) := hn.still hbW
  have HO : Hid (RdI W oa on oc os) := ho.still hbW
  clear hr0 hblk hbW hg hn ho
  go_enter Try.func3, Try.ntmps3
  go_wp2_with (fail)
  refine HF.out.mono ?_
  rintro e w1 ⟨a, m, d, v, rfl, hr1, ho, hl, hb1⟩
  have c1 := below_at hb1 HQ1.out
  have c2 := below_at hb1 HQ2.out
  have HQ3' : Hid (w1.cell? ⟨w.heap.size, 3, none⟩ = some (.slice oa on oc)) := below_at hb1 HQ3.out
  have HB1 : Hid (Below W.heap.size W w1) := hb1
  have h16 : m ≤ 16 := by rw [← hl]; exact ho.1
  have hm0 : 0 < m := by rw [← hl]; exact ho.pos
  have h2 := two_pow_le m h16
  have hpw := pow_val m h16
  obtain ⟨M, hM⟩ : ∃ M, M = 2 ^ m := ⟨_, rfl⟩
  have hM1 : 0 < M := by rw [hM]; exact Nat.two_pow_pos m
  rw [← hM] at h2 hpw
  have HM : Hid (M = 2 ^ v.length) := by show _ = _; rw [hl]; exact hM
  have HR1 : Hid (RdI w1 a m d (zi v)) := hr1
  have HOk : Hid (Ok v) := ho
  have Hlv : Hid (v.length = m) := hl
  have HWt : Hid (∀ V (za : Option Addr) (zn zc : Nat) (zs : List Int), Below w1.heap.size w1 V → RdI V za zn zc zs → zn ≤ 17592186044416 → Calls Try.prog 8 #[.slice a m d, .slice ga gn gc, .slice za zn zc] V fun e w' => ∃ r, e = .returned (.tuple #[r, .bool true]) ∧ w'.ownsRow V.heap.size 3 1 r (sel v (zs.take 40)).length (ints (zi (sel v (zs.take 40)))) ∧ Below V.heap.size V w') := fun V za zn zc zs hV hz hzn => watched_any (hr1.still hV) ho hl ((HG.out.still hb1).still hV) hz hzn (by omega)
  clear hr1 ho hl hb1 hM HF q0
  go_upto_region 3 with (fail)
  go_cut [5, 6] (fun r ok wx => ok = .bool true ∧ Hid (WRes w1 v (ns ++ [(M : Int) - 1]) r wx))
  case first =>
    clear hpw
    refine wp_region_held_drew (S := (fun w' => w'.cell? ⟨w.heap.size, 1, none⟩ = some (.slice ga gn gc) ∧ w'.cell? ⟨w.heap.size, 2, none⟩ = some (.slice na nn nc))) (by kernel_rfl) ⟨below_at (Below.refl _ _).drew c1, below_at (Below.refl _ _).drew c2⟩ (fun hHeld => ?_)
    simp only [Act.put, List.size_toArray, List.length_cons, List.length_nil, Nat.zero_add]
    refine wpAnyH_take (i := 0) (v := .slice a m d) rfl (by kernel_rfl) (by kernel_rfl) (by kernel_rfl) (fun _ _ _ h => h) (Or.inl ⟨by rfl, fun w' hS => by go_simp⟩) hHeld ?_
    simp only [Act.put, List.getElem_toArray, List.getElem_cons_zero, List.getElem_cons_succ, List.setIfInBounds_toArray, List.set_cons_zero, List.set_cons_succ]
    refine wpAnyH_take (i := 1) (v := .pointer (some ⟨w.heap.size, 1, none⟩)) rfl (by kernel_rfl) (by kernel_rfl) (by kernel_rfl) (fun _ _ _ h => h) (Or.inl ⟨by rfl, fun w' hS => by go_simp⟩) hHeld ?_
    simp only [Act.put, List.getElem_toArray, List.getElem_cons_zero, List.getElem_cons_succ, List.setIfInBounds_toArray, List.set_cons_zero, List.set_cons_succ]
    refine wpAnyH_take (i := 2) (v := .slice ga gn gc) rfl (by kernel_rfl) (by kernel_rfl) (by kernel_rfl) (fun _ _ _ h => h) (Or.inl ⟨by rfl, fun w' hS => by (obtain ⟨s0, s1⟩ := hS; go_simp)⟩) hHeld ?_
    simp only [Act.put, List.getElem_toArray, List.getElem_cons_zero, List.getElem_cons_succ, List.setIfInBounds_toArray, List.set_cons_zero, List.set_cons_succ]
    refine wpAnyH_take (i := 4) (v := .pointer (some ⟨w.heap.size, 2, none⟩)) rfl (by kernel_rfl) (by kernel_rfl) (by kernel_rfl) (fun _ _ _ h => h) (Or.inl ⟨by rfl, fun w' hS => by go_simp⟩) hHeld ?_
    simp only [Act.put, List.getElem_toArray, List.getElem_cons_zero, List.getElem_cons_succ, List.setIfInBounds_toArray, List.set_cons_zero, List.set_cons_succ]
    refine wpAnyH_take (i := 5) (v := .slice na nn nc) rfl (by kernel_rfl) (by kernel_rfl) (by kernel_rfl) (fun _ _ _ h => h) (Or.inl ⟨by rfl, fun w' hS => by (obtain ⟨s0, s1⟩ := hS; go_simp)⟩) hHeld ?_
    simp only [Act.put, List.getElem_toArray, List.getElem_cons_zero, List.getElem_cons_succ, List.setIfInBounds_toArray, List.set_cons_zero, List.set_cons_succ]
    refine wpAnyH_take (i := 7) (v := .int .i64 ((M : Int) - 1)) rfl (by kernel_rfl) (by kernel_rfl) (by kernel_rfl) (fun _ _ _ h => h) (Or.inl ⟨by rfl, fun w' hS => by go_simp⟩) hHeld ?_
    simp only [Act.put, List.getElem_toArray, List.getElem_cons_zero, List.getElem_cons_succ, List.setIfInBounds_toArray, List.set_cons_zero, List.set_cons_succ]
    have HVd : Hid (Below w1.drew.heap.size w1.drew w1.drew) := Below.refl _ _
    refine wpAnyH_ready (rs := [3, 8]) (by kernel_rfl) (by simp) ?_
    refine AllReadyH.cons rfl (fun K hK => ?_) (AllReadyH.cons rfl (fun K hK => ?_) AllReadyH.nil)
    · skip
      obtain ⟨V3, hV3⟩ : ∃ x, w1.drew.alloc (.cells #[] 3) = x := ⟨_, rfl⟩
      have HVV3 : Hid (Below w1.drew.heap.size w1.drew V3) := by rw [← hV3]; exact balloc (HVd.out)
      go_simp
      try rw [hV3]
      refine hK.out _ _ ⟨below_at HVV3.out (below_at (Below.refl _ _).drew c1), below_at HVV3.out (below_at (Below.refl _ _).drew c2)⟩ (fun hHeld => ?_)
      clear hK K
      have HOw : Hid (V3.ownsRow w1.drew.heap.size 3 1 (.slice (some ⟨w1.heap.size, 0, none⟩) 0 0) 0 (ints [])) := by rw [← hV3]; exact own_empty _ (Nat.le_refl _)
      refine wpAnyH_ready (rs := [6, 8]) (by kernel_rfl) (by simp) ?_
      refine AllReadyH.cons rfl (fun K hK => ?_) (AllReadyH.cons rfl (fun K hK => ?_) AllReadyH.nil)
      · skip
        split
        · skip
          refine wp_app_io (w0 := w1.drew) (.tmp 23) (.tmp 25) rfl _ 0 [] rfl (HOw.out) HVV3.out na nn nc ns rfl (((HN.out.still HB1.out).still (Below.refl _ _).drew).still HVV3.out) (by omega) ?_
          intro x6 V6 HO6 HB6 HK6
          have HVV6 : Hid (Below w1.drew.heap.size w1.drew V6) := HB6.out
          obtain ⟨a6, c6, rfl⟩ := own_shape HO6.out
          rw [Nat.zero_add, List.nil_append] at HO6
          simp only [Nat.zero_add] at *
          refine hK.out _ _ ⟨below_at HVV6.out (below_at (Below.refl _ _).drew c1), below_at HVV6.out (below_at (Below.refl _ _).drew c2)⟩ (fun hHeld => ?_)
          clear hK K
          refine wpAnyH_ready (rs := [8]) (by kernel_rfl) (by simp) ?_
          refine AllReadyH.cons rfl (fun K hK => ?_) AllReadyH.nil
          obtain ⟨V8, hV8⟩ : ∃ x, V6.alloc (.cells #[.int .i64 ((M : Int) - 1)] 3) = x := ⟨_, rfl⟩
          have HVV8 : Hid (Below w1.drew.heap.size w1.drew V8) := by rw [← hV8]; exact balloc (HVV6.out)
          go_simp
          try rw [hV8]
          refine hK.out _ _ ⟨below_at HVV8.out (below_at (Below.refl _ _).drew c1), below_at HVV8.out (below_at (Below.refl _ _).drew c2)⟩ (fun hHeld => ?_)
          clear hK K
          have HR8 : Hid (RdI V8 (some ⟨V6.heap.size, 0, none⟩) 1 1 [(M : Int) - 1]) := by rw [← hV8]; exact Rw.rd (blk_one _) rfl (Nat.le_refl _)
          have HO8 : Hid (V8.ownsRow w1.drew.heap.size 3 1 (.slice a6 nn c6) nn (ints ns)) := by rw [← hV8]; exact HO6.out.alloc _
          refine wpAnyH_ready (rs := [9]) (by kernel_rfl) (by simp) ?_
          refine AllReadyH.cons rfl (fun K hK => ?_) AllReadyH.nil
          split
          · skip
            refine wp_app_io (w0 := w1.drew) (.tmp 26) (.tmp 28) rfl _ nn ns rfl (HO8.out) HVV8.out _ 1 1 [(M : Int) - 1] rfl (HR8.out) (by omega) ?_
            intro x9 V9 HO9 HB9 HK9
            have HV9 : Hid (Below w1.drew.heap.size w1.drew V9) := HB9.out
            obtain ⟨a9, c9, rfl⟩ := own_shape HO9.out
            refine hK.out _ _ ⟨below_at HV9.out (below_at (Below.refl _ _).drew c1), below_at HV9.out (below_at (Below.refl _ _).drew c2)⟩ (fun hHeld => ?_)
            clear hK K
            refine wpAnyH_ready (rs := [10]) (by kernel_rfl) (by simp) ?_
            refine AllReadyH.cons rfl (fun K hK => ?_) AllReadyH.nil
            go_simp
            refine (HWt.out V9 a9 (nn + 1) c9 (ns ++ [(M : Int) - 1]) (bstep (Below.refl _ _).drew HV9.out) (own_rd HO9.out) (by omega)).mono ?_
            rintro e V10 ⟨r, rfl, hrow, hb10⟩
            refine hK.out _ _ ⟨below_at hb10 (below_at HV9.out (below_at (Below.refl _ _).drew c1)), below_at hb10 (below_at HV9.out (below_at (Below.refl _ _).drew c2))⟩ (fun hHeld => ?_)
            clear hK K
            have HRs : Hid (WRes w1 v (ns ++ [(M : Int) - 1]) r V10) := ⟨own_lower hrow (show w1.heap.size ≤ V9.heap.size from HV9.out.size), bstep (bstep (Below.refl _ _).drew HV9.out) hb10⟩
            refine wpAnyH_take (i := 11) (v := .tuple #[r, .bool true]) rfl (by kernel_rfl) (by kernel_rfl) (by kernel_rfl) (fun _ _ _ h => h) (Or.inl ⟨by rfl, fun w' hS => by go_simp⟩) hHeld ?_
            simp only [Act.put, List.getElem_toArray, List.getElem_cons_zero, List.getElem_cons_succ, List.setIfInBounds_toArray, List.set_cons_zero, List.set_cons_succ]
            refine wpAnyH_take (i := 12) (v := r) rfl (by kernel_rfl) (by kernel_rfl) (by kernel_rfl) (fun _ _ _ h => h) (Or.inl ⟨by rfl, fun w' hS => by go_simp⟩) hHeld ?_
            simp only [Act.put, List.getElem_toArray, List.getElem_cons_zero, List.getElem_cons_succ, List.setIfInBounds_toArray, List.set_cons_zero, List.set_cons_succ]
            refine wpAnyH_take (i := 13) (v := .bool true) rfl (by kernel_rfl) (by kernel_rfl) (by kernel_rfl) (fun _ _ _ h => h) (Or.inl ⟨by rfl, fun w' hS => by go_simp⟩) hHeld ?_
            simp only [Act.put, List.getElem_toArray, List.getElem_cons_zero, List.getElem_cons_succ, List.setIfInBounds_toArray, List.set_cons_zero, List.set_cons_succ]
            refine wpAnyH_take (i := 14) (v := r) rfl (by kernel_rfl) (by kernel_rfl) (by kernel_rfl) (fun _ _ _ h => h) (Or.inl ⟨by rfl, fun w' hS => by go_simp⟩) hHeld ?_
            simp only [Act.put, List.getElem_toArray, List.getElem_cons_zero, List.getElem_cons_succ, List.setIfInBounds_toArray, List.set_cons_zero, List.set_cons_succ]
            refine wpAnyH_take (i := 15) (v := .bool true) rfl (by kernel_rfl) (by kernel_rfl) (by kernel_rfl) (fun _ _ _ h => h) (Or.inl ⟨by rfl, fun w' hS => by go_simp⟩) hHeld ?_
            simp only [Act.put, List.getElem_toArray, List.getElem_cons_zero, List.getElem_cons_succ, List.setIfInBounds_toArray, List.set_cons_zero, List.set_cons_succ]
            refine wpAnyH_done (by kernel_rfl) ?_ _
            clear hHeld
            go_wp2_with (fail)
            go_meet
            exact ⟨rfl, HRs.out⟩
          · rename_i hne2
            exact absurd rfl hne2
        · rename_i hne2
          exact absurd rfl hne2
      · skip
        obtain ⟨V8, hV8⟩ : ∃ x, V3.alloc (.cells #[.int .i64 ((M : Int) - 1)] 3) = x := ⟨_, rfl⟩
        have HVV8 : Hid (Below w1.drew.heap.size w1.drew V8) := by rw [← hV8]; exact balloc (HVV3.out)
        go_simp
        try rw [hV8]
        refine hK.out _ _ ⟨below_at HVV8.out (below_at (Below.refl _ _).drew c1), below_at HVV8.out (below_at (Below.refl _ _).drew c2)⟩ (fun hHeld => ?_)
        clear hK K
        have HR8 : Hid (RdI V8 (some ⟨V3.heap.size, 0, none⟩) 1 1 [(M : Int) - 1]) := by rw [← hV8]; exact Rw.rd (blk_one _) rfl (Nat.le_refl _)
        have HO8 : Hid (V8.ownsRow w1.drew.heap.size 3 1 (.slice (some ⟨w1.heap.size, 0, none⟩) 0 0) 0 (ints [])) := by rw [← hV8]; exact HOw.out.alloc _
        have Hne : Hid (w1.heap.size < V3.heap.size) := by rw [← hV3]; show _ < _; simp
        refine wpAnyH_ready (rs := [6]) (by kernel_rfl) (by simp) ?_
        refine AllReadyH.cons rfl (fun K hK => ?_) AllReadyH.nil
        split
        · skip
          refine wp_app_io (w0 := w1.drew) (.tmp 23) (.tmp 25) rfl _ 0 [] rfl (HO8.out) HVV8.out na nn nc ns rfl (((HN.out.still HB1.out).still (Below.refl _ _).drew).still HVV8.out) (by omega) ?_
          intro x6 V6 HO6 HB6 HK6
          have HVV6 : Hid (Below w1.drew.heap.size w1.drew V6) := HB6.out
          obtain ⟨a6, c6, rfl⟩ := own_shape HO6.out
          rw [Nat.zero_add, List.nil_append] at HO6
          simp only [Nat.zero_add] at *
          refine hK.out _ _ ⟨below_at HVV6.out (below_at (Below.refl _ _).drew c1), below_at HVV6.out (below_at (Below.refl _ _).drew c2)⟩ (fun hHeld => ?_)
          clear hK K
          refine wpAnyH_ready (rs := [9]) (by kernel_rfl) (by simp) ?_
          refine AllReadyH.cons rfl (fun K hK => ?_) AllReadyH.nil
          split
          · skip
            refine wp_app_io (w0 := w1.drew) (.tmp 26) (.tmp 28) rfl _ nn ns rfl (HO6.out) HVV6.out _ 1 1 [(M : Int) - 1] rfl (HR8.out.keep HK6.out (fun b off e (h : some b = some w1.heap.size) => by have h1 := Option.some.inj h; have h2 : V3.heap.size = b := congrArg Addr.block (Option.some.inj e); have := Hne.out; omega)) (by omega) ?_
            intro x9 V9 HO9 HB9 HK9
            have HV9 : Hid (Below w1.drew.heap.size w1.drew V9) := HB9.out
            obtain ⟨a9, c9, rfl⟩ := own_shape HO9.out
            refine hK.out _ _ ⟨below_at HV9.out (below_at (Below.refl _ _).drew c1), below_at HV9.out (below_at (Below.refl _ _).drew c2)⟩ (fun hHeld => ?_)
            clear hK K
            refine wpAnyH_ready (rs := [10]) (by kernel_rfl) (by simp) ?_
            refine AllReadyH.cons rfl (fun K hK => ?_) AllReadyH.nil
            go_simp
            refine (HWt.out V9 a9 (nn + 1) c9 (ns ++ [(M : Int) - 1]) (bstep (Below.refl _ _).drew HV9.out) (own_rd HO9.out) (by omega)).mono ?_
            rintro e V10 ⟨r, rfl, hrow, hb10⟩
            refine hK.out _ _ ⟨below_at hb10 (below_at HV9.out (below_at (Below.refl _ _).drew c1)), below_at hb10 (below_at HV9.out (below_at (Below.refl _ _).drew c2))⟩ (fun hHeld => ?_)
            clear hK K
            have HRs : Hid (WRes w1 v (ns ++ [(M : Int) - 1]) r V10) := ⟨own_lower hrow (show w1.heap.size ≤ V9.heap.size from HV9.out.size), bstep (bstep (Below.refl _ _).drew HV9.out) hb10⟩
            refine wpAnyH_take (i := 11) (v := .tuple #[r, .bool true]) rfl (by kernel_rfl) (by kernel_rfl) (by kernel_rfl) (fun _ _ _ h => h) (Or.inl ⟨by rfl, fun w' hS => by go_simp⟩) hHeld ?_
            simp only [Act.put, List.getElem_toArray, List.getElem_cons_zero, List.getElem_cons_succ, List.setIfInBounds_toArray, List.set_cons_zero, List.set_cons_succ]
            refine wpAnyH_take (i := 12) (v := r) rfl (by kernel_rfl) (by kernel_rfl) (by kernel_rfl) (fun _ _ _ h => h) (Or.inl ⟨by rfl, fun w' hS => by go_simp⟩) hHeld ?_
            simp only [Act.put, List.getElem_toArray, List.getElem_cons_zero, List.getElem_cons_succ, List.setIfInBounds_toArray, List.set_cons_zero, List.set_cons_succ]
            refine wpAnyH_take (i := 13) (v := .bool true) rfl (by kernel_rfl) (by kernel_rfl) (by kernel_rfl) (fun _ _ _ h => h) (Or.inl ⟨by rfl, fun w' hS => by go_simp⟩) hHeld ?_
            simp only [Act.put, List.getElem_toArray, List.getElem_cons_zero, List.getElem_cons_succ, List.setIfInBounds_toArray, List.set_cons_zero, List.set_cons_succ]
            refine wpAnyH_take (i := 14) (v := r) rfl (by kernel_rfl) (by kernel_rfl) (by kernel_rfl) (fun _ _ _ h => h) (Or.inl ⟨by rfl, fun w' hS => by go_simp⟩) hHeld ?_
            simp only [Act.put, List.getElem_toArray, List.getElem_cons_zero, List.getElem_cons_succ, List.setIfInBounds_toArray, List.set_cons_zero, List.set_cons_succ]
            refine wpAnyH_take (i := 15) (v := .bool true) rfl (by kernel_rfl) (by kernel_rfl) (by kernel_rfl) (fun _ _ _ h => h) (Or.inl ⟨by rfl, fun w' hS => by go_simp⟩) hHeld ?_
            simp only [Act.put, List.getElem_toArray, List.getElem_cons_zero, List.getElem_cons_succ, List.setIfInBounds_toArray, List.set_cons_zero, List.set_cons_succ]
            refine wpAnyH_done (by kernel_rfl) ?_ _
            clear hHeld
            go_wp2_with (fail)
            go_meet
            exact ⟨rfl, HRs.out⟩
          · rename_i hne2
            exact absurd rfl hne2
        · rename_i hne2
          exact absurd rfl hne2
    · skip
      obtain ⟨V8, hV8⟩ : ∃ x, w1.drew.alloc (.cells #[.int .i64 ((M : Int) - 1)] 3) = x := ⟨_, rfl⟩
      have HVV8 : Hid (Below w1.drew.heap.size w1.drew V8) := by rw [← hV8]; exact balloc (HVd.out)
      go_simp
      try rw [hV8]
      refine hK.out _ _ ⟨below_at HVV8.out (below_at (Below.refl _ _).drew c1), below_at HVV8.out (below_at (Below.refl _ _).drew c2)⟩ (fun hHeld => ?_)
      clear hK K
      refine wpAnyH_ready (rs := [3]) (by kernel_rfl) (by simp) ?_
      refine AllReadyH.cons rfl (fun K hK => ?_) AllReadyH.nil
      obtain ⟨V3, hV3⟩ : ∃ x, V8.alloc (.cells #[] 3) = x := ⟨_, rfl⟩
      have HVV3 : Hid (Below w1.drew.heap.size w1.drew V3) := by rw [← hV3]; exact balloc (HVV8.out)
      go_simp
      try rw [hV3]
      refine hK.out _ _ ⟨below_at HVV3.out (below_at (Below.refl _ _).drew c1), below_at HVV3.out (below_at (Below.refl _ _).drew c2)⟩ (fun hHeld => ?_)
      clear hK K
      have HOw : Hid (V3.ownsRow w1.drew.heap.size 3 1 (.slice (some ⟨V8.heap.size, 0, none⟩) 0 0) 0 (ints [])) := by rw [← hV3]; exact own_empty _ HVV8.out.size
      have HR8 : Hid (RdI V3 (some ⟨w1.heap.size, 0, none⟩) 1 1 [(M : Int) - 1]) := by rw [← hV3]; refine RdI.still ?_ (balloc (Below.refl _ _)); rw [← hV8]; exact Rw.rd (blk_one _) rfl (Nat.le_refl _)
      have Hne : Hid (w1.heap.size < V8.heap.size) := by rw [← hV8]; show _ < _; simp
      refine wpAnyH_ready (rs := [6]) (by kernel_rfl) (by simp) ?_
      refine AllReadyH.cons rfl (fun K hK => ?_) AllReadyH.nil
      split
      · skip
        refine wp_app_io (w0 := w1.drew) (.tmp 23) (.tmp 25) rfl _ 0 [] rfl (HOw.out) HVV3.out na nn nc ns rfl (((HN.out.still HB1.out).still (Below.refl _ _).drew).still HVV3.out) (by omega) ?_
        intro x6 V6 HO6 HB6 HK6
        have HVV6 : Hid (Below w1.drew.heap.size w1.drew V6) := HB6.out
        obtain ⟨a6, c6, rfl⟩ := own_shape HO6.out
        rw [Nat.zero_add, List.nil_append] at HO6
        simp only [Nat.zero_add] at *
        refine hK.out _ _ ⟨below_at HVV6.out (below_at (Below.refl _ _).drew c1), below_at HVV6.out (below_at (Below.refl _ _).drew c2)⟩ (fun hHeld => ?_)
        clear hK K
        refine wpAnyH_ready (rs := [9]) (by kernel_rfl) (by simp) ?_
        refine AllReadyH.cons rfl (fun K hK => ?_) AllReadyH.nil
        split
        · skip
          refine wp_app_io (w0 := w1.drew) (.tmp 26) (.tmp 28) rfl _ nn ns rfl (HO6.out) HVV6.out _ 1 1 [(M : Int) - 1] rfl (HR8.out.keep HK6.out (fun b off e (h : some b = some V8.heap.size) => by have h1 := Option.some.inj h; have h2 : w1.heap.size = b := congrArg Addr.block (Option.some.inj e); have := Hne.out; omega)) (by omega) ?_
          intro x9 V9 HO9 HB9 HK9
          have HV9 : Hid (Below w1.drew.heap.size w1.drew V9) := HB9.out
          obtain ⟨a9, c9, rfl⟩ := own_shape HO9.out
          refine hK.out _ _ ⟨below_at HV9.out (below_at (Below.refl _ _).drew c1), below_at HV9.out (below_at (Below.refl _ _).drew c2)⟩ (fun hHeld => ?_)
          clear hK K
          refine wpAnyH_ready (rs := [10]) (by kernel_rfl) (by simp) ?_
          refine AllReadyH.cons rfl (fun K hK => ?_) AllReadyH.nil
          go_simp
          refine (HWt.out V9 a9 (nn + 1) c9 (ns ++ [(M : Int) - 1]) (bstep (Below.refl _ _).drew HV9.out) (own_rd HO9.out) (by omega)).mono ?_
          rintro e V10 ⟨r, rfl, hrow, hb10⟩
          refine hK.out _ _ ⟨below_at hb10 (below_at HV9.out (below_at (Below.refl _ _).drew c1)), below_at hb10 (below_at HV9.out (below_at (Below.refl _ _).drew c2))⟩ (fun hHeld => ?_)
          clear hK K
          have HRs : Hid (WRes w1 v (ns ++ [(M : Int) - 1]) r V10) := ⟨own_lower hrow (show w1.heap.size ≤ V9.heap.size from HV9.out.size), bstep (bstep (Below.refl _ _).drew HV9.out) hb10⟩
          refine wpAnyH_take (i := 11) (v := .tuple #[r, .bool true]) rfl (by kernel_rfl) (by kernel_rfl) (by kernel_rfl) (fun _ _ _ h => h) (Or.inl ⟨by rfl, fun w' hS => by go_simp⟩) hHeld ?_
          simp only [Act.put, List.getElem_toArray, List.getElem_cons_zero, List.getElem_cons_succ, List.setIfInBounds_toArray, List.set_cons_zero, List.set_cons_succ]
          refine wpAnyH_take (i := 12) (v := r) rfl (by kernel_rfl) (by kernel_rfl) (by kernel_rfl) (fun _ _ _ h => h) (Or.inl ⟨by rfl, fun w' hS => by go_simp⟩) hHeld ?_
          simp only [Act.put, List.getElem_toArray, List.getElem_cons_zero, List.getElem_cons_succ, List.setIfInBounds_toArray, List.set_cons_zero, List.set_cons_succ]
          refine wpAnyH_take (i := 13) (v := .bool true) rfl (by kernel_rfl) (by kernel_rfl) (by kernel_rfl) (fun _ _ _ h => h) (Or.inl ⟨by rfl, fun w' hS => by go_simp⟩) hHeld ?_
          simp only [Act.put, List.getElem_toArray, List.getElem_cons_zero, List.getElem_cons_succ, List.setIfInBounds_toArray, List.set_cons_zero, List.set_cons_succ]
          refine wpAnyH_take (i := 14) (v := r) rfl (by kernel_rfl) (by kernel_rfl) (by kernel_rfl) (fun _ _ _ h => h) (Or.inl ⟨by rfl, fun w' hS => by go_simp⟩) hHeld ?_
          simp only [Act.put, List.getElem_toArray, List.getElem_cons_zero, List.getElem_cons_succ, List.setIfInBounds_toArray, List.set_cons_zero, List.set_cons_succ]
          refine wpAnyH_take (i := 15) (v := .bool true) rfl (by kernel_rfl) (by kernel_rfl) (by kernel_rfl) (fun _ _ _ h => h) (Or.inl ⟨by rfl, fun w' hS => by go_simp⟩) hHeld ?_
          simp only [Act.put, List.getElem_toArray, List.getElem_cons_zero, List.getElem_cons_succ, List.setIfInBounds_toArray, List.set_cons_zero, List.set_cons_succ]
          refine wpAnyH_done (by kernel_rfl) ?_ _
          clear hHeld
          go_wp2_with (fail)
          go_meet
          exact ⟨rfl, HRs.out⟩
        · rename_i hne2
          exact absurd rfl hne2
      · rename_i hne2
        exact absurd rfl hne2
  case rest =>
  obtain ⟨rfl, HRs⟩ := hcut
  have HBc : Hid (Below w1.heap.size w1 wc) := HRs.out.bel
  have d1 : wc.cell? ⟨w.heap.size, 1, none⟩ = some (.slice ga gn gc) := below_at HBc.out c1
  have d3 : wc.cell? ⟨w.heap.size, 3, none⟩ = some (.slice oa on oc) := below_at HBc.out HQ3'.out
  clear c1
  go_upto_region 4 with (fail)
  refine wp_region_held_drew (S := (fun w' => w'.cell? ⟨w.heap.size, 1, none⟩ = some (.slice ga gn gc) ∧ w'.cell? ⟨w.heap.size, 3, none⟩ = some (.slice oa on oc))) (by kernel_rfl) ⟨below_at (Below.refl _ _).drew d1, below_at (Below.refl _ _).drew d3⟩ (fun hHeld => ?_)
  simp only [Act.put, List.size_toArray, List.length_cons, List.length_nil, Nat.zero_add]
  refine wpAnyH_take (i := 0) (v := .slice a m d) rfl (by kernel_rfl) (by kernel_rfl) (by kernel_rfl) (fun _ _ _ h => h) (Or.inl ⟨by rfl, fun w' hS => by go_simp⟩) hHeld ?_
  simp only [Act.put, List.getElem_toArray, List.getElem_cons_zero, List.getElem_cons_succ, List.setIfInBounds_toArray, List.set_cons_zero, List.set_cons_succ]
  refine wpAnyH_take (i := 1) (v := .pointer (some ⟨w.heap.size, 1, none⟩)) rfl (by kernel_rfl) (by kernel_rfl) (by kernel_rfl) (fun _ _ _ h => h) (Or.inl ⟨by rfl, fun w' hS => by go_simp⟩) hHeld ?_
  simp only [Act.put, List.getElem_toArray, List.getElem_cons_zero, List.getElem_cons_succ, List.setIfInBounds_toArray, List.set_cons_zero, List.set_cons_succ]
  refine wpAnyH_take (i := 2) (v := .slice ga gn gc) rfl (by kernel_rfl) (by kernel_rfl) (by kernel_rfl) (fun _ _ _ h => h) (Or.inl ⟨by rfl, fun w' hS => by (obtain ⟨s0, s1⟩ := hS; go_simp)⟩) hHeld ?_
  simp only [Act.put, List.getElem_toArray, List.getElem_cons_zero, List.getElem_cons_succ, List.setIfInBounds_toArray, List.set_cons_zero, List.set_cons_succ]
  refine wpAnyH_take (i := 3) (v := .int .i64 ((M : Int) - 1)) rfl (by kernel_rfl) (by kernel_rfl) (by kernel_rfl) (fun _ _ _ h => h) (Or.inl ⟨by rfl, fun w' hS => by go_simp⟩) hHeld ?_
  simp only [Act.put, List.getElem_toArray, List.getElem_cons_zero, List.getElem_cons_succ, List.setIfInBounds_toArray, List.set_cons_zero, List.set_cons_succ]
  refine wpAnyH_take (i := 5) (v := .pointer (some ⟨w.heap.size, 3, none⟩)) rfl (by kernel_rfl) (by kernel_rfl) (by kernel_rfl) (fun _ _ _ h => h) (Or.inl ⟨by rfl, fun w' hS => by go_simp⟩) hHeld ?_
  simp only [Act.put, List.getElem_toArray, List.getElem_cons_zero, List.getElem_cons_succ, List.setIfInBounds_toArray, List.set_cons_zero, List.set_cons_succ]
  refine wpAnyH_take (i := 6) (v := .slice oa on oc) rfl (by kernel_rfl) (by kernel_rfl) (by kernel_rfl) (fun _ _ _ h => h) (Or.inl ⟨by rfl, fun w' hS => by (obtain ⟨s0, s1⟩ := hS; go_simp)⟩) hHeld ?_
  simp only [Act.put, List.getElem_toArray, List.getElem_cons_zero, List.getElem_cons_succ, List.setIfInBounds_toArray, List.set_cons_zero, List.set_cons_succ]
  refine wpAnyH_ready (rs := [4]) (by kernel_rfl) (by simp) ?_
  refine AllReadyH.cons rfl (fun K hK => ?_) AllReadyH.nil
  obtain ⟨V3, hV3⟩ : ∃ x, wc.drew.alloc (.cells #[.int .i64 ((M : Int) - 1)] 3) = x := ⟨_, rfl⟩
  have HV3 : Hid (Below wc.drew.heap.size wc.drew V3) := by rw [← hV3]; exact balloc (Below.refl _ _)
  have HOw : Hid (V3.ownsRow wc.drew.heap.size 3 1 (.slice (some ⟨wc.heap.size, 0, none⟩) 1 1) 1 (ints [(M : Int) - 1])) := by rw [← hV3]; exact own_one _ _ (Nat.le_refl _)
  go_simp
  try rw [hV3]
  refine hK.out _ _ ⟨below_at HV3.out (below_at (Below.refl _ _).drew d1), below_at HV3.out (below_at (Below.refl _ _).drew d3)⟩ (fun hHeld => ?_)
  clear hK K
  refine wpAnyH_ready (rs := [7]) (by kernel_rfl) (by simp) ?_
  refine AllReadyH.cons rfl (fun K hK => ?_) AllReadyH.nil
  split
  · skip
    refine wp_app_io (w0 := wc.drew) (.tmp 38) (.tmp 40) rfl _ 1 [(M : Int) - 1] rfl (HOw.out) HV3.out oa on oc os rfl ((((HO.out.still HB1.out).still HBc.out).still (Below.refl _ _).drew).still HV3.out) (by omega) ?_
    intro x6 V6 HO6 HB6 HK6
    have HV6 : Hid (Below wc.drew.heap.size wc.drew V6) := HB6.out
    obtain ⟨a6, c6, rfl⟩ := own_shape HO6.out
    refine hK.out _ _ ⟨below_at HV6.out (below_at (Below.refl _ _).drew d1), below_at HV6.out (below_at (Below.refl _ _).drew d3)⟩ (fun hHeld => ?_)
    clear hK K
    refine wpAnyH_ready (rs := [8]) (by kernel_rfl) (by simp) ?_
    refine AllReadyH.cons rfl (fun K hK => ?_) AllReadyH.nil
    go_simp
    refine (HWt.out V6 a6 (1 + on) c6 ([(M : Int) - 1] ++ os) (bstep HBc.out (bstep (Below.refl _ _).drew HV6.out)) (own_rd HO6.out) (by omega)).mono ?_
    rintro e V10 ⟨r, rfl, hrow, hb10⟩
    refine hK.out _ _ ⟨below_at hb10 (below_at HV6.out (below_at (Below.refl _ _).drew d1)), below_at hb10 (below_at HV6.out (below_at (Below.refl _ _).drew d3))⟩ (fun hHeld => ?_)
    clear hK K
    have HRb : Hid (WRes wc v ([(M : Int) - 1] ++ os) r V10) := ⟨own_lower hrow (show wc.heap.size ≤ V6.heap.size from HV6.out.size), bstep (bstep (Below.refl _ _).drew HV6.out) hb10⟩
    refine wpAnyH_take (i := 9) (v := .tuple #[r, .bool true]) rfl (by kernel_rfl) (by kernel_rfl) (by kernel_rfl) (fun _ _ _ h => h) (Or.inl ⟨by rfl, fun w' hS => by go_simp⟩) hHeld ?_
    simp only [Act.put, List.getElem_toArray, List.getElem_cons_zero, List.getElem_cons_succ, List.setIfInBounds_toArray, List.set_cons_zero, List.set_cons_succ]
    refine wpAnyH_take (i := 10) (v := r) rfl (by kernel_rfl) (by kernel_rfl) (by kernel_rfl) (fun _ _ _ h => h) (Or.inl ⟨by rfl, fun w' hS => by go_simp⟩) hHeld ?_
    simp only [Act.put, List.getElem_toArray, List.getElem_cons_zero, List.getElem_cons_succ, List.setIfInBounds_toArray, List.set_cons_zero, List.set_cons_succ]
    refine wpAnyH_take (i := 11) (v := .bool true) rfl (by kernel_rfl) (by kernel_rfl) (by kernel_rfl) (fun _ _ _ h => h) (Or.inl ⟨by rfl, fun w' hS => by go_simp⟩) hHeld ?_
    simp only [Act.put, List.getElem_toArray, List.getElem_cons_zero, List.getElem_cons_succ, List.setIfInBounds_toArray, List.set_cons_zero, List.set_cons_succ]
    refine wpAnyH_take (i := 12) (v := r) rfl (by kernel_rfl) (by kernel_rfl) (by kernel_rfl) (fun _ _ _ h => h) (Or.inl ⟨by rfl, fun w' hS => by go_simp⟩) hHeld ?_
    simp only [Act.put, List.getElem_toArray, List.getElem_cons_zero, List.getElem_cons_succ, List.setIfInBounds_toArray, List.set_cons_zero, List.set_cons_succ]
    refine wpAnyH_take (i := 13) (v := .bool true) rfl (by kernel_rfl) (by kernel_rfl) (by kernel_rfl) (fun _ _ _ h => h) (Or.inl ⟨by rfl, fun w' hS => by go_simp⟩) hHeld ?_
    simp only [Act.put, List.getElem_toArray, List.getElem_cons_zero, List.getElem_cons_succ, List.setIfInBounds_toArray, List.set_cons_zero, List.set_cons_succ]
    refine wpAnyH_done (by kernel_rfl) ?_ _
    clear hHeld
    have HBV : Hid (Below w.heap.size w V10) := bstep HBW.out (bstep HB1.out (bstep HBc.out HRb.out.bel))
    have n2 : V10.cell? ⟨w.heap.size, 2, none⟩ = some (.slice na nn nc) := below_at HRb.out.bel (below_at HBc.out c2)
    obtain ⟨aA, cA, hA⟩ := own_shape HRs.out.row
    have HRowA0 : Hid (V10.ownsRow w1.heap.size 3 1 u5 (sel v ((ns ++ [(M : Int) - 1]).take 40)).length (ints (zi (sel v ((ns ++ [(M : Int) - 1]).take 40))))) := own_still HRs.out.row HRb.out.bel
    have HmA : Hid (∀ x ∈ sel v ((ns ++ [(M : Int) - 1]).take 40), wins v x = true ∧ x < 65536) := fun x hx => ⟨sel_mem hx, by have := sel_lt HOk.out.pos hx; rw [← HM.out] at this; omega⟩
    have HmB : Hid (∀ x ∈ sel v (([(M : Int) - 1] ++ os).take 40), wins v x = true ∧ x < 65536) := fun x hx => ⟨sel_mem hx, by have := sel_lt HOk.out.pos hx; rw [← HM.out] at this; omega⟩
    have HRowB0 := HRb.out.row
    have eM : (M : Int) - 1 = ((2 ^ v.length - 1 : Nat) : Int) := by rw [← HM.out]; omega
    have HfB : Hid (∃ r, sel v (([(M : Int) - 1] ++ os).take 40) = (M - 1) :: r) := by
      obtain ⟨r, hr⟩ := sel_first HOk.out os
      refine ⟨r, ?_⟩
      rw [eM, HM.out]
      exact hr
    have HlA : Hid (nn < 40 → ∃ r, sel v ((ns ++ [(M : Int) - 1]).take 40) = r ++ [M - 1]) := fun h => by
      obtain ⟨r, hr⟩ := sel_last HOk.out ns (by rw [HN.out.len]; exact h)
      refine ⟨r, ?_⟩
      rw [eM, HM.out]
      exact hr
    rw [hA] at HRowA0
    rw [hA]
    have hXl : (sel v ((ns ++ [(M : Int) - 1]).take 40)).length ≤ 40 := Nat.le_trans (sel_len _ _) (by rw [List.length_take]; omega)
    have hYl40 : (sel v (([(M : Int) - 1] ++ os).take 40)).length ≤ 40 := Nat.le_trans (sel_len _ _) (by rw [List.length_take]; omega)
    generalize sel v ((ns ++ [(M : Int) - 1]).take 40) = X at *
    generalize sel v (([(M : Int) - 1] ++ os).take 40) = Y at *
    have HRowA : Hid (V10.ownsRow w1.heap.size 3 1 (.slice aA X.length cA) X.length (ints (zi X))) := HRowA0.out
    obtain ⟨rB, hYB⟩ := HfB.out
    have hYl : Y.length ≠ 0 := by rw [hYB]; simp
    obtain ⟨gB, cB, hB⟩ := own_some HRowB0 hYl
    rw [hB] at HRowB0
    rw [hB]
    have HRowB : Hid (V10.ownsRow wc.heap.size 3 1 (.slice (some ⟨gB, 0, none⟩) Y.length cB) Y.length (ints (zi Y))) := HRowB0
    have b0 : V10.cell? ⟨gB, 0, none⟩ = some (.int .i64 ((M : Int) - 1)) := by
      have := own_el HRowB.out (i := 0) (by omega)
      rw [zi_at, hYB] at this
      simp only [List.getD_cons_zero] at this
      rw [cast_pred hM1] at this
      exact this
    have hY1 : ((Y.length : Int) == 0) = false := by rw [beq_eq_false_iff_ne]; omega
    have hY2 : 0 < Y.length := by omega
    have HX40 : Hid (nn < 40 → ∃ j gA, X.length = j + 1 ∧ aA = some ⟨gA, 0, none⟩ ∧ V10.cell? ⟨gA, j, none⟩ = some (.int .i64 ((M : Int) - 1))) := fun h => by
      obtain ⟨r, hr⟩ := HlA.out h
      have hl : X.length = r.length + 1 := by rw [hr]; simp
      obtain ⟨gA, cA', hA'⟩ := own_some HRowA.out (by omega)
      obtain ⟨rfl, -⟩ : aA = some ⟨gA, 0, none⟩ ∧ cA = cA' := by simp only [Value.slice.injEq] at hA'; exact ⟨hA'.1, hA'.2.2⟩
      have := own_el HRowA.out (i := r.length) (by omega)
      rw [zi_at, hr] at this
      simp at this
      refine ⟨r.length, gA, hl, rfl, ?_⟩
      rw [this, cast_pred hM1]
    clear hA hB hYB hYl HRowB0 HRowA0 eM HfB HlA HRs HRb d1 d3 c2 hb10 hrow
    by_cases h40 : nn < 40
    · skip
      obtain ⟨jA, gA, hXj, rfl, lA⟩ := HX40.out h40
      have x1 : ((nn : Int) < 40) := by omega
      have x2 : ((X.length : Int) == 0) = false := by rw [beq_eq_false_iff_ne]; omega
      have x3 : (X.length : Int) - 1 = (jA : Int) := by omega
      have x4 : (0 : Int) ≤ (jA : Int) := Int.natCast_nonneg _
      have x5 : (jA : Int) < (X.length : Int) := by omega
      clear hXj
      go_wp2_with (first | (refine wl_at 46 rfl ?_) | fail)
      refine wl_take (v := ?_) (by kernel_rfl) (by go_simp; exact rfl) ?_
      simp only [Act.put, List.getElem_toArray, List.getElem_cons_zero, List.getElem_cons_succ, List.setIfInBounds_toArray, List.set_cons_zero, List.set_cons_succ]
      refine wl_take (v := ?_) (by kernel_rfl) (by go_simp; exact rfl) ?_
      simp only [Act.put, List.getElem_toArray, List.getElem_cons_zero, List.getElem_cons_succ, List.setIfInBounds_toArray, List.set_cons_zero, List.set_cons_succ]
      refine wl_take (v := ?_) (by kernel_rfl) (by go_simp; exact rfl) ?_
      simp only [Act.put, List.getElem_toArray, List.getElem_cons_zero, List.getElem_cons_succ, List.setIfInBounds_toArray, List.set_cons_zero, List.set_cons_succ]
      refine wl_take (v := ?_) (by kernel_rfl) (by go_simp; exact rfl) ?_
      simp only [Act.put, List.getElem_toArray, List.getElem_cons_zero, List.getElem_cons_succ, List.setIfInBounds_toArray, List.set_cons_zero, List.set_cons_succ]
      refine wl_take (v := ?_) (by kernel_rfl) (by go_simp; exact rfl) ?_
      simp only [Act.put, List.getElem_toArray, List.getElem_cons_zero, List.getElem_cons_succ, List.setIfInBounds_toArray, List.set_cons_zero, List.set_cons_succ]
      refine wl_take (v := ?_) (by kernel_rfl) (by go_simp; exact rfl) ?_
      simp only [Act.put, List.getElem_toArray, List.getElem_cons_zero, List.getElem_cons_succ, List.setIfInBounds_toArray, List.set_cons_zero, List.set_cons_succ]
      refine wl_take (v := ?_) (by kernel_rfl) (by go_simp; exact rfl) ?_
      simp only [Act.put, List.getElem_toArray, List.getElem_cons_zero, List.getElem_cons_succ, List.setIfInBounds_toArray, List.set_cons_zero, List.set_cons_succ]
      refine wl_take (v := ?_) (by kernel_rfl) (by go_simp; exact rfl) ?_
      simp only [Act.put, List.getElem_toArray, List.getElem_cons_zero, List.getElem_cons_succ, List.setIfInBounds_toArray, List.set_cons_zero, List.set_cons_succ]
      refine wl_take (v := ?_) (by kernel_rfl) (by go_simp; exact rfl) ?_
      simp only [Act.put, List.getElem_toArray, List.getElem_cons_zero, List.getElem_cons_succ, List.setIfInBounds_toArray, List.set_cons_zero, List.set_cons_succ]
      refine wl_take (v := ?_) (by kernel_rfl) (by go_simp; exact rfl) ?_
      simp only [Act.put, List.getElem_toArray, List.getElem_cons_zero, List.getElem_cons_succ, List.setIfInBounds_toArray, List.set_cons_zero, List.set_cons_succ]
      refine wl_take (v := ?_) (by kernel_rfl) (by go_simp; exact rfl) ?_
      simp only [Act.put, List.getElem_toArray, List.getElem_cons_zero, List.getElem_cons_succ, List.setIfInBounds_toArray, List.set_cons_zero, List.set_cons_succ]
      refine wl_take (v := ?_) (by kernel_rfl) (by go_simp; exact rfl) ?_
      simp only [Act.put, List.getElem_toArray, List.getElem_cons_zero, List.getElem_cons_succ, List.setIfInBounds_toArray, List.set_cons_zero, List.set_cons_succ]
      refine wl_take (v := ?_) (by kernel_rfl) (by go_simp; exact rfl) ?_
      simp only [Act.put, List.getElem_toArray, List.getElem_cons_zero, List.getElem_cons_succ, List.setIfInBounds_toArray, List.set_cons_zero, List.set_cons_succ]
      refine wl_take (v := ?_) (by kernel_rfl) (by go_simp; exact rfl) ?_
      simp only [Act.put, List.getElem_toArray, List.getElem_cons_zero, List.getElem_cons_succ, List.setIfInBounds_toArray, List.set_cons_zero, List.set_cons_succ]
      refine wl_take (v := ?_) (by kernel_rfl) (by go_simp; exact rfl) ?_
      simp only [Act.put, List.getElem_toArray, List.getElem_cons_zero, List.getElem_cons_succ, List.setIfInBounds_toArray, List.set_cons_zero, List.set_cons_succ]
      refine wl_take (v := ?_) (by kernel_rfl) (by go_simp; exact rfl) ?_
      simp only [Act.put, List.getElem_toArray, List.getElem_cons_zero, List.getElem_cons_succ, List.setIfInBounds_toArray, List.set_cons_zero, List.set_cons_succ]
      refine wl_take (v := ?_) (by kernel_rfl) (by go_simp; exact rfl) ?_
      simp only [Act.put, List.getElem_toArray, List.getElem_cons_zero, List.getElem_cons_succ, List.setIfInBounds_toArray, List.set_cons_zero, List.set_cons_succ]
      refine wl_take (v := ?_) (by kernel_rfl) (by go_simp; exact rfl) ?_
      simp only [Act.put, List.getElem_toArray, List.getElem_cons_zero, List.getElem_cons_succ, List.setIfInBounds_toArray, List.set_cons_zero, List.set_cons_succ]
      refine wl_take (v := ?_) (by kernel_rfl) (by go_simp; exact rfl) ?_
      simp only [Act.put, List.getElem_toArray, List.getElem_cons_zero, List.getElem_cons_succ, List.setIfInBounds_toArray, List.set_cons_zero, List.set_cons_succ]
      refine wl_take (v := ?_) (by kernel_rfl) (by go_simp; exact rfl) ?_
      simp only [Act.put, List.getElem_toArray, List.getElem_cons_zero, List.getElem_cons_succ, List.setIfInBounds_toArray, List.set_cons_zero, List.set_cons_succ]
      refine wl_take (v := ?_) (by kernel_rfl) (by go_simp; exact rfl) ?_
      simp only [Act.put, List.getElem_toArray, List.getElem_cons_zero, List.getElem_cons_succ, List.setIfInBounds_toArray, List.set_cons_zero, List.set_cons_succ]
      refine wl_take (v := .bool true) (by kernel_rfl) (by (go_simp <;> omega)) ?_
      simp only [Act.put, List.getElem_toArray, List.getElem_cons_zero, List.getElem_cons_succ, List.setIfInBounds_toArray, List.set_cons_zero, List.set_cons_succ]
      refine wl_take (v := ?_) (by kernel_rfl) (by go_simp; exact rfl) ?_
      simp only [Act.put, List.getElem_toArray, List.getElem_cons_zero, List.getElem_cons_succ, List.setIfInBounds_toArray, List.set_cons_zero, List.set_cons_succ]
      refine wl_take (v := ?_) (by kernel_rfl) (by go_simp; exact rfl) ?_
      simp only [Act.put, List.getElem_toArray, List.getElem_cons_zero, List.getElem_cons_succ, List.setIfInBounds_toArray, List.set_cons_zero, List.set_cons_succ]
      refine wl_take (v := ?_) (by kernel_rfl) (by go_simp; exact rfl) ?_
      simp only [Act.put, List.getElem_toArray, List.getElem_cons_zero, List.getElem_cons_succ, List.setIfInBounds_toArray, List.set_cons_zero, List.set_cons_succ]
      refine wl_take (v := ?_) (by kernel_rfl) (by go_simp; exact rfl) ?_
      simp only [Act.put, List.getElem_toArray, List.getElem_cons_zero, List.getElem_cons_succ, List.setIfInBounds_toArray, List.set_cons_zero, List.set_cons_succ]
      refine wl_take (v := ?_) (by kernel_rfl) (by go_simp; exact rfl) ?_
      simp only [Act.put, List.getElem_toArray, List.getElem_cons_zero, List.getElem_cons_succ, List.setIfInBounds_toArray, List.set_cons_zero, List.set_cons_succ]
      refine wl_take (v := ?_) (by kernel_rfl) (by go_simp; exact rfl) ?_
      simp only [Act.put, List.getElem_toArray, List.getElem_cons_zero, List.getElem_cons_succ, List.setIfInBounds_toArray, List.set_cons_zero, List.set_cons_succ]
      refine wl_take (v := ?_) (by kernel_rfl) (by go_simp; exact rfl) ?_
      simp only [Act.put, List.getElem_toArray, List.getElem_cons_zero, List.getElem_cons_succ, List.setIfInBounds_toArray, List.set_cons_zero, List.set_cons_succ]
      refine wl_take (v := ?_) (by kernel_rfl) (by go_simp; exact rfl) ?_
      simp only [Act.put, List.getElem_toArray, List.getElem_cons_zero, List.getElem_cons_succ, List.setIfInBounds_toArray, List.set_cons_zero, List.set_cons_succ]
      refine wl_take (v := .int .i64 (jA : Int)) (by kernel_rfl) (by (go_simp; exact wrap_id (by omega) (by omega))) ?_
      simp only [Act.put, List.getElem_toArray, List.getElem_cons_zero, List.getElem_cons_succ, List.setIfInBounds_toArray, List.set_cons_zero, List.set_cons_succ]
      refine wl_take (v := ?_) (by kernel_rfl) (by go_simp; exact rfl) ?_
      simp only [Act.put, List.getElem_toArray, List.getElem_cons_zero, List.getElem_cons_succ, List.setIfInBounds_toArray, List.set_cons_zero, List.set_cons_succ]
      refine wl_take (v := ?_) (by kernel_rfl) (by go_simp; exact rfl) ?_
      simp only [Act.put, List.getElem_toArray, List.getElem_cons_zero, List.getElem_cons_succ, List.setIfInBounds_toArray, List.set_cons_zero, List.set_cons_succ]
      refine wl_take (v := ?_) (by kernel_rfl) (by go_simp; exact rfl) ?_
      simp only [Act.put, List.getElem_toArray, List.getElem_cons_zero, List.getElem_cons_succ, List.setIfInBounds_toArray, List.set_cons_zero, List.set_cons_succ]
      refine wl_take (v := ?_) (by kernel_rfl) (by go_simp; exact rfl) ?_
      simp only [Act.put, List.getElem_toArray, List.getElem_cons_zero, List.getElem_cons_succ, List.setIfInBounds_toArray, List.set_cons_zero, List.set_cons_succ]
      refine wl_take (v := ?_) (by kernel_rfl) (by go_simp; exact rfl) ?_
      simp only [Act.put, List.getElem_toArray, List.getElem_cons_zero, List.getElem_cons_succ, List.setIfInBounds_toArray, List.set_cons_zero, List.set_cons_succ]
      refine wl_take (v := ?_) (by kernel_rfl) (by go_simp; exact rfl) ?_
      simp only [Act.put, List.getElem_toArray, List.getElem_cons_zero, List.getElem_cons_succ, List.setIfInBounds_toArray, List.set_cons_zero, List.set_cons_succ]
      refine wl_take (v := ?_) (by kernel_rfl) (by go_simp; exact rfl) ?_
      simp only [Act.put, List.getElem_toArray, List.getElem_cons_zero, List.getElem_cons_succ, List.setIfInBounds_toArray, List.set_cons_zero, List.set_cons_succ]
      refine ⟨?_⟩
      clear lA x3 x4 x5 b0 n2 x1 x2
      go_wp2_with (fail)
      go_loopw [9, 10] (fun x y wr => ∃ k : Nat, k ≤ X.length ∧ x = .int .i64 (k : Int) ∧ Hid (Below V10.heap.size V10 wr)) (fun x _ _ => X.length - (intOf x).toNat)
      case atStart => exact ⟨0, Nat.zero_le _, rfl, Below.refl _ _⟩
      case round =>
        obtain ⟨k, hk, rfl, HBk⟩ := hrel
        by_cases hlt : k < X.length
        · have i1 : (0 : Int) ≤ (k : Int) := Int.natCast_nonneg _
          have i2 : (k : Int) < (X.length : Int) := by omega
          go_wp2_with (fail)
          go_loopw [10] (fun y wq => ∃ q : Nat, q ≤ Y.length ∧ y = .int .i64 (q : Int) ∧ Hid (Below V10.heap.size V10 wq)) (fun y _ => Y.length - (intOf y).toNat)
          case atStart => exact ⟨0, Nat.zero_le _, rfl, HBk.out⟩
          case round =>
            obtain ⟨q, hq, rfl, HBq⟩ := hrel
            by_cases hlt2 : q < Y.length
            · have j1 : (0 : Int) ≤ (q : Int) := Int.natCast_nonneg _
              have j2 : (q : Int) < (Y.length : Int) := by omega
              obtain ⟨ab, ao, hab, cA⟩ := ((own_rd HRowA.out).still HBq.out).at hlt
              obtain ⟨bb, bo, hbb, cB⟩ := ((own_rd HRowB.out).still HBq.out).at hlt2
              rw [zi_at] at cA cB
              have hmA := HmA.out _ (take_mem (d := 0) hlt)
              have hmB := HmB.out _ (take_mem (d := 0) hlt2)
              have hne : X.getD k 0 &&& Y.getD q 0 ≠ 0 := wins_meet hmA.1 hmB.1
              have hand := i64_and_nat (X.getD k 0) (Y.getD q 0) (by have := hmA.2; omega) (by have := hmB.2; omega)
              generalize X.getD k 0 = x at *
              generalize Y.getD q 0 = y at *
              generalize x &&& y = z at *
              have hz : ((z : Int) == 0) = false := by rw [beq_eq_false_iff_ne]; omega
              obtain ⟨rfl, rfl⟩ : gB = bb ∧ 0 = bo := by have := Option.some.inj hbb; exact ⟨congrArg Addr.block this, congrArg Addr.off this⟩
              rw [Nat.zero_add] at cB
              obtain ⟨rfl, rfl⟩ : gA = ab ∧ 0 = ao := by have := Option.some.inj hab; exact ⟨congrArg Addr.block this, congrArg Addr.off this⟩
              rw [Nat.zero_add] at cA
              clear hab hbb hmA hmB hne
              go_wp2_with (fail)
              go_quiet (fail)
              go_wp2_with (fail)
              exact ⟨⟨q + 1, by omega, by go_num, HBq.out.trans (by repeat (first | exact Below.refl _ _ | apply below_drewN | apply Below.drew))⟩, by simp [intOf]; omega⟩
            · have j2 : ¬ (q : Int) < (Y.length : Int) := by omega
              go_wp2_with (fail)
              exact ⟨⟨k + 1, by omega, by go_num, HBq.out⟩, by simp [intOf]; omega⟩
        · have i2 : ¬ (k : Int) < (X.length : Int) := by omega
          go_wp2
          go_ret
          exact ⟨rfl, bstep HBV.out HBk.out⟩
    · skip
      have x1 : ¬ ((nn : Int) < 40) := by omega
      go_wp2_with (first | (refine wl_at 46 rfl ?_) | fail)
      refine wl_take (v := ?_) (by kernel_rfl) (by go_simp; exact rfl) ?_
      simp only [Act.put, List.getElem_toArray, List.getElem_cons_zero, List.getElem_cons_succ, List.setIfInBounds_toArray, List.set_cons_zero, List.set_cons_succ]
      refine wl_take (v := ?_) (by kernel_rfl) (by go_simp; exact rfl) ?_
      simp only [Act.put, List.getElem_toArray, List.getElem_cons_zero, List.getElem_cons_succ, List.setIfInBounds_toArray, List.set_cons_zero, List.set_cons_succ]
      refine wl_take (v := ?_) (by kernel_rfl) (by go_simp; exact rfl) ?_
      simp only [Act.put, List.getElem_toArray, List.getElem_cons_zero, List.getElem_cons_succ, List.setIfInBounds_toArray, List.set_cons_zero, List.set_cons_succ]
      refine wl_take (v := ?_) (by kernel_rfl) (by go_simp; exact rfl) ?_
      simp only [Act.put, List.getElem_toArray, List.getElem_cons_zero, List.getElem_cons_succ, List.setIfInBounds_toArray, List.set_cons_zero, List.set_cons_succ]
      refine wl_take (v := ?_) (by kernel_rfl) (by go_simp; exact rfl) ?_
      simp only [Act.put, List.getElem_toArray, List.getElem_cons_zero, List.getElem_cons_succ, List.setIfInBounds_toArray, List.set_cons_zero, List.set_cons_succ]
      refine wl_take (v := ?_) (by kernel_rfl) (by go_simp; exact rfl) ?_
      simp only [Act.put, List.getElem_toArray, List.getElem_cons_zero, List.getElem_cons_succ, List.setIfInBounds_toArray, List.set_cons_zero, List.set_cons_succ]
      refine wl_take (v := ?_) (by kernel_rfl) (by go_simp; exact rfl) ?_
      simp only [Act.put, List.getElem_toArray, List.getElem_cons_zero, List.getElem_cons_succ, List.setIfInBounds_toArray, List.set_cons_zero, List.set_cons_succ]
      refine wl_take (v := ?_) (by kernel_rfl) (by go_simp; exact rfl) ?_
      simp only [Act.put, List.getElem_toArray, List.getElem_cons_zero, List.getElem_cons_succ, List.setIfInBounds_toArray, List.set_cons_zero, List.set_cons_succ]
      refine wl_take (v := ?_) (by kernel_rfl) (by go_simp; exact rfl) ?_
      simp only [Act.put, List.getElem_toArray, List.getElem_cons_zero, List.getElem_cons_succ, List.setIfInBounds_toArray, List.set_cons_zero, List.set_cons_succ]
      refine wl_take (v := ?_) (by kernel_rfl) (by go_simp; exact rfl) ?_
      simp only [Act.put, List.getElem_toArray, List.getElem_cons_zero, List.getElem_cons_succ, List.setIfInBounds_toArray, List.set_cons_zero, List.set_cons_succ]
      refine wl_take (v := ?_) (by kernel_rfl) (by go_simp; exact rfl) ?_
      simp only [Act.put, List.getElem_toArray, List.getElem_cons_zero, List.getElem_cons_succ, List.setIfInBounds_toArray, List.set_cons_zero, List.set_cons_succ]
      refine wl_take (v := ?_) (by kernel_rfl) (by go_simp; exact rfl) ?_
      simp only [Act.put, List.getElem_toArray, List.getElem_cons_zero, List.getElem_cons_succ, List.setIfInBounds_toArray, List.set_cons_zero, List.set_cons_succ]
      refine wl_take (v := ?_) (by kernel_rfl) (by go_simp; exact rfl) ?_
      simp only [Act.put, List.getElem_toArray, List.getElem_cons_zero, List.getElem_cons_succ, List.setIfInBounds_toArray, List.set_cons_zero, List.set_cons_succ]
      refine wl_take (v := ?_) (by kernel_rfl) (by go_simp; exact rfl) ?_
      simp only [Act.put, List.getElem_toArray, List.getElem_cons_zero, List.getElem_cons_succ, List.setIfInBounds_toArray, List.set_cons_zero, List.set_cons_succ]
      refine wl_take (v := ?_) (by kernel_rfl) (by go_simp; exact rfl) ?_
      simp only [Act.put, List.getElem_toArray, List.getElem_cons_zero, List.getElem_cons_succ, List.setIfInBounds_toArray, List.set_cons_zero, List.set_cons_succ]
      refine wl_take (v := ?_) (by kernel_rfl) (by go_simp; exact rfl) ?_
      simp only [Act.put, List.getElem_toArray, List.getElem_cons_zero, List.getElem_cons_succ, List.setIfInBounds_toArray, List.set_cons_zero, List.set_cons_succ]
      refine wl_take (v := ?_) (by kernel_rfl) (by go_simp; exact rfl) ?_
      simp only [Act.put, List.getElem_toArray, List.getElem_cons_zero, List.getElem_cons_succ, List.setIfInBounds_toArray, List.set_cons_zero, List.set_cons_succ]
      refine wl_take (v := ?_) (by kernel_rfl) (by go_simp; exact rfl) ?_
      simp only [Act.put, List.getElem_toArray, List.getElem_cons_zero, List.getElem_cons_succ, List.setIfInBounds_toArray, List.set_cons_zero, List.set_cons_succ]
      refine wl_take (v := ?_) (by kernel_rfl) (by go_simp; exact rfl) ?_
      simp only [Act.put, List.getElem_toArray, List.getElem_cons_zero, List.getElem_cons_succ, List.setIfInBounds_toArray, List.set_cons_zero, List.set_cons_succ]
      refine wl_take (v := ?_) (by kernel_rfl) (by go_simp; exact rfl) ?_
      simp only [Act.put, List.getElem_toArray, List.getElem_cons_zero, List.getElem_cons_succ, List.setIfInBounds_toArray, List.set_cons_zero, List.set_cons_succ]
      refine wl_take (v := ?_) (by kernel_rfl) (by go_simp; exact rfl) ?_
      simp only [Act.put, List.getElem_toArray, List.getElem_cons_zero, List.getElem_cons_succ, List.setIfInBounds_toArray, List.set_cons_zero, List.set_cons_succ]
      refine wl_take (v := .bool false) (by kernel_rfl) (by (go_simp <;> omega)) ?_
      simp only [Act.put, List.getElem_toArray, List.getElem_cons_zero, List.getElem_cons_succ, List.setIfInBounds_toArray, List.set_cons_zero, List.set_cons_succ]
      refine wl_take (v := ?_) (by kernel_rfl) (by go_simp; exact rfl) ?_
      simp only [Act.put, List.getElem_toArray, List.getElem_cons_zero, List.getElem_cons_succ, List.setIfInBounds_toArray, List.set_cons_zero, List.set_cons_succ]
      refine wl_skip (by kernel_rfl) ?_
      simp only [Act.put, List.getElem_toArray, List.getElem_cons_zero, List.getElem_cons_succ, List.setIfInBounds_toArray, List.set_cons_zero, List.set_cons_succ]
      refine wl_skip (by kernel_rfl) ?_
      simp only [Act.put, List.getElem_toArray, List.getElem_cons_zero, List.getElem_cons_succ, List.setIfInBounds_toArray, List.set_cons_zero, List.set_cons_succ]
      refine wl_skip (by kernel_rfl) ?_
      simp only [Act.put, List.getElem_toArray, List.getElem_cons_zero, List.getElem_cons_succ, List.setIfInBounds_toArray, List.set_cons_zero, List.set_cons_succ]
      refine wl_skip (by kernel_rfl) ?_
      simp only [Act.put, List.getElem_toArray, List.getElem_cons_zero, List.getElem_cons_succ, List.setIfInBounds_toArray, List.set_cons_zero, List.set_cons_succ]
      refine wl_skip (by kernel_rfl) ?_
      simp only [Act.put, List.getElem_toArray, List.getElem_cons_zero, List.getElem_cons_succ, List.setIfInBounds_toArray, List.set_cons_zero, List.set_cons_succ]
      refine wl_skip (by kernel_rfl) ?_
      simp only [Act.put, List.getElem_toArray, List.getElem_cons_zero, List.getElem_cons_succ, List.setIfInBounds_toArray, List.set_cons_zero, List.set_cons_succ]
      refine wl_skip (by kernel_rfl) ?_
      simp only [Act.put, List.getElem_toArray, List.getElem_cons_zero, List.getElem_cons_succ, List.setIfInBounds_toArray, List.set_cons_zero, List.set_cons_succ]
      refine wl_skip (by kernel_rfl) ?_
      simp only [Act.put, List.getElem_toArray, List.getElem_cons_zero, List.getElem_cons_succ, List.setIfInBounds_toArray, List.set_cons_zero, List.set_cons_succ]
      refine wl_skip (by kernel_rfl) ?_
      simp only [Act.put, List.getElem_toArray, List.getElem_cons_zero, List.getElem_cons_succ, List.setIfInBounds_toArray, List.set_cons_zero, List.set_cons_succ]
      refine wl_skip (by kernel_rfl) ?_
      simp only [Act.put, List.getElem_toArray, List.getElem_cons_zero, List.getElem_cons_succ, List.setIfInBounds_toArray, List.set_cons_zero, List.set_cons_succ]
      refine wl_skip (by kernel_rfl) ?_
      simp only [Act.put, List.getElem_toArray, List.getElem_cons_zero, List.getElem_cons_succ, List.setIfInBounds_toArray, List.set_cons_zero, List.set_cons_succ]
      refine wl_skip (by kernel_rfl) ?_
      simp only [Act.put, List.getElem_toArray, List.getElem_cons_zero, List.getElem_cons_succ, List.setIfInBounds_toArray, List.set_cons_zero, List.set_cons_succ]
      refine wl_skip (by kernel_rfl) ?_
      simp only [Act.put, List.getElem_toArray, List.getElem_cons_zero, List.getElem_cons_succ, List.setIfInBounds_toArray, List.set_cons_zero, List.set_cons_succ]
      refine wl_take (v := ?_) (by kernel_rfl) (by go_simp; exact rfl) ?_
      simp only [Act.put, List.getElem_toArray, List.getElem_cons_zero, List.getElem_cons_succ, List.setIfInBounds_toArray, List.set_cons_zero, List.set_cons_succ]
      refine wl_take (v := ?_) (by kernel_rfl) (by go_simp; exact rfl) ?_
      simp only [Act.put, List.getElem_toArray, List.getElem_cons_zero, List.getElem_cons_succ, List.setIfInBounds_toArray, List.set_cons_zero, List.set_cons_succ]
      refine ⟨?_⟩
      clear b0 n2 x1
      go_wp2_with (fail)
      go_loopw [9, 10] (fun x y wr => ∃ k : Nat, k ≤ X.length ∧ x = .int .i64 (k : Int) ∧ Hid (Below V10.heap.size V10 wr)) (fun x _ _ => X.length - (intOf x).toNat)
      case atStart => exact ⟨0, Nat.zero_le _, rfl, Below.refl _ _⟩
      case round =>
        obtain ⟨k, hk, rfl, HBk⟩ := hrel
        by_cases hlt : k < X.length
        · have i1 : (0 : Int) ≤ (k : Int) := Int.natCast_nonneg _
          have i2 : (k : Int) < (X.length : Int) := by omega
          go_wp2_with (fail)
          go_loopw [10] (fun y wq => ∃ q : Nat, q ≤ Y.length ∧ y = .int .i64 (q : Int) ∧ Hid (Below V10.heap.size V10 wq)) (fun y _ => Y.length - (intOf y).toNat)
          case atStart => exact ⟨0, Nat.zero_le _, rfl, HBk.out⟩
          case round =>
            obtain ⟨q, hq, rfl, HBq⟩ := hrel
            by_cases hlt2 : q < Y.length
            · have j1 : (0 : Int) ≤ (q : Int) := Int.natCast_nonneg _
              have j2 : (q : Int) < (Y.length : Int) := by omega
              obtain ⟨ab, ao, hab, cA⟩ := ((own_rd HRowA.out).still HBq.out).at hlt
              obtain ⟨bb, bo, hbb, cB⟩ := ((own_rd HRowB.out).still HBq.out).at hlt2
              rw [zi_at] at cA cB
              have hmA := HmA.out _ (take_mem (d := 0) hlt)
              have hmB := HmB.out _ (take_mem (d := 0) hlt2)
              have hne : X.getD k 0 &&& Y.getD q 0 ≠ 0 := wins_meet hmA.1 hmB.1
              have hand := i64_and_nat (X.getD k 0) (Y.getD q 0) (by have := hmA.2; omega) (by have := hmB.2; omega)
              generalize X.getD k 0 = x at *
              generalize Y.getD q 0 = y at *
              generalize x &&& y = z at *
              have hz : ((z : Int) == 0) = false := by rw [beq_eq_false_iff_ne]; omega
              obtain ⟨rfl, rfl⟩ : gB = bb ∧ 0 = bo := by have := Option.some.inj hbb; exact ⟨congrArg Addr.block this, congrArg Addr.off this⟩
              rw [Nat.zero_add] at cB
              rw [hab]
              clear hab hbb hmA hmB hne
              go_wp2_with (fail)
              go_quiet (fail)
              go_wp2_with (fail)
              exact ⟨⟨q + 1, by omega, by go_num, HBq.out.trans (by repeat (first | exact Below.refl _ _ | apply below_drewN | apply Below.drew))⟩, by simp [intOf]; omega⟩
            · have j2 : ¬ (q : Int) < (Y.length : Int) := by omega
              go_wp2_with (fail)
              exact ⟨⟨k + 1, by omega, by go_num, HBq.out⟩, by simp [intOf]; omega⟩
        · have i2 : ¬ (k : Int) < (X.length : Int) := by omega
          go_wp2
          go_ret
          exact ⟨rfl, bstep HBV.out HBk.out⟩
  · rename_i hne2
    exact absurd rfl hne2
end
end Go.Proofs.Ytnmnobcikmiojaa.Qm
