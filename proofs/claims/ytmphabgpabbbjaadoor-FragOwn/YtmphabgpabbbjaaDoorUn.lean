import Derived.Test.YtmphabgpabbbjaaDoorUm
namespace Go.Proofs.YtmphabgpabbbjaaDoor.Fg
open Go.RowKit Mb
set_option linter.unusedVariables false
set_option maxRecDepth 100000
set_option linter.unusedSimpArgs false
section
variable {w w' W : World} {B : Nat}
theorem step_part {ops : Array Oper} {o : Oper} {a : Act} {K : Act → World → Prop} {Q : Exit → Act → World → Prop} {E : Prop} (hgd : o.guard = none) (x y : Operand) (ho : o.op = .store 64 x y) {b off : Nat} {L : List Value} (hx : a.eval x = .pointer (some ⟨b, off, none⟩)) (hy : a.eval y = .agg L.toArray) (hl : L.length = 4) (ht : w.there b off 4) (h1 : ∀ u ∈ L, u.oneCell' = true)
    (h : K (a.put o.dst undef) (w.setCells b off L)) : if Region.wanted o (yielded ops a.tmps) = true then Oper.wp Tryd.prog o a w K Q else E := by
  have hw : Region.wanted o (yielded ops a.tmps) = true := by simp [Region.wanted, hgd]
  rw [if_pos hw]
  have hi : (Tryd.prog.info? 64).map (·.size) = some 4 := by kernel_rfl
  exact wp_store_mid 64 x y ho b off L.toArray hx hy (by simpa [hl] using ht) (by simpa [hl] using hi) (all_oneCell_toArray h1) (by simpa using h)
theorem fresh_mid {W2 D1 : World} {J : Jn} {k : Nat} {bs : List Int} {A : Option Addr} {m d kd g : Nat} (h : J.Ok w B) (hk : k < J.n) (hp0 : pl bs = 0) (hb : Below w.heap.size w W2) (hx : W2.heap[kd]? = some (.cells (hcs bs) 59 (0, 0))) (hrd : Rd W2 A m d (bs.drop 8)) (hkw : w.heap.size ≤ kd) (hb1 : Below W2.heap.size W2 D1) (hg : W2.heap.size = g) (hbk : Bk D1 g (List.replicate (sz bs) 0)) :
    At w (D1.setCells J.bp (k * 4) (pcs ⟨sz bs, sm bs, []⟩ (some g))) B J k bs [] (List.replicate (sz bs) 0) g A m d kd := by
  have hb2 : Below w.heap.size w D1 := bstep hb hb1
  have hgw : w.heap.size ≤ g := by rw [← hg]; exact hb.size
  have hjb := lt_heap h.jb
  have hjp := h.row.lt
  have hks := ksets (P := fun j => j = J.bp) (b := J.bp) rfl (pcs ⟨sz bs, sm bs, []⟩ (some g)) (k * 4) D1
  have hlo := h.lb
  have hkd := lt_heap hx
  have hrow1 : Fb D1 J.bp 64 (J.n * 4) J.f := h.row.keep (Kept.ofBelow hb2 (fun _ => False)) id
  refine ⟨⟨J.row_put k _ _ hrow1, hp0.symm, hbk.keep hks (by omega), List.length_replicate, by rw [hp0]; rfl, By.of fun x hx => by rw [List.eq_of_mem_replicate hx]; omega, by rw [joined_zero hp0]; rfl, (Kept.ofBelow hb2 _).step hks (fun j hj => by rw [hj]; exact .inl (.inr (.inl rfl))), .inr hgw, by omega, fun t g' ht hg' => by have := (h.yes t g' hg').1.lt; omega, by omega, by omega, h.jp⟩, hks.obj ((hb1.block _ hkd).trans hx) (by omega), rd_keep_row hrow1 (hrd.still hb1) hks, ?_, fun t g' ht hg' => ?_, hkw, by omega, by omega, hk, h⟩
  · rw [hks.block _ (by have := hb2.size; omega) h.jp]
    exact hb2.block _ hjb
  · rw [hks.block _ (by have := hb2.size; have := (h.yes t g' hg').1.lt; omega) (h.gb hg').2]
    exact hb2.block _ (h.yes t g' hg').1.lt
set_option maxHeartbeats 2000000 in
theorem take_new {J : Jn} (h : J.Ok w B) {k : Nat} (hk : k < J.n) {ao : Option Addr} {n c : Nat} {bs : List Int} (hr : Rd w ao n c bs) (hn : n ≤ 140737488355328) (hf : form bs = true) (hp0 : pl bs = 0) (hT : Tab w) (hB0 : 0 < B) : Calls Tryd.prog 10 #[.pointer (some ⟨J.b, 0, none⟩), .int .i64 (k : Int), .slice ao n c] w fun e w' => TkOut w w' B J k (take (J.ps k) bs) e := by
  have HS : Hid (Calls Tryd.prog 26 #[.pointer (some ⟨J.b, 0, none⟩), .int .i64 (k : Int)] w fun e w' => e = .returned (.bool (inR 0 ((J.n : Int) - 1) k)) ∧ w = w') := h.sender k
  rw [inR_t (by omega) (by omega)] at HS
  have HO : Hid (Calls Tryd.prog 27 #[.slice ao n c] w fun e w' => ∃ A m d, e = .returned (.tuple #[.agg #[.int .i64 (sz bs : Int), .int .i64 (pl bs : Int), .int .i64 (sm bs : Int)], .slice A m d, .bool true]) ∧ Rd w' A m d (bs.drop 8) ∧ Below w.heap.size w w') := (opened_any hr hn).mono fun e w' ⟨A, m, d, he, hrd, hb⟩ => ⟨A, m, d, by rw [he, hf]; rfl, hrd hf, hb⟩
  have hform := (form_iff bs).1 hf
  have hby := hr.by_
  have n1 := h.n1
  have n16 := h.n16
  have i1 : (0 : Int) ≤ (k : Int) := Int.natCast_nonneg _
  have i2 : (k : Int) < (J.n : Int) := by omega
  have Hh : Hid (J.Ok w B) := h
  clear h hr hf
  go_enter Tryd.func10, Tryd.ntmps10
  go_wp2_with (first | (go_at_call 26; refine HS.out.mono ?_; rintro e w2 ⟨rfl, rfl⟩) | (go_at_call 27; refine HO.out.mono ?_) | fail)
  rintro e W1 ⟨A, m, d, rfl, hrd, hb1⟩
  have c0 : W1.cell? ⟨J.b, 0, none⟩ = some (.slice (some ⟨J.bp, 0, none⟩) J.n J.n) := below_at hb1 (blk_cell Hh.out.jb 0)
  generalize hW2 : W1.alloc (.cells #[.int .i64 (sz bs : Int), .int .i64 (pl bs : Int), .int .i64 (sm bs : Int)] 59) = W2
  have hb2 : Below w.heap.size w W2 := by rw [← hW2]; exact balloc hb1
  have hb12 : Below W1.heap.size W1 W2 := by rw [← hW2]; exact balloc (Below.refl _ _)
  have hblk : W2.heap[W1.heap.size]? = some (.cells #[.int .i64 (sz bs : Int), .int .i64 (pl bs : Int), .int .i64 (sm bs : Int)] 59 (0, 0)) := by rw [← hW2]; exact heap_alloc_new _ _
  have c2 : W2.cell? ⟨J.b, 0, none⟩ = some (.slice (some ⟨J.bp, 0, none⟩) J.n J.n) := below_at hb12 c0
  have hge : w.heap.size ≤ W1.heap.size := hb1.size
  generalize hkd : W1.heap.size = kd at *
  have x0 : W2.cell? ⟨kd, 0, none⟩ = some (.int .i64 (sz bs : Int)) := blk_cell hblk 0
  have x1 : W2.cell? ⟨kd, 1, none⟩ = some (.int .i64 (pl bs : Int)) := blk_cell hblk 1
  have x2 : W2.cell? ⟨kd, 2, none⟩ = some (.int .i64 (sm bs : Int)) := blk_cell hblk 2
  have Hok : Hid (J.Ok W2 B) := Hh.out.still hb2
  have Hrd : Hid (Rd W2 A m d (bs.drop 8)) := hrd.still (by rw [hkd]; exact hb12)
  have Hb2 : Hid (Below w.heap.size w W2) := hb2
  have hm0 : m = min 248 (sz bs - pl bs) := by rw [← hrd.len, hform.dlen]
  have hlt0 := hform.lt
  have hmle : m ≤ sz bs - pl bs := by omega
  have hfit : pl bs + m ≤ sz bs := by omega
  have hbig := hform.big
  have bb1 : (pl bs : Int) ≤ 4000 := by omega
  have bb2 : (m : Int) ≤ 248 := by omega
  have bb3 : (sz bs : Int) ≤ 4000 := by omega
  have hp0' : ((pl bs : Int) == 0) = true := by rw [beq_iff_eq]; omega
  have hft : fits (J.ps k) bs = true := fits_zero hp0
  have Hp0 : Hid (pl bs = 0) := hp0
  have Hx : Hid (W2.heap[kd]? = some (.cells (hcs bs) 59 (0, 0))) := hblk
  clear hblk hrd hb1 hb12 c0 hb2 hp0 Hok hm0
  go_wp2_with fail
  clear hW2
  refine wp_region_held_drew (S := (fun w' => w'.cell? ⟨kd, 0, none⟩ = some (.int .i64 (sz bs : Int)) ∧ w'.cell? ⟨kd, 1, none⟩ = some (.int .i64 (pl bs : Int)) ∧ w'.cell? ⟨kd, 2, none⟩ = some (.int .i64 (sm bs : Int)))) (by kernel_rfl) ⟨below_at (Below.refl _ _).drew x0, below_at (Below.refl _ _).drew x1, below_at (Below.refl _ _).drew x2⟩ (fun hHeld => ?_)
  simp only [Act.put, List.size_toArray, List.length_cons, List.length_nil, Nat.zero_add]
  refine wpAnyH_take (i := 0) (v := .pointer (some ⟨J.bp, k * 4, none⟩)) rfl (by kernel_rfl) (by kernel_rfl) (by kernel_rfl) (fun _ _ _ h => h) (Or.inl ⟨by rfl, fun w' hS => by go_simp⟩) hHeld ?_
  simp only [Act.put, List.getElem_toArray, List.getElem_cons_zero, List.getElem_cons_succ, List.setIfInBounds_toArray, List.set_cons_zero, List.set_cons_succ]
  refine wpAnyH_take (i := 1) (v := .agg #[.int .i64 (sz bs : Int), .int .i64 (pl bs : Int), .int .i64 (sm bs : Int)]) rfl (by kernel_rfl) (by kernel_rfl) (by kernel_rfl) (fun _ _ _ h => h) (Or.inl ⟨by rfl, fun w' hS => by (obtain ⟨s0, s1, s2⟩ := hS; go_simp)⟩) hHeld ?_
  simp only [Act.put, List.getElem_toArray, List.getElem_cons_zero, List.getElem_cons_succ, List.setIfInBounds_toArray, List.set_cons_zero, List.set_cons_succ]
  refine wpAnyH_take (i := 2) (v := .pointer (some ⟨kd, 0, none⟩)) rfl (by kernel_rfl) (by kernel_rfl) (by kernel_rfl) (fun _ _ _ h => h) (Or.inl ⟨by rfl, fun w' hS => by go_simp⟩) hHeld ?_
  simp only [Act.put, List.getElem_toArray, List.getElem_cons_zero, List.getElem_cons_succ, List.setIfInBounds_toArray, List.set_cons_zero, List.set_cons_succ]
  refine wpAnyH_take (i := 3) (v := .int .i64 (sz bs : Int)) rfl (by kernel_rfl) (by kernel_rfl) (by kernel_rfl) (fun _ _ _ h => h) (Or.inl ⟨by rfl, fun w' hS => by (obtain ⟨s0, s1, s2⟩ := hS; go_simp)⟩) hHeld ?_
  simp only [Act.put, List.getElem_toArray, List.getElem_cons_zero, List.getElem_cons_succ, List.setIfInBounds_toArray, List.set_cons_zero, List.set_cons_succ]
  have hd1 : Below W2.heap.size W2 W2.drew := (Below.refl _ _).drew
  have y0 := below_at hd1 x0
  have y1 := below_at hd1 x1
  have y2 := below_at hd1 x2
  have Hhx : Hid (W2.drew.heap[kd]? = some (.cells (hcs bs) 59 (0, 0))) := (hd1.block _ (lt_heap Hx.out)).trans Hx.out
  have Hrd1 : Hid (Rd W2.drew A m d (bs.drop 8)) := Hrd.out.still hd1
  have Hbd : Hid (Below w.heap.size w W2.drew) := bstep Hb2.out hd1
  clear hd1 Hrd Hb2 x0 x1 x2 Hx c2
  generalize W2.drew = D at *
  refine wpAnyH_ready (rs := [4]) (by kernel_rfl) (by simp) ?_
  refine AllReadyH.cons rfl (fun K hK => ?_) AllReadyH.nil
  refine step_make rfl (.tmp 38) (.tmp 38) rfl (sz bs) rfl rfl (by omega) (fun D1 hbk hb1 => ?_)
  refine hK.out _ _ ⟨below_at hb1 y0, below_at hb1 y1, below_at hb1 y2⟩ (fun hHeld => ?_)
  clear hK K
  generalize hgD : D.heap.size = g at *
  refine wpAnyH_take (i := 5) (v := .agg #[.int .i64 (sz bs : Int), .int .i64 (pl bs : Int), .int .i64 (sm bs : Int), .slice (some ⟨g, 0, none⟩) (sz bs) (sz bs)]) rfl (by kernel_rfl) (by kernel_rfl) (by kernel_rfl) (fun _ _ _ h => h) (Or.inl ⟨by rfl, fun w' hS => by go_simp⟩) hHeld ?_
  simp only [Act.put, List.getElem_toArray, List.getElem_cons_zero, List.getElem_cons_succ, List.setIfInBounds_toArray, List.set_cons_zero, List.set_cons_succ]
  refine wpAnyH_take (i := 6) (v := .pointer (some ⟨J.bp, k * 4, none⟩)) rfl (by kernel_rfl) (by kernel_rfl) (by kernel_rfl) (fun _ _ _ h => h) (Or.inl ⟨by rfl, fun w' hS => by go_simp⟩) hHeld ?_
  simp only [Act.put, List.getElem_toArray, List.getElem_cons_zero, List.getElem_cons_succ, List.setIfInBounds_toArray, List.set_cons_zero, List.set_cons_succ]
  have HA : Hid (At w (D1.setCells J.bp (k * 4) (pcs ⟨sz bs, sm bs, []⟩ (some g))) B J k bs [] (List.replicate (sz bs) 0) g A m d kd) := fresh_mid Hh.out hk Hp0.out Hbd.out Hhx.out Hrd1.out hge (by rw [hgD]; exact hb1) hgD hbk
  have hLp : [.int .i64 (sz bs : Int), .int .i64 (pl bs : Int), .int .i64 (sm bs : Int), .slice (some ⟨g, 0, none⟩) (sz bs) (sz bs)] = pcs ⟨sz bs, sm bs, []⟩ (some g) := by simp [pcs, slg, Hp0.out]
  have hth : D1.there J.bp (k * 4) 4 := (Hh.out.row.keep (Kept.ofBelow (bstep Hbd.out (by rw [hgD]; exact hb1)) (fun _ => False)) id).there (k * 4) 4 (by omega)
  refine wpAnyH_ready (rs := [7]) (by kernel_rfl) (by simp) ?_
  refine AllReadyH.cons rfl (fun K hK => ?_) AllReadyH.nil
  refine step_part rfl (.tmp 41) (.tmp 40) rfl (L := [.int .i64 (sz bs : Int), .int .i64 (pl bs : Int), .int .i64 (sm bs : Int), .slice (some ⟨g, 0, none⟩) (sz bs) (sz bs)]) rfl rfl rfl hth (by intro u hu; rw [hLp] at hu; exact pcs_one _ _ u hu) ?_
  rw [hLp]
  clear hLp hth hHeld y0 y1 y2
  generalize D1.setCells J.bp (k * 4) (pcs ⟨sz bs, sm bs, []⟩ (some g)) = V at *
  obtain ⟨x0, x1, x2⟩ := HA.out.x
  refine hK.out _ _ ⟨x0, x1, x2⟩ (fun hHeld => ?_)
  clear hK K
  refine wpAnyH_done (by kernel_rfl) ?_ _
  clear hHeld hgD hbk hb1 Hhx Hrd1
  obtain ⟨r0, r1, r2, r3⟩ := HA.out.r
  obtain ⟨qb, hqb⟩ : ∃ qb : List Int, [] = qb := ⟨_, rfl⟩
  rw [hqb] at HA
  obtain ⟨L, hL⟩ : ∃ L : List Int, List.replicate (sz bs) 0 = L := ⟨_, rfl⟩
  rw [hL] at HA
  obtain ⟨A2, hA2⟩ : ∃ A2, (if sz bs = pl bs then some (⟨g, 0, none⟩ : Addr) else some ⟨g, pl bs, none⟩) = A2 := ⟨_, rfl⟩
  have HA2p : Hid (0 < m → A2 = some ⟨g, pl bs, none⟩) := fun hm => by rw [← hA2, if_neg (by omega)]
  have hple : (pl bs : Int) ≤ (sz bs : Int) := by omega
  clear hqb hL r3
  have Hb2 : True := trivial
  go_wp2_with fail
  refine wp_region_held_drew (S := (fun w' => w'.cell? ⟨kd, 0, none⟩ = some (.int .i64 (sz bs : Int)) ∧ w'.cell? ⟨kd, 1, none⟩ = some (.int .i64 (pl bs : Int)) ∧ w'.cell? ⟨kd, 2, none⟩ = some (.int .i64 (sm bs : Int)) ∧ w'.cell? ⟨J.bp, k * 4, none⟩ = some (.int .i64 (sz bs : Int)) ∧ w'.cell? ⟨J.bp, k * 4 + 1, none⟩ = some (.int .i64 (pl bs : Int)) ∧ w'.cell? ⟨J.bp, k * 4 + 2, none⟩ = some (.int .i64 (sm bs : Int)))) (by kernel_rfl) ⟨below_at (Below.refl _ _).drew x0, below_at (Below.refl _ _).drew x1, below_at (Below.refl _ _).drew x2, below_at (Below.refl _ _).drew r0, below_at (Below.refl _ _).drew r1, below_at (Below.refl _ _).drew r2⟩ (fun hHeld => ?_)
  simp only [Act.put, List.size_toArray, List.length_cons, List.length_nil, Nat.zero_add]
  refine wpAnyH_take (i := 0) (v := .agg #[.int .i64 (sz bs : Int), .int .i64 (pl bs : Int), .int .i64 (sm bs : Int)]) rfl (by kernel_rfl) (by kernel_rfl) (by kernel_rfl) (fun _ _ _ h => h) (Or.inl ⟨by rfl, fun w' hS => by (obtain ⟨s0, s1, s2, s3, s4, s5⟩ := hS; go_simp)⟩) hHeld ?_
  simp only [Act.put, List.getElem_toArray, List.getElem_cons_zero, List.getElem_cons_succ, List.setIfInBounds_toArray, List.set_cons_zero, List.set_cons_succ]
  refine wpAnyH_take (i := 1) (v := .pointer (some ⟨J.bp, k * 4, none⟩)) rfl (by kernel_rfl) (by kernel_rfl) (by kernel_rfl) (fun _ _ _ h => h) (Or.inl ⟨by rfl, fun w' hS => by go_simp⟩) hHeld ?_
  simp only [Act.put, List.getElem_toArray, List.getElem_cons_zero, List.getElem_cons_succ, List.setIfInBounds_toArray, List.set_cons_zero, List.set_cons_succ]
  refine wpAnyH_take (i := 2) (v := .pointer (some ⟨J.bp, k * 4, none⟩)) rfl (by kernel_rfl) (by kernel_rfl) (by kernel_rfl) (fun _ _ _ h => h) (Or.inl ⟨by rfl, fun w' hS => by go_simp⟩) hHeld ?_
  simp only [Act.put, List.getElem_toArray, List.getElem_cons_zero, List.getElem_cons_succ, List.setIfInBounds_toArray, List.set_cons_zero, List.set_cons_succ]
  refine wpAnyH_take (i := 3) (v := .pointer (some ⟨J.bp, k * 4, none⟩)) rfl (by kernel_rfl) (by kernel_rfl) (by kernel_rfl) (fun _ _ _ h => h) (Or.inl ⟨by rfl, fun w' hS => by go_simp⟩) hHeld ?_
  simp only [Act.put, List.getElem_toArray, List.getElem_cons_zero, List.getElem_cons_succ, List.setIfInBounds_toArray, List.set_cons_zero, List.set_cons_succ]
  refine wpAnyH_take (i := 4) (v := .agg #[.int .i64 (sz bs : Int), .int .i64 (pl bs : Int), .int .i64 (sm bs : Int)]) rfl (by kernel_rfl) (by kernel_rfl) (by kernel_rfl) (fun _ _ _ h => h) (Or.inl ⟨by rfl, fun w' hS => by (obtain ⟨s0, s1, s2, s3, s4, s5⟩ := hS; go_simp)⟩) hHeld ?_
  simp only [Act.put, List.getElem_toArray, List.getElem_cons_zero, List.getElem_cons_succ, List.setIfInBounds_toArray, List.set_cons_zero, List.set_cons_succ]
  refine wpAnyH_take (i := 5) (v := .bool (!(true))) rfl (by kernel_rfl) (by kernel_rfl) (by kernel_rfl) (fun _ _ _ h => h) (Or.inl ⟨by rfl, fun w' hS => run_neqop 59 (.tmp 42) (.tmp 46) 59 rfl _ _ (by rfl) (by rfl) (by kernel_rfl) _ ((by rw [eq_head]; simp))⟩) hHeld ?_
  simp only [Act.put, List.getElem_toArray, List.getElem_cons_zero, List.getElem_cons_succ, List.setIfInBounds_toArray, List.set_cons_zero, List.set_cons_succ]
  refine wpAnyH_done (by kernel_rfl) ?_ _
  clear hHeld
  have hd1 : Below V.heap.size V V.drew := (Below.refl _ _).drew
  have HA1 : Hid (At w V.drew B J k bs qb L g A m d kd) := HA.out.still hd1
  clear hd1 HA x0 x1 x2 r0 r1 r2
  generalize V.drew = V1 at *
  obtain ⟨x0, x1, x2⟩ := HA1.out.x
  obtain ⟨r0, r1, r2, r3⟩ := HA1.out.r
  go_wp2_with fail
  refine wp_region_held_drew (S := (fun w' => w'.cell? ⟨J.bp, k * 4 + 3, none⟩ = some (.slice (some ⟨g, 0, none⟩) (sz bs) (sz bs)) ∧ w'.cell? ⟨kd, 1, none⟩ = some (.int .i64 (pl bs : Int)))) (by kernel_rfl) ⟨below_at (Below.refl _ _).drew r3, below_at (Below.refl _ _).drew x1⟩ (fun hHeld => ?_)
  simp only [Act.put, List.size_toArray, List.length_cons, List.length_nil, Nat.zero_add]
  refine wpAnyH_take (i := 0) (v := .pointer (some ⟨J.bp, k * 4, none⟩)) rfl (by kernel_rfl) (by kernel_rfl) (by kernel_rfl) (fun _ _ _ h => h) (Or.inl ⟨by rfl, fun w' hS => by go_simp⟩) hHeld ?_
  simp only [Act.put, List.getElem_toArray, List.getElem_cons_zero, List.getElem_cons_succ, List.setIfInBounds_toArray, List.set_cons_zero, List.set_cons_succ]
  refine wpAnyH_take (i := 1) (v := .pointer (some ⟨J.bp, k * 4, none⟩)) rfl (by kernel_rfl) (by kernel_rfl) (by kernel_rfl) (fun _ _ _ h => h) (Or.inl ⟨by rfl, fun w' hS => by go_simp⟩) hHeld ?_
  simp only [Act.put, List.getElem_toArray, List.getElem_cons_zero, List.getElem_cons_succ, List.setIfInBounds_toArray, List.set_cons_zero, List.set_cons_succ]
  refine wpAnyH_take (i := 2) (v := .pointer (some ⟨J.bp, k * 4, none⟩)) rfl (by kernel_rfl) (by kernel_rfl) (by kernel_rfl) (fun _ _ _ h => h) (Or.inl ⟨by rfl, fun w' hS => by go_simp⟩) hHeld ?_
  simp only [Act.put, List.getElem_toArray, List.getElem_cons_zero, List.getElem_cons_succ, List.setIfInBounds_toArray, List.set_cons_zero, List.set_cons_succ]
  refine wpAnyH_take (i := 3) (v := .pointer (some ⟨J.bp, k * 4 + 1, none⟩)) rfl (by kernel_rfl) (by kernel_rfl) (by kernel_rfl) (fun _ _ _ h => h) (Or.inl ⟨by rfl, fun w' hS => by go_simp⟩) hHeld ?_
  simp only [Act.put, List.getElem_toArray, List.getElem_cons_zero, List.getElem_cons_succ, List.setIfInBounds_toArray, List.set_cons_zero, List.set_cons_succ]
  refine wpAnyH_take (i := 5) (v := .pointer (some ⟨J.bp, k * 4, none⟩)) rfl (by kernel_rfl) (by kernel_rfl) (by kernel_rfl) (fun _ _ _ h => h) (Or.inl ⟨by rfl, fun w' hS => by go_simp⟩) hHeld ?_
  simp only [Act.put, List.getElem_toArray, List.getElem_cons_zero, List.getElem_cons_succ, List.setIfInBounds_toArray, List.set_cons_zero, List.set_cons_succ]
  refine wpAnyH_take (i := 6) (v := .pointer (some ⟨J.bp, k * 4, none⟩)) rfl (by kernel_rfl) (by kernel_rfl) (by kernel_rfl) (fun _ _ _ h => h) (Or.inl ⟨by rfl, fun w' hS => by go_simp⟩) hHeld ?_
  simp only [Act.put, List.getElem_toArray, List.getElem_cons_zero, List.getElem_cons_succ, List.setIfInBounds_toArray, List.set_cons_zero, List.set_cons_succ]
  refine wpAnyH_take (i := 7) (v := .pointer (some ⟨J.bp, k * 4 + 3, none⟩)) rfl (by kernel_rfl) (by kernel_rfl) (by kernel_rfl) (fun _ _ _ h => h) (Or.inl ⟨by rfl, fun w' hS => by go_simp⟩) hHeld ?_
  simp only [Act.put, List.getElem_toArray, List.getElem_cons_zero, List.getElem_cons_succ, List.setIfInBounds_toArray, List.set_cons_zero, List.set_cons_succ]
  refine wpAnyH_take (i := 8) (v := .slice (some ⟨g, 0, none⟩) (sz bs) (sz bs)) rfl (by kernel_rfl) (by kernel_rfl) (by kernel_rfl) (fun _ _ _ h => h) (Or.inl ⟨by rfl, fun w' hS => by (obtain ⟨s0, s1⟩ := hS; go_simp)⟩) hHeld ?_
  simp only [Act.put, List.getElem_toArray, List.getElem_cons_zero, List.getElem_cons_succ, List.setIfInBounds_toArray, List.set_cons_zero, List.set_cons_succ]
  refine wpAnyH_take (i := 9) (v := .pointer (some ⟨kd, 1, none⟩)) rfl (by kernel_rfl) (by kernel_rfl) (by kernel_rfl) (fun _ _ _ h => h) (Or.inl ⟨by rfl, fun w' hS => by go_simp⟩) hHeld ?_
  simp only [Act.put, List.getElem_toArray, List.getElem_cons_zero, List.getElem_cons_succ, List.setIfInBounds_toArray, List.set_cons_zero, List.set_cons_succ]
  refine wpAnyH_take (i := 10) (v := .int .i64 (pl bs : Int)) rfl (by kernel_rfl) (by kernel_rfl) (by kernel_rfl) (fun _ _ _ h => h) (Or.inl ⟨by rfl, fun w' hS => by (obtain ⟨s0, s1⟩ := hS; go_simp)⟩) hHeld ?_
  simp only [Act.put, List.getElem_toArray, List.getElem_cons_zero, List.getElem_cons_succ, List.setIfInBounds_toArray, List.set_cons_zero, List.set_cons_succ]
  refine wpAnyH_take (i := 11) (v := .slice A2 (sz bs - pl bs) (sz bs - pl bs)) rfl (by kernel_rfl) (by kernel_rfl) (by kernel_rfl) (fun _ _ _ h => h) (Or.inl ⟨by rfl, fun w' hS => by go_simp⟩) hHeld ?_
  simp only [Act.put, List.getElem_toArray, List.getElem_cons_zero, List.getElem_cons_succ, List.setIfInBounds_toArray, List.set_cons_zero, List.set_cons_succ]
  refine wpAnyH_take (i := 12) (v := .slice A m d) rfl (by kernel_rfl) (by kernel_rfl) (by kernel_rfl) (fun _ _ _ h => h) (Or.inl ⟨by rfl, fun w' hS => by go_simp⟩) hHeld ?_
  simp only [Act.put, List.getElem_toArray, List.getElem_cons_zero, List.getElem_cons_succ, List.setIfInBounds_toArray, List.set_cons_zero, List.set_cons_succ]
  have hd1 : Below V1.heap.size V1 V1.drew := (Below.refl _ _).drew
  have HA2 : Hid (At w V1.drew B J k bs qb L g A m d kd) := HA1.out.still hd1
  clear hd1 HA1 x0 x1 x2 r0 r1 r2 r3
  generalize V1.drew = D at *
  obtain ⟨x0, x1, x2⟩ := HA2.out.x
  obtain ⟨r0, r1, r2, r3⟩ := HA2.out.r
  refine wpAnyH_ready (rs := [4, 13]) (by kernel_rfl) (by simp) ?_
  refine AllReadyH.cons rfl (fun K hK => ?la) (AllReadyH.cons rfl (fun K hK => ?lb) AllReadyH.nil)
  case' la =>
    go_simp
    refine hK.out _ _ ⟨r3, x1⟩ (fun hHeld => ?_)
    clear hK K
    refine wpAnyH_ready (rs := [13]) (by kernel_rfl) (by simp) ?_
    refine AllReadyH.cons rfl (fun K hK => ?_) AllReadyH.nil
    refine step_copy rfl (.tmp 59) (.tmp 60) rfl A2 A (sz bs - pl bs) (sz bs - pl bs) m d rfl rfl HA2.out.mid.bk HA2.out.rd hmle HA2p.out (by rw [HA2.out.mid.ll]; exact hfit) (fun D3 hb3 hk3 => ?_)
    have HX0 : Hid (Af w (D3.setCell ⟨J.bp, k * 4 + 1, none⟩ (.int .i64 ((pl bs : Int) + (m : Int)))) B J k bs (spl L (pl bs) (bs.drop 8)) g kd) := HA2.out.copied hform hby hft hb3 hk3
    have y1 : D3.cell? ⟨J.bp, k * 4 + 1, none⟩ = some (.int .i64 (pl bs : Int)) := kept_cell hk3 (fun e => HA2.out.mid.gp e.symm) r1
    have y3 : D3.cell? ⟨J.bp, k * 4 + 3, none⟩ = some (.slice (some ⟨g, 0, none⟩) (sz bs) (sz bs)) := kept_cell hk3 (fun e => HA2.out.mid.gp e.symm) r3
    have z1 : D3.cell? ⟨kd, 1, none⟩ = some (.int .i64 (pl bs : Int)) := kept_cell hk3 HA2.out.kg x1
    have yf : D3.frozen? ⟨J.bp, k * 4 + 1, none⟩ = false := (HA2.out.mid.row.keep hk3 (fun e => HA2.out.mid.gp e.symm)).fz _
    refine hK.out _ _ ⟨y3, z1⟩ (fun hHeld => ?_)
    clear hK K
    refine wpAnyH_take (i := 14) (v := .int .i64 ((pl bs : Int) + (m : Int))) rfl (by kernel_rfl) (by kernel_rfl) (by kernel_rfl) (fun _ _ _ h => h) (Or.inl ⟨by rfl, fun w' hS => by (go_simp; exact wrap_id (by omega) (by omega))⟩) hHeld ?_
    simp only [Act.put, List.getElem_toArray, List.getElem_cons_zero, List.getElem_cons_succ, List.setIfInBounds_toArray, List.set_cons_zero, List.set_cons_succ]
    refine wpAnyH_take (i := 15) (v := .pointer (some ⟨J.bp, k * 4, none⟩)) rfl (by kernel_rfl) (by kernel_rfl) (by kernel_rfl) (fun _ _ _ h => h) (Or.inl ⟨by rfl, fun w' hS => by go_simp⟩) hHeld ?_
    simp only [Act.put, List.getElem_toArray, List.getElem_cons_zero, List.getElem_cons_succ, List.setIfInBounds_toArray, List.set_cons_zero, List.set_cons_succ]
    refine wpAnyH_take (i := 16) (v := .pointer (some ⟨J.bp, k * 4, none⟩)) rfl (by kernel_rfl) (by kernel_rfl) (by kernel_rfl) (fun _ _ _ h => h) (Or.inl ⟨by rfl, fun w' hS => by go_simp⟩) hHeld ?_
    simp only [Act.put, List.getElem_toArray, List.getElem_cons_zero, List.getElem_cons_succ, List.setIfInBounds_toArray, List.set_cons_zero, List.set_cons_succ]
    refine wpAnyH_take (i := 17) (v := .pointer (some ⟨J.bp, k * 4 + 1, none⟩)) rfl (by kernel_rfl) (by kernel_rfl) (by kernel_rfl) (fun _ _ _ h => h) (Or.inl ⟨by rfl, fun w' hS => by go_simp⟩) hHeld ?_
    simp only [Act.put, List.getElem_toArray, List.getElem_cons_zero, List.getElem_cons_succ, List.setIfInBounds_toArray, List.set_cons_zero, List.set_cons_succ]
    obtain ⟨X, hX⟩ : ∃ X, D3.setCell ⟨J.bp, k * 4 + 1, none⟩ (.int .i64 ((pl bs : Int) + (m : Int))) = X := ⟨_, rfl⟩
    have HX : Hid (Af w X B J k bs (spl L (pl bs) (bs.drop 8)) g kd) := (show Af w X B J k bs (spl L (pl bs) (bs.drop 8)) g kd from by rw [← hX]; exact HX0.out)
    have u1 : X.cell? ⟨kd, 1, none⟩ = some (.int .i64 (pl bs : Int)) := blk_cell HX.out.hx 1
    have u3 : X.cell? ⟨J.bp, k * 4 + 3, none⟩ = some (.slice (some ⟨g, 0, none⟩) (sz bs) (sz bs)) := (put_cells hk rfl HX.out.row).2.2.2
    clear HX0
    refine wpAnyH_ready (rs := [18]) (by kernel_rfl) (by simp) ?_
    refine AllReadyH.cons rfl (fun K hK => ?_) AllReadyH.nil
    go_simp
    refine hK.out _ _ ⟨u3, u1⟩ (fun hHeld => ?_)
    clear hK K
    refine wpAnyH_done (by kernel_rfl) ?_ _
    clear hHeld y1 y3 z1 yf hX hb3 hk3
  case' lb =>
    refine step_copy rfl (.tmp 59) (.tmp 60) rfl A2 A (sz bs - pl bs) (sz bs - pl bs) m d rfl rfl HA2.out.mid.bk HA2.out.rd hmle HA2p.out (by rw [HA2.out.mid.ll]; exact hfit) (fun D3 hb3 hk3 => ?_)
    have HX0 : Hid (Af w (D3.setCell ⟨J.bp, k * 4 + 1, none⟩ (.int .i64 ((pl bs : Int) + (m : Int)))) B J k bs (spl L (pl bs) (bs.drop 8)) g kd) := HA2.out.copied hform hby hft hb3 hk3
    have y1 : D3.cell? ⟨J.bp, k * 4 + 1, none⟩ = some (.int .i64 (pl bs : Int)) := kept_cell hk3 (fun e => HA2.out.mid.gp e.symm) r1
    have y3 : D3.cell? ⟨J.bp, k * 4 + 3, none⟩ = some (.slice (some ⟨g, 0, none⟩) (sz bs) (sz bs)) := kept_cell hk3 (fun e => HA2.out.mid.gp e.symm) r3
    have z1 : D3.cell? ⟨kd, 1, none⟩ = some (.int .i64 (pl bs : Int)) := kept_cell hk3 HA2.out.kg x1
    have yf : D3.frozen? ⟨J.bp, k * 4 + 1, none⟩ = false := (HA2.out.mid.row.keep hk3 (fun e => HA2.out.mid.gp e.symm)).fz _
    refine hK.out _ _ ⟨y3, z1⟩ (fun hHeld => ?_)
    clear hK K
    refine wpAnyH_ready (rs := [4]) (by kernel_rfl) (by simp) ?_
    refine AllReadyH.cons rfl (fun K hK => ?_) AllReadyH.nil
    go_simp
    refine hK.out _ _ ⟨y3, z1⟩ (fun hHeld => ?_)
    clear hK K
    refine wpAnyH_take (i := 14) (v := .int .i64 ((pl bs : Int) + (m : Int))) rfl (by kernel_rfl) (by kernel_rfl) (by kernel_rfl) (fun _ _ _ h => h) (Or.inl ⟨by rfl, fun w' hS => by (go_simp; exact wrap_id (by omega) (by omega))⟩) hHeld ?_
    simp only [Act.put, List.getElem_toArray, List.getElem_cons_zero, List.getElem_cons_succ, List.setIfInBounds_toArray, List.set_cons_zero, List.set_cons_succ]
    refine wpAnyH_take (i := 15) (v := .pointer (some ⟨J.bp, k * 4, none⟩)) rfl (by kernel_rfl) (by kernel_rfl) (by kernel_rfl) (fun _ _ _ h => h) (Or.inl ⟨by rfl, fun w' hS => by go_simp⟩) hHeld ?_
    simp only [Act.put, List.getElem_toArray, List.getElem_cons_zero, List.getElem_cons_succ, List.setIfInBounds_toArray, List.set_cons_zero, List.set_cons_succ]
    refine wpAnyH_take (i := 16) (v := .pointer (some ⟨J.bp, k * 4, none⟩)) rfl (by kernel_rfl) (by kernel_rfl) (by kernel_rfl) (fun _ _ _ h => h) (Or.inl ⟨by rfl, fun w' hS => by go_simp⟩) hHeld ?_
    simp only [Act.put, List.getElem_toArray, List.getElem_cons_zero, List.getElem_cons_succ, List.setIfInBounds_toArray, List.set_cons_zero, List.set_cons_succ]
    refine wpAnyH_take (i := 17) (v := .pointer (some ⟨J.bp, k * 4 + 1, none⟩)) rfl (by kernel_rfl) (by kernel_rfl) (by kernel_rfl) (fun _ _ _ h => h) (Or.inl ⟨by rfl, fun w' hS => by go_simp⟩) hHeld ?_
    simp only [Act.put, List.getElem_toArray, List.getElem_cons_zero, List.getElem_cons_succ, List.setIfInBounds_toArray, List.set_cons_zero, List.set_cons_succ]
    obtain ⟨X, hX⟩ : ∃ X, D3.setCell ⟨J.bp, k * 4 + 1, none⟩ (.int .i64 ((pl bs : Int) + (m : Int))) = X := ⟨_, rfl⟩
    have HX : Hid (Af w X B J k bs (spl L (pl bs) (bs.drop 8)) g kd) := (show Af w X B J k bs (spl L (pl bs) (bs.drop 8)) g kd from by rw [← hX]; exact HX0.out)
    have u1 : X.cell? ⟨kd, 1, none⟩ = some (.int .i64 (pl bs : Int)) := blk_cell HX.out.hx 1
    have u3 : X.cell? ⟨J.bp, k * 4 + 3, none⟩ = some (.slice (some ⟨g, 0, none⟩) (sz bs) (sz bs)) := (put_cells hk rfl HX.out.row).2.2.2
    clear HX0
    refine wpAnyH_ready (rs := [18]) (by kernel_rfl) (by simp) ?_
    refine AllReadyH.cons rfl (fun K hK => ?_) AllReadyH.nil
    go_simp
    refine hK.out _ _ ⟨u3, u1⟩ (fun hHeld => ?_)
    clear hK K
    refine wpAnyH_done (by kernel_rfl) ?_ _
    clear hHeld y1 y3 z1 yf hX hb3 hk3
  all_goals
    clear u1 u3 x0 x1 x2 r0 r1 r2 r3
    have Hmid : Hid (Mid w D B J k bs qb L g) := HA2.out.mid
    have HKP : Hid (kd ≠ J.bp) := HA2.out.kp
    clear HA2
    obtain ⟨v0, v1, v2, v3⟩ := put_cells hk rfl HX.out.row
    have u0 : X.cell? ⟨kd, 0, none⟩ = some (.int .i64 (sz bs : Int)) := blk_cell HX.out.hx 0
    have u2 : X.cell? ⟨kd, 2, none⟩ = some (.int .i64 (sm bs : Int)) := blk_cell HX.out.hx 2
    by_cases hw : (joined (J.ps k) bs).length < sz bs
    · have hwi : ((joined (J.ps k) bs).length : Int) < (sz bs : Int) := by omega
      have HE : Hid (take (J.ps k) bs = ⟨⟨sz bs, sm bs, joined (J.ps k) bs⟩, none, 0⟩) := (show _ = _ from by rw [take_eq ((form_iff bs).2 hform) hft, if_pos hw])
      generalize hjl : ((joined (J.ps k) bs).length : Int) = jl at *
      go_wp2_with fail
      go_quiet (fail)
      go_wp2
      refine bodyPost_ret (v := .tuple #[.slice none 0 0, .bool false, .int .i64 0]) (by simp [results, Tryd.results10, go_sem]) rfl ?_
      have HX2 := HX.out.still Hh.out (below_drewN (Below.refl _ _) nq)
      rw [HE.out]
      exact Hmid.out.fin_more Hh.out hk hform hby hft hw HX2.kp HX2.row HX2.bk HX2.ll HX2.lt HX2.lb HX2.jb HX2.oth
    · have hwi : ¬ ((joined (J.ps k) bs).length : Int) < (sz bs : Int) := by omega
      have hjs : (joined (J.ps k) bs).length = sz bs := by have := joined_len hform hft; have := hform.lt; omega
      have HLJ : Hid (spl L (pl bs) (bs.drop 8) = joined (J.ps k) bs) := (show _ = _ from by have := HX.out.lt; rw [List.take_of_length_le (by rw [HX.out.ll]; omega)] at this; exact this)
      clear Hb2
      generalize hjl : ((joined (J.ps k) bs).length : Int) = jl at *
      go_wp2_with fail
      go_quiet (fail)
      have HX2 : Hid (Af w (X.drewN nq) B J k bs (spl L (pl bs) (bs.drop 8)) g kd) := HX.out.still Hh.out (below_drewN (Below.refl _ _) nq)
      clear HX v0 v1 v2 v3 u0 u2
      generalize X.drewN nq = X2 at *
      have HZ := HX2.out.zero Hh.out Hmid.out.gp HKP.out
      obtain ⟨v0, v1, v2, v3⟩ := put_cells hk rfl HX2.out.row
      rw [hjl] at v1
      have f0 := HX2.out.row.fz (k * 4)
      have f1 := HX2.out.row.fz (k * 4 + 1)
      have f2 := HX2.out.row.fz (k * 4 + 2)
      have f3 := HX2.out.row.fz (k * 4 + 3)
      obtain ⟨Y, hY⟩ : ∃ Y, (((X2.setCell ⟨J.bp, k * 4, none⟩ (.int .i64 0)).setCell ⟨J.bp, k * 4 + 1, none⟩ (.int .i64 0)).setCell ⟨J.bp, k * 4 + 2, none⟩ (.int .i64 0)).setCell ⟨J.bp, k * 4 + 3, none⟩ (.slice none 0 0) = Y := ⟨_, rfl⟩
      rw [show X2.setCells J.bp (k * 4) (pcs p0 none) = Y from hY] at HZ
      obtain ⟨Z1, Z2, Z3, Z4, Z5, Z6⟩ := HZ
      rw [HLJ.out] at Z2
      have y0 : Y.cell? ⟨kd, 0, none⟩ = some (.int .i64 (sz bs : Int)) := blk_cell Z4 0
      have y2 : Y.cell? ⟨kd, 2, none⟩ = some (.int .i64 (sm bs : Int)) := blk_cell Z4 2
      have hTY : Tab Y := hT.keep Z3 (fun h0 => by have := Hh.out.own_lo 0 h0; omega)
      have HSum : Hid (∀ Y', Below Y.heap.size Y Y' → Calls Tryd.prog 13 #[.slice (some ⟨g, 0, none⟩) (sz bs) (sz bs)] Y' fun e w2 => e = .returned (.int .i64 ((crc (joined (J.ps k) bs) : Nat) : Int)) ∧ w2 = Y') := fun Y' hb' => (sum_any (by have := (Z2.all (sz bs) (by omega) (joined_by (Hh.out.ok k) hby)).still hb'; rw [hjs] at this; exact this) (by omega) (hTY.still hb')).mono fun e w2 hh => ⟨hh.1, hh.2.symm⟩
      have HZ1 : Hid (Fb Y J.bp 64 (J.n * 4) (J.put k p0 none).f) := Z1
      have HZ2 : Hid (Bk Y g (joined (J.ps k) bs)) := Z2
      have HZ3 : Hid (Kept w Y J.own) := Z3
      have HZ5 : Hid (Y.heap[J.b]? = w.heap[J.b]?) := Z5
      have HZ6 : Hid (∀ t g', t ≠ k → J.gs t = some g' → Y.heap[g']? = w.heap[g']?) := Z6
      have HFD : Hid (∀ nq, TkOut w (Y.drewN nq) B J k ⟨p0, some (joined (J.ps k) bs), 0⟩ (.returned (.tuple #[.slice (some ⟨g, 0, none⟩) (sz bs) (sz bs), .bool true, .int .i64 0])) ∧ TkOut w (Y.drewN nq) B J k ⟨p0, none, 91⟩ (.returned (.tuple #[.slice none 0 0, .bool false, .int .i64 91]))) := fun nq => by
        have hb' : Below Y.heap.size Y (Y.drewN nq) := below_drewN (Below.refl _ _) nq
        have := Hmid.out.fin_done Hh.out hk hby (X := Y.drewN nq) (HZ3.out.step (Kept.ofBelow hb' (fun _ => False)) (fun _ hf => hf.elim)) (HZ1.out.keep (Kept.ofBelow hb' (fun _ => False)) id) (HZ2.out.still hb') ((hb'.block _ (Nat.lt_of_lt_of_le (lt_heap Hh.out.jb) HZ3.out.size)).trans HZ5.out) (fun t g' ht hg => (hb'.block _ (Nat.lt_of_lt_of_le (Hh.out.yes t g' hg).1.lt HZ3.out.size)).trans (HZ6.out t g' ht hg))
        rw [hjs] at this
        exact this
      clear Z1 Z2 Z3 Z4 Z5 Z6 hTY
      go_wp2_with fail
      clear hY v0 v1 v2 v3 f0 f1 f2 f3
      by_cases hcr : crc (joined (J.ps k) bs) = sm bs
      · have hcb : (((crc (joined (J.ps k) bs) : Nat) : Int) != (sm bs : Int)) = false := by rw [hcr]; simp
        have HE : Hid (take (J.ps k) bs = ⟨p0, some (joined (J.ps k) bs), 0⟩) := (show _ = _ from by rw [take_eq ((form_iff bs).2 hform) hft, if_neg hw, if_pos hcr])
        clear hcr
        generalize ((crc (joined (J.ps k) bs) : Nat) : Int) = cr at *
        go_quiet ((go_at_call 13; exact Calls.quiet_of_same (HSum.out _ (by repeat (first | exact Below.refl _ _ | apply below_drewN | apply Below.drew)))))
        go_wp2
        rw [HE.out]
        exact bodyPost_ret (v := .tuple #[.slice (some ⟨g, 0, none⟩) (sz bs) (sz bs), .bool true, .int .i64 0]) (by simp [results, Tryd.results10, go_sem]) rfl (HFD.out _).1
      · have hcb : (((crc (joined (J.ps k) bs) : Nat) : Int) != (sm bs : Int)) = true := by rw [bne_iff_ne]; omega
        have HE : Hid (take (J.ps k) bs = ⟨p0, none, 91⟩) := (show _ = _ from by rw [take_eq ((form_iff bs).2 hform) hft, if_neg hw, if_neg hcr])
        clear hcr
        generalize ((crc (joined (J.ps k) bs) : Nat) : Int) = cr at *
        go_quiet ((go_at_call 13; exact Calls.quiet_of_same (HSum.out _ (by repeat (first | exact Below.refl _ _ | apply below_drewN | apply Below.drew)))))
        go_wp2
        rw [HE.out]
        exact bodyPost_ret (v := .tuple #[.slice none 0 0, .bool false, .int .i64 91]) (by simp [results, Tryd.results10, go_sem]) rfl (HFD.out _).2
theorem take_any {J : Jn} (h : J.Ok w B) {k : Nat} (hk : k < J.n) {ao : Option Addr} {n c : Nat} {bs : List Int} (hr : Rd w ao n c bs) (hn : n ≤ 140737488355328) (hT : Tab w) (hB0 : 0 < B) : Calls Tryd.prog 10 #[.pointer (some ⟨J.b, 0, none⟩), .int .i64 (k : Int), .slice ao n c] w fun e w' => TkOut w w' B J k (take (J.ps k) bs) e := by
  have hno : (form bs && fits (J.ps k) bs) = false → take (J.ps k) bs = ⟨J.ps k, none, 91⟩ := fun hh => by
    unfold take
    rw [hh]
    rfl
  have hsame : ∀ {w' : World}, Below w.heap.size w w' → TkOut w w' B J k ⟨J.ps k, none, 91⟩ (.returned (.tuple #[.slice none 0 0, .bool false, .int .i64 91])) := fun {w'} hb => by
    refine ⟨none, 0, 0, J.gs k, rfl, fun _ => ⟨rfl, rfl, rfl⟩, fun b hb => (by cases hb), ?_, Kept.ofBelow hb _, ?_⟩
    · show (J.put k (J.ps k) (J.gs k)).Ok w' B
      rw [put_self]
      exact h.still hb
    · show ∀ j, (J.put k (J.ps k) (J.gs k)).own j → _
      rw [put_self]
      exact fun j hj => .inl hj
  cases hf : form bs with
  | false =>
    refine (take_form h hk hr hn hf).mono ?_
    rintro e w' ⟨rfl, hb⟩
    rw [hno (by rw [hf]; rfl)]
    exact hsame hb
  | true =>
    by_cases hp0 : pl bs = 0
    · exact take_new h hk hr hn hf hp0 hT hB0
    · cases hft : fits (J.ps k) bs with
      | false =>
        refine (take_misfit h hk hr hn hf hp0 hft).mono ?_
        rintro e w' ⟨rfl, hb⟩
        rw [hno (by rw [hf, hft]; rfl)]
        exact hsame hb
      | true => exact take_more h hk hr hn hf hp0 hft hT hB0
end
end Go.Proofs.YtmphabgpabbbjaaDoor.Fg
