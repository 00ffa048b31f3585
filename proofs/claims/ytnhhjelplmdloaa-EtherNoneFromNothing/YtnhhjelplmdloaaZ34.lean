import Derived.Test.YtnhhjelplmdloaaZ33
namespace Go.Proofs.Ytnhhjelplmdloaa.Et
open Go.RowKit Go.Maps
set_option linter.unusedVariables false
set_option linter.unusedSimpArgs false
set_option maxRecDepth 100000
section
variable {E E1 E' : En} {w w' w1 w2 w3 : World} {B K m : Nat}
theorem own_ck {t n c i : Nat} {a : Option Addr} {l : List Value} (h : w.ownsRow B t 1 (.slice a n c) n l) (hi : i < n) : ∃ g, a = some ⟨g, 0, none⟩ ∧ B ≤ g ∧ (∃ C, w.heap[g]? = some (.cells C t (0, 0)) ∧ i < C.size) ∧ w.cell? ⟨g, i, none⟩ = l[i]? := by
  rcases h.2 with ⟨e, h0⟩ | ⟨g, cap, cur, hv, hB, hg, hnc, hcm, hcs, htk⟩
  · omega
  · simp only [Value.slice.injEq] at hv
    obtain ⟨rfl, -, rfl⟩ := hv
    refine ⟨g, rfl, hB, ⟨cur, hg, by rw [hcs]; omega⟩, ?_⟩
    rw [blk_cell hg, ← htk, List.getElem?_take_of_lt (by omega)]
    simp
theorem own_put1 {t n c i g : Nat} {l : List Value} (h : w.ownsRow B t 1 (.slice (some ⟨g, 0, none⟩) n c) n l) (hi : i < n) (x : Value) : (w.setCell ⟨g, i, none⟩ x).ownsRow B t 1 (.slice (some ⟨g, 0, none⟩) n c) n (l.set i x) := by
  refine ⟨by simp [h.1], ?_⟩
  rcases h.2 with ⟨e, h0⟩ | ⟨g', cap, cur, hv, hB, hg, hnc, hcm, hcs, htk⟩
  · omega
  · simp only [Value.slice.injEq, Option.some.injEq, Addr.mk.injEq, and_true] at hv
    obtain ⟨rfl, -, rfl⟩ := hv
    refine .inr ⟨g, c, cur.setIfInBounds i x, rfl, hB, blk_set hg rfl, hnc, hcm, by simpa using hcs, ?_⟩
    rw [Array.toList_setIfInBounds, List.take_set, htk]
def Be.cm (e : Be) : Be := ⟨e.src, e.dst, e.a, e.c, e.bs, true⟩
theorem getD_setB (L : List Be) (i j : Nat) (x : Be) (hi : i < L.length) : (L.set i x).getD j e0 = if j = i then x else L.getD j e0 := by
  simp only [List.getD, List.getElem?_set]
  by_cases e : i = j
  · subst e
    simp [hi]
  · simp [e, Ne.symm e]
theorem set_self {l : List Value} {k : Nat} {v : Value} (h : l[k]? = some v) : l.set k v = l := by
  apply List.ext_getElem?
  intro j
  rw [List.getElem?_set]
  split
  · next e =>
    subst e
    rw [h]
    simp [(List.getElem?_eq_some_iff.1 h).1]
  · rfl
theorem map_at {es : List Be} {k : Nat} (hk : k < es.length) (f : Be → Value) : (es.map f)[k]? = some (f (es.getD k e0)) := by
  rw [List.getElem?_map, List.getD, List.getElem?_eq_getElem hk]
  rfl
theorem B4.read {bb k N sb db tb cb sc dc bc cc : Nat} {es : List Be} {lc : List Value} (hN : es.length = N) (hk : k < N) (q : B4 w B bb (.slice (some ⟨sb, 0, none⟩) N sc) (.slice (some ⟨db, 0, none⟩) N dc) (.slice (some ⟨tb, 0, none⟩) N bc) (.slice (some ⟨cb, 0, none⟩) N cc) N N N N (e9 Be.src es) (e9 Be.dst es) (es.map Be.v) lc) : w.cell? ⟨bb, 0, none⟩ = some (.slice (some ⟨sb, 0, none⟩) N sc) ∧ w.cell? ⟨bb, 1, none⟩ = some (.slice (some ⟨db, 0, none⟩) N dc) ∧ w.cell? ⟨bb, 2, none⟩ = some (.slice (some ⟨tb, 0, none⟩) N bc) ∧ w.cell? ⟨bb, 3, none⟩ = some (.slice (some ⟨cb, 0, none⟩) N cc) ∧ w.cell? ⟨sb, k, none⟩ = some (.int .i64 (es.getD k e0).src) ∧ w.cell? ⟨db, k, none⟩ = some (.int .i64 (es.getD k e0).dst) ∧ w.cell? ⟨tb, k, none⟩ = some (es.getD k e0).v := by
  obtain ⟨g1, e1, -, -, x1⟩ := own_ck q.s hk
  obtain ⟨g2, e2, -, -, x2⟩ := own_ck q.d hk
  obtain ⟨g3, e3, -, -, x3⟩ := own_ck q.b hk
  simp only [Option.some.injEq, Addr.mk.injEq, and_true] at e1 e2 e3
  subst e1 e2 e3
  rw [show e9 Be.src es = es.map (fun e => .int .i64 e.src) from rfl, map_at (by omega)] at x1
  rw [show e9 Be.dst es = es.map (fun e => .int .i64 e.dst) from rfl, map_at (by omega)] at x2
  rw [map_at (by omega)] at x3
  exact ⟨blk_cell q.blk 0, blk_cell q.blk 1, blk_cell q.blk 2, blk_cell q.blk 3, x1, x2, x3⟩
theorem B4.come {bb k N cb cc : Nat} {sv dv bv : Value} {ls ld lb lc : List Value} (q : B4 w B bb sv dv bv (.slice (some ⟨cb, 0, none⟩) N cc) N N N N ls ld lb lc) (hk : k < N) : B4 (w.setCell ⟨cb, k, none⟩ (.bool true)) B bb sv dv bv (.slice (some ⟨cb, 0, none⟩) N cc) N N N N ls ld lb (lc.set k (.bool true)) := by
  have hc : (Value.slice (some ⟨cb, 0, none⟩) N cc).ownBlock = some cb := rfl
  have hne : ∀ {t s n : Nat} {v : Value} {l : List Value}, w.ownsRow B t s v n l → t ≠ 4 → v.ownBlock ≠ some cb := fun ho ht e => own_ty ho q.c ht e hc
  exact ⟨(kset (P := fun j => j = cb) w cb k _ rfl).obj q.blk (fun e => own_bb q.c q.blk (by decide) (by rw [e]; exact hc)), q.ge, own_set q.s (hne q.s (by decide)), own_set q.d (hne q.d (by decide)), own_set q.b (hne q.b (by decide)), own_put1 q.c hk _, q.sd⟩
set_option maxHeartbeats 4000000 in
theorem comes_any {bb k : Nat} {sv dv bv cv : Value} {es : List Be} {f : Fx} (h : Bkm w B bb sv dv bv cv es) (hk : k < es.length) (hid : f.id = (k : Int) + 1) (he : (es.getD k e0).src = f.src ∧ (es.getD k e0).dst = f.dst ∧ (es.getD k e0).bs = f.bs ∧ (es.getD k e0).come = false) (hr : ∀ X, Kept w X (Bo bb sv dv bv cv) → Rd X f.a f.n f.c f.bs) (hes : es.length ≤ 2199023255552) : Calls Try.prog 10 #[.pointer (some ⟨bb, 0, none⟩), .agg f.cs] w fun e w' => e = .returned (.bool true) ∧ Bkm w' B bb sv dv bv cv (es.set k (es.getD k e0).cm) ∧ Kept w w' (Bo bb sv dv bv cv) := by
  obtain ⟨sa, sc, rfl⟩ := own_sh h.m.s
  obtain ⟨da, dc, rfl⟩ := own_sh h.m.d
  obtain ⟨ba, bc, rfl⟩ := own_sh h.m.b
  obtain ⟨ca, cc, rfl⟩ := own_sh h.m.c
  obtain ⟨sb, rfl, -, -, -⟩ := own_ck h.m.s hk
  obtain ⟨db, rfl, -, -, -⟩ := own_ck h.m.d hk
  obtain ⟨tb, rfl, -, -, -⟩ := own_ck h.m.b hk
  obtain ⟨cb, rfl, -, ⟨C0, hC0, -⟩, -⟩ := own_ck h.m.c hk
  have hcb : cb < w.heap.size := lt_heap hC0
  obtain ⟨es0, hes0⟩ : ∃ es0, es0 = es := ⟨_, rfl⟩
  generalize hW : w.alloc (.cells f.cs 43) = W
  have hbW : Below w.heap.size w W := by rw [← hW]; exact balloc (Below.refl _ w)
  have hblk : W.heap[w.heap.size]? = some (.cells f.cs 43 (0, 0)) := by rw [← hW]; exact heap_alloc_new w _
  have hM := h.still hbW
  obtain ⟨e1, e2, e3, e4⟩ := he
  have hv : (es.getD k e0).v = .slice (es.getD k e0).a f.bs.length (es.getD k e0).c := by unfold Be.v; rw [e3]
  have hfn : f.bs.length = f.n := (hr w (Kept.refl _ _)).1
  rw [hfn] at hv
  have m4 := hM.m
  have HNe : Hid (es.length = es.length) := rfl
  have r0 := m4.read rfl hk
  rw [e1, e2, hv] at r0
  obtain ⟨gc, ec, -, ⟨Cc, hCc, hCs⟩, hcc⟩ := own_ck m4.c hk
  simp only [Option.some.injEq, Addr.mk.injEq, and_true] at ec
  subst ec
  rw [map_at hk, e4] at hcc
  have HCc : Hid (W.heap[cb]? = some (.cells Cc 4 (0, 0)) ∧ k < Cc.size) := ⟨hCc, hCs⟩
  obtain ⟨f0c, f1c, f2c, f3c, f4c⟩ := fl_cells hblk
  have m5 := m4.come hk
  have r5 := m5.read rfl hk
  rw [e1, e2, hv] at r5
  have k5 : Kept W (W.setCell ⟨cb, k, none⟩ (.bool true)) (fun j => j = cb) := kset _ _ _ _ rfl
  have hblk5 : (W.setCell ⟨cb, k, none⟩ (.bool true)).heap[w.heap.size]? = some (.cells f.cs 43 (0, 0)) := k5.obj hblk (fun e => by omega)
  obtain ⟨-, g1c, g2c, -, g4c⟩ := fl_cells hblk5
  have kw5 : Kept w (W.setCell ⟨cb, k, none⟩ (.bool true)) (Bo bb (.slice (some ⟨sb, 0, none⟩) es.length sc) (.slice (some ⟨db, 0, none⟩) es.length dc) (.slice (some ⟨tb, 0, none⟩) es.length bc) (.slice (some ⟨cb, 0, none⟩) es.length cc)) := (Kept.ofBelow hbW _).step k5 (fun j hj => .inl (.inr (.inr (.inr (.inr (by rw [hj]; rfl))))))
  have f5 : Fam B 5 1 (W.setCell ⟨cb, k, none⟩ (.bool true)) es.length (fun i => (es.getD i e0).v) (fun i => (es.getD i e0).bs.length) (fun i => byl (es.getD i e0).bs) := hM.f.kept k5 (fun i hi g hg e => own_ty (hM.f.o i hi) m4.c (by decide) hg (by rw [e]; rfl))
  have rB : Rd (W.setCell ⟨cb, k, none⟩ (.bool true)) (es.getD k e0).a f.n (es.getD k e0).c f.bs := by
    have h1 := f5.o k hk
    rw [hv, e3, hfn] at h1
    exact row_rd h1 (fun i => by rw [← e3]; exact h.r k i)
  have HSm : Hid (Calls Try.prog 28 #[.slice (es.getD k e0).a f.n (es.getD k e0).c, .slice f.a f.n f.c] (W.setCell ⟨cb, k, none⟩ (.bool true)).drew fun e w' => e = .returned (.bool true) ∧ (W.setCell ⟨cb, k, none⟩ (.bool true)).drew = w') := same_any (rB.still (Below.refl _ _).drew) ((hr _ kw5).still (Below.refl _ _).drew)
  have HFin : Hid (Bkm (W.setCell ⟨cb, k, none⟩ (.bool true)).drew B bb (.slice (some ⟨sb, 0, none⟩) es.length sc) (.slice (some ⟨db, 0, none⟩) es.length dc) (.slice (some ⟨tb, 0, none⟩) es.length bc) (.slice (some ⟨cb, 0, none⟩) es.length cc) (es.set k (es.getD k e0).cm) ∧ Kept w (W.setCell ⟨cb, k, none⟩ (.bool true)).drew (Bo bb (.slice (some ⟨sb, 0, none⟩) es.length sc) (.slice (some ⟨db, 0, none⟩) es.length dc) (.slice (some ⟨tb, 0, none⟩) es.length bc) (.slice (some ⟨cb, 0, none⟩) es.length cc))) := by
    have hd : Below (W.setCell ⟨cb, k, none⟩ (.bool true)).heap.size (W.setCell ⟨cb, k, none⟩ (.bool true)) (W.setCell ⟨cb, k, none⟩ (.bool true)).drew := (Below.refl _ _).drew
    refine ⟨⟨?_, ?_, fun i j => ?_⟩, kw5.step (Kept.ofBelow hd (fun _ => False)) (fun _ e => e.elim)⟩
    · have := m5.still hd
      have a1 : e9 Be.src (es.set k (es.getD k e0).cm) = e9 Be.src es := by
        unfold e9
        rw [List.map_set]
        exact set_self (by rw [map_at hk]; rfl)
      have a2 : e9 Be.dst (es.set k (es.getD k e0).cm) = e9 Be.dst es := by
        unfold e9
        rw [List.map_set]
        exact set_self (by rw [map_at hk]; rfl)
      have a3 : (es.set k (es.getD k e0).cm).map Be.v = es.map Be.v := by
        rw [List.map_set]
        exact set_self (by rw [map_at hk]; rfl)
      rw [List.length_set, a1, a2, a3, List.map_set]
      exact this
    · rw [List.length_set]
      refine (f5.still hd).congr (fun i hi => ?_)
      rw [getD_setB _ _ _ _ hk]
      by_cases e : i = k
      · rw [if_pos e, e]; exact ⟨rfl, rfl, rfl⟩
      · rw [if_neg e]; exact ⟨rfl, rfl, rfl⟩
    · rw [getD_setB _ _ _ _ hk]
      split
      · exact h.r k j
      · exact h.r i j
  obtain ⟨q0, q1, q2, q3, q4, q5, q6⟩ := r0
  have HR5 := r5
  have H5 : Hid (∀ X, X = (W.setCell ⟨cb, k, none⟩ (.bool true)).drew → X.cell? ⟨bb, 0, none⟩ = some (.slice (some ⟨sb, 0, none⟩) es.length sc) ∧ X.cell? ⟨bb, 1, none⟩ = some (.slice (some ⟨db, 0, none⟩) es.length dc) ∧ X.cell? ⟨bb, 2, none⟩ = some (.slice (some ⟨tb, 0, none⟩) es.length bc) ∧ X.cell? ⟨sb, k, none⟩ = some (.int .i64 f.src) ∧ X.cell? ⟨db, k, none⟩ = some (.int .i64 f.dst) ∧ X.cell? ⟨tb, k, none⟩ = some (.slice (es.getD k e0).a f.n (es.getD k e0).c) ∧ X.cell? ⟨w.heap.size, 1, none⟩ = some (.int .i64 f.src) ∧ X.cell? ⟨w.heap.size, 2, none⟩ = some (.int .i64 f.dst) ∧ X.cell? ⟨w.heap.size, 4, none⟩ = some (.slice f.a f.n f.c)) := fun X hX => by
    rw [hX]
    exact ⟨r5.1, r5.2.1, r5.2.2.1, r5.2.2.2.2.1, r5.2.2.2.2.2.1, r5.2.2.2.2.2.2, g1c, g2c, g4c⟩
  clear h hM m4 m5 r5 HR5 k5 hblk5 g1c g2c g4c kw5 f5 rB hr hblk hbW e1 e2 e3 e4 hv hfn hCc hCs hC0 q1 q2 q4 q5 q6 f1c f2c f3c f4c
  obtain ⟨Wd, hWd⟩ : ∃ Wd, Wd = (W.setCell ⟨cb, k, none⟩ (.bool true)).drew := ⟨_, rfl⟩
  rw [← hWd] at HSm HFin H5
  have HWd : Hid ((W.setCell ⟨cb, k, none⟩ (.bool true)).drew = Wd) := hWd.symm
  clear hWd
  generalize (es.getD k e0).a = ea at *
  generalize (es.getD k e0).c = ecp at *
  generalize hN : es.length = N at *
  generalize (es.set k (es.getD k e0).cm) = es' at *
  have i1 : (0 : Int) ≤ (k : Int) := Int.natCast_nonneg _
  have i2 : (k : Int) < (N : Int) := by omega
  have HidE : Hid (f.id = (k : Int) + 1) := hid
  unfold Fx.cs at hW ⊢
  rw [hid] at f0c hW ⊢
  go_enter Try.func10, Try.ntmps10
  go_upto_region 5 with (first
    | (refine wl_stB rfl 4 _ _ rfl (g := cb) (p := k) rfl rfl HCc.out.1 HCc.out.2 oneB rfl ?_)
    | fail)
  clear q0 q3 hcc f0c
  refine wp_region_held_drew (S := (fun w' => w' = Wd)) (by kernel_rfl) HWd.out (fun hHeld => ?_)
  simp only [Act.put, List.size_toArray, List.length_cons, List.length_nil, Nat.zero_add]
  refine wpAnyH_take (i := 0) (v := .pointer (some ⟨bb, 0, none⟩)) rfl (by kernel_rfl) (by kernel_rfl) (by kernel_rfl) (fun _ _ _ h => h) (Or.inl ⟨by rfl, fun w' hS => by go_simp⟩) hHeld ?_
  simp only [Act.put, List.getElem_toArray, List.getElem_cons_zero, List.getElem_cons_succ, List.setIfInBounds_toArray, List.set_cons_zero, List.set_cons_succ]
  refine wpAnyH_take (i := 1) (v := .pointer (some ⟨bb, 0, none⟩)) rfl (by kernel_rfl) (by kernel_rfl) (by kernel_rfl) (fun _ _ _ h => h) (Or.inl ⟨by rfl, fun w' hS => by go_simp⟩) hHeld ?_
  simp only [Act.put, List.getElem_toArray, List.getElem_cons_zero, List.getElem_cons_succ, List.setIfInBounds_toArray, List.set_cons_zero, List.set_cons_succ]
  refine wpAnyH_take (i := 2) (v := .pointer (some ⟨bb, 0, none⟩)) rfl (by kernel_rfl) (by kernel_rfl) (by kernel_rfl) (fun _ _ _ h => h) (Or.inl ⟨by rfl, fun w' hS => by go_simp⟩) hHeld ?_
  simp only [Act.put, List.getElem_toArray, List.getElem_cons_zero, List.getElem_cons_succ, List.setIfInBounds_toArray, List.set_cons_zero, List.set_cons_succ]
  refine wpAnyH_take (i := 3) (v := .slice (some ⟨sb, 0, none⟩) N sc) rfl (by kernel_rfl) (by kernel_rfl) (by kernel_rfl) (fun _ _ _ h => h) (Or.inl ⟨by rfl, fun w' hS => by (obtain ⟨p0, p1, p2, p4, p5, p6, p7, p8, p9⟩ := H5.out Wd rfl; go_simp)⟩) hHeld ?_
  simp only [Act.put, List.getElem_toArray, List.getElem_cons_zero, List.getElem_cons_succ, List.setIfInBounds_toArray, List.set_cons_zero, List.set_cons_succ]
  refine wpAnyH_take (i := 4) (v := .int .i64 (k : Int)) rfl (by kernel_rfl) (by kernel_rfl) (by kernel_rfl) (fun _ _ _ h => h) (Or.inl ⟨by rfl, fun w' hS => by go_simp⟩) hHeld ?_
  simp only [Act.put, List.getElem_toArray, List.getElem_cons_zero, List.getElem_cons_succ, List.setIfInBounds_toArray, List.set_cons_zero, List.set_cons_succ]
  refine wpAnyH_take (i := 5) (v := .pointer (some ⟨sb, k, none⟩)) rfl (by kernel_rfl) (by kernel_rfl) (by kernel_rfl) (fun _ _ _ h => h) (Or.inl ⟨by rfl, fun w' hS => by go_simp⟩) hHeld ?_
  simp only [Act.put, List.getElem_toArray, List.getElem_cons_zero, List.getElem_cons_succ, List.setIfInBounds_toArray, List.set_cons_zero, List.set_cons_succ]
  refine wpAnyH_take (i := 6) (v := .int .i64 f.src) rfl (by kernel_rfl) (by kernel_rfl) (by kernel_rfl) (fun _ _ _ h => h) (Or.inl ⟨by rfl, fun w' hS => by (obtain ⟨p0, p1, p2, p4, p5, p6, p7, p8, p9⟩ := H5.out Wd rfl; go_simp)⟩) hHeld ?_
  simp only [Act.put, List.getElem_toArray, List.getElem_cons_zero, List.getElem_cons_succ, List.setIfInBounds_toArray, List.set_cons_zero, List.set_cons_succ]
  refine wpAnyH_take (i := 7) (v := .pointer (some ⟨w.heap.size, 1, none⟩)) rfl (by kernel_rfl) (by kernel_rfl) (by kernel_rfl) (fun _ _ _ h => h) (Or.inl ⟨by rfl, fun w' hS => by go_simp⟩) hHeld ?_
  simp only [Act.put, List.getElem_toArray, List.getElem_cons_zero, List.getElem_cons_succ, List.setIfInBounds_toArray, List.set_cons_zero, List.set_cons_succ]
  refine wpAnyH_take (i := 8) (v := .int .i64 f.src) rfl (by kernel_rfl) (by kernel_rfl) (by kernel_rfl) (fun _ _ _ h => h) (Or.inl ⟨by rfl, fun w' hS => by (obtain ⟨p0, p1, p2, p4, p5, p6, p7, p8, p9⟩ := H5.out Wd rfl; go_simp)⟩) hHeld ?_
  simp only [Act.put, List.getElem_toArray, List.getElem_cons_zero, List.getElem_cons_succ, List.setIfInBounds_toArray, List.set_cons_zero, List.set_cons_succ]
  refine wpAnyH_take (i := 9) (v := .bool true) rfl (by kernel_rfl) (by kernel_rfl) (by kernel_rfl) (fun _ _ _ h => h) (Or.inl ⟨by rfl, fun w' hS => by go_simp⟩) hHeld ?_
  simp only [Act.put, List.getElem_toArray, List.getElem_cons_zero, List.getElem_cons_succ, List.setIfInBounds_toArray, List.set_cons_zero, List.set_cons_succ]
  refine wpAnyH_take (i := 10) (v := .bool true) rfl (by kernel_rfl) (by kernel_rfl) (by kernel_rfl) (fun _ _ _ h => h) (Or.inl ⟨by rfl, fun w' hS => by go_simp⟩) hHeld ?_
  simp only [Act.put, List.getElem_toArray, List.getElem_cons_zero, List.getElem_cons_succ, List.setIfInBounds_toArray, List.set_cons_zero, List.set_cons_succ]
  refine wpAnyH_take (i := 11) (v := .pointer (some ⟨bb, 0, none⟩)) rfl (by kernel_rfl) (by kernel_rfl) (by kernel_rfl) (fun _ _ _ h => h) (Or.inl ⟨by rfl, fun w' hS => by go_simp⟩) hHeld ?_
  simp only [Act.put, List.getElem_toArray, List.getElem_cons_zero, List.getElem_cons_succ, List.setIfInBounds_toArray, List.set_cons_zero, List.set_cons_succ]
  refine wpAnyH_take (i := 12) (v := .pointer (some ⟨bb, 0, none⟩)) rfl (by kernel_rfl) (by kernel_rfl) (by kernel_rfl) (fun _ _ _ h => h) (Or.inl ⟨by rfl, fun w' hS => by go_simp⟩) hHeld ?_
  simp only [Act.put, List.getElem_toArray, List.getElem_cons_zero, List.getElem_cons_succ, List.setIfInBounds_toArray, List.set_cons_zero, List.set_cons_succ]
  refine wpAnyH_take (i := 13) (v := .pointer (some ⟨bb, 1, none⟩)) rfl (by kernel_rfl) (by kernel_rfl) (by kernel_rfl) (fun _ _ _ h => h) (Or.inl ⟨by rfl, fun w' hS => by go_simp⟩) hHeld ?_
  simp only [Act.put, List.getElem_toArray, List.getElem_cons_zero, List.getElem_cons_succ, List.setIfInBounds_toArray, List.set_cons_zero, List.set_cons_succ]
  refine wpAnyH_take (i := 14) (v := .slice (some ⟨db, 0, none⟩) N dc) rfl (by kernel_rfl) (by kernel_rfl) (by kernel_rfl) (fun _ _ _ h => h) (Or.inl ⟨by rfl, fun w' hS => by (obtain ⟨p0, p1, p2, p4, p5, p6, p7, p8, p9⟩ := H5.out Wd rfl; go_simp)⟩) hHeld ?_
  simp only [Act.put, List.getElem_toArray, List.getElem_cons_zero, List.getElem_cons_succ, List.setIfInBounds_toArray, List.set_cons_zero, List.set_cons_succ]
  refine wpAnyH_take (i := 15) (v := .int .i64 (k : Int)) rfl (by kernel_rfl) (by kernel_rfl) (by kernel_rfl) (fun _ _ _ h => h) (Or.inl ⟨by rfl, fun w' hS => by go_simp⟩) hHeld ?_
  simp only [Act.put, List.getElem_toArray, List.getElem_cons_zero, List.getElem_cons_succ, List.setIfInBounds_toArray, List.set_cons_zero, List.set_cons_succ]
  refine wpAnyH_take (i := 16) (v := .pointer (some ⟨db, k, none⟩)) rfl (by kernel_rfl) (by kernel_rfl) (by kernel_rfl) (fun _ _ _ h => h) (Or.inl ⟨by rfl, fun w' hS => by go_simp⟩) hHeld ?_
  simp only [Act.put, List.getElem_toArray, List.getElem_cons_zero, List.getElem_cons_succ, List.setIfInBounds_toArray, List.set_cons_zero, List.set_cons_succ]
  refine wpAnyH_take (i := 17) (v := .int .i64 f.dst) rfl (by kernel_rfl) (by kernel_rfl) (by kernel_rfl) (fun _ _ _ h => h) (Or.inl ⟨by rfl, fun w' hS => by (obtain ⟨p0, p1, p2, p4, p5, p6, p7, p8, p9⟩ := H5.out Wd rfl; go_simp)⟩) hHeld ?_
  simp only [Act.put, List.getElem_toArray, List.getElem_cons_zero, List.getElem_cons_succ, List.setIfInBounds_toArray, List.set_cons_zero, List.set_cons_succ]
  refine wpAnyH_take (i := 18) (v := .pointer (some ⟨w.heap.size, 2, none⟩)) rfl (by kernel_rfl) (by kernel_rfl) (by kernel_rfl) (fun _ _ _ h => h) (Or.inl ⟨by rfl, fun w' hS => by go_simp⟩) hHeld ?_
  simp only [Act.put, List.getElem_toArray, List.getElem_cons_zero, List.getElem_cons_succ, List.setIfInBounds_toArray, List.set_cons_zero, List.set_cons_succ]
  refine wpAnyH_take (i := 19) (v := .int .i64 f.dst) rfl (by kernel_rfl) (by kernel_rfl) (by kernel_rfl) (fun _ _ _ h => h) (Or.inl ⟨by rfl, fun w' hS => by (obtain ⟨p0, p1, p2, p4, p5, p6, p7, p8, p9⟩ := H5.out Wd rfl; go_simp)⟩) hHeld ?_
  simp only [Act.put, List.getElem_toArray, List.getElem_cons_zero, List.getElem_cons_succ, List.setIfInBounds_toArray, List.set_cons_zero, List.set_cons_succ]
  refine wpAnyH_take (i := 20) (v := .bool true) rfl (by kernel_rfl) (by kernel_rfl) (by kernel_rfl) (fun _ _ _ h => h) (Or.inl ⟨by rfl, fun w' hS => by go_simp⟩) hHeld ?_
  simp only [Act.put, List.getElem_toArray, List.getElem_cons_zero, List.getElem_cons_succ, List.setIfInBounds_toArray, List.set_cons_zero, List.set_cons_succ]
  refine wpAnyH_take (i := 21) (v := .bool true) rfl (by kernel_rfl) (by kernel_rfl) (by kernel_rfl) (fun _ _ _ h => h) (Or.inl ⟨by rfl, fun w' hS => by go_simp⟩) hHeld ?_
  simp only [Act.put, List.getElem_toArray, List.getElem_cons_zero, List.getElem_cons_succ, List.setIfInBounds_toArray, List.set_cons_zero, List.set_cons_succ]
  refine wpAnyH_take (i := 22) (v := .bool true) rfl (by kernel_rfl) (by kernel_rfl) (by kernel_rfl) (fun _ _ _ h => h) (Or.inl ⟨by rfl, fun w' hS => by go_simp⟩) hHeld ?_
  simp only [Act.put, List.getElem_toArray, List.getElem_cons_zero, List.getElem_cons_succ, List.setIfInBounds_toArray, List.set_cons_zero, List.set_cons_succ]
  refine wpAnyH_take (i := 23) (v := .pointer (some ⟨bb, 0, none⟩)) rfl (by kernel_rfl) (by kernel_rfl) (by kernel_rfl) (fun _ _ _ h => h) (Or.inl ⟨by rfl, fun w' hS => by go_simp⟩) hHeld ?_
  simp only [Act.put, List.getElem_toArray, List.getElem_cons_zero, List.getElem_cons_succ, List.setIfInBounds_toArray, List.set_cons_zero, List.set_cons_succ]
  refine wpAnyH_take (i := 24) (v := .pointer (some ⟨bb, 0, none⟩)) rfl (by kernel_rfl) (by kernel_rfl) (by kernel_rfl) (fun _ _ _ h => h) (Or.inl ⟨by rfl, fun w' hS => by go_simp⟩) hHeld ?_
  simp only [Act.put, List.getElem_toArray, List.getElem_cons_zero, List.getElem_cons_succ, List.setIfInBounds_toArray, List.set_cons_zero, List.set_cons_succ]
  refine wpAnyH_take (i := 25) (v := .pointer (some ⟨bb, 2, none⟩)) rfl (by kernel_rfl) (by kernel_rfl) (by kernel_rfl) (fun _ _ _ h => h) (Or.inl ⟨by rfl, fun w' hS => by go_simp⟩) hHeld ?_
  simp only [Act.put, List.getElem_toArray, List.getElem_cons_zero, List.getElem_cons_succ, List.setIfInBounds_toArray, List.set_cons_zero, List.set_cons_succ]
  refine wpAnyH_take (i := 26) (v := .slice (some ⟨tb, 0, none⟩) N bc) rfl (by kernel_rfl) (by kernel_rfl) (by kernel_rfl) (fun _ _ _ h => h) (Or.inl ⟨by rfl, fun w' hS => by (obtain ⟨p0, p1, p2, p4, p5, p6, p7, p8, p9⟩ := H5.out Wd rfl; go_simp)⟩) hHeld ?_
  simp only [Act.put, List.getElem_toArray, List.getElem_cons_zero, List.getElem_cons_succ, List.setIfInBounds_toArray, List.set_cons_zero, List.set_cons_succ]
  refine wpAnyH_take (i := 27) (v := .int .i64 (k : Int)) rfl (by kernel_rfl) (by kernel_rfl) (by kernel_rfl) (fun _ _ _ h => h) (Or.inl ⟨by rfl, fun w' hS => by go_simp⟩) hHeld ?_
  simp only [Act.put, List.getElem_toArray, List.getElem_cons_zero, List.getElem_cons_succ, List.setIfInBounds_toArray, List.set_cons_zero, List.set_cons_succ]
  refine wpAnyH_take (i := 28) (v := .pointer (some ⟨tb, k, none⟩)) rfl (by kernel_rfl) (by kernel_rfl) (by kernel_rfl) (fun _ _ _ h => h) (Or.inl ⟨by rfl, fun w' hS => by go_simp⟩) hHeld ?_
  simp only [Act.put, List.getElem_toArray, List.getElem_cons_zero, List.getElem_cons_succ, List.setIfInBounds_toArray, List.set_cons_zero, List.set_cons_succ]
  refine wpAnyH_take (i := 29) (v := .slice ea f.n ecp) rfl (by kernel_rfl) (by kernel_rfl) (by kernel_rfl) (fun _ _ _ h => h) (Or.inl ⟨by rfl, fun w' hS => by (obtain ⟨p0, p1, p2, p4, p5, p6, p7, p8, p9⟩ := H5.out Wd rfl; go_simp)⟩) hHeld ?_
  simp only [Act.put, List.getElem_toArray, List.getElem_cons_zero, List.getElem_cons_succ, List.setIfInBounds_toArray, List.set_cons_zero, List.set_cons_succ]
  refine wpAnyH_take (i := 30) (v := .pointer (some ⟨w.heap.size, 4, none⟩)) rfl (by kernel_rfl) (by kernel_rfl) (by kernel_rfl) (fun _ _ _ h => h) (Or.inl ⟨by rfl, fun w' hS => by go_simp⟩) hHeld ?_
  simp only [Act.put, List.getElem_toArray, List.getElem_cons_zero, List.getElem_cons_succ, List.setIfInBounds_toArray, List.set_cons_zero, List.set_cons_succ]
  refine wpAnyH_take (i := 31) (v := .slice f.a f.n f.c) rfl (by kernel_rfl) (by kernel_rfl) (by kernel_rfl) (fun _ _ _ h => h) (Or.inl ⟨by rfl, fun w' hS => by (obtain ⟨p0, p1, p2, p4, p5, p6, p7, p8, p9⟩ := H5.out Wd rfl; go_simp)⟩) hHeld ?_
  simp only [Act.put, List.getElem_toArray, List.getElem_cons_zero, List.getElem_cons_succ, List.setIfInBounds_toArray, List.set_cons_zero, List.set_cons_succ]
  refine wpAnyH_ready (rs := [32]) (by kernel_rfl) (by simp) ?_
  refine AllReadyH.cons rfl (fun K hK => ?_) AllReadyH.nil
  go_simp
  refine HSm.out.mono ?_
  rintro e w9 ⟨rfl, rfl⟩
  refine hK.out _ _ rfl (fun hHeld => ?_)
  clear hK K
  try (simp only [Act.put, List.getElem_toArray, List.getElem_cons_zero, List.getElem_cons_succ, List.setIfInBounds_toArray, List.set_cons_zero, List.set_cons_succ])
  refine wpAnyH_take (i := 33) (v := .bool true) rfl (by kernel_rfl) (by kernel_rfl) (by kernel_rfl) (fun _ _ _ h => h) (Or.inl ⟨by rfl, fun w' hS => by go_simp⟩) hHeld ?_
  simp only [Act.put, List.getElem_toArray, List.getElem_cons_zero, List.getElem_cons_succ, List.setIfInBounds_toArray, List.set_cons_zero, List.set_cons_succ]
  refine wpAnyH_take (i := 34) (v := .bool true) rfl (by kernel_rfl) (by kernel_rfl) (by kernel_rfl) (fun _ _ _ h => h) (Or.inl ⟨by rfl, fun w' hS => by go_simp⟩) hHeld ?_
  simp only [Act.put, List.getElem_toArray, List.getElem_cons_zero, List.getElem_cons_succ, List.setIfInBounds_toArray, List.set_cons_zero, List.set_cons_succ]
  refine wpAnyH_done (by kernel_rfl) ?_ _
  clear hHeld
  (try simp only [Exit.inBlock, Exit.then])
  go_wp2
  go_ret
  exact ⟨rfl, HFin.out⟩
end
end Go.Proofs.Ytnhhjelplmdloaa.Et
