import Derived.Test.YtnhhjelplmdloaaZ35
namespace Go.Proofs.Ytnhhjelplmdloaa.Et
open Go.RowKit Go.Maps
set_option linter.unusedVariables false
set_option linter.unusedSimpArgs false
set_option maxRecDepth 100000
section
variable {E E1 E' : En} {w w' w1 w2 w3 : World} {B K m : Nat}
theorem getD_some9 {l : List Int} {i : Nat} (h : i < l.length) : l[i]? = some (l.getD i 0) := by simp [List.getD, h]
theorem oneU : (Try.prog.info? 5).map (·.size) = some 1 := by kernel_rfl
section
theorem step_stU {ops : Array Oper} {o : Oper} {a : Act} {K : Act → World → Prop} {Q : Exit → Act → World → Prop} {EE : Prop} (hgd : o.guard = none) (ty : TypeId) (x y : Operand) (ho : o.op = .store ty x y) {g p t : Nat} {C : Array Value} {z : Int} (hx : a.eval x = .pointer (some ⟨g, p, none⟩)) (hy : a.eval y = .int .u8 z) (hg : w.heap[g]? = some (.cells C t (0, 0))) (hp : p < C.size) (hz : (Try.prog.info? ty).map (·.size) = some 1) (hd : o.dst = none)
    (h : K a (w.setCell ⟨g, p, none⟩ (.int .u8 z))) : if Region.wanted o (yielded ops a.tmps) = true then Oper.wp Try.prog o a w K Q else EE := by
    rw [if_pos (show Region.wanted o (yielded ops a.tmps) = true by simp [Region.wanted, hgd])]
    have q : w.cell? ⟨g, p, none⟩ = some C[p] := by rw [blk_cell hg p]; exact Array.getElem?_eq_getElem hp
    have zz : w.frozen? ⟨g, p, none⟩ = false := frozen_of_row w _ _ _ _ hg
    have hs := size_of (w := w) hz
    unfold Oper.wp execOp
    simp only [ho, hx, hy]
    go_simp
    have hk := h
    rw [hd] at *
    exact hk
end
theorem flip_bkm {bb k i : Nat} {sv dv bv cv : Value} {es : List Be} {eb ec : Nat} {y : Int} (h : Bkm w B bb sv dv bv cv es) (hk : k < es.length) (ha : (es.getD k e0).v = .slice (some ⟨eb, 0, none⟩) (es.getD k e0).bs.length ec) (hi : i < (es.getD k e0).bs.length) (hy : 0 ≤ y ∧ y ≤ 255) : Bkm (w.setCell ⟨eb, i, none⟩ (.int .u8 y)) B bb sv dv bv cv (es.set k ⟨(es.getD k e0).src, (es.getD k e0).dst, (es.getD k e0).a, (es.getD k e0).c, (es.getD k e0).bs.set i y, (es.getD k e0).come⟩) := by
  have ho := h.f.o k hk
  have hob : ((es.getD k e0).v).ownBlock = some eb := by rw [ha]; rfl
  have hkp : Kept w (w.setCell ⟨eb, i, none⟩ (.int .u8 y)) (fun j => ((es.getD k e0).v).ownBlock = some j) := kset _ _ _ _ hob
  have ho' : (w.setCell ⟨eb, i, none⟩ (.int .u8 y)).ownsRow B 5 1 (es.getD k e0).v (es.getD k e0).bs.length (byl ((es.getD k e0).bs.set i y)) := by
    have h1 := ho
    rw [ha] at h1 ⊢
    have := own_put1 h1 hi (.int .u8 y)
    unfold byl at *
    rw [List.map_set]
    exact this
  have hf := h.f.put hk ho' hkp (.inl rfl)
  refine ⟨?_, ?_, fun i' j' => ?_⟩
  · have hm := h.m.keep hkp (fun j hj e => blk_ne4 h.m ho rfl e hj)
    have a1 : ∀ x : Be, x.src = (es.getD k e0).src → e9 Be.src (es.set k x) = e9 Be.src es := fun x hx => by
      unfold e9
      rw [List.map_set]
      exact set_self (by rw [map_at hk, hx])
    have a2 : ∀ x : Be, x.dst = (es.getD k e0).dst → e9 Be.dst (es.set k x) = e9 Be.dst es := fun x hx => by
      unfold e9
      rw [List.map_set]
      exact set_self (by rw [map_at hk, hx])
    have a3 : ∀ x : Be, x.v = (es.getD k e0).v → (es.set k x).map Be.v = es.map Be.v := fun x hx => by
      rw [List.map_set]
      exact set_self (by rw [map_at hk, hx])
    have a4 : ∀ x : Be, x.come = (es.getD k e0).come → ((es.set k x).map fun e => Value.bool e.come) = es.map fun e => Value.bool e.come := fun x hx => by
      rw [List.map_set]
      exact set_self (by rw [map_at hk, hx])
    rw [List.length_set, a1 _ (by rfl), a2 _ (by rfl), a3 _ (by unfold Be.v; dsimp only; rw [List.length_set]), a4 _ (by rfl)]
    exact hm
  · rw [List.length_set]
    refine hf.congr (fun i' hi' => ?_)
    rw [getD_setB _ _ _ _ hk]
    unfold updF
    by_cases e : i' = k
    · simp only [if_pos e]
      exact ⟨by unfold Be.v; first | rw [List.length_set] | (dsimp only; rw [List.length_set]) | simp, by first | exact List.length_set .. | simp, by first | rfl | trivial⟩
    · simp only [if_neg e]
      exact ⟨by first | rfl | trivial, by first | rfl | trivial, by first | rfl | trivial⟩
  · rw [getD_setB _ _ _ _ hk]
    split
    · dsimp only
      rw [List.getD, List.getElem?_set]
      split
      · first
          | exact hy
          | (split
             · exact hy
             · exact ⟨by simp, by simp⟩)
      · exact h.r k j'
    · exact h.r i' j'
set_option maxHeartbeats 2000000 in
theorem did_flip {bb : Nat} {sv dv bv cv : Value} {es : List Be} {fa : Option Addr} {fn fc k q x : Nat} {L : List Fx} (h : Bkm w B bb sv dv bv cv es) (hq : q < es.length) (hes : es.length ≤ 2199023255552) (o : Opx) (hk : o.k = 36) (hp : o.p = k) (hx : o.n = x) (hkn : k < fn) (hL2 : fn ≤ 20000) {g : Nat} (hfa : fa = some ⟨g, 0, none⟩) (hrow : ∀ X, Below w.heap.size w X → X.rangeAt g (k * 5) (L.getD k f0).cs.toList) (hid : (L.getD k f0).id = (q : Int) + 1) (hbx : x / 8 < (es.getD q e0).bs.length) (h63 : (x : Int) ≤ 9223372036854775807) : Calls Try.prog 34 #[.pointer (some ⟨bb, 0, none⟩), .slice fa fn fc, .agg o.cs] w fun e w' => e = .returned (.bool true) ∧ Bkm w' B bb sv dv bv cv (es.set q ⟨(es.getD q e0).src, (es.getD q e0).dst, (es.getD q e0).a, (es.getD q e0).c, (es.getD q e0).bs.set (x / 8) (flipB ((es.getD q e0).bs.getD (x / 8) 0) (x % 8)), (es.getD q e0).come⟩) ∧ Kept w w' (fun j => ((es.getD q e0).v).ownBlock = some j) := by
  generalize hW : w.alloc (.cells o.cs 46) = W
  have hbW : Below w.heap.size w W := by rw [← hW]; exact balloc (Below.refl _ w)
  have hblk : W.heap[w.heap.size]? = some (.cells o.cs 46 (0, 0)) := by rw [← hW]; exact heap_alloc_new w _
  obtain ⟨d0, d1, d2, d3, d4, d5⟩ := op_cells hblk
  have Hb : Hid (Below w.heap.size w W) := hbW
  obtain ⟨sa, sc, rfl⟩ := own_sh h.m.s
  obtain ⟨da, dc, rfl⟩ := own_sh h.m.d
  obtain ⟨ba, bc, rfl⟩ := own_sh h.m.b
  obtain ⟨ca, cc, rfl⟩ := own_sh h.m.c
  obtain ⟨sb, rfl, -, -, -⟩ := own_ck h.m.s hq
  obtain ⟨db, rfl, -, -, -⟩ := own_ck h.m.d hq
  obtain ⟨tb, rfl, -, -, -⟩ := own_ck h.m.b hq
  obtain ⟨cb, rfl, -, -, -⟩ := own_ck h.m.c hq
  have hev : (es.getD q e0).v = .slice (es.getD q e0).a (es.getD q e0).bs.length (es.getD q e0).c := rfl
  have ho0 := h.f.o q hq
  obtain ⟨eb, hea, -, -, -⟩ := own_ck (show w.ownsRow B 5 1 (.slice (es.getD q e0).a (es.getD q e0).bs.length (es.getD q e0).c) (es.getD q e0).bs.length (byl (es.getD q e0).bs) from ho0) hbx
  have hev2 : (es.getD q e0).v = .slice (some ⟨eb, 0, none⟩) (es.getD q e0).bs.length (es.getD q e0).c := by rw [hev, hea]
  have HRead : Hid (∀ X, Below w.heap.size w X → X.cell? ⟨bb, 2, none⟩ = some (.slice (some ⟨tb, 0, none⟩) es.length bc) ∧ X.cell? ⟨tb, q, none⟩ = some (.slice (some ⟨eb, 0, none⟩) (es.getD q e0).bs.length (es.getD q e0).c) ∧ (∃ C, X.heap[eb]? = some (.cells C 5 (0, 0)) ∧ x / 8 < C.size) ∧ X.cell? ⟨eb, x / 8, none⟩ = some (.int .u8 ((es.getD q e0).bs.getD (x / 8) 0))) := fun X hX => by
    have hM := h.still hX
    have r0 := hM.m.read rfl hq
    obtain ⟨g9, e9', -, hC, hcc⟩ := own_ck (show X.ownsRow B 5 1 (.slice (es.getD q e0).a (es.getD q e0).bs.length (es.getD q e0).c) (es.getD q e0).bs.length (byl (es.getD q e0).bs) from hM.f.o q hq) hbx
    rw [hea] at e9'
    simp only [Option.some.injEq, Addr.mk.injEq, and_true] at e9'
    subst e9'
    refine ⟨r0.2.2.1, by rw [r0.2.2.2.2.2.2, hev2], hC, ?_⟩
    rw [hcc]
    unfold byl
    rw [List.getElem?_map, getD_some9 hbx]
    rfl
  have HFin : Hid (∀ X, Below w.heap.size w X → Bkm (X.setCell ⟨eb, x / 8, none⟩ (.int .u8 (flipB ((es.getD q e0).bs.getD (x / 8) 0) (x % 8)))) B bb (.slice (some ⟨sb, 0, none⟩) es.length sc) (.slice (some ⟨db, 0, none⟩) es.length dc) (.slice (some ⟨tb, 0, none⟩) es.length bc) (.slice (some ⟨cb, 0, none⟩) es.length cc) (es.set q ⟨(es.getD q e0).src, (es.getD q e0).dst, (es.getD q e0).a, (es.getD q e0).c, (es.getD q e0).bs.set (x / 8) (flipB ((es.getD q e0).bs.getD (x / 8) 0) (x % 8)), (es.getD q e0).come⟩) ∧ Kept w (X.setCell ⟨eb, x / 8, none⟩ (.int .u8 (flipB ((es.getD q e0).bs.getD (x / 8) 0) (x % 8)))) (fun j => ((es.getD q e0).v).ownBlock = some j)) := fun X hX => ⟨flip_bkm (h.still hX) hq hev2 hbx (flipB_range _ _), (Kept.ofBelow hX _).trans (kset _ _ _ _ (by rw [hev2]; rfl))⟩
  have HOb : Hid (∀ X, Below W.heap.size W X → X.cell? ⟨w.heap.size, 0, none⟩ = some (.int .i64 36) ∧ X.cell? ⟨w.heap.size, 3, none⟩ = some (.int .i64 (x : Int))) := fun X hX => by
    have h9 := (hX.block _ (lt_heap hblk)).trans hblk
    have h10 := blk_cell h9 0
    have h11 := blk_cell h9 3
    rw [← hk, ← hx]
    exact ⟨h10, h11⟩
  have HRw : Hid (W.rangeAt g (k * 5) (L.getD k f0).cs.toList) := hrow W hbW
  have heb : eb ≠ w.heap.size := fun e => by
    obtain ⟨C, hC, -⟩ := (HRead.out w (Below.refl _ _)).2.2.1
    have := lt_heap hC
    omega
  have Heb : Hid (eb ≠ w.heap.size) := heb
  have htbne : ∀ X, Below w.heap.size w X → bb ≠ eb ∧ tb ≠ eb := fun X hX => by
    obtain ⟨C, hC, -⟩ := (HRead.out X hX).2.2.1
    refine ⟨fun e => ?_, fun e => ?_⟩
    · have := (h.still hX).m.blk
      rw [e, hC] at this
      simp at this
    · obtain ⟨C2, h2⟩ := row_ty (h.still hX).m.b (show (Value.slice (some ⟨tb, 0, none⟩) es.length bc).ownBlock = some tb from rfl)
      rw [e, hC] at h2
      simp at h2
  have Hne : Hid (bb ≠ eb ∧ tb ≠ eb) := htbne w (Below.refl _ _)
  clear h hblk hbW d2 d3 d4 d5 hev hev2 hea ho0 hrow heb htbne
  generalize hes' : (es.set q ⟨(es.getD q e0).src, (es.getD q e0).dst, (es.getD q e0).a, (es.getD q e0).c, (es.getD q e0).bs.set (x / 8) (flipB ((es.getD q e0).bs.getD (x / 8) 0) (x % 8)), (es.getD q e0).come⟩) = es2 at *
  clear hes'
  generalize L.getD k f0 = f at *
  generalize (es.getD q e0).v = ev at *
  generalize (es.getD q e0).bs.getD (x / 8) 0 = y at *
  generalize (es.getD q e0).bs.length = en at *
  generalize (es.getD q e0).c = ecp at *
  generalize es.length = N at *
  subst hfa
  have i1 : (0 : Int) ≤ (k : Int) := Int.natCast_nonneg _
  have i2 : ¬ (k : Int) < 0 := by omega
  have i3 : (k : Int) < (fn : Int) := by omega
  unfold Opx.cs at hW ⊢
  rw [hk] at hW d0 ⊢
  rw [hp] at hW d1 ⊢
  rw [hx] at hW ⊢
  go_enter Try.func34, Try.ntmps34
  go_upto_region 9 with (first
    | (refine Ln.load_mid 43 (.tmp 44) HRw.out _ Try.underlying43 rfl iFl rfl rfl rfl ?_)
    | (refine wl_allocZ rfl 43 rfl zFl ?_; intro W1 k1 b1 s1; have K1 : Hid (W1.heap[W.heap.size]? = some (.cells f0.cs 43 (0, 0))) := k1; have B1 : Hid (Below W.heap.size W W1) := b1; clear k1 b1 s1)
    | (refine wl_storeZ rfl 43 _ _ rfl (L := f.cs.toList) rfl rfl K1.out iFl rfl (fx_one f) ?_; intro W2 k2 kk2; have K2 : Hid (W2.heap[W.heap.size]? = some (.cells f.cs 43 (0, 0))) := k2; have KK2 : Hid (Mb.Kept W1 W2 (fun j => j = W.heap.size)) := kk2; clear k2 kk2)
    | fail)
  have B2 : Hid (Below W.heap.size W W2) := (show Below W.heap.size W W2 from B1.out.trans (KK2.out.below B1.out.size (fun q hq e => by have e' : q = W.heap.size := e; omega)))
  clear d0 d1 HRw
  obtain ⟨d0, -⟩ := HOb.out W2 B2.out
  have f0c : W2.cell? ⟨W.heap.size, 0, none⟩ = some (.int .i64 ((q : Int) + 1)) := by
    have := blk_cell K2.out 0
    rw [this]
    show some (Value.int .i64 f.id) = _
    rw [hid]
  have j1 : (0 : Int) ≤ (q : Int) := Int.natCast_nonneg _
  have j2 : ¬ (q : Int) < 0 := by omega
  have j3 : (q : Int) < (N : Int) := by omega
  go_upto_region 12 with fail
  clear d0 f0c K1 KK2 B1 K2
  have b0 : (0 : Int) ≤ (x : Int) / 8 := by omega
  have b1 : (x : Int) / 8 ≤ 9223372036854775807 := by omega
  have b2 : (x : Int) / 8 < (en : Int) := by omega
  have b3 : ((x : Int) / 8).toNat = x / 8 := by omega
  have b4 : (x : Int).tmod 8 = ((x % 8 : Nat) : Int) := by rw [Int.tmod_eq_emod_of_nonneg (by omega)]; omega
  have b6 : IntKind.i64.wrap ((x : Int) / 8) = (x : Int) / 8 := wrap_id (by omega) (by omega)
  have b7 : x % 8 < 8 := Nat.mod_lt _ (by omega)
  have b8 : (x : Int).tdiv 8 = (x : Int) / 8 := Int.tdiv_eq_ediv_of_nonneg (by omega)
  have x0 : ¬ (x : Int) < 0 := by omega
  have HS1 : Hid (∀ X, Below W2.heap.size W2 X → X.cell? ⟨bb, 2, none⟩ = some (.slice (some ⟨tb, 0, none⟩) N bc) ∧ X.cell? ⟨tb, q, none⟩ = some (.slice (some ⟨eb, 0, none⟩) en ecp) ∧ X.cell? ⟨w.heap.size, 3, none⟩ = some (.int .i64 (x : Int))) := fun X hX => by
    have h9 := HRead.out X (bstep (bstep Hb.out B2.out) hX)
    exact ⟨h9.1, h9.2.1, (HOb.out X (bstep B2.out hX)).2⟩
  refine wp_region_held_drew (S := (fun w' => w'.cell? ⟨bb, 2, none⟩ = some (.slice (some ⟨tb, 0, none⟩) N bc) ∧ w'.cell? ⟨tb, q, none⟩ = some (.slice (some ⟨eb, 0, none⟩) en ecp) ∧ w'.cell? ⟨w.heap.size, 3, none⟩ = some (.int .i64 (x : Int)))) (by kernel_rfl) (HS1.out _ (Below.refl _ _).drew) (fun hHeld => ?_)
  simp only [Act.put, List.size_toArray, List.length_cons, List.length_nil, Nat.zero_add]
  refine wpAnyH_take (i := 0) (v := .int .i64 (q : Int)) rfl (by kernel_rfl) (by kernel_rfl) (by kernel_rfl) (fun _ _ _ h => h) (Or.inl ⟨by rfl, fun w' hS => by go_simp⟩) hHeld ?_
  simp only [Act.put, List.getElem_toArray, List.getElem_cons_zero, List.getElem_cons_succ, List.setIfInBounds_toArray, List.set_cons_zero, List.set_cons_succ]
  refine wpAnyH_take (i := 1) (v := .bool false) rfl (by kernel_rfl) (by kernel_rfl) (by kernel_rfl) (fun _ _ _ h => h) (Or.inl ⟨by rfl, fun w' hS => by go_simp⟩) hHeld ?_
  simp only [Act.put, List.getElem_toArray, List.getElem_cons_zero, List.getElem_cons_succ, List.setIfInBounds_toArray, List.set_cons_zero, List.set_cons_succ]
  refine wpAnyH_take (i := 2) (v := .bool false) rfl (by kernel_rfl) (by kernel_rfl) (by kernel_rfl) (fun _ _ _ h => h) (Or.inl ⟨by rfl, fun w' hS => by go_simp⟩) hHeld ?_
  simp only [Act.put, List.getElem_toArray, List.getElem_cons_zero, List.getElem_cons_succ, List.setIfInBounds_toArray, List.set_cons_zero, List.set_cons_succ]
  refine wpAnyH_take (i := 3) (v := .int .i64 (q : Int)) rfl (by kernel_rfl) (by kernel_rfl) (by kernel_rfl) (fun _ _ _ h => h) (Or.inl ⟨by rfl, fun w' hS => by go_simp⟩) hHeld ?_
  simp only [Act.put, List.getElem_toArray, List.getElem_cons_zero, List.getElem_cons_succ, List.setIfInBounds_toArray, List.set_cons_zero, List.set_cons_succ]
  refine wpAnyH_take (i := 4) (v := .pointer (some ⟨bb, 0, none⟩)) rfl (by kernel_rfl) (by kernel_rfl) (by kernel_rfl) (fun _ _ _ h => h) (Or.inl ⟨by rfl, fun w' hS => by go_simp⟩) hHeld ?_
  simp only [Act.put, List.getElem_toArray, List.getElem_cons_zero, List.getElem_cons_succ, List.setIfInBounds_toArray, List.set_cons_zero, List.set_cons_succ]
  refine wpAnyH_take (i := 5) (v := .pointer (some ⟨bb, 0, none⟩)) rfl (by kernel_rfl) (by kernel_rfl) (by kernel_rfl) (fun _ _ _ h => h) (Or.inl ⟨by rfl, fun w' hS => by go_simp⟩) hHeld ?_
  simp only [Act.put, List.getElem_toArray, List.getElem_cons_zero, List.getElem_cons_succ, List.setIfInBounds_toArray, List.set_cons_zero, List.set_cons_succ]
  refine wpAnyH_take (i := 6) (v := .pointer (some ⟨bb, 2, none⟩)) rfl (by kernel_rfl) (by kernel_rfl) (by kernel_rfl) (fun _ _ _ h => h) (Or.inl ⟨by rfl, fun w' hS => by go_simp⟩) hHeld ?_
  simp only [Act.put, List.getElem_toArray, List.getElem_cons_zero, List.getElem_cons_succ, List.setIfInBounds_toArray, List.set_cons_zero, List.set_cons_succ]
  refine wpAnyH_take (i := 7) (v := .slice (some ⟨tb, 0, none⟩) N bc) rfl (by kernel_rfl) (by kernel_rfl) (by kernel_rfl) (fun _ _ _ h => h) (Or.inl ⟨by rfl, fun w' hS => by (obtain ⟨p1, p2, p4⟩ := hS; go_simp)⟩) hHeld ?_
  simp only [Act.put, List.getElem_toArray, List.getElem_cons_zero, List.getElem_cons_succ, List.setIfInBounds_toArray, List.set_cons_zero, List.set_cons_succ]
  refine wpAnyH_take (i := 8) (v := .int .i64 (N : Int)) rfl (by kernel_rfl) (by kernel_rfl) (by kernel_rfl) (fun _ _ _ h => h) (Or.inl ⟨by rfl, fun w' hS => by go_simp⟩) hHeld ?_
  simp only [Act.put, List.getElem_toArray, List.getElem_cons_zero, List.getElem_cons_succ, List.setIfInBounds_toArray, List.set_cons_zero, List.set_cons_succ]
  refine wpAnyH_take (i := 9) (v := .bool false) rfl (by kernel_rfl) (by kernel_rfl) (by kernel_rfl) (fun _ _ _ h => h) (Or.inl ⟨by rfl, fun w' hS => by go_simp⟩) hHeld ?_
  simp only [Act.put, List.getElem_toArray, List.getElem_cons_zero, List.getElem_cons_succ, List.setIfInBounds_toArray, List.set_cons_zero, List.set_cons_succ]
  refine wpAnyH_take (i := 10) (v := .bool false) rfl (by kernel_rfl) (by kernel_rfl) (by kernel_rfl) (fun _ _ _ h => h) (Or.inl ⟨by rfl, fun w' hS => by go_simp⟩) hHeld ?_
  simp only [Act.put, List.getElem_toArray, List.getElem_cons_zero, List.getElem_cons_succ, List.setIfInBounds_toArray, List.set_cons_zero, List.set_cons_succ]
  refine wpAnyH_take (i := 11) (v := .bool false) rfl (by kernel_rfl) (by kernel_rfl) (by kernel_rfl) (fun _ _ _ h => h) (Or.inl ⟨by rfl, fun w' hS => by go_simp⟩) hHeld ?_
  simp only [Act.put, List.getElem_toArray, List.getElem_cons_zero, List.getElem_cons_succ, List.setIfInBounds_toArray, List.set_cons_zero, List.set_cons_succ]
  refine wpAnyH_take (i := 12) (v := .pointer (some ⟨w.heap.size, 3, none⟩)) rfl (by kernel_rfl) (by kernel_rfl) (by kernel_rfl) (fun _ _ _ h => h) (Or.inl ⟨by rfl, fun w' hS => by go_simp⟩) hHeld ?_
  simp only [Act.put, List.getElem_toArray, List.getElem_cons_zero, List.getElem_cons_succ, List.setIfInBounds_toArray, List.set_cons_zero, List.set_cons_succ]
  refine wpAnyH_take (i := 13) (v := .int .i64 (x : Int)) rfl (by kernel_rfl) (by kernel_rfl) (by kernel_rfl) (fun _ _ _ h => h) (Or.inl ⟨by rfl, fun w' hS => by (obtain ⟨p1, p2, p4⟩ := hS; go_simp)⟩) hHeld ?_
  simp only [Act.put, List.getElem_toArray, List.getElem_cons_zero, List.getElem_cons_succ, List.setIfInBounds_toArray, List.set_cons_zero, List.set_cons_succ]
  refine wpAnyH_take (i := 14) (v := .bool false) rfl (by kernel_rfl) (by kernel_rfl) (by kernel_rfl) (fun _ _ _ h => h) (Or.inl ⟨by rfl, fun w' hS => by go_simp⟩) hHeld ?_
  simp only [Act.put, List.getElem_toArray, List.getElem_cons_zero, List.getElem_cons_succ, List.setIfInBounds_toArray, List.set_cons_zero, List.set_cons_succ]
  refine wpAnyH_take (i := 15) (v := .bool false) rfl (by kernel_rfl) (by kernel_rfl) (by kernel_rfl) (fun _ _ _ h => h) (Or.inl ⟨by rfl, fun w' hS => by go_simp⟩) hHeld ?_
  simp only [Act.put, List.getElem_toArray, List.getElem_cons_zero, List.getElem_cons_succ, List.setIfInBounds_toArray, List.set_cons_zero, List.set_cons_succ]
  refine wpAnyH_take (i := 16) (v := .bool false) rfl (by kernel_rfl) (by kernel_rfl) (by kernel_rfl) (fun _ _ _ h => h) (Or.inl ⟨by rfl, fun w' hS => by go_simp⟩) hHeld ?_
  simp only [Act.put, List.getElem_toArray, List.getElem_cons_zero, List.getElem_cons_succ, List.setIfInBounds_toArray, List.set_cons_zero, List.set_cons_succ]
  refine wpAnyH_take (i := 17) (v := .pointer (some ⟨w.heap.size, 3, none⟩)) rfl (by kernel_rfl) (by kernel_rfl) (by kernel_rfl) (fun _ _ _ h => h) (Or.inl ⟨by rfl, fun w' hS => by go_simp⟩) hHeld ?_
  simp only [Act.put, List.getElem_toArray, List.getElem_cons_zero, List.getElem_cons_succ, List.setIfInBounds_toArray, List.set_cons_zero, List.set_cons_succ]
  refine wpAnyH_take (i := 18) (v := .int .i64 (x : Int)) rfl (by kernel_rfl) (by kernel_rfl) (by kernel_rfl) (fun _ _ _ h => h) (Or.inl ⟨by rfl, fun w' hS => by (obtain ⟨p1, p2, p4⟩ := hS; go_simp)⟩) hHeld ?_
  simp only [Act.put, List.getElem_toArray, List.getElem_cons_zero, List.getElem_cons_succ, List.setIfInBounds_toArray, List.set_cons_zero, List.set_cons_succ]
  refine wpAnyH_take (i := 19) (v := .int .i64 ((x : Int) / 8)) rfl (by kernel_rfl) (by kernel_rfl) (by kernel_rfl) (fun _ _ _ h => h) (Or.inl ⟨by rfl, fun w' hS => by (go_simp; try simp only [b8, b6]; try go_simp)⟩) hHeld ?_
  simp only [Act.put, List.getElem_toArray, List.getElem_cons_zero, List.getElem_cons_succ, List.setIfInBounds_toArray, List.set_cons_zero, List.set_cons_succ]
  refine wpAnyH_take (i := 20) (v := .pointer (some ⟨bb, 0, none⟩)) rfl (by kernel_rfl) (by kernel_rfl) (by kernel_rfl) (fun _ _ _ h => h) (Or.inl ⟨by rfl, fun w' hS => by go_simp⟩) hHeld ?_
  simp only [Act.put, List.getElem_toArray, List.getElem_cons_zero, List.getElem_cons_succ, List.setIfInBounds_toArray, List.set_cons_zero, List.set_cons_succ]
  refine wpAnyH_take (i := 21) (v := .pointer (some ⟨bb, 0, none⟩)) rfl (by kernel_rfl) (by kernel_rfl) (by kernel_rfl) (fun _ _ _ h => h) (Or.inl ⟨by rfl, fun w' hS => by go_simp⟩) hHeld ?_
  simp only [Act.put, List.getElem_toArray, List.getElem_cons_zero, List.getElem_cons_succ, List.setIfInBounds_toArray, List.set_cons_zero, List.set_cons_succ]
  refine wpAnyH_take (i := 22) (v := .pointer (some ⟨bb, 2, none⟩)) rfl (by kernel_rfl) (by kernel_rfl) (by kernel_rfl) (fun _ _ _ h => h) (Or.inl ⟨by rfl, fun w' hS => by go_simp⟩) hHeld ?_
  simp only [Act.put, List.getElem_toArray, List.getElem_cons_zero, List.getElem_cons_succ, List.setIfInBounds_toArray, List.set_cons_zero, List.set_cons_succ]
  refine wpAnyH_take (i := 23) (v := .slice (some ⟨tb, 0, none⟩) N bc) rfl (by kernel_rfl) (by kernel_rfl) (by kernel_rfl) (fun _ _ _ h => h) (Or.inl ⟨by rfl, fun w' hS => by (obtain ⟨p1, p2, p4⟩ := hS; go_simp)⟩) hHeld ?_
  simp only [Act.put, List.getElem_toArray, List.getElem_cons_zero, List.getElem_cons_succ, List.setIfInBounds_toArray, List.set_cons_zero, List.set_cons_succ]
  refine wpAnyH_take (i := 24) (v := .int .i64 (q : Int)) rfl (by kernel_rfl) (by kernel_rfl) (by kernel_rfl) (fun _ _ _ h => h) (Or.inl ⟨by rfl, fun w' hS => by go_simp⟩) hHeld ?_
  simp only [Act.put, List.getElem_toArray, List.getElem_cons_zero, List.getElem_cons_succ, List.setIfInBounds_toArray, List.set_cons_zero, List.set_cons_succ]
  refine wpAnyH_take (i := 25) (v := .pointer (some ⟨tb, q, none⟩)) rfl (by kernel_rfl) (by kernel_rfl) (by kernel_rfl) (fun _ _ _ h => h) (Or.inl ⟨by rfl, fun w' hS => by go_simp⟩) hHeld ?_
  simp only [Act.put, List.getElem_toArray, List.getElem_cons_zero, List.getElem_cons_succ, List.setIfInBounds_toArray, List.set_cons_zero, List.set_cons_succ]
  refine wpAnyH_take (i := 26) (v := .slice (some ⟨eb, 0, none⟩) en ecp) rfl (by kernel_rfl) (by kernel_rfl) (by kernel_rfl) (fun _ _ _ h => h) (Or.inl ⟨by rfl, fun w' hS => by (obtain ⟨p1, p2, p4⟩ := hS; go_simp)⟩) hHeld ?_
  simp only [Act.put, List.getElem_toArray, List.getElem_cons_zero, List.getElem_cons_succ, List.setIfInBounds_toArray, List.set_cons_zero, List.set_cons_succ]
  refine wpAnyH_take (i := 27) (v := .int .i64 (en : Int)) rfl (by kernel_rfl) (by kernel_rfl) (by kernel_rfl) (fun _ _ _ h => h) (Or.inl ⟨by rfl, fun w' hS => by go_simp⟩) hHeld ?_
  simp only [Act.put, List.getElem_toArray, List.getElem_cons_zero, List.getElem_cons_succ, List.setIfInBounds_toArray, List.set_cons_zero, List.set_cons_succ]
  refine wpAnyH_take (i := 28) (v := .bool false) rfl (by kernel_rfl) (by kernel_rfl) (by kernel_rfl) (fun _ _ _ h => h) (Or.inl ⟨by rfl, fun w' hS => by go_simp⟩) hHeld ?_
  simp only [Act.put, List.getElem_toArray, List.getElem_cons_zero, List.getElem_cons_succ, List.setIfInBounds_toArray, List.set_cons_zero, List.set_cons_succ]
  refine wpAnyH_take (i := 29) (v := .bool false) rfl (by kernel_rfl) (by kernel_rfl) (by kernel_rfl) (fun _ _ _ h => h) (Or.inl ⟨by rfl, fun w' hS => by go_simp⟩) hHeld ?_
  simp only [Act.put, List.getElem_toArray, List.getElem_cons_zero, List.getElem_cons_succ, List.setIfInBounds_toArray, List.set_cons_zero, List.set_cons_succ]
  refine wpAnyH_done (by kernel_rfl) ?_ _
  clear hHeld
  generalize hW3 : W2.drew = W3 at *
  have B3 : Hid (Below W2.heap.size W2 W3) := hW3 ▸ (Below.refl _ _).drew
  clear hW3
  go_upto_region 14 with fail
  have HS2 : Hid (∀ X, Below W3.heap.size W3 X → X.cell? ⟨bb, 2, none⟩ = some (.slice (some ⟨tb, 0, none⟩) N bc) ∧ X.cell? ⟨tb, q, none⟩ = some (.slice (some ⟨eb, 0, none⟩) en ecp) ∧ X.cell? ⟨w.heap.size, 3, none⟩ = some (.int .i64 (x : Int))) := fun X hX => HS1.out X (bstep B3.out hX)
  have HRd2 : Hid (∀ X, Below W3.heap.size W3 X → (∃ C, X.heap[eb]? = some (.cells C 5 (0, 0)) ∧ x / 8 < C.size) ∧ X.cell? ⟨eb, x / 8, none⟩ = some (.int .u8 y)) := fun X hX => (HRead.out X (bstep (bstep (bstep Hb.out B2.out) B3.out) hX)).2.2
  have HF2 : Hid (∀ X, Below W3.heap.size W3 X → Bkm (X.setCell ⟨eb, x / 8, none⟩ (.int .u8 (flipB y (x % 8)))) B bb (.slice (some ⟨sb, 0, none⟩) N sc) (.slice (some ⟨db, 0, none⟩) N dc) (.slice (some ⟨tb, 0, none⟩) N bc) (.slice (some ⟨cb, 0, none⟩) N cc) es2 ∧ Kept w (X.setCell ⟨eb, x / 8, none⟩ (.int .u8 (flipB y (x % 8)))) (fun j => ev.ownBlock = some j)) := fun X hX => HFin.out X (bstep (bstep (bstep Hb.out B2.out) B3.out) hX)
  have HS3 : Hid (∀ (X : World) (v : Value), (X.cell? ⟨bb, 2, none⟩ = some (.slice (some ⟨tb, 0, none⟩) N bc) ∧ X.cell? ⟨tb, q, none⟩ = some (.slice (some ⟨eb, 0, none⟩) en ecp) ∧ X.cell? ⟨w.heap.size, 3, none⟩ = some (.int .i64 (x : Int))) → (X.setCell ⟨eb, x / 8, none⟩ v).cell? ⟨bb, 2, none⟩ = some (.slice (some ⟨tb, 0, none⟩) N bc) ∧ (X.setCell ⟨eb, x / 8, none⟩ v).cell? ⟨tb, q, none⟩ = some (.slice (some ⟨eb, 0, none⟩) en ecp) ∧ (X.setCell ⟨eb, x / 8, none⟩ v).cell? ⟨w.heap.size, 3, none⟩ = some (.int .i64 (x : Int))) := fun X v hX => by
    refine ⟨?_, ?_, ?_⟩
    · rw [World.cell?_setCell_far _ _ _ _ (fun e => Hne.out.1 e.symm)]; exact hX.1
    · rw [World.cell?_setCell_far _ _ _ _ (fun e => Hne.out.2 e.symm)]; exact hX.2.1
    · rw [World.cell?_setCell_far _ _ _ _ (fun e => Heb.out e)]; exact hX.2.2
  clear HS1 HRead HFin HOb
  refine wp_region_held_drew (S := (fun w' => w'.cell? ⟨bb, 2, none⟩ = some (.slice (some ⟨tb, 0, none⟩) N bc) ∧ w'.cell? ⟨tb, q, none⟩ = some (.slice (some ⟨eb, 0, none⟩) en ecp) ∧ w'.cell? ⟨w.heap.size, 3, none⟩ = some (.int .i64 (x : Int)))) (by kernel_rfl) (HS2.out _ (Below.refl _ _).drew) (fun hHeld => ?_)
  simp only [Act.put, List.size_toArray, List.length_cons, List.length_nil, Nat.zero_add]
  have HBd : Hid (Below W3.heap.size W3 W3.drew) := (Below.refl _ _).drew
  have HSd : Hid (W3.drew.cell? ⟨bb, 2, none⟩ = some (.slice (some ⟨tb, 0, none⟩) N bc) ∧ W3.drew.cell? ⟨tb, q, none⟩ = some (.slice (some ⟨eb, 0, none⟩) en ecp) ∧ W3.drew.cell? ⟨w.heap.size, 3, none⟩ = some (.int .i64 (x : Int))) := HS2.out _ HBd.out
  generalize W3.drew = Wd at *
  refine wpAnyH_take (i := 0) (v := .pointer (some ⟨bb, 0, none⟩)) rfl (by kernel_rfl) (by kernel_rfl) (by kernel_rfl) (fun _ _ _ h => h) (Or.inl ⟨by rfl, fun w' hS => by go_simp⟩) hHeld ?_
  simp only [Act.put, List.getElem_toArray, List.getElem_cons_zero, List.getElem_cons_succ, List.setIfInBounds_toArray, List.set_cons_zero, List.set_cons_succ]
  refine wpAnyH_take (i := 1) (v := .pointer (some ⟨bb, 0, none⟩)) rfl (by kernel_rfl) (by kernel_rfl) (by kernel_rfl) (fun _ _ _ h => h) (Or.inl ⟨by rfl, fun w' hS => by go_simp⟩) hHeld ?_
  simp only [Act.put, List.getElem_toArray, List.getElem_cons_zero, List.getElem_cons_succ, List.setIfInBounds_toArray, List.set_cons_zero, List.set_cons_succ]
  refine wpAnyH_take (i := 2) (v := .pointer (some ⟨bb, 2, none⟩)) rfl (by kernel_rfl) (by kernel_rfl) (by kernel_rfl) (fun _ _ _ h => h) (Or.inl ⟨by rfl, fun w' hS => by go_simp⟩) hHeld ?_
  simp only [Act.put, List.getElem_toArray, List.getElem_cons_zero, List.getElem_cons_succ, List.setIfInBounds_toArray, List.set_cons_zero, List.set_cons_succ]
  refine wpAnyH_take (i := 3) (v := .slice (some ⟨tb, 0, none⟩) N bc) rfl (by kernel_rfl) (by kernel_rfl) (by kernel_rfl) (fun _ _ _ h => h) (Or.inl ⟨by rfl, fun w' hS => by (obtain ⟨p1, p2, p4⟩ := hS; go_simp)⟩) hHeld ?_
  simp only [Act.put, List.getElem_toArray, List.getElem_cons_zero, List.getElem_cons_succ, List.setIfInBounds_toArray, List.set_cons_zero, List.set_cons_succ]
  refine wpAnyH_take (i := 4) (v := .int .i64 (q : Int)) rfl (by kernel_rfl) (by kernel_rfl) (by kernel_rfl) (fun _ _ _ h => h) (Or.inl ⟨by rfl, fun w' hS => by go_simp⟩) hHeld ?_
  simp only [Act.put, List.getElem_toArray, List.getElem_cons_zero, List.getElem_cons_succ, List.setIfInBounds_toArray, List.set_cons_zero, List.set_cons_succ]
  refine wpAnyH_take (i := 5) (v := .pointer (some ⟨tb, q, none⟩)) rfl (by kernel_rfl) (by kernel_rfl) (by kernel_rfl) (fun _ _ _ h => h) (Or.inl ⟨by rfl, fun w' hS => by go_simp⟩) hHeld ?_
  simp only [Act.put, List.getElem_toArray, List.getElem_cons_zero, List.getElem_cons_succ, List.setIfInBounds_toArray, List.set_cons_zero, List.set_cons_succ]
  refine wpAnyH_take (i := 6) (v := .slice (some ⟨eb, 0, none⟩) en ecp) rfl (by kernel_rfl) (by kernel_rfl) (by kernel_rfl) (fun _ _ _ h => h) (Or.inl ⟨by rfl, fun w' hS => by (obtain ⟨p1, p2, p4⟩ := hS; go_simp)⟩) hHeld ?_
  simp only [Act.put, List.getElem_toArray, List.getElem_cons_zero, List.getElem_cons_succ, List.setIfInBounds_toArray, List.set_cons_zero, List.set_cons_succ]
  refine wpAnyH_take (i := 7) (v := .pointer (some ⟨w.heap.size, 3, none⟩)) rfl (by kernel_rfl) (by kernel_rfl) (by kernel_rfl) (fun _ _ _ h => h) (Or.inl ⟨by rfl, fun w' hS => by go_simp⟩) hHeld ?_
  simp only [Act.put, List.getElem_toArray, List.getElem_cons_zero, List.getElem_cons_succ, List.setIfInBounds_toArray, List.set_cons_zero, List.set_cons_succ]
  refine wpAnyH_take (i := 8) (v := .int .i64 (x : Int)) rfl (by kernel_rfl) (by kernel_rfl) (by kernel_rfl) (fun _ _ _ h => h) (Or.inl ⟨by rfl, fun w' hS => by (obtain ⟨p1, p2, p4⟩ := hS; go_simp)⟩) hHeld ?_
  simp only [Act.put, List.getElem_toArray, List.getElem_cons_zero, List.getElem_cons_succ, List.setIfInBounds_toArray, List.set_cons_zero, List.set_cons_succ]
  refine wpAnyH_take (i := 9) (v := .int .i64 ((x : Int) / 8)) rfl (by kernel_rfl) (by kernel_rfl) (by kernel_rfl) (fun _ _ _ h => h) (Or.inl ⟨by rfl, fun w' hS => by (go_simp; try simp only [b8, b6]; try go_simp)⟩) hHeld ?_
  simp only [Act.put, List.getElem_toArray, List.getElem_cons_zero, List.getElem_cons_succ, List.setIfInBounds_toArray, List.set_cons_zero, List.set_cons_succ]
  refine wpAnyH_take (i := 10) (v := .pointer (some ⟨bb, 0, none⟩)) rfl (by kernel_rfl) (by kernel_rfl) (by kernel_rfl) (fun _ _ _ h => h) (Or.inl ⟨by rfl, fun w' hS => by go_simp⟩) hHeld ?_
  simp only [Act.put, List.getElem_toArray, List.getElem_cons_zero, List.getElem_cons_succ, List.setIfInBounds_toArray, List.set_cons_zero, List.set_cons_succ]
  refine wpAnyH_take (i := 11) (v := .pointer (some ⟨bb, 0, none⟩)) rfl (by kernel_rfl) (by kernel_rfl) (by kernel_rfl) (fun _ _ _ h => h) (Or.inl ⟨by rfl, fun w' hS => by go_simp⟩) hHeld ?_
  simp only [Act.put, List.getElem_toArray, List.getElem_cons_zero, List.getElem_cons_succ, List.setIfInBounds_toArray, List.set_cons_zero, List.set_cons_succ]
  refine wpAnyH_take (i := 12) (v := .pointer (some ⟨bb, 2, none⟩)) rfl (by kernel_rfl) (by kernel_rfl) (by kernel_rfl) (fun _ _ _ h => h) (Or.inl ⟨by rfl, fun w' hS => by go_simp⟩) hHeld ?_
  simp only [Act.put, List.getElem_toArray, List.getElem_cons_zero, List.getElem_cons_succ, List.setIfInBounds_toArray, List.set_cons_zero, List.set_cons_succ]
  refine wpAnyH_take (i := 13) (v := .slice (some ⟨tb, 0, none⟩) N bc) rfl (by kernel_rfl) (by kernel_rfl) (by kernel_rfl) (fun _ _ _ h => h) (Or.inl ⟨by rfl, fun w' hS => by (obtain ⟨p1, p2, p4⟩ := hS; go_simp)⟩) hHeld ?_
  simp only [Act.put, List.getElem_toArray, List.getElem_cons_zero, List.getElem_cons_succ, List.setIfInBounds_toArray, List.set_cons_zero, List.set_cons_succ]
  refine wpAnyH_take (i := 14) (v := .int .i64 (q : Int)) rfl (by kernel_rfl) (by kernel_rfl) (by kernel_rfl) (fun _ _ _ h => h) (Or.inl ⟨by rfl, fun w' hS => by go_simp⟩) hHeld ?_
  simp only [Act.put, List.getElem_toArray, List.getElem_cons_zero, List.getElem_cons_succ, List.setIfInBounds_toArray, List.set_cons_zero, List.set_cons_succ]
  refine wpAnyH_take (i := 15) (v := .pointer (some ⟨tb, q, none⟩)) rfl (by kernel_rfl) (by kernel_rfl) (by kernel_rfl) (fun _ _ _ h => h) (Or.inl ⟨by rfl, fun w' hS => by go_simp⟩) hHeld ?_
  simp only [Act.put, List.getElem_toArray, List.getElem_cons_zero, List.getElem_cons_succ, List.setIfInBounds_toArray, List.set_cons_zero, List.set_cons_succ]
  refine wpAnyH_take (i := 16) (v := .slice (some ⟨eb, 0, none⟩) en ecp) rfl (by kernel_rfl) (by kernel_rfl) (by kernel_rfl) (fun _ _ _ h => h) (Or.inl ⟨by rfl, fun w' hS => by (obtain ⟨p1, p2, p4⟩ := hS; go_simp)⟩) hHeld ?_
  simp only [Act.put, List.getElem_toArray, List.getElem_cons_zero, List.getElem_cons_succ, List.setIfInBounds_toArray, List.set_cons_zero, List.set_cons_succ]
  refine wpAnyH_take (i := 17) (v := .pointer (some ⟨w.heap.size, 3, none⟩)) rfl (by kernel_rfl) (by kernel_rfl) (by kernel_rfl) (fun _ _ _ h => h) (Or.inl ⟨by rfl, fun w' hS => by go_simp⟩) hHeld ?_
  simp only [Act.put, List.getElem_toArray, List.getElem_cons_zero, List.getElem_cons_succ, List.setIfInBounds_toArray, List.set_cons_zero, List.set_cons_succ]
  refine wpAnyH_take (i := 18) (v := .int .i64 (x : Int)) rfl (by kernel_rfl) (by kernel_rfl) (by kernel_rfl) (fun _ _ _ h => h) (Or.inl ⟨by rfl, fun w' hS => by (obtain ⟨p1, p2, p4⟩ := hS; go_simp)⟩) hHeld ?_
  simp only [Act.put, List.getElem_toArray, List.getElem_cons_zero, List.getElem_cons_succ, List.setIfInBounds_toArray, List.set_cons_zero, List.set_cons_succ]
  refine wpAnyH_take (i := 19) (v := .int .i64 ((x : Int) / 8)) rfl (by kernel_rfl) (by kernel_rfl) (by kernel_rfl) (fun _ _ _ h => h) (Or.inl ⟨by rfl, fun w' hS => by (go_simp; try simp only [b8, b6]; try go_simp)⟩) hHeld ?_
  simp only [Act.put, List.getElem_toArray, List.getElem_cons_zero, List.getElem_cons_succ, List.setIfInBounds_toArray, List.set_cons_zero, List.set_cons_succ]
  refine wpAnyH_take (i := 20) (v := .pointer (some ⟨eb, x / 8, none⟩)) rfl (by kernel_rfl) (by kernel_rfl) (by kernel_rfl) (fun _ _ _ h => h) (Or.inl ⟨by rfl, fun w' hS => by go_simp⟩) hHeld ?_
  simp only [Act.put, List.getElem_toArray, List.getElem_cons_zero, List.getElem_cons_succ, List.setIfInBounds_toArray, List.set_cons_zero, List.set_cons_succ]
  refine wpAnyH_take (i := 22) (v := .pointer (some ⟨w.heap.size, 3, none⟩)) rfl (by kernel_rfl) (by kernel_rfl) (by kernel_rfl) (fun _ _ _ h => h) (Or.inl ⟨by rfl, fun w' hS => by go_simp⟩) hHeld ?_
  simp only [Act.put, List.getElem_toArray, List.getElem_cons_zero, List.getElem_cons_succ, List.setIfInBounds_toArray, List.set_cons_zero, List.set_cons_succ]
  refine wpAnyH_take (i := 23) (v := .int .i64 (x : Int)) rfl (by kernel_rfl) (by kernel_rfl) (by kernel_rfl) (fun _ _ _ h => h) (Or.inl ⟨by rfl, fun w' hS => by (obtain ⟨p1, p2, p4⟩ := hS; go_simp)⟩) hHeld ?_
  simp only [Act.put, List.getElem_toArray, List.getElem_cons_zero, List.getElem_cons_succ, List.setIfInBounds_toArray, List.set_cons_zero, List.set_cons_succ]
  refine wpAnyH_take (i := 24) (v := .int .i64 ((x % 8 : Nat) : Int)) rfl (by kernel_rfl) (by kernel_rfl) (by kernel_rfl) (fun _ _ _ h => h) (Or.inl ⟨by rfl, fun w' hS => by (go_simp; try simp only [b4]; try go_simp)⟩) hHeld ?_
  simp only [Act.put, List.getElem_toArray, List.getElem_cons_zero, List.getElem_cons_succ, List.setIfInBounds_toArray, List.set_cons_zero, List.set_cons_succ]
  refine wpAnyH_take (i := 25) (v := .int .u8 (IntKind.u8.wrap (2 ^ (x % 8)))) rfl (by kernel_rfl) (by kernel_rfl) (by kernel_rfl) (fun _ _ _ h => h) (Or.inl ⟨by rfl, fun w' hS => by (go_simp; try rfl)⟩) hHeld ?_
  simp only [Act.put, List.getElem_toArray, List.getElem_cons_zero, List.getElem_cons_succ, List.setIfInBounds_toArray, List.set_cons_zero, List.set_cons_succ]
  refine wpAnyH_ready (rs := [21]) (by kernel_rfl) (by simp) ?_
  refine AllReadyH.cons rfl (fun K hK => ?_) AllReadyH.nil
  have c9 := (HRd2.out Wd HBd.out).2
  go_simp
  clear c9
  refine hK.out _ _ HSd.out (fun hHeld => ?_)
  clear hK K
  try (simp only [Act.put, List.getElem_toArray, List.getElem_cons_zero, List.getElem_cons_succ, List.setIfInBounds_toArray, List.set_cons_zero, List.set_cons_succ])
  refine wpAnyH_take (i := 26) (v := .int .u8 (flipB y (x % 8))) rfl (by kernel_rfl) (by kernel_rfl) (by kernel_rfl) (fun _ _ _ h => h) (Or.inl ⟨by rfl, fun w' hS => by (go_simp; try rfl)⟩) hHeld ?_
  simp only [Act.put, List.getElem_toArray, List.getElem_cons_zero, List.getElem_cons_succ, List.setIfInBounds_toArray, List.set_cons_zero, List.set_cons_succ]
  refine wpAnyH_take (i := 27) (v := .pointer (some ⟨eb, x / 8, none⟩)) rfl (by kernel_rfl) (by kernel_rfl) (by kernel_rfl) (fun _ _ _ h => h) (Or.inl ⟨by rfl, fun w' hS => by go_simp⟩) hHeld ?_
  simp only [Act.put, List.getElem_toArray, List.getElem_cons_zero, List.getElem_cons_succ, List.setIfInBounds_toArray, List.set_cons_zero, List.set_cons_succ]
  refine wpAnyH_ready (rs := [28]) (by kernel_rfl) (by simp) ?_
  refine AllReadyH.cons rfl (fun K hK => ?_) AllReadyH.nil
  obtain ⟨C9, hC9, hs9⟩ := (HRd2.out Wd HBd.out).1
  refine step_stU rfl 5 _ _ rfl (g := eb) (p := x / 8) rfl rfl hC9 hs9 oneU rfl ?_
  refine hK.out _ _ (HS3.out Wd _ HSd.out) (fun hHeld => ?_)
  clear hK K
  try (simp only [Act.put, List.getElem_toArray, List.getElem_cons_zero, List.getElem_cons_succ, List.setIfInBounds_toArray, List.set_cons_zero, List.set_cons_succ])
  refine wpAnyH_done (by kernel_rfl) ?_ _
  clear hHeld
  go_wp2
  go_ret
  exact ⟨rfl, HF2.out Wd HBd.out⟩
end
end Go.Proofs.Ytnhhjelplmdloaa.Et
