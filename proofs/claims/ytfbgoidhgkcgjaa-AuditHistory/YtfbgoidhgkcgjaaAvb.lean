import Derived.Test.YtfbgoidhgkcgjaaAvb0
namespace Go.Proofs.Ytfbgoidhgkcgjaa.Lo
open Go.RowKit Go.Maps
set_option linter.unusedVariables false
set_option linter.unusedSimpArgs false
section
variable {w w' W : World} {B : Nat} {P : Nat → Prop}
theorem step_allocZ {ops : Array Oper} {o : Oper} {a : Act} {K : Act → World → Prop} {Q : Exit → Act → World → Prop} {E : Prop} {Z : Array Value} (hgd : o.guard = none) (t : TypeId) (ho : o.op = .alloc t) (hz : (Try.prog.info? t).map (·.zero) = some (some (.agg Z)))
    (h : ∀ W : World, W.heap[w.heap.size]? = some (.cells Z t (0, 0)) → Below w.heap.size w W → w.heap.size < W.heap.size → K (a.put o.dst (.pointer (some ⟨w.heap.size, 0, none⟩))) W) : if Region.wanted o (yielded ops a.tmps) = true then Oper.wp Try.prog o a w K Q else E := by
  have hw : Region.wanted o (yielded ops a.tmps) = true := by simp [Region.wanted, hgd]
  rw [if_pos hw]
  unfold Oper.wp execOp
  simp only [ho, Sem.run_bind, run_allocZ hz, Result.andThen_ok, Sem.run_pure]
  exact h _ (heap_alloc_new w _) ((Below.refl _ _).alloc (Nat.le_refl _) _) (by simp)
theorem step_storeZ {ops : Array Oper} {o : Oper} {a : Act} {K : Act → World → Prop} {Q : Exit → Act → World → Prop} {E : Prop} (hgd : o.guard = none) (ty : TypeId) (x y : Operand) (ho : o.op = .store ty x y) {g : Nat} {L : List Value} {t : TypeId} {old : Array Value} (hx : a.eval x = .pointer (some ⟨g, 0, none⟩)) (hy : a.eval y = .agg L.toArray) (hg : w.heap[g]? = some (.cells old t (0, 0))) (hi : (Try.prog.info? ty).map (·.size) = some L.length) (hold : old.size = L.length) (h1 : ∀ u ∈ L, u.oneCell' = true)
    (h : ∀ W : World, W.heap[g]? = some (.cells L.toArray t (0, 0)) → Mb.Kept w W (fun j => j = g) → K (a.put o.dst undef) W) : if Region.wanted o (yielded ops a.tmps) = true then Oper.wp Try.prog o a w K Q else E :=
  Ln.step_storeL hgd ty x y ho hx hy (Ln.blk_there hg hold) hi h1 (h _ (Ln.sets_whole hg hold) (Mb.ksets (P := fun j => j = g) rfl _ _ _))
theorem step_mapU {ops : Array Oper} {o : Oper} {a : Act} {K : Act → World → Prop} {Q : Exit → Act → World → Prop} {E : Prop} (hgd : o.guard = none) (t : TypeId) (m k x : Operand) (ho : o.op = .mapUpdate t m k x) {w' : World} (hr : (Instr.mapUpdate t (a.eval m) (a.eval k) (a.eval x)).run Try.prog w = .ok () w')
    (h : K (a.put o.dst undef) w') : if Region.wanted o (yielded ops a.tmps) = true then Oper.wp Try.prog o a w K Q else E := by
  have hw : Region.wanted o (yielded ops a.tmps) = true := by simp [Region.wanted, hgd]
  rw [if_pos hw]
  unfold Oper.wp execOp
  simp only [ho, Sem.run_bind, hr, Result.andThen_ok, Sem.run_pure]
  exact h
theorem results_cell_tmp {fn : Func} {p q : Tmp} {ty : TypeId} (h : fn.results = #[.cell p ty, .tmp q]) (tmps : Array Value) (w : World) (g : Nat) (cs : Array Value)
    (hp : tmps.getD p undef = .pointer (some ⟨g, 0, none⟩)) (hl : (loadVar ty ⟨g, 0, none⟩).run Try.prog w = .ok (.agg cs) w) :
    (results fn tmps).run Try.prog w = .ok (.tuple #[.agg cs, tmps.getD q undef]) w := by
  have hp' : tmps[p]?.getD undef = .pointer (some ⟨g, 0, none⟩) := by simpa using hp
  simp [results, h, hp', asAddr, hl]
theorem iHi : (Try.prog.info? 55).map (·.size) = some 2 := by kernel_rfl
theorem bHi (b : Nat) : Try.prog.built 55 [(0, .map (some b))] = some #[.map (some b), .int .i64 0] := by kernel_rfl
theorem bEn (e : Mk) : Try.prog.built 59 [(0, .agg #[.int .i64 e.cm.c0, .int .i64 e.cm.c1, .int .i64 e.cm.c2, .int .i64 e.cm.c3, .string e.cm.ky, .string e.cm.vl, .string e.cm.od]), (1, .agg #[.int .i64 e.rc, .string e.rv, .int .i64 e.rn])] = some e.en.toArray := by kernel_rfl
theorem one2 (b : Nat) (n : Int) : ∀ u ∈ ([.map (some b), .int .i64 n] : List Value), u.oneCell' = true := by
  intro u hu
  simp only [List.mem_cons, List.not_mem_nil, or_false] at hu
  rcases hu with rfl | rfl <;> rfl
set_option maxRecDepth 100000 in
set_option maxHeartbeats 1000000 in
theorem newH_any (w : World) : Calls Try.prog 11 #[] w fun r w' => ∃ mb, r = .returned (.agg #[.map (some mb), .int .i64 0]) ∧ MpE w' mb 0 (fun _ => none) ∧ w.heap.size ≤ mb ∧ Below w.heap.size w w' := by
  go_enter Try.func11, Try.ntmps11
  go_wp2_with (first | (refine wl_allocZ rfl 55 rfl zHi ?_) | fail)
  intro W1 k1 b1 s1
  have HM : Hid (MpE (W1.alloc (.map #[] 0)) W1.heap.size 0 (fun _ => none)) := MpE.made W1
  have k1' : (W1.alloc (.map #[] 0)).heap[w.heap.size]? = some (.cells #[.map none, .int .i64 0] 55 (0, 0)) := (Below.block ((Below.refl W1.heap.size W1).alloc (Nat.le_refl _) _) _ s1).trans k1
  have hmk := run_makeMap (P := Try.prog) 53 W1
  go_wp2_with (first | (refine wl_buildZ rfl 55 _ rfl (built_eq (by kernel_rfl) (bHi W1.heap.size)) ?_) | (refine Ln.at_store 55 _ _ rfl ?_; refine wl_storeZ rfl 55 _ _ rfl (L := [.map (some W1.heap.size), .int .i64 0]) rfl rfl k1' iHi rfl (one2 _ _) ?_) | fail)
  intro W3 k3 kk3
  have HM3 : Hid (MpE W3 W1.heap.size 0 (fun _ => none)) := (show MpE _ _ _ _ from HM.out.keep kk3 (fun e => by have e' : W1.heap.size = w.heap.size := e; omega))
  have HB3 : Hid (Below w.heap.size w W3) := (show Below _ _ _ from (b1.trans (((Below.refl W1.heap.size W1).alloc (Nat.le_refl _) _).mono (by omega))).trans (kn kk3 (Nat.le_refl _) (by have := b1.size; simp; omega)))
  have HK3 : Hid (W3.heap[w.heap.size]? = some (.cells #[.map (some W1.heap.size), .int .i64 0] 55 (0, 0))) := k3
  have hs1 : w.heap.size ≤ W1.heap.size := by omega
  clear k1 b1 s1 k1' k3 kk3 HM hmk
  go_wp2_with fail
  (try simp only [Exit.inBlock, Exit.then])
  refine bodyPost_ret (v := .agg #[.map (some W1.heap.size), .int .i64 0]) ?_ rfl ⟨_, rfl, HM3.out, hs1, HB3.out⟩
  exact results_cell_row rfl _ _ w.heap.size 55 _ (0, 0) _ rfl HK3.out Try.underlying55 rfl iHi
set_option maxRecDepth 100000 in
set_option maxHeartbeats 1000000 in
theorem entryOf_any (e : Mk) (w : World) : Calls Try.prog 17 #[.agg e.cs.toArray] w fun r w' => r = .returned (.agg e.en.toArray) ∧ Below w.heap.size w w' := by
  have HB : Hid (Below w.heap.size w (w.alloc (.cells e.cs.toArray 50))) := bsp _ _ _
  have hk := heap_new w e.cs.toArray 50
  have hWs : w.heap.size < (w.alloc (.cells e.cs.toArray 50)).heap.size := by simp
  generalize hW : w.alloc (.cells e.cs.toArray 50) = W at *
  go_enter Try.func17, Try.ntmps17
  go_wp2_with (first | (refine wl_allocZ rfl 59 rfl zEn ?_) | fail)
  intro W1 k1 b1 s1
  have c15 : W1.cell? ⟨w.heap.size, 15, none⟩ = some (.int .i64 e.cm.c0) := below_at b1 (blk_cell hk 15)
  have c16 : W1.cell? ⟨w.heap.size, 16, none⟩ = some (.int .i64 e.cm.c1) := below_at b1 (blk_cell hk 16)
  have c17 : W1.cell? ⟨w.heap.size, 17, none⟩ = some (.int .i64 e.cm.c2) := below_at b1 (blk_cell hk 17)
  have c18 : W1.cell? ⟨w.heap.size, 18, none⟩ = some (.int .i64 e.cm.c3) := below_at b1 (blk_cell hk 18)
  have c19 : W1.cell? ⟨w.heap.size, 19, none⟩ = some (.string e.cm.ky) := below_at b1 (blk_cell hk 19)
  have c20 : W1.cell? ⟨w.heap.size, 20, none⟩ = some (.string e.cm.vl) := below_at b1 (blk_cell hk 20)
  have c21 : W1.cell? ⟨w.heap.size, 21, none⟩ = some (.string e.cm.od) := below_at b1 (blk_cell hk 21)
  have c22 : W1.cell? ⟨w.heap.size, 22, none⟩ = some (.int .i64 e.rc) := below_at b1 (blk_cell hk 22)
  have c23 : W1.cell? ⟨w.heap.size, 23, none⟩ = some (.string e.rv) := below_at b1 (blk_cell hk 23)
  have c24 : W1.cell? ⟨w.heap.size, 24, none⟩ = some (.int .i64 e.rn) := below_at b1 (blk_cell hk 24)
  clear hk hW
  go_wp2_with (first | (refine wl_buildZ rfl 59 _ rfl (built_eq (by kernel_rfl) (bEn e)) ?_) | (refine Ln.at_store 59 _ _ rfl ?_; refine wl_storeZ rfl 59 _ _ rfl (L := e.en) rfl rfl k1 (iEn e) rfl (Mk.one' e) ?_) | fail)
  intro W3 k3 kk3
  have HB3 : Hid (Below w.heap.size w W3) := (show Below _ _ _ from bst HB.out (b1.trans (kn kk3 (Nat.le_refl _) b1.size)))
  have HK3 : Hid (W3.heap[W.heap.size]? = some (.cells e.en.toArray 59 (0, 0))) := k3
  clear k1 b1 s1 k3 kk3 HB c15 c16 c17 c18 c19 c20 c21 c22 c23 c24
  go_wp2_with fail
  (try simp only [Exit.inBlock, Exit.then])
  refine bodyPost_ret (v := .agg e.en.toArray) ?_ rfl ⟨rfl, HB3.out⟩
  exact results_cell_row rfl _ _ W.heap.size 59 _ (0, 0) _ rfl HK3.out Try.underlying59 rfl (iEn e)
end
end Go.Proofs.Ytfbgoidhgkcgjaa.Lo
