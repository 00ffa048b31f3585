import Derived.Test.YtobaooebjgoaiaaV09
namespace Go.Proofs.Ytobaooebjgoaiaa.Fm
open Go.RowKit Go.Maps Mb
set_option linter.unusedVariables false
set_option maxRecDepth 100000
set_option linter.unusedSimpArgs false
section
variable {w w' W : World} {B : Nat}
theorem load_mid {ops : Array Oper} {rest : List Oper} {o : Oper} {a : Act} {Q : Exit → Act → World → Prop} (ty : TypeId) (x : Operand) {b off : Nat} {cs : List Value} (hc : w.rangeAt b off cs) (d : TypeDesc) (hu : Try.prog.underlying ty = some d) (hd : d.isRow = true) (hi : (Try.prog.info? ty).map (·.size) = some cs.length)
  (ho : o.op = .load ty x) (hx : a.eval x = .pointer (some ⟨b, off, none⟩)) (hw : Region.wanted o (yielded ops a.tmps) = true) (h : wpList Try.prog ops Q rest (a.put o.dst (.agg cs.toArray)) w) : wpList Try.prog ops Q (o :: rest) a w :=
 wpList_step fun K hK => by
  rw [if_pos hw]
  exact wp_load_mid ty x ho b off hx cs d hc hu hd hi (hK _ _ h)
theorem run_eqlop {o : Oper} {ρ : Operand → Value} {w : World} (t : TypeId) (x y : Operand) (t' : TypeId) (ho : o.op = .binOp .eql t x y t') (xs ys : Array Value) (hx : ρ x = .agg xs) (hy : ρ y = .agg ys) (hg : Try.prog.eqGuardType Try.prog.depth t = false) (r : Bool) (h : (Op.equalIn 10000 t (.agg xs) (.agg ys)).run Try.prog w = .ok r w) : (execOp ρ o).run Try.prog w = .ok (.value (.bool r)) w := by
 unfold execOp
 simp only [ho, hx, hy, Sem.run_bind, run_eqGuard_agg w .eql t x y xs ys hg, run_eql_struct, h, Result.andThen_ok, Sem.run_pure]
theorem run_neqop {o : Oper} {ρ : Operand → Value} {w : World} (t : TypeId) (x y : Operand) (t' : TypeId) (ho : o.op = .binOp .neq t x y t') (xs ys : Array Value) (hx : ρ x = .agg xs) (hy : ρ y = .agg ys) (hg : Try.prog.eqGuardType Try.prog.depth t = false) (r : Bool) (h : (Op.equalIn 10000 t (.agg xs) (.agg ys)).run Try.prog w = .ok r w) : (execOp ρ o).run Try.prog w = .ok (.value (.bool (!r))) w := by
 unfold execOp
 simp only [ho, hx, hy, Sem.run_bind, run_eqGuard_agg w .neq t x y xs ys hg, run_neq_struct, h, Result.andThen_ok, Sem.run_pure]
theorem blk_ne {a b t t' : Nat} {C C' : Array Value} (h : w.heap[a]? = some (.cells C t (0, 0))) (h' : w.heap[b]? = some (.cells C' t' (0, 0))) (ht : t ≠ t') : a ≠ b := by
 rintro rfl
 rw [h] at h'
 simp at h'
 exact ht h'.2
theorem sets_list {k t : Nat} : ∀ (vs : List Value) (o : Nat) (w : World) (xs : List Value), w.heap[k]? = some (.cells xs.toArray t (0, 0)) → o + vs.length ≤ xs.length → (w.setCells k o vs).heap[k]? = some (.cells (xs.take o ++ vs ++ xs.drop (o + vs.length)).toArray t (0, 0))
 | [], o, w, xs, h, _ => by simpa [World.setCells] using h
 | y :: ys, o, w, xs, h, hl => by
   simp only [List.length_cons] at hl
   have h1 : (w.setCell ⟨k, o, none⟩ y).heap[k]? = some (.cells (xs.set o y).toArray t (0, 0)) := blk_set h (by simp)
   have := sets_list ys (o + 1) _ _ h1 (by simp; omega)
   have e : (xs.set o y).take (o + 1) ++ ys ++ (xs.set o y).drop (o + 1 + ys.length) = xs.take o ++ y :: ys ++ xs.drop (o + (y :: ys).length) := by
    rw [List.take_set, List.drop_set, if_pos (by omega), List.length_cons, show o + (ys.length + 1) = o + 1 + ys.length by omega]
    rw [List.take_add_one, List.set_append]
    simp [show ¬ o < min o xs.length by omega, show min o xs.length = o by omega, show o < xs.length by omega]
   rw [e] at this
   exact this
theorem sets_whole {k t : Nat} {C : Array Value} {L : List Value} (h : w.heap[k]? = some (.cells C t (0, 0))) (hl : C.size = L.length) : (w.setCells k 0 L).heap[k]? = some (.cells L.toArray t (0, 0)) := by
 have := sets_list (k := k) (t := t) L 0 w C.toList (by simpa using h) (by simp [hl])
 have hd : C.toList.drop L.length = [] := List.drop_eq_nil_of_le (by simp [hl])
 simpa [hd] using this
theorem blk_there {k t n : Nat} {C : Array Value} (h : w.heap[k]? = some (.cells C t (0, 0))) (hn : C.size = n) : w.there k 0 n := fun j hj => ⟨by rw [blk_cell h, Nat.zero_add]; simp [show j < C.size by omega], frozen_of_row w _ _ _ _ h⟩
theorem blk_range {k t : Nat} {L : List Value} (h : w.heap[k]? = some (.cells L.toArray t (0, 0))) : w.rangeAt k 0 L := fun j v hv => by
 rw [blk_cell h, Nat.zero_add, List.getElem?_toArray, hv]
structure WpL (ops : Array Oper) (Q : Exit → Act → World → Prop) (l : List Oper) (a : Act) (w : World) : Prop where
 out : wpList Try.prog ops Q l a w
theorem wl_step {ops : Array Oper} {rest : List Oper} {o : Oper} {a : Act} {Q : Exit → Act → World → Prop} (hw : Region.wanted o (yielded ops a.tmps) = true) (h : ∀ K : Act → World → Prop, (∀ a w, WpL ops Q rest a w → K a w) → o.wp Try.prog a w K Q) : WpL ops Q (o :: rest) a w :=
 ⟨wpList_step fun K hK => by
  rw [if_pos hw]
  exact h K (fun a w h => hK a w h.out)⟩
theorem wl_take {ops : Array Oper} {rest : List Oper} {o : Oper} {a : Act} {Q : Exit → Act → World → Prop} {v : Value} (hw : Region.wanted o (yielded ops a.tmps) = true) (hx : (execOp a.eval o).run Try.prog w = .ok (.value v) w) (h : WpL ops Q rest (a.put o.dst v) w) : WpL ops Q (o :: rest) a w :=
 wl_step hw fun K hK => by
  unfold Oper.wp
  rw [hx]
  exact hK _ _ h
theorem wl_skip {ops : Array Oper} {rest : List Oper} {o : Oper} {a : Act} {Q : Exit → Act → World → Prop} (hw : Region.wanted o (yielded ops a.tmps) = false) (h : WpL ops Q rest (a.put o.dst undef) w) : WpL ops Q (o :: rest) a w :=
 ⟨wpList_step fun K hK => by
  rw [if_neg (by rw [hw]; simp)]
  exact hK _ _ h.out⟩
theorem wT9 {ops : Array Oper} {rest : List Oper} {o : Oper} {a : Act} {Q : Exit → Act → World → Prop} {v : Value} (h : WpL ops Q rest (a.put o.dst v) w) (hw : Region.wanted o (yielded ops a.tmps) = true := by kernel_rfl) (hx : (execOp a.eval o).run Try.prog w = .ok (.value v) w := by go_simp; exact rfl) : WpL ops Q (o :: rest) a w := wl_take hw hx h
theorem wS9' {ops : Array Oper} {rest : List Oper} {o : Oper} {a : Act} {Q : Exit → Act → World → Prop} (h : WpL ops Q rest (a.put o.dst undef) w) (hw : Region.wanted o (yielded ops a.tmps) = false := by kernel_rfl) : WpL ops Q (o :: rest) a w := wl_skip hw h
theorem wl_at {ops : Array Oper} {rest : List Oper} {o : Oper} {a : Act} {Q : Exit → Act → World → Prop} (d : Nat) (hd : o.dst = some d) (h : WpL ops Q (o :: rest) a w) : wpList Try.prog ops Q (o :: rest) a w := h.out
theorem wl_load {ops : Array Oper} {rest : List Oper} {o : Oper} {a : Act} {Q : Exit → Act → World → Prop} (ty : TypeId) (x : Operand) {b off : Nat} {cs : List Value} (hc : w.rangeAt b off cs) (d : TypeDesc) (hu : Try.prog.underlying ty = some d) (hd : d.isRow = true) (hi : (Try.prog.info? ty).map (·.size) = some cs.length)
  (ho : o.op = .load ty x) (hx : a.eval x = .pointer (some ⟨b, off, none⟩)) (hw : Region.wanted o (yielded ops a.tmps) = true) (h : WpL ops Q rest (a.put o.dst (.agg cs.toArray)) w) : WpL ops Q (o :: rest) a w :=
 wl_step hw fun K hK => wp_load_mid ty x ho b off hx cs d hc hu hd hi (hK _ _ h)
theorem wl_store {ops : Array Oper} {rest : List Oper} {o : Oper} {a : Act} {Q : Exit → Act → World → Prop} (ty : TypeId) (x y : Operand) {b : Nat} {L : List Value} (ht : w.there b 0 L.length) (hi : (Try.prog.info? ty).map (·.size) = some L.length) (h1 : ∀ u ∈ L, u.oneCell' = true)
  (ho : o.op = .store ty x y) (hx : a.eval x = .pointer (some ⟨b, 0, none⟩)) (hy : a.eval y = .agg L.toArray) (hw : Region.wanted o (yielded ops a.tmps) = true) (h : WpL ops Q rest (a.put o.dst undef) (w.setCells b 0 L)) : WpL ops Q (o :: rest) a w :=
 wl_step hw fun K hK => wp_store_mid ty x y ho b 0 _ hx hy (by simpa using ht) (by simpa using hi) (all_oneCell_toArray h1) (hK _ _ (by simpa using h))
theorem wl_look {ops : Array Oper} {rest : List Oper} {o : Oper} {a : Act} {Q : Exit → Act → World → Prop} (t : TypeId) (m x : Operand) (c : Bool) {mv kv v : Value} (hr : (Instr.lookup t mv kv c).run Try.prog w = .ok v w) (ho : o.op = .lookup t m x c) (hm : a.eval m = mv) (hx : a.eval x = kv) (hw : Region.wanted o (yielded ops a.tmps) = true) (h : WpL ops Q rest (a.put o.dst v) w) : WpL ops Q (o :: rest) a w :=
 wl_take hw (by simp [execOp, ho, hm, hx, hr, Result.andThen]) h
theorem wl_put {ops : Array Oper} {rest : List Oper} {o : Oper} {a : Act} {Q : Exit → Act → World → Prop} (t : TypeId) (m x y : Operand) {mv kv vv : Value} {w2 : World} (hr : (Instr.mapUpdate t mv kv vv).run Try.prog w = .ok () w2) (ho : o.op = .mapUpdate t m x y) (hm : a.eval m = mv) (hx : a.eval x = kv) (hy : a.eval y = vv) (hw : Region.wanted o (yielded ops a.tmps) = true) (h : WpL ops Q rest (a.put o.dst undef) w2) : WpL ops Q (o :: rest) a w :=
 wl_step hw fun K hK => by
  unfold Oper.wp
  simp [execOp, ho, hm, hx, hy, hr, Result.andThen]
  exact hK _ _ h
theorem wl_st {ops : Array Oper} {rest : List Oper} {o : Oper} {a : Act} {Q : Exit → Act → World → Prop} (ty : TypeId) (x y : Operand) (ho : o.op = .store ty x y) (h : WpL ops Q (o :: rest) a w) : wpList Try.prog ops Q (o :: rest) a w := h.out
theorem newvar (w : World) (t : TypeId) (Z : Array Value) (L : List Value) (h : Z.size = L.length) : Below w.heap.size w ((w.alloc (.cells Z t)).setCells w.heap.size 0 L) ∧ ((w.alloc (.cells Z t)).setCells w.heap.size 0 L).heap[w.heap.size]? = some (.cells L.toArray t (0, 0)) :=
 ⟨bsets (Nat.le_refl _) _ _ (balloc (Below.refl _ _)), sets_whole (heap_alloc_new w _) h⟩
theorem new_there (w : World) (t : TypeId) (Z : Array Value) {n : Nat} (h : Z.size = n) : (w.alloc (.cells Z t)).there w.heap.size 0 n := blk_there (heap_alloc_new w _) h
theorem slotV_one (s : Int × Int) : ∀ u ∈ slotV s, u.oneCell' = true := by
 intro u hu
 simp [slotV] at hu
 rcases hu with rfl | rfl <;> rfl
theorem flcs_one (f : Fl) : ∀ u ∈ f.cs, u.oneCell' = true := by
 intro u hu
 simp [Fl.cs] at hu
 rcases hu with rfl | rfl | rfl | rfl | rfl | rfl | rfl <;> rfl
theorem info_slot : (Try.prog.info? 76).map (·.size) = some 2 := by kernel_rfl
theorem info_flush : (Try.prog.info? 28).map (·.size) = some 7 := by kernel_rfl
theorem info_id : (Try.prog.info? 24).map (·.size) = some 4 := by kernel_rfl
end
end Go.Proofs.Ytobaooebjgoaiaa.Fm
namespace Go.Proofs.Ytobaooebjgoaiaa.Fm
open Go.RowKit Go.Maps Mb
set_option linter.unusedVariables false
set_option maxRecDepth 100000
set_option linter.unusedSimpArgs false
section
variable {w w' W : World} {B : Nat}
theorem inR_t {a b x : Int} (h1 : a ≤ x) (h2 : x ≤ b) : inR a b x = true := by simp [inR, h1, h2]
theorem inR_f1 {a b x : Int} (h1 : ¬ a ≤ x) : inR a b x = false := by simp [inR, h1]
theorem inR_f2 {a b x : Int} (h2 : ¬ x ≤ b) : inR a b x = false := by simp [inR, h2]
theorem within_any (v lo hi : Int) : Calls Try.prog 29 #[.int .i64 v, .int .i64 lo, .int .i64 hi] w fun e w' => e = .returned (.bool (inR lo hi v)) ∧ w' = w := by
 go_enter Try.func29, Try.ntmps29
 go_wp2
 all_goals (go_ret; exact ⟨by simp [inR]; first | assumption | omega, rfl⟩)
set_option maxHeartbeats 1000000 in
theorem noCount_any (x : Int) : Calls Try.prog 71 #[.int .i64 x] w fun e w' => e = .returned (.bool (!inR 0 4611686018427387904 x)) ∧ w' = w := by
 have Hw : Hid (Calls Try.prog 29 #[.int .i64 x, .int .i64 0, .int .i64 4611686018427387904] w fun e w' => e = .returned (.bool (inR 0 4611686018427387904 x)) ∧ w' = w) := within_any x _ _
 cases h : inR 0 4611686018427387904 x with
 | true =>
  rw [h] at Hw
  go_enter Try.func71, Try.ntmps71
  go_wp2_with (first | (go_at_call 29; refine Hw.out.mono ?_; rintro e w2 ⟨rfl, rfl⟩) | fail)
  go_ret
  exact ⟨rfl, rfl⟩
 | false =>
  rw [h] at Hw
  go_enter Try.func71, Try.ntmps71
  go_wp2_with (first | (go_at_call 29; refine Hw.out.mono ?_; rintro e w2 ⟨rfl, rfl⟩) | fail)
  go_ret
  exact ⟨rfl, rfl⟩
end
end Go.Proofs.Ytobaooebjgoaiaa.Fm
namespace Go.Proofs.Ytobaooebjgoaiaa.Fm
open Go.RowKit Go.Maps Mb
set_option linter.unusedVariables false
set_option maxRecDepth 100000
set_option linter.unusedSimpArgs false
section
variable {w w' W : World} {B : Nat}
set_option maxHeartbeats 4000000 in
theorem isWhole_any (v : Vi) : Calls Try.prog 72 #[.agg v.cs.toArray] w fun e w' => e = .returned (.bool (wholeI v)) ∧ Below w.heap.size w w' := by
 generalize hW1 : w.alloc (.cells v.cs.toArray 24) = W1
 have b1 : Below w.heap.size w W1 := hW1 ▸ balloc (Below.refl _ _)
 have k1 : W1.heap[w.heap.size]? = some (.cells v.cs.toArray 24 (0, 0)) := by rw [← hW1]; exact heap_alloc_new w _
 have c0 : W1.cell? ⟨w.heap.size, 0, none⟩ = some (.int .i64 v.e) := blk_cell k1 0
 have c1 : W1.cell? ⟨w.heap.size, 1, none⟩ = some (.int .i64 v.l) := blk_cell k1 1
 have c2 : W1.cell? ⟨w.heap.size, 2, none⟩ = some (.int .i64 v.i) := blk_cell k1 2
 have c3 : W1.cell? ⟨w.heap.size, 3, none⟩ = some (.int .i64 v.c) := blk_cell k1 3
 have HB : Hid (Below w.heap.size w W1) := b1
 have Hw : Hid (∀ x lo hi b, inR lo hi x = b → Calls Try.prog 29 #[.int .i64 x, .int .i64 lo, .int .i64 hi] W1 fun e w' => e = .returned (.bool b) ∧ w' = W1) := fun x lo hi b hb => by rw [← hb]; exact within_any x lo hi
 generalize hpc : v.cs.toArray = pc at *
 clear b1 k1 hpc
 unfold wholeI
 cases h1 : inR 1 4611686018427387904 v.e with
 | false =>
  go_enter Try.func72, Try.ntmps72
  go_wp2_with (first | (refine wl_at 3 rfl ?_) | fail)
  refine wT9 ?_
  simp only [Act.put,gA9,gZ9,gC9,sA9,sZ9,sC9]
  refine wT9 ?_
  simp only [Act.put,gA9,gZ9,gC9,sA9,sZ9,sC9]
  refine wl_step (by kernel_rfl) fun K hK => ?_
  go_simp
  refine (Hw.out _ _ _ _ h1).mono ?_
  rintro e w2 ⟨rfl, rfl⟩
  refine hK _ _ ?_
  clear hK K
  try (simp only [Act.put,gA9,gZ9,gC9,sA9,sZ9,sC9])
  refine wT9 ?_
  simp only [Act.put,gA9,gZ9,gC9,sA9,sZ9,sC9]
  refine wS9' ?_
  simp only [Act.put,gA9,gZ9,gC9,sA9,sZ9,sC9]
  refine wS9' ?_
  simp only [Act.put,gA9,gZ9,gC9,sA9,sZ9,sC9]
  refine wS9' ?_
  simp only [Act.put,gA9,gZ9,gC9,sA9,sZ9,sC9]
  refine wT9 ?_
  simp only [Act.put,gA9,gZ9,gC9,sA9,sZ9,sC9]
  refine wT9 ?_
  simp only [Act.put,gA9,gZ9,gC9,sA9,sZ9,sC9]
  refine wS9' ?_
  simp only [Act.put,gA9,gZ9,gC9,sA9,sZ9,sC9]
  refine wS9' ?_
  simp only [Act.put,gA9,gZ9,gC9,sA9,sZ9,sC9]
  refine wS9' ?_
  simp only [Act.put,gA9,gZ9,gC9,sA9,sZ9,sC9]
  refine wT9 ?_
  simp only [Act.put,gA9,gZ9,gC9,sA9,sZ9,sC9]
  refine wT9 ?_
  simp only [Act.put,gA9,gZ9,gC9,sA9,sZ9,sC9]
  refine wS9' ?_
  simp only [Act.put,gA9,gZ9,gC9,sA9,sZ9,sC9]
  refine wS9' ?_
  simp only [Act.put,gA9,gZ9,gC9,sA9,sZ9,sC9]
  refine wS9' ?_
  simp only [Act.put,gA9,gZ9,gC9,sA9,sZ9,sC9]
  refine wT9 ?_
  simp only [Act.put,gA9,gZ9,gC9,sA9,sZ9,sC9]
  refine wT9 ?_
  simp only [Act.put,gA9,gZ9,gC9,sA9,sZ9,sC9]
  refine ⟨?_⟩
  go_wp2
  go_ret
  exact ⟨by simp, HB.out⟩
 | true =>
  cases h2 : inR 0 15 v.l with
  | false =>
   go_enter Try.func72, Try.ntmps72
   go_wp2_with (first | (refine wl_at 3 rfl ?_) | fail)
   refine wT9 ?_
   simp only [Act.put,gA9,gZ9,gC9,sA9,sZ9,sC9]
   refine wT9 ?_
   simp only [Act.put,gA9,gZ9,gC9,sA9,sZ9,sC9]
   refine wl_step (by kernel_rfl) fun K hK => ?_
   go_simp
   refine (Hw.out _ _ _ _ h1).mono ?_
   rintro e w2 ⟨rfl, rfl⟩
   refine hK _ _ ?_
   clear hK K
   try (simp only [Act.put,gA9,gZ9,gC9,sA9,sZ9,sC9])
   refine wT9 ?_
   simp only [Act.put,gA9,gZ9,gC9,sA9,sZ9,sC9]
   refine wT9 ?_
   simp only [Act.put,gA9,gZ9,gC9,sA9,sZ9,sC9]
   refine wT9 ?_
   simp only [Act.put,gA9,gZ9,gC9,sA9,sZ9,sC9]
   refine wl_step (by kernel_rfl) fun K hK => ?_
   go_simp
   refine (Hw.out _ _ _ _ h2).mono ?_
   rintro e w2 ⟨rfl, rfl⟩
   refine hK _ _ ?_
   clear hK K
   try (simp only [Act.put,gA9,gZ9,gC9,sA9,sZ9,sC9])
   refine wT9 ?_
   simp only [Act.put,gA9,gZ9,gC9,sA9,sZ9,sC9]
   refine wT9 ?_
   simp only [Act.put,gA9,gZ9,gC9,sA9,sZ9,sC9]
   refine wS9' ?_
   simp only [Act.put,gA9,gZ9,gC9,sA9,sZ9,sC9]
   refine wS9' ?_
   simp only [Act.put,gA9,gZ9,gC9,sA9,sZ9,sC9]
   refine wS9' ?_
   simp only [Act.put,gA9,gZ9,gC9,sA9,sZ9,sC9]
   refine wT9 ?_
   simp only [Act.put,gA9,gZ9,gC9,sA9,sZ9,sC9]
   refine wT9 ?_
   simp only [Act.put,gA9,gZ9,gC9,sA9,sZ9,sC9]
   refine wS9' ?_
   simp only [Act.put,gA9,gZ9,gC9,sA9,sZ9,sC9]
   refine wS9' ?_
   simp only [Act.put,gA9,gZ9,gC9,sA9,sZ9,sC9]
   refine wS9' ?_
   simp only [Act.put,gA9,gZ9,gC9,sA9,sZ9,sC9]
   refine wT9 ?_
   simp only [Act.put,gA9,gZ9,gC9,sA9,sZ9,sC9]
   refine wT9 ?_
   simp only [Act.put,gA9,gZ9,gC9,sA9,sZ9,sC9]
   refine ⟨?_⟩
   go_wp2
   go_ret
   exact ⟨by simp, HB.out⟩
  | true =>
   cases h3 : inR 1 4611686018427387904 v.i with
   | false =>
    go_enter Try.func72, Try.ntmps72
    go_wp2_with (first | (refine wl_at 3 rfl ?_) | fail)
    refine wT9 ?_
    simp only [Act.put,gA9,gZ9,gC9,sA9,sZ9,sC9]
    refine wT9 ?_
    simp only [Act.put,gA9,gZ9,gC9,sA9,sZ9,sC9]
    refine wl_step (by kernel_rfl) fun K hK => ?_
    go_simp
    refine (Hw.out _ _ _ _ h1).mono ?_
    rintro e w2 ⟨rfl, rfl⟩
    refine hK _ _ ?_
    clear hK K
    try (simp only [Act.put,gA9,gZ9,gC9,sA9,sZ9,sC9])
    refine wT9 ?_
    simp only [Act.put,gA9,gZ9,gC9,sA9,sZ9,sC9]
    refine wT9 ?_
    simp only [Act.put,gA9,gZ9,gC9,sA9,sZ9,sC9]
    refine wT9 ?_
    simp only [Act.put,gA9,gZ9,gC9,sA9,sZ9,sC9]
    refine wl_step (by kernel_rfl) fun K hK => ?_
    go_simp
    refine (Hw.out _ _ _ _ h2).mono ?_
    rintro e w2 ⟨rfl, rfl⟩
    refine hK _ _ ?_
    clear hK K
    try (simp only [Act.put,gA9,gZ9,gC9,sA9,sZ9,sC9])
    refine wT9 ?_
    simp only [Act.put,gA9,gZ9,gC9,sA9,sZ9,sC9]
    refine wT9 ?_
    simp only [Act.put,gA9,gZ9,gC9,sA9,sZ9,sC9]
    refine wT9 ?_
    simp only [Act.put,gA9,gZ9,gC9,sA9,sZ9,sC9]
    refine wT9 ?_
    simp only [Act.put,gA9,gZ9,gC9,sA9,sZ9,sC9]
    refine wl_step (by kernel_rfl) fun K hK => ?_
    go_simp
    refine (Hw.out _ _ _ _ h3).mono ?_
    rintro e w2 ⟨rfl, rfl⟩
    refine hK _ _ ?_
    clear hK K
    try (simp only [Act.put,gA9,gZ9,gC9,sA9,sZ9,sC9])
    refine wT9 ?_
    simp only [Act.put,gA9,gZ9,gC9,sA9,sZ9,sC9]
    refine wT9 ?_
    simp only [Act.put,gA9,gZ9,gC9,sA9,sZ9,sC9]
    refine wS9' ?_
    simp only [Act.put,gA9,gZ9,gC9,sA9,sZ9,sC9]
    refine wS9' ?_
    simp only [Act.put,gA9,gZ9,gC9,sA9,sZ9,sC9]
    refine wS9' ?_
    simp only [Act.put,gA9,gZ9,gC9,sA9,sZ9,sC9]
    refine wT9 ?_
    simp only [Act.put,gA9,gZ9,gC9,sA9,sZ9,sC9]
    refine wT9 ?_
    simp only [Act.put,gA9,gZ9,gC9,sA9,sZ9,sC9]
    refine ⟨?_⟩
    go_wp2
    go_ret
    exact ⟨by simp, HB.out⟩
   | true =>
    cases h4 : inR 1 4611686018427387904 v.c with
    | false =>
     go_enter Try.func72, Try.ntmps72
     go_wp2_with (first | (refine wl_at 3 rfl ?_) | fail)
     refine wT9 ?_
     simp only [Act.put,gA9,gZ9,gC9,sA9,sZ9,sC9]
     refine wT9 ?_
     simp only [Act.put,gA9,gZ9,gC9,sA9,sZ9,sC9]
     refine wl_step (by kernel_rfl) fun K hK => ?_
     go_simp
     refine (Hw.out _ _ _ _ h1).mono ?_
     rintro e w2 ⟨rfl, rfl⟩
     refine hK _ _ ?_
     clear hK K
     try (simp only [Act.put,gA9,gZ9,gC9,sA9,sZ9,sC9])
     refine wT9 ?_
     simp only [Act.put,gA9,gZ9,gC9,sA9,sZ9,sC9]
     refine wT9 ?_
     simp only [Act.put,gA9,gZ9,gC9,sA9,sZ9,sC9]
     refine wT9 ?_
     simp only [Act.put,gA9,gZ9,gC9,sA9,sZ9,sC9]
     refine wl_step (by kernel_rfl) fun K hK => ?_
     go_simp
     refine (Hw.out _ _ _ _ h2).mono ?_
     rintro e w2 ⟨rfl, rfl⟩
     refine hK _ _ ?_
     clear hK K
     try (simp only [Act.put,gA9,gZ9,gC9,sA9,sZ9,sC9])
     refine wT9 ?_
     simp only [Act.put,gA9,gZ9,gC9,sA9,sZ9,sC9]
     refine wT9 ?_
     simp only [Act.put,gA9,gZ9,gC9,sA9,sZ9,sC9]
     refine wT9 ?_
     simp only [Act.put,gA9,gZ9,gC9,sA9,sZ9,sC9]
     refine wT9 ?_
     simp only [Act.put,gA9,gZ9,gC9,sA9,sZ9,sC9]
     refine wl_step (by kernel_rfl) fun K hK => ?_
     go_simp
     refine (Hw.out _ _ _ _ h3).mono ?_
     rintro e w2 ⟨rfl, rfl⟩
     refine hK _ _ ?_
     clear hK K
     try (simp only [Act.put,gA9,gZ9,gC9,sA9,sZ9,sC9])
     refine wT9 ?_
     simp only [Act.put,gA9,gZ9,gC9,sA9,sZ9,sC9]
     refine wT9 ?_
     simp only [Act.put,gA9,gZ9,gC9,sA9,sZ9,sC9]
     refine wT9 ?_
     simp only [Act.put,gA9,gZ9,gC9,sA9,sZ9,sC9]
     refine wT9 ?_
     simp only [Act.put,gA9,gZ9,gC9,sA9,sZ9,sC9]
     refine wl_step (by kernel_rfl) fun K hK => ?_
     go_simp
     refine (Hw.out _ _ _ _ h4).mono ?_
     rintro e w2 ⟨rfl, rfl⟩
     refine hK _ _ ?_
     clear hK K
     try (simp only [Act.put,gA9,gZ9,gC9,sA9,sZ9,sC9])
     refine wT9 ?_
     simp only [Act.put,gA9,gZ9,gC9,sA9,sZ9,sC9]
     refine wT9 ?_
     simp only [Act.put,gA9,gZ9,gC9,sA9,sZ9,sC9]
     refine ⟨?_⟩
     go_wp2
     go_ret
     exact ⟨by simp, HB.out⟩
    | true =>
     go_enter Try.func72, Try.ntmps72
     go_wp2_with (first | (refine wl_at 3 rfl ?_) | fail)
     refine wT9 ?_
     simp only [Act.put,gA9,gZ9,gC9,sA9,sZ9,sC9]
     refine wT9 ?_
     simp only [Act.put,gA9,gZ9,gC9,sA9,sZ9,sC9]
     refine wl_step (by kernel_rfl) fun K hK => ?_
     go_simp
     refine (Hw.out _ _ _ _ h1).mono ?_
     rintro e w2 ⟨rfl, rfl⟩
     refine hK _ _ ?_
     clear hK K
     try (simp only [Act.put,gA9,gZ9,gC9,sA9,sZ9,sC9])
     refine wT9 ?_
     simp only [Act.put,gA9,gZ9,gC9,sA9,sZ9,sC9]
     refine wT9 ?_
     simp only [Act.put,gA9,gZ9,gC9,sA9,sZ9,sC9]
     refine wT9 ?_
     simp only [Act.put,gA9,gZ9,gC9,sA9,sZ9,sC9]
     refine wl_step (by kernel_rfl) fun K hK => ?_
     go_simp
     refine (Hw.out _ _ _ _ h2).mono ?_
     rintro e w2 ⟨rfl, rfl⟩
     refine hK _ _ ?_
     clear hK K
     try (simp only [Act.put,gA9,gZ9,gC9,sA9,sZ9,sC9])
     refine wT9 ?_
     simp only [Act.put,gA9,gZ9,gC9,sA9,sZ9,sC9]
     refine wT9 ?_
     simp only [Act.put,gA9,gZ9,gC9,sA9,sZ9,sC9]
     refine wT9 ?_
     simp only [Act.put,gA9,gZ9,gC9,sA9,sZ9,sC9]
     refine wT9 ?_
     simp only [Act.put,gA9,gZ9,gC9,sA9,sZ9,sC9]
     refine wl_step (by kernel_rfl) fun K hK => ?_
     go_simp
     refine (Hw.out _ _ _ _ h3).mono ?_
     rintro e w2 ⟨rfl, rfl⟩
     refine hK _ _ ?_
     clear hK K
     try (simp only [Act.put,gA9,gZ9,gC9,sA9,sZ9,sC9])
     refine wT9 ?_
     simp only [Act.put,gA9,gZ9,gC9,sA9,sZ9,sC9]
     refine wT9 ?_
     simp only [Act.put,gA9,gZ9,gC9,sA9,sZ9,sC9]
     refine wT9 ?_
     simp only [Act.put,gA9,gZ9,gC9,sA9,sZ9,sC9]
     refine wT9 ?_
     simp only [Act.put,gA9,gZ9,gC9,sA9,sZ9,sC9]
     refine wl_step (by kernel_rfl) fun K hK => ?_
     go_simp
     refine (Hw.out _ _ _ _ h4).mono ?_
     rintro e w2 ⟨rfl, rfl⟩
     refine hK _ _ ?_
     clear hK K
     try (simp only [Act.put,gA9,gZ9,gC9,sA9,sZ9,sC9])
     refine wT9 ?_
     simp only [Act.put,gA9,gZ9,gC9,sA9,sZ9,sC9]
     refine wT9 ?_
     simp only [Act.put,gA9,gZ9,gC9,sA9,sZ9,sC9]
     refine ⟨?_⟩
     go_wp2
     go_ret
     exact ⟨by simp, HB.out⟩
end
end Go.Proofs.Ytobaooebjgoaiaa.Fm
