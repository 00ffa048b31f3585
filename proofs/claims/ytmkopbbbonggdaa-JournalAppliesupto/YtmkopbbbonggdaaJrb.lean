import Derived.Test.YtmkopbbbonggdaaJra
namespace Go.Proofs.Ytmkopbbbonggdaa.Jn
open Go.RowKit Mb Fg
set_option linter.unusedVariables false
set_option maxRecDepth 100000
set_option linter.unusedSimpArgs false
section
variable {w w' W : World} {B : Nat}
structure WpL (ops : Array Oper) (Q : Exit → Act → World → Prop) (l : List Oper) (a : Act) (w : World) : Prop where
  out : wpList Try.prog ops Q l a w
theorem wl_step {ops : Array Oper} {rest : List Oper} {o : Oper} {a : Act} {Q : Exit → Act → World → Prop} (hw : Region.wanted o (yielded ops a.tmps) = true) (h : ∀ K : Act → World → Prop, (∀ a w, WpL ops Q rest a w → K a w) → o.wp Try.prog a w K Q) : WpL ops Q (o :: rest) a w :=
  ⟨wpList_step fun K hK => by
    rw [if_pos hw]
    exact h K (fun a w h => hK a w h.out)⟩
theorem wl_take {ops : Array Oper} {rest : List Oper} {o : Oper} {a : Act} {Q : Exit → Act → World → Prop} {v : Value} (hw : Region.wanted o (yielded ops a.tmps) = true) (hx : (execOp a.eval o).run Try.prog w = .ok (.value v) w) (h : WpL ops Q rest (a.put o.dst v) w) : WpL ops Q (o :: rest) a w :=
  wl_step hw fun K hK => by
    unfold Oper.wp
    rw [hx]
    exact hK _ _ h
theorem wl_skip {ops : Array Oper} {rest : List Oper} {o : Oper} {a : Act} {Q : Exit → Act → World → Prop} (hw : Region.wanted o (yielded ops a.tmps) = false) (h : WpL ops Q rest (a.put o.dst undef) w) : WpL ops Q (o :: rest) a w :=
  ⟨wpList_step fun K hK => by
    rw [if_neg (by rw [hw]; simp)]
    exact hK _ _ h.out⟩
theorem wl_at {ops : Array Oper} {rest : List Oper} {o : Oper} {a : Act} {Q : Exit → Act → World → Prop} (d : Nat) (hd : o.dst = some d) (h : WpL ops Q (o :: rest) a w) : wpList Try.prog ops Q (o :: rest) a w := h.out
theorem at_store {ops : Array Oper} {rest : List Oper} {o : Oper} {a : Act} {Q : Exit → Act → World → Prop} (ty : TypeId) (x y : Operand) (ho : o.op = .store ty x y) (h : wpList Try.prog ops Q (o :: rest) a w) : wpList Try.prog ops Q (o :: rest) a w := h
theorem at_load {ops : Array Oper} {rest : List Oper} {o : Oper} {a : Act} {Q : Exit → Act → World → Prop} (ty : TypeId) (x : Operand) (ho : o.op = .load ty x) (h : wpList Try.prog ops Q (o :: rest) a w) : wpList Try.prog ops Q (o :: rest) a w := h
theorem load_mid {ops : Array Oper} {rest : List Oper} {o : Oper} {a : Act} {Q : Exit → Act → World → Prop} (ty : TypeId) (x : Operand) {b off : Nat} {cs : List Value} (hc : w.rangeAt b off cs) (d : TypeDesc) (hu : Try.prog.underlying ty = some d) (hd : d.isRow = true) (hi : (Try.prog.info? ty).map (·.size) = some cs.length)
    (ho : o.op = .load ty x) (hx : a.eval x = .pointer (some ⟨b, off, none⟩)) (hw : Region.wanted o (yielded ops a.tmps) = true) (h : wpList Try.prog ops Q rest (a.put o.dst (.agg cs.toArray)) w) : wpList Try.prog ops Q (o :: rest) a w :=
  wpList_step fun K hK => by
    rw [if_pos hw]
    exact wp_load_mid ty x ho b off hx cs d hc hu hd hi (hK _ _ h)
theorem store_rowL {ops : Array Oper} {rest : List Oper} {o : Oper} {a : Act} {Q : Exit → Act → World → Prop} (ty : TypeId) (x y : Operand) {b : Nat} {L : List Value} (ht : w.there b 0 L.length) (hi : (Try.prog.info? ty).map (·.size) = some L.length) (h1 : ∀ u ∈ L, u.oneCell' = true)
    (ho : o.op = .store ty x y) (hx : a.eval x = .pointer (some ⟨b, 0, none⟩)) (hy : a.eval y = .agg L.toArray) (hw : Region.wanted o (yielded ops a.tmps) = true) (h : wpList Try.prog ops Q rest (a.put o.dst undef) (w.setCells b 0 L)) : wpList Try.prog ops Q (o :: rest) a w :=
  wpList_step fun K hK => by
    rw [if_pos hw]
    exact wp_store_mid ty x y ho b 0 _ hx hy (by simpa using ht) (by simpa using hi) (all_oneCell_toArray h1) (hK _ _ (by simpa using h))
theorem sets_list {k t : Nat} : ∀ (vs : List Value) (o : Nat) (w : World) (xs : List Value), w.heap[k]? = some (.cells xs.toArray t (0, 0)) → o + vs.length ≤ xs.length → (w.setCells k o vs).heap[k]? = some (.cells (xs.take o ++ vs ++ xs.drop (o + vs.length)).toArray t (0, 0))
  | [], o, w, xs, h, _ => by simpa [World.setCells] using h
  | y :: ys, o, w, xs, h, hl => by
      simp only [List.length_cons] at hl
      have h1 : (w.setCell ⟨k, o, none⟩ y).heap[k]? = some (.cells (xs.set o y).toArray t (0, 0)) := blk_set h (by simp)
      have := sets_list ys (o + 1) _ _ h1 (by simp; omega)
      have e : (xs.set o y).take (o + 1) ++ ys ++ (xs.set o y).drop (o + 1 + ys.length) = xs.take o ++ y :: ys ++ xs.drop (o + (y :: ys).length) := by
        rw [List.take_set, List.drop_set, if_pos (by omega), List.length_cons, show o + (ys.length + 1) = o + 1 + ys.length by omega]
        rw [List.take_add_one, List.set_append]
        simp [show ¬ o < min o xs.length by omega, show min o xs.length = o by omega, show o < xs.length by omega]
      rw [e] at this
      exact this
theorem sets_whole {k t : Nat} {C : Array Value} {L : List Value} (h : w.heap[k]? = some (.cells C t (0, 0))) (hl : C.size = L.length) : (w.setCells k 0 L).heap[k]? = some (.cells L.toArray t (0, 0)) := by
  have := sets_list (k := k) (t := t) L 0 w C.toList (by simpa using h) (by simp [hl])
  have hd : C.toList.drop L.length = [] := List.drop_eq_nil_of_le (by simp [hl])
  simpa [hd] using this
theorem blk_there {k t n : Nat} {C : Array Value} (h : w.heap[k]? = some (.cells C t (0, 0))) (hn : C.size = n) : w.there k 0 n := fun j hj => ⟨by rw [blk_cell h, Nat.zero_add]; simp [show j < C.size by omega], frozen_of_row w _ _ _ _ h⟩
theorem blk_range {k t : Nat} {L : List Value} (h : w.heap[k]? = some (.cells L.toArray t (0, 0))) : w.rangeAt k 0 L := fun j v hv => by
  rw [Nat.zero_add, blk_cell h, List.getElem?_toArray]
  exact hv
theorem newvar (w : World) (t : TypeId) (Z : Array Value) (L : List Value) (h : Z.size = L.length) : Below w.heap.size w ((w.alloc (.cells Z t)).setCells w.heap.size 0 L) ∧ ((w.alloc (.cells Z t)).setCells w.heap.size 0 L).heap[w.heap.size]? = some (.cells L.toArray t (0, 0)) :=
  ⟨bsets (Nat.le_refl _) _ _ (balloc (Below.refl _ _)), sets_whole (heap_alloc_new w _) h⟩
theorem new_there (w : World) (t : TypeId) (Z : Array Value) {n : Nat} (h : Z.size = n) : (w.alloc (.cells Z t)).there w.heap.size 0 n := blk_there (heap_alloc_new w _) h
theorem ksets {P : Nat → Prop} {k : Nat} (hp : P k) : ∀ (vs : List Value) (o : Nat) (w : World), Kept w (w.setCells k o vs) P
  | [], _, w => Kept.refl _ _
  | v :: vs, o, w => (kset w k o v hp).trans (ksets hp vs (o + 1) _)
theorem below_range {b o : Nat} {cs : List Value} (hb : Below w.heap.size w w') (hc : w.rangeAt b o cs) : w'.rangeAt b o cs := fun j v hv => below_at hb (hc j v hv)
theorem kept_range {P : Nat → Prop} {i o : Nat} {cs : List Value} (k : Kept w w' P) (hc : w.rangeAt i o cs) (hp : ¬ P i) : w'.rangeAt i o cs := fun j v hv => kept_cell k hp (hc j v hv)
theorem ty_ne {a b t t' : Nat} {C C' : Array Value} (h : w.heap[a]? = some (.cells C t (0, 0))) (h' : w.heap[b]? = some (.cells C' t' (0, 0))) (ht : t ≠ t') : a ≠ b := by
  intro e
  subst e
  rw [h] at h'
  simp only [Option.some.injEq, Obj.cells.injEq] at h'
  exact ht h'.2.1
theorem own_type {base : Nat} {v : Value} {bs : List Int} {g : Nat} (h : Own w base v bs) (hg : v.ownBlock = some g) : ∃ cur, w.heap[g]? = some (.cells cur 5 (0, 0)) := by
  rcases h.2 with ⟨h1, h2⟩ | ⟨g', cap, cur, hv, hB, hh, _⟩
  · rw [h1] at hg; cases hg
  · rw [hv] at hg
    simp only [Value.ownBlock, Option.some.injEq] at hg
    exact ⟨cur, hg ▸ hh⟩
theorem _root_.Go.Proofs.Ytmkopbbbonggdaa.Fg.Own.lower {base b2 : Nat} {v : Value} {bs : List Int} (h : Own w base v bs) (hb : b2 ≤ base) : Own w b2 v bs := own_lower h hb
theorem _root_.Go.Proofs.Ytmkopbbbonggdaa.Fg.Own.lo {base : Nat} {v : Value} {bs : List Int} (h : Own w base v bs) {g : Nat} (hg : v.ownBlock = some g) : base ≤ g ∧ g < w.heap.size := World.ownsRow.lt h g hg
theorem own_emptyB (w : World) (h : B ≤ w.heap.size) : Own (w.alloc (.cells #[] 5)) B (.slice (some ⟨w.heap.size, 0, none⟩) 0 0) [] :=
  ⟨rfl, .inr ⟨w.heap.size, 0, _, rfl, h, heap_alloc_new w _, Nat.le_refl _, by unfold maxLen; omega, rfl, rfl⟩⟩
theorem own_oneB (w : World) (x : Int) (h : B ≤ w.heap.size) : Own (w.alloc (.cells #[.int .u8 x] 5)) B (.slice (some ⟨w.heap.size, 0, none⟩) 1 1) [x] :=
  ⟨rfl, .inr ⟨w.heap.size, 1, _, rfl, h, heap_alloc_new w _, Nat.le_refl _, by unfold maxLen; omega, rfl, rfl⟩⟩
theorem wp_app_b {o : Oper} {a : Act} {K : Act → World → Prop} {Q : Exit → Act → World → Prop} (s x : Operand)
    (ho : o.op = .call { callee := .builtin .append, args := #[s, x], argTypes := #[22, 22] })
    (base : Nat) (v : Value) (xs bs : List Int) (hs : a.eval s = v) (hown : Own w base v xs)
    (ao : Option Addr) (m c : Nat) (hx : a.eval x = .slice ao m c) (hr : Rd w ao m c bs)
    (hbytes : xs.length + m ≤ 140737488355328) (hbase : base ≤ w.heap.size)
    (h : ∀ v' w', Hid (Own w' base v' (xs ++ bs)) → Hid (w.grownBy w' v.ownBlock) → Hid (v'.ownBlock = v.ownBlock ∨ v'.ownBlock = some w.heap.size) → K (a.put o.dst v') w') : o.wp Try.prog a w K Q := by
  obtain ⟨si, shi, shz0, shz1, shz2⟩ := byte_info
  have hl := hr.len
  cases ao with
  | some ad =>
    obtain ⟨v', w', hrun, h2, h3, h4, h5⟩ := run_append_own_at (P := Try.prog) w base 22 o.type 5 si (.int .u8 0) 1 1 Try.underlying22 shi shz0 shz1 shz2 rfl (by decide) v xs.length (byts xs) hown ad m c (byts bs) (by rw [byts_len]; omega) (hr.news ad rfl) (byts_one bs) (by unfold maxLen; omega) (by omega) hbase
    unfold Oper.wp
    simp [execOp, ho, resolve, invoke, builtin, hs, hx, hrun, Result.andThen]
    exact h v' w' (by show Own _ _ _ _; unfold Own; rw [byts_app, List.length_append, hl]; exact h2) h3 h5
  | none =>
    obtain rfl := hr.nil rfl
    obtain rfl : m = 0 := by have := hr.cap; omega
    obtain rfl := hr.nil'
    have hrun := run_append_owned_none (P := Try.prog) (w := w) base 22 o.type 5 si 1 Try.underlying22 shi v xs.length (byts xs) hown
    unfold Oper.wp
    simp [execOp, ho, resolve, invoke, builtin, hs, hx, hrun, Result.andThen]
    exact h v w (by show Own _ _ _ _; simpa using hown) (World.grownBy.refl _ _) (.inl rfl)
theorem wl_app_b {ops : Array Oper} {rest : List Oper} {o : Oper} {a : Act} {Q : Exit → Act → World → Prop} (hgd : o.guard = none) (s x : Operand)
    (ho : o.op = .call { callee := .builtin .append, args := #[s, x], argTypes := #[22, 22] })
    (base : Nat) (v : Value) (xs bs : List Int) (hs : a.eval s = v) (hown : Own w base v xs)
    (ao : Option Addr) (m c : Nat) (hx : a.eval x = .slice ao m c) (hr : Rd w ao m c bs)
    (hbytes : xs.length + m ≤ 140737488355328) (hbase : base ≤ w.heap.size)
    (h : ∀ v' w', Hid (Own w' base v' (xs ++ bs)) → Hid (w.grownBy w' v.ownBlock) → Hid (v'.ownBlock = v.ownBlock ∨ v'.ownBlock = some w.heap.size) → wpList Try.prog ops Q rest (a.put o.dst v') w') : wpList Try.prog ops Q (o :: rest) a w :=
  wpList_plain hgd fun _ hK => wp_app_b s x ho base v xs bs hs hown ao m c hx hr hbytes hbase fun v' w' h1 h2 h3 => hK _ _ (h v' w' h1 h2 h3)
theorem eq_nil_ (d : Nat) (ao : Option Addr) (k c : Nat) : (Op.equalIn (d + 1) 22 (.slice ao k c) (.slice none 0 0)).run Try.prog w = .ok ao.isNone w := by
  cases ao <;> simp [Op.equalIn, run_underlying Try.underlying22]
theorem eq_nil (ao : Option Addr) (k c : Nat) : (binOp .eql 22 (.slice ao k c) (.slice none 0 0)).run Try.prog w = .ok (.bool ao.isNone) w := by
  have h : (Op.equal 22 (.slice ao k c) (.slice none 0 0)).run Try.prog w = .ok ao.isNone w := eq_nil_ 9999 ao k c
  simp only [binOp]
  simp [h]
set_option maxHeartbeats 1000000 in
theorem clone_any {ao : Option Addr} {n c : Nat} {bs : List Int} (hr : Rd w ao n c bs) (hlen : n ≤ 140737488355264) : Calls Try.prog 13 #[.slice ao n c] w fun e w' => ∃ v, e = .returned v ∧ Own w' w.heap.size v bs ∧ Below w.heap.size w w' := by
  cases ao with
  | none =>
    obtain rfl := hr.nil rfl
    obtain rfl : n = 0 := by have := hr.cap; omega
    obtain rfl := hr.nil'
    clear hr
    have hE := fun (w' : World) => eq_nil (w := w') none 0 0
    go_enter Try.func13, Try.ntmps13
    go_wp2
    go_ret
    exact ⟨_, rfl, own_zero _ _, Below.refl _ _⟩
  | some ad =>
    have Hr : Hid (Rd w (some ad) n c bs) := hr
    have hlb := hr.len
    have hE := fun (w' : World) => eq_nil (w := w') (some ad) n c
    clear hr
    go_enter Try.func13, Try.ntmps13
    go_wp2_with (first
      | (at_builtin; refine wl_app_b rfl _ _ rfl w.heap.size _ [] bs rfl (own_emptyB _ (Nat.le_refl _)) _ _ _ rfl (Hr.out.still (balloc (Below.refl _ _))) (by simp; omega) (by simp) ?_; intro v2 w2 HO HG HA)
      | fail)
    go_ret
    refine ⟨_, rfl, by simpa using HO.out, ?_⟩
    exact (balloc (Below.refl _ _)).grown HG.out (by simp) (fun q hq => by have : w.heap.size = q := Option.some.inj hq; omega)
theorem isFile_any (f : Int) : Calls Try.prog 14 #[.int .i64 f] w fun e w' => e = .returned (.bool (isF f)) ∧ w = w' := by
  by_cases h0 : f = 0
  · subst h0
    go_enter Try.func14, Try.ntmps14
    go_wp2
    go_ret
    exact ⟨rfl, rfl⟩
  · have h1 : (f == 0) = false := by rw [beq_eq_false_iff_ne]; exact h0
    go_enter Try.func14, Try.ntmps14
    go_wp2
    go_ret
    refine ⟨?_, rfl⟩
    unfold isF
    simp [h0]
    by_cases h2 : f = 1 <;> simp [h2]
end
end Go.Proofs.Ytmkopbbbonggdaa.Jn
