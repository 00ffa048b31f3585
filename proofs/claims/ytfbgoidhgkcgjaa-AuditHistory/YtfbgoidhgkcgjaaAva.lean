import Derived.Test.YtfbgoidhgkcgjaaLka
import Derived.Maps.AppendAt
import Derived.Laws.AppendOwnNone
import Derived.Laws.Rows
import Derived.Laws.Tables
import Derived.Great.Walk
import Derived.Maps.OwnSet
import Derived.Maps.OwnOps
namespace Go.Proofs.Ytfbgoidhgkcgjaa.Lo
open Go.RowKit Go.Maps
set_option linter.unusedVariables false
set_option linter.unusedSimpArgs false
section
variable {w w' W : World} {B : Nat} {P : Nat → Prop}
def Ri (w : World) (ao : Option Addr) (n cap : Nat) (xs : List Int) : Prop :=
  xs.length = n ∧ (ao = none → n = 0 ∧ cap = 0) ∧ (n = 0 ∨ ∃ b off, ao = some ⟨b, off, none⟩ ∧ ∀ i, i < n → w.cell? ⟨b, off + i, none⟩ = some (.int .i64 (xs.getD i 0)))
theorem Ri.below {w w1 : World} {ao : Option Addr} {n cap : Nat} {xs : List Int} (h : Ri w ao n cap xs) (hb : Below w.heap.size w w1) : Ri w1 ao n cap xs := by
  refine ⟨h.1, h.2.1, ?_⟩
  rcases h.2.2 with h | ⟨b, off, rfl, hc⟩
  · exact .inl h
  · exact .inr ⟨b, off, rfl, fun i hi => (hb.cell (World.block_lt_of_cell? w _ (hc i hi))).trans (hc i hi)⟩
theorem info_int : (Try.prog.info? 3).map (fun i => (i.zero, i.size, i.bytes)) = some (some (.int .i64 0), 1, 8) := by kernel_rfl
theorem heap_new (w : World) (cs : Array Value) (t : TypeId) : (w.alloc (.cells cs t)).heap[w.heap.size]? = some (.cells cs t (0, 0)) := heap_alloc_new w _
theorem blk_cell {W : World} {cs : Array Value} {t : TypeId} {kb : Nat} (h : W.heap[kb]? = some (.cells cs t (0, 0))) (i : Nat) : W.cell? ⟨kb, i, none⟩ = cs[i]? := cell_of_row W kb i cs t (0, 0) h
theorem bsp (w : World) (cs : Array Value) (t : TypeId) : Below w.heap.size w (w.alloc (.cells cs t)) := (Below.refl _ _).alloc (Nat.le_refl _) _
theorem blk_on {a b : World} {k : Nat} {o : Obj} (hb : Below a.heap.size a b) (h : a.heap[k]? = some o) : b.heap[k]? = some o := (hb.block k (Array.getElem?_eq_some_iff.1 h).1).trans h
theorem bst {w a b : World} (h : Below w.heap.size w a) (k : Below a.heap.size a b) : Below w.heap.size w b := h.trans (k.mono h.size)
theorem drew_bel (w : World) : Below w.heap.size w w.drew := (Below.refl _ _).drew
theorem below_at {w w' : World} {k i : Nat} {v : Value} (hb : Below w.heap.size w w') (hc : w.cell? ⟨k, i, none⟩ = some v) : w'.cell? ⟨k, i, none⟩ = some v := (hb.cell (World.block_lt_of_cell? w _ hc)).trans hc
theorem bstep {w0 w w' : World} (h : Below w0.heap.size w0 w) (hb : Below w.heap.size w w') : Below w0.heap.size w0 w' := h.trans (hb.mono h.size)
theorem cell_ne {w : World} {k i k' i' : Nat} {v x : Value} (h : k ≠ k') (hc : w.cell? ⟨k, i, none⟩ = some v) : (w.setCell ⟨k', i', none⟩ x).cell? ⟨k, i, none⟩ = some v := by
  unfold World.cell? at *
  rw [Below.heap_setCell w ⟨k', i', none⟩ x k h]
  exact hc
theorem takeD {P : Program} {md : Region.Mode} {ops : Array Oper} {Q : Exit → Act → World → Prop} {S : World → Prop} {i d : Nat} {oi : Oper} {v : Value} {fuel : Nat} {listed : Array Bool} {a : Act} {w : World} (hi : ops[i]? = some oi) (hd : oi.dst = some d)
    (hs : Region.noSelect ops = true) (hf : Region.free md ops listed i = true) (hr : (Region.ready md ops listed).contains i = true)
    (hQ : ∀ c a w, Q (.panic c) (a.put oi.dst v) w → Q (.panic c) a w) (hy : YieldsIf P ops S oi v a) (hS : S w)
    (h : wpAnyH P md ops Q S fuel (listed.setIfInBounds i true) (a.put (some d) v) w) : wpAnyH P md ops Q S (fuel + 1) listed a w :=
  wpAnyH_take hi hs hf hr hQ hy hS (by rw [hd]; exact h)
theorem run_allocZ {t : TypeId} {Z : Array Value} (hz : (Try.prog.info? t).map (·.zero) = some (some (.agg Z))) : (Instr.alloc t true (.tuple #[])).run Try.prog w = .ok (.pointer (some ⟨w.heap.size, 0, none⟩)) (w.alloc (.cells Z t)) := by
  cases hi : Try.prog.info? t with
  | none => rw [hi] at hz; cases hz
  | some i =>
    rw [hi] at hz
    simp only [Option.map_some, Option.some.injEq] at hz
    simp [Instr.alloc, zeroValue, typeInfo, hi, hz, go_sem, newVar, newRow, Value.cells]
theorem wl_allocZ {ops : Array Oper} {rest : List Oper} {o : Oper} {a : Act} {Q : Exit → Act → World → Prop} {Z : Array Value} (hgd : o.guard = none) (t : TypeId) (ho : o.op = .alloc t) (hz : (Try.prog.info? t).map (·.zero) = some (some (.agg Z)))
    (h : ∀ W : World, W.heap[w.heap.size]? = some (.cells Z t (0, 0)) → Below w.heap.size w W → w.heap.size < W.heap.size → wpList Try.prog ops Q rest (a.put o.dst (.pointer (some ⟨w.heap.size, 0, none⟩))) W) : wpList Try.prog ops Q (o :: rest) a w :=
  wpList_plain hgd fun K hK => by
    unfold Oper.wp execOp
    simp only [ho, Sem.run_bind, run_allocZ hz, Result.andThen_ok, Sem.run_pure]
    exact hK _ _ (h _ (heap_alloc_new w _) ((Below.refl _ _).alloc (Nat.le_refl _) _) (by simp))
theorem wl_buildZ {ops : Array Oper} {rest : List Oper} {o : Oper} {a : Act} {Q : Exit → Act → World → Prop} {cs : Array Value} (hgd : o.guard = none) (t : TypeId) (parts : Array (Nat × Operand)) (ho : o.op = .build t parts) (hf : Try.prog.built t (parts.map fun (i, x) => (i, a.eval x)).toList = some cs)
    (h : wpList Try.prog ops Q rest (a.put o.dst (.agg cs)) w) : wpList Try.prog ops Q (o :: rest) a w :=
  wpList_build hgd t parts ho (by rw [hf]; rfl) (by rw [hf]; exact h)
theorem built_eq {t : TypeId} {l l' : List (Nat × Value)} {c : Array Value} (e : l = l') (h : Try.prog.built t l' = some c) : Try.prog.built t l = some c := e ▸ h
theorem wl_storeZ {ops : Array Oper} {rest : List Oper} {o : Oper} {a : Act} {Q : Exit → Act → World → Prop} (hgd : o.guard = none) (ty : TypeId) (x y : Operand) (ho : o.op = .store ty x y) {g : Nat} {L : List Value} {t : TypeId} {old : Array Value} (hx : a.eval x = .pointer (some ⟨g, 0, none⟩)) (hy : a.eval y = .agg L.toArray) (hg : w.heap[g]? = some (.cells old t (0, 0))) (hi : (Try.prog.info? ty).map (·.size) = some L.length) (hold : old.size = L.length) (h1 : ∀ u ∈ L, u.oneCell' = true)
    (h : ∀ W : World, W.heap[g]? = some (.cells L.toArray t (0, 0)) → Mb.Kept w W (fun j => j = g) → wpList Try.prog ops Q rest (a.put o.dst undef) W) : wpList Try.prog ops Q (o :: rest) a w :=
  Ln.wl_storeL hgd ty x y ho hx hy (Ln.blk_there hg hold) hi h1 (h _ (Ln.sets_whole hg hold) (Mb.ksets (P := fun j => j = g) rfl _ _ _))
theorem range_on {w w' : World} {b off : Nat} {cs : List Value} (h : w.rangeAt b off cs) (hb : Below w.heap.size w w') : w'.rangeAt b off cs := fun j v hv => by
  have h1 := h j v hv
  exact (hb.cell (World.block_lt_of_cell? w _ h1)).trans h1
theorem belowB_at {B : Nat} {w w' : World} {k i : Nat} {v : Value} (hb : Below B w w') (hk : k < B) (hc : w.cell? ⟨k, i, none⟩ = some v) : w'.cell? ⟨k, i, none⟩ = some v := (hb.cell (p := ⟨k, i, none⟩) hk).trans hc
theorem belowB_range {B : Nat} {w w' : World} {b off : Nat} {cs : List Value} (hb : Below B w w') (hk : b < B) (h : w.rangeAt b off cs) : w'.rangeAt b off cs := fun j v hv => belowB_at hb hk (h j v hv)
theorem run_loadop {o : Oper} {ρ : Operand → Value} {w : World} (ty : TypeId) (x : Operand) (ho : o.op = .load ty x) {b off : Nat} (hx : ρ x = .pointer (some ⟨b, off, none⟩)) {cs : List Value} {d : TypeDesc} (hc : w.rangeAt b off cs) (hu : Try.prog.underlying ty = some d) (hd : d.isRow = true) (hi : (Try.prog.info? ty).map (·.size) = some cs.length) : (execOp ρ o).run Try.prog w = .ok (.value (.agg cs.toArray)) w := by
  unfold execOp
  simp only [ho, hx, Instr.loadAt, Instr.sureAddr, Sem.run_bind, Sem.run_pure, Result.andThen_ok, run_loadVar_mid w b off ty cs d hc hu hd hi]
theorem app_g {ops : Array Oper} {rest : List Oper} {o : Oper} {a : Act} {Q : Exit → Act → World → Prop} (hgd : o.guard = none) (s x : Operand) (t : TypeId)
    (ho : o.op = .call { callee := .builtin .append, args := #[s, x], argTypes := #[t, t] })
    (base : Nat) (e : TypeId) (i : TypeInfo) (z : Value) (size bytes : Nat) (ht : Try.prog.underlying t = some (.slice e)) (hi : Try.prog.info? e = some i) (hz : i.zero = some z)
    (hsize : i.size = size) (hby : i.bytes = bytes) (hzs : z.cells.size = size) (hsz : 0 < size)
    (v : Value) (n : Nat) (xs : List Value) (hs : a.eval s = v) (hown : w.ownsRow base e size v n xs)
    (ao : Option Addr) (m c : Nat) (news : List Value) (hx : a.eval x = .slice ao m c) (hnone : ao = none → m = 0 ∧ c = 0) (hl : news.length = m * size) (hnews : ∀ ad, ao = some ad → ∀ j u, news[j]? = some u → w.cell? (ad.add j) = some u) (h1 : ∀ u ∈ news, u.oneCell' = true)
    (h63 : n + m ≤ maxLen) (hbytes : (n + m) * bytes ≤ 140737488355328) (hbase : base ≤ w.heap.size)
    (h : ∀ v' w', Hid (w'.ownsRow base e size v' (n + m) (xs ++ news)) → Hid (Mb.Kept w w' (fun k => v.ownBlock = some k)) → Hid (v'.ownBlock = v.ownBlock ∨ v'.ownBlock = some w.heap.size) → wpList Try.prog ops Q rest (a.put o.dst v') w') :
    wpList Try.prog ops Q (o :: rest) a w := by
  cases ao with
  | some ad =>
    refine wpList_append_own_at w hgd s x t ho base e i z size bytes ht hi hz hsize hby hzs hsz v n xs hs hown ad m c news hx hl (hnews ad rfl) h1 h63 hbytes hbase ?_
    intro v' w' h2 h3 _ h5
    exact h v' w' h2 ((Mb.Kept.ofGrown h3).mono fun k _ hk => hk.symm) h5
  | none =>
    obtain ⟨rfl, rfl⟩ := hnone rfl
    obtain rfl : news = [] := List.eq_nil_of_length_eq_zero (by rw [hl]; omega)
    exact wpList_append_own_none hgd s x t ho base e i size ht hi v n xs hs hown hx (h v w (by show World.ownsRow _ _ _ _ _ _ _; simpa using hown) (Mb.Kept.refl _ _) (.inl rfl))
theorem info_parts {t : TypeId} {z : Value} {s b : Nat} (h : (Try.prog.info? t).map (fun i => (i.zero, i.size, i.bytes)) = some (some z, s, b)) : ∃ i, Try.prog.info? t = some i ∧ i.zero = some z ∧ i.size = s ∧ i.bytes = b := by
  cases hq : Try.prog.info? t with
  | none => rw [hq] at h; cases h
  | some i => rw [hq] at h; simp at h; exact ⟨i, rfl, h.1, h.2.1, h.2.2⟩
theorem info_u8 : (Try.prog.info? 5).map (fun i => (i.zero, i.size, i.bytes)) = some (some (.int .u8 0), 1, 1) := by kernel_rfl
def OwI (w : World) (B : Nat) (v : Value) (xs : List Int) : Prop := w.ownsRow B 3 1 v xs.length (Mb.ints xs)
def OwB (w : World) (B : Nat) (v : Value) (bs : List Int) : Prop := w.ownsRow B 5 1 v bs.length (Ln.byts bs)
theorem ow_nil (w : World) (B t s : Nat) : w.ownsRow B t s (.slice none 0 0) 0 [] := ⟨by simp, .inl ⟨rfl, rfl⟩⟩
theorem ri_news {ao : Option Addr} {n c : Nat} {xs : List Int} (h : Ri w ao n c xs) : ∀ ad, ao = some ad → ∀ j u, (Mb.ints xs)[j]? = some u → w.cell? (ad.add j) = some u := fun ad he j u hu => by
  have hj : j < xs.length := by have := (List.getElem?_eq_some_iff.1 hu).1; rwa [Mb.ints_len] at this
  rcases h.2.2 with h0 | ⟨b, off, e, hc⟩
  · have := h.1; omega
  · rw [e] at he
    cases he
    rw [Addr.add_mid, hc j (by have := h.1; omega), ← Mb.ints_at xs j hj, hu]
theorem app_I {ops : Array Oper} {rest : List Oper} {o : Oper} {a : Act} {Q : Exit → Act → World → Prop} (hgd : o.guard = none) (s x : Operand)
    (ho : o.op = .call { callee := .builtin .append, args := #[s, x], argTypes := #[23, 23] }) {B : Nat} {v : Value} {xs : List Int} (hs : a.eval s = v) (hown : OwI w B v xs)
    {ao : Option Addr} {m c : Nat} {ys : List Int} (hx : a.eval x = .slice ao m c) (hr : Ri w ao m c ys) (hn : (xs.length + m) * 8 ≤ 140737488355328) (hbase : B ≤ w.heap.size)
    (h : ∀ v' w', Hid (OwI w' B v' (xs ++ ys)) → Hid (Mb.Kept w w' (fun k => v.ownBlock = some k)) → Hid (v'.ownBlock = v.ownBlock ∨ v'.ownBlock = some w.heap.size) → wpList Try.prog ops Q rest (a.put o.dst v') w') : wpList Try.prog ops Q (o :: rest) a w := by
  obtain ⟨i0, hi, hz0, hz1, hz2⟩ := info_parts info_int
  refine app_g hgd s x 23 ho B 3 i0 (.int .i64 0) 1 8 Try.underlying23 hi hz0 hz1 hz2 rfl (by omega) v xs.length (Mb.ints xs) hs hown ao m c (Mb.ints ys) hx hr.2.1 (by rw [Mb.ints_len, hr.1]; omega) (ri_news hr) (Mb.ints_one ys) (by unfold maxLen; omega) hn hbase ?_
  intro v' w' h1 h2 h3
  refine h v' w' ?_ h2 h3
  show World.ownsRow _ _ _ _ _ _ _
  have := h1.out
  rw [List.length_append, hr.1]
  simpa [Mb.ints] using this
theorem app_B {ops : Array Oper} {rest : List Oper} {o : Oper} {a : Act} {Q : Exit → Act → World → Prop} (hgd : o.guard = none) (s x : Operand)
    (ho : o.op = .call { callee := .builtin .append, args := #[s, x], argTypes := #[45, 45] }) {B : Nat} {v : Value} {xs : List Int} (hs : a.eval s = v) (hown : OwB w B v xs)
    {ao : Option Addr} {m c : Nat} {ys : List Int} (hx : a.eval x = .slice ao m c) (hr : Ln.Rd w ao m c ys) (hnone : ao = none → m = 0 ∧ c = 0) (hn : xs.length + m ≤ 140737488355328) (hbase : B ≤ w.heap.size)
    (h : ∀ v' w', Hid (OwB w' B v' (xs ++ ys)) → Hid (Mb.Kept w w' (fun k => v.ownBlock = some k)) → Hid (v'.ownBlock = v.ownBlock ∨ v'.ownBlock = some w.heap.size) → wpList Try.prog ops Q rest (a.put o.dst v') w') : wpList Try.prog ops Q (o :: rest) a w := by
  obtain ⟨i0, hi, hz0, hz1, hz2⟩ := info_parts info_u8
  refine app_g hgd s x 45 ho B 5 i0 (.int .u8 0) 1 1 Try.underlying45 hi hz0 hz1 hz2 rfl (by omega) v xs.length (Ln.byts xs) hs hown ao m c (Ln.byts ys) hx hnone (by rw [Ln.byts_len, hr.len]; omega) hr.news (Ln.byts_one ys) (by unfold maxLen; omega) (by omega) hbase ?_
  intro v' w' h1 h2 h3
  refine h v' w' ?_ h2 h3
  show World.ownsRow _ _ _ _ _ _ _
  have := h1.out
  rw [List.length_append, hr.len]
  simpa [Ln.byts] using this
theorem ow_shape {t s n : Nat} {v : Value} {l : List Value} (h : w.ownsRow B t s v n l) : ∃ a c, v = .slice a n c := by
  rcases h.2 with ⟨rfl, rfl⟩ | ⟨g, cap, cur, rfl, _⟩
  · exact ⟨none, 0, rfl⟩
  · exact ⟨_, _, rfl⟩
theorem ow_type {t s n g : Nat} {v : Value} {l : List Value} (h : w.ownsRow B t s v n l) (hg : v.ownBlock = some g) {C : Array Value} {t' : Nat} (hk : w.heap[g]? = some (.cells C t' (0, 0))) : t' = t := by
  obtain ⟨C', h'⟩ := Ln.own_ty h hg
  rw [h'] at hk
  simp at hk
  exact hk.2.symm
theorem OwI.ri {a : Option Addr} {n c : Nat} {xs : List Int} (h : OwI w B (.slice a n c) xs) : Ri w a n c xs := by
  obtain ⟨h1, h2⟩ := h
  rcases h2 with ⟨e, e0⟩ | ⟨g, cap, cur, e, _, hh, hc, _, hs, ht⟩
  · cases e
    exact ⟨e0, fun _ => ⟨rfl, rfl⟩, .inl rfl⟩
  · cases e
    refine ⟨rfl, fun h => (by cases h), ?_⟩
    by_cases e0 : xs.length = 0
    · exact .inl e0
    · refine .inr ⟨g, 0, rfl, fun i hi => ?_⟩
      rw [blk_cell hh, Nat.zero_add]
      have := Mb.ints_at xs i hi
      rw [← ht] at this
      rw [List.getElem?_take] at this
      rw [if_pos (by omega)] at this
      simpa using this
theorem OwI.len {a : Option Addr} {n c : Nat} {xs : List Int} (h : OwI w B (.slice a n c) xs) : xs.length = n := h.ri.1
theorem OwB.rd {a : Option Addr} {n c : Nat} {bs : List Int} (h : OwB w B (.slice a n c) bs) (hb : Ln.By bs) : Ln.Rd w a n c bs := Ln.Own.rd (by
  obtain ⟨h1, h2⟩ := h
  exact ⟨h1, h2⟩) hb
theorem OwB.none {a : Option Addr} {n c : Nat} {bs : List Int} (h : OwB w B (.slice a n c) bs) : a = none → n = 0 ∧ c = 0 := by
  intro e
  subst e
  rcases h.2 with ⟨e, e0⟩ | ⟨g, cap, cur, e, _⟩
  · cases e; exact ⟨rfl, rfl⟩
  · cases e
theorem kb {a b : World} (h : Mb.Kept a b (fun k => (Value.slice none 0 0).ownBlock = some k)) : Below a.heap.size a b := h.below (Nat.le_refl _) (fun k _ e => by simp [Value.ownBlock] at e)
theorem kn {a b : World} {g : Nat} (h : Mb.Kept a b (fun k => k = g)) {x : Nat} (hx : x ≤ g) (hxa : x ≤ a.heap.size) : Below x a b := h.below hxa (fun k hk e => by have e' : k = g := e; omega)
theorem ow_ne {w w' : World} {B t s n g t' : Nat} {v : Value} {l : List Value} {C : Array Value} (h : w.ownsRow B t s v n l) (hk : w.heap[g]? = some (.cells C t' (0, 0))) (ht : t' ≠ t) (k : Mb.Kept w w' (fun j => j = g)) : w'.ownsRow B t s v n l :=
  k.owns h (fun q hq e => by
    have e' : q = g := e
    subst e'
    exact ht (ow_type h hq hk))
theorem ow_app {w w' : World} {B t s n n' s' t' : Nat} {v v' : Value} {l l' : List Value} (h : w.ownsRow B t s v n l) (hk : w.ownsRow B t' s' v' n' l') (ht : t' ≠ t) (k : Mb.Kept w w' (fun j => v'.ownBlock = some j)) : w'.ownsRow B t s v n l :=
  k.owns h (fun q hq e => by
    obtain ⟨C, hC⟩ := Ln.own_ty hk e
    exact ht (ow_type h hq hC))
theorem blk_app {w w' : World} {B n' s' t' g t : Nat} {v' : Value} {l' : List Value} {C : Array Value} (h : w.heap[g]? = some (.cells C t (0, 0))) (hk : w.ownsRow B t' s' v' n' l') (ht : t ≠ t') (k : Mb.Kept w w' (fun j => v'.ownBlock = some j)) : w'.heap[g]? = some (.cells C t (0, 0)) :=
  k.obj h (fun e => ht (ow_type hk e h))
theorem bsl_eq {t : TypeId} {n : Nat} {l l' : List (Nat × Value)} {c : Array Value} (e : l = l') (h : Try.prog.builtSlice t n l' = some c) : Try.prog.builtSlice t n l = some c := e ▸ h
theorem bel_dN (B : Nat) (w : World) (n : Nat) : Below B w (w.drewN n) := ⟨rfl, rfl, rfl, Nat.le_refl _, fun _ _ => rfl⟩
theorem conv_of {w : World} {ao : Option Addr} {n c : Nat} {bs : List Int} (hr : Ln.Rd w ao n c bs) : (convert 45 9 (.slice ao n c)).run Try.prog w = .ok (.string (strOfNums bs)) w := by
  by_cases hk : n = 0
  · subst hk
    obtain rfl := hr.nil'
    cases ao with
    | none =>
      rw [run_convert_bytes_nil (P := Try.prog) w 45 5 Try.underlying45 Try.underlying5 0 c 9 Try.underlying9]
      rfl
    | some x =>
      rw [run_convert_bytes_string w 45 9 5 _ 0 c Try.underlying45 Try.underlying5 Try.underlying9]
      have hl : (loadCells x 0).run Try.prog w = .ok (([] : List Int).map (Value.int .u8)).toArray w := by
        have := run_loadCells_list (P := Try.prog) w x [] (fun j v hj => by simp at hj)
        simpa using this
      rw [run_bytesToString w x 0 c [] hl]
      rfl
  · rcases hr.at_ with h0 | ⟨b, off, rfl, hc⟩
    · omega
    · exact run_convert_bytes_arg (P := Try.prog) w 45 5 Try.underlying45 Try.underlying5 b off n c bs hr.len hc 9 Try.underlying9
structure Cm where
  c0 : Int
  c1 : Int
  c2 : Int
  c3 : Int
  ky : ByteArray
  vl : ByteArray
  od : ByteArray
structure Mk where
  a : Int
  k : Int
  nd : Int
  ic : Int
  i0 : Int
  i1 : Int
  i2 : Int
  i3 : Int
  ma : Option Addr
  mn : Nat
  mc : Nat
  ms : List Int
  ta : Option Addr
  tn : Nat
  tc : Nat
  ts : List Int
  sr : Int
  sq : Int
  ps : Int
  n : Int
  ba : Option Addr
  bn : Nat
  bc : Nat
  bs : List Int
  cm : Cm
  rc : Int
  rv : ByteArray
  rn : Int
  er : Int
def Cm.cs (c : Cm) : List Value := [.int .i64 c.c0, .int .i64 c.c1, .int .i64 c.c2, .int .i64 c.c3, .string c.ky, .string c.vl, .string c.od]
def Mk.cs (e : Mk) : List Value := [.int .i64 e.a, .int .i64 e.k, .int .i64 e.nd, .int .i64 e.ic, .int .i64 e.i0, .int .i64 e.i1, .int .i64 e.i2, .int .i64 e.i3, .slice e.ma e.mn e.mc, .slice e.ta e.tn e.tc, .int .i64 e.sr, .int .i64 e.sq, .int .i64 e.ps, .int .i64 e.n, .slice e.ba e.bn e.bc, .int .i64 e.cm.c0, .int .i64 e.cm.c1, .int .i64 e.cm.c2, .int .i64 e.cm.c3, .string e.cm.ky, .string e.cm.vl, .string e.cm.od, .int .i64 e.rc, .string e.rv, .int .i64 e.rn, .int .i64 e.er]
def Mk.en (e : Mk) : List Value := [.int .i64 e.cm.c0, .int .i64 e.cm.c1, .int .i64 e.cm.c2, .int .i64 e.cm.c3, .string e.cm.ky, .string e.cm.vl, .string e.cm.od, .int .i64 e.rc, .string e.rv, .int .i64 e.rn]
def sE : ByteArray := ⟨#[]⟩
def cm0 : Cm := ⟨0, 0, 0, 0, ⟨#[]⟩, ⟨#[]⟩, ⟨#[]⟩⟩
def mk0 : Mk := ⟨0, 0, 0, 0, 0, 0, 0, 0, none, 0, 0, [], none, 0, 0, [], 0, 0, 0, 0, none, 0, 0, [], cm0, 0, ⟨#[]⟩, 0, 0⟩
theorem Mk.len (e : Mk) : e.cs.length = 26 := rfl
theorem Cm.len (c : Cm) : c.cs.length = 7 := rfl
theorem Mk.one (e : Mk) : ∀ u ∈ e.cs, u.oneCell' = true := by
  intro u hu
  simp only [Mk.cs, List.mem_cons, List.not_mem_nil, or_false] at hu
  rcases hu with rfl | rfl | rfl | rfl | rfl | rfl | rfl | rfl | rfl | rfl | rfl | rfl | rfl | rfl | rfl | rfl | rfl | rfl | rfl | rfl | rfl | rfl | rfl | rfl | rfl | rfl <;> rfl
theorem Cm.one (c : Cm) : ∀ u ∈ c.cs, u.oneCell' = true := by
  intro u hu
  simp only [Cm.cs, List.mem_cons, List.not_mem_nil, or_false] at hu
  rcases hu with rfl | rfl | rfl | rfl | rfl | rfl | rfl <;> rfl
theorem Mk.one' (e : Mk) : ∀ u ∈ e.en, u.oneCell' = true := by
  intro u hu
  simp only [Mk.en, List.mem_cons, List.not_mem_nil, or_false] at hu
  rcases hu with rfl | rfl | rfl | rfl | rfl | rfl | rfl | rfl | rfl | rfl <;> rfl
theorem zMk : (Try.prog.info? 50).map (·.zero) = some (some (.agg mk0.cs.toArray)) := by kernel_rfl
theorem zEn : (Try.prog.info? 59).map (·.zero) = some (some (.agg mk0.en.toArray)) := by kernel_rfl
theorem zCm : (Try.prog.info? 38).map (·.zero) = some (some (.agg cm0.cs.toArray)) := by kernel_rfl
theorem zHi : (Try.prog.info? 55).map (·.zero) = some (some (.agg #[.map none, .int .i64 0])) := by kernel_rfl
theorem iMk (e : Mk) : (Try.prog.info? 50).map (·.size) = some e.cs.length := by kernel_rfl
theorem iEn (e : Mk) : (Try.prog.info? 59).map (·.size) = some e.en.length := by kernel_rfl
theorem iCm (c : Cm) : (Try.prog.info? 38).map (·.size) = some c.cs.length := by kernel_rfl
theorem info_mk : (Try.prog.info? 50).map (fun i => (i.zero, i.size, i.bytes)) = some (some (.agg mk0.cs.toArray), 26, 288) := by kernel_rfl
theorem info_cm : (Try.prog.info? 38).map (fun i => (i.zero, i.size, i.bytes)) = some (some (.agg cm0.cs.toArray), 7, 80) := by kernel_rfl
theorem info_mb : (Try.prog.info? 52).map (fun i => (i.zero, i.size, i.bytes)) = some (some (.agg #[.int .i64 0, .int .i64 0, .int .i64 0]), 3, 24) := by kernel_rfl
structure MkR (w : World) (la : Option Addr) (n : Nat) (l : List Mk) : Prop where
  len : l.length = n
  row : n = 0 ∨ ∃ b off, la = some ⟨b, off, none⟩ ∧ ∀ i, i < n → w.rangeAt b (off + i * 26) (l.getD i mk0).cs
theorem MkR.on {la : Option Addr} {n : Nat} {l : List Mk} (h : MkR w la n l) (hb : Below w.heap.size w w') : MkR w' la n l :=
  ⟨h.len, h.row.elim .inl (fun ⟨b, off, e, hc⟩ => .inr ⟨b, off, e, fun i hi => range_on (hc i hi) hb⟩)⟩
def i64B (x : Int) : Prop := -9223372036854775808 ≤ x ∧ x ≤ 9223372036854775807
structure Okm (e : Mk) : Prop where
  n : i64B e.n
  k : e.cm.ky.size ≤ 281474976710656
  v : e.cm.vl.size ≤ 281474976710656
  o : e.cm.od.size ≤ 281474976710656
def fnd (l : List Mk) (x : Int) : Option Mk := l.find? (fun m => m.k == 12 && m.n == x)
def pres (l : List Mk) (k : Nat) : Prop := ∀ i, i < k → (fnd l ((i : Int) + 1)).isSome = true
def hsl (l : List Mk) (k : Nat) : List Cm := (List.range k).map (fun (i : Nat) => ((fnd l ((i : Int) + 1)).getD mk0).cm)
theorem hsl_len (l : List Mk) (k : Nat) : (hsl l k).length = k := by simp [hsl]
theorem hsl_succ (l : List Mk) (k : Nat) : hsl l (k + 1) = hsl l k ++ [((fnd l ((k : Int) + 1)).getD mk0).cm] := by simp [hsl, List.range_succ]
theorem pigeon : ∀ (k : Nat) (l : List Int), (∀ i, i < k → ((i : Int) + 1) ∈ l) → k ≤ l.length
  | 0, _, _ => Nat.zero_le _
  | k + 1, l, h => by
    have h1 : ((k : Int) + 1) ∈ l := h k (by omega)
    have h2 := pigeon k (l.erase ((k : Int) + 1)) (fun i hi => (List.mem_erase_of_ne (by omega)).2 (h i (by omega)))
    rw [List.length_erase_of_mem h1] at h2
    have := List.length_pos_of_mem h1
    omega
theorem pres_le {l : List Mk} {k : Nat} (h : pres l k) : k ≤ l.length := by
  have := pigeon k (l.map (·.n)) (fun i hi => by
    obtain ⟨m, hm⟩ := Option.isSome_iff_exists.1 (h i hi)
    have h1 := List.mem_of_find?_eq_some hm
    have h2 := List.find?_some hm
    simp only [Bool.and_eq_true, beq_iff_eq] at h2
    exact List.mem_map.2 ⟨m, h1, h2.2⟩)
  simpa using this
theorem fnd_mem {l : List Mk} {x : Int} {m : Mk} (h : fnd l x = some m) : m ∈ l := List.mem_of_find?_eq_some h
theorem pres_succ {l : List Mk} {k : Nat} (h : pres l k) (h1 : (fnd l ((k : Int) + 1)).isSome = true) : pres l (k + 1) := fun i hi => by
  by_cases e : i = k
  · subst e; exact h1
  · exact h i (by omega)
theorem hs_uniq {l : List Mk} {k j : Nat} (h1 : pres l k) (h2 : fnd l ((k : Int) + 1) = none) (h3 : pres l j) (h4 : fnd l ((j : Int) + 1) = none) : k = j := by
  rcases Nat.lt_trichotomy k j with h | h | h
  · have := h3 k h; rw [h2] at this; cases this
  · exact h
  · have := h1 j h; rw [h4] at this; cases this
def hEl (v : Value) : Option (DataW Value × List MemPlace) := some (.held v, [])
def MpE (w : World) (b m : Nat) (f : Int → Option Value) : Prop :=
  ∃ D : DataW Value, w.ownsMap Try.prog 3 hEl b m D ∧ ∀ x : Int, i64B x → has D (.int .i64 x) = (f x).isSome ∧ ∀ v, f x = some v → D.atKey (.int .i64 x) (.held (.agg mk0.en.toArray)) = .held v
def updV (f : Int → Option Value) (a : Int) (b : Value) : Int → Option Value := fun x => if x = a then some b else f x
theorem wf64 {x : Int} (h : i64B x) : (Lit.int .i64 x).wf = true := by
  unfold i64B at h
  simp [Lit.wf, IntKind.min, IntKind.max, IntKind.signed, IntKind.bits]
  omega
theorem key_int {x : Int} (h : i64B x) : keyOf Try.prog 3 (.int .i64 x) = some (.int .i64 x) := keyOf_int_mk Try.underlying3 (wf64 h)
theorem lawI : Keyed Try.prog 3 := int_keyed Try.underlying3
theorem zeroE (w : World) : (zeroValue 59).run Try.prog w = .ok (.agg mk0.en.toArray) w := by kernel_rfl
theorem MpE.made (w : World) : MpE (w.alloc (.map #[] 0)) w.heap.size 0 (fun _ => none) :=
  ⟨.map [], World.ownsMap_made w _ _ _, fun s _ => ⟨rfl, fun x h => by cases h⟩⟩
theorem kept_mp {a b : World} {H : Type} {Pr : Program} {k : TypeId} {R : Value → Option (DataW H × List MemPlace)} {m n : Nat} {D : DataW H} (h : Mb.Kept a b P) (ho : a.ownsMap Pr k R m n D) (hp : ¬ P m) : b.ownsMap Pr k R m n D := by
  obtain ⟨es, cl, hb, r⟩ := ho
  exact ⟨es, cl, h.obj hb hp, r⟩
theorem MpE.keep {b m : Nat} {f : Int → Option Value} (h : MpE w b m f) (k : Mb.Kept w w' P) (hp : ¬ P b) : MpE w' b m f := by
  obtain ⟨D, h1, h2⟩ := h
  exact ⟨D, kept_mp k h1 hp, h2⟩
theorem MpE.still {b m : Nat} {f : Int → Option Value} (h : MpE w b m f) (hb : Below w.heap.size w w') : MpE w' b m f := h.keep (Mb.Kept.ofBelow hb (fun _ => False)) id
theorem MpE.lt {b m : Nat} {f : Int → Option Value} (h : MpE w b m f) : b < w.heap.size := by obtain ⟨D, h1, _⟩ := h; exact h1.lt
theorem MpE.look {b m : Nat} {f : Int → Option Value} (h : MpE w b m f) {x : Int} (h1 : i64B x) : (Instr.lookup 53 (.map (some b)) (.int .i64 x) true).run Try.prog w = .ok (.tuple #[(f x).getD (.agg mk0.en.toArray), .bool (f x).isSome]) w := by
  obtain ⟨D, hD, hf⟩ := h
  obtain ⟨hf1, hf2⟩ := hf x h1
  obtain ⟨v, ps, hrun, hv⟩ := hD.look_ok lawI Try.underlying53 (zeroE w) (zd := .held (.agg mk0.en.toArray)) (zp := []) rfl (key_int h1)
  rw [hrun, hf1]
  simp only [hEl, Option.some.injEq, Prod.mk.injEq] at hv
  cases e : f x with
  | none =>
    rw [e] at hf1
    rw [atKey_of_not_has hf1] at hv
    simp at hv
    rw [hv.1]
    rfl
  | some s =>
    have := hf2 s e
    rw [this] at hv
    simp at hv
    rw [hv.1]
    rfl
theorem MpE.put {b m : Nat} {f : Int → Option Value} (h : MpE w b m f) (hm : m < 140737488355328) {x : Int} (h1 : i64B x) (s : Value) : ∃ w', (Instr.mapUpdate 53 (.map (some b)) (.int .i64 x) s).run Try.prog w = .ok () w' ∧ MpE w' b (m + 1) (updV f x s) ∧ Mb.Kept w w' (fun k => k = b) := by
  obtain ⟨D, hD, hf⟩ := h
  obtain ⟨w', hrun, hD', hg⟩ := hD.update lawI Try.underlying53 (by unfold maxLen; omega) (key_int h1) (show hEl s = some (.held s, []) from rfl)
  refine ⟨w', hrun, ⟨_, hD', fun t t1 => ?_⟩, (Mb.Kept.ofGrown hg).mono fun k _ hk => by cases hk; rfl⟩
  by_cases e : t = x
  · subst e
    rw [has_put_same hD.isMap (lawI.key (key_int t1)), atKey_put_same hD.isMap (lawI.key (key_int t1))]
    refine ⟨by simp [updV], fun y hy => ?_⟩
    simp [updV] at hy
    rw [hy]
  · have ne : (Lit.int .i64 t) ≠ Lit.int .i64 x := fun e2 => e (by cases e2; rfl)
    rw [has_put_other ne, atKey_put_other ne]
    simp only [updV, if_neg e]
    exact hf t t1
def flc (cs : List Cm) : List Value := cs.flatMap Cm.cs
theorem flc_len (cs : List Cm) : (flc cs).length = cs.length * 7 := by
  induction cs with
  | nil => rfl
  | cons e es ih => simp [flc, List.flatMap_cons, Cm.len] at *; omega
theorem flc_app (cs : List Cm) (c : Cm) : flc (cs ++ [c]) = flc cs ++ c.cs := by simp [flc]
def OwC (w : World) (B : Nat) (v : Value) (cs : List Cm) : Prop := w.ownsRow B 38 7 v cs.length (flc cs)
theorem flc_at {cs : List Cm} {i j : Nat} {v : Value} (hi : i < cs.length) (hv : (cs.getD i cm0).cs[j]? = some v) : (flc cs)[i * 7 + j]? = some v := by
  have hj : j < 7 := by have := (List.getElem?_eq_some_iff.1 hv).1; rwa [Cm.len] at this
  induction cs generalizing i with
  | nil => simp at hi
  | cons e es ih =>
    have e1 : flc (e :: es) = e.cs ++ flc es := by simp [flc]
    cases i with
    | zero =>
      rw [e1, Nat.zero_mul, Nat.zero_add, List.getElem?_append_left (by rw [Cm.len]; omega)]
      simpa using hv
    | succ i =>
      rw [e1, List.getElem?_append_right (by rw [Cm.len]; omega), Cm.len, show (i + 1) * 7 + j - 7 = i * 7 + j by omega]
      exact ih (by simpa using hi) (by simpa using hv)
structure CmR (w : World) (ca : Option Addr) (n : Nat) (cs : List Cm) : Prop where
  len : cs.length = n
  row : n = 0 ∨ ∃ b off, ca = some ⟨b, off, none⟩ ∧ ∀ i, i < n → w.rangeAt b (off + i * 7) (cs.getD i cm0).cs
theorem CmR.on {ca : Option Addr} {n : Nat} {l : List Cm} (h : CmR w ca n l) (hb : Below w.heap.size w w') : CmR w' ca n l :=
  ⟨h.len, h.row.elim .inl (fun ⟨b, off, e, hc⟩ => .inr ⟨b, off, e, fun i hi => range_on (hc i hi) hb⟩)⟩
theorem OwC.rd {a : Option Addr} {n c : Nat} {cs : List Cm} (h : OwC w B (.slice a n c) cs) : CmR w a n cs := by
  obtain ⟨h1, h2⟩ := h
  rcases h2 with ⟨e, e0⟩ | ⟨g, cap, cur, e, _, hh, hc, _, hs, ht⟩
  · cases e
    exact ⟨e0, .inl rfl⟩
  · cases e
    refine ⟨rfl, .inr ⟨g, 0, rfl, fun i hi j v hv => ?_⟩⟩
    rw [blk_cell hh, Nat.zero_add]
    have hj : j < 7 := by have := (List.getElem?_eq_some_iff.1 hv).1; rwa [Cm.len] at this
    have hf := flc_at hi hv
    rw [← ht, List.getElem?_take, if_pos (by omega)] at hf
    simpa using hf
theorem app_C {ops : Array Oper} {rest : List Oper} {o : Oper} {a : Act} {Q : Exit → Act → World → Prop} (hgd : o.guard = none) (s x : Operand)
    (ho : o.op = .call { callee := .builtin .append, args := #[s, x], argTypes := #[28, 28] }) {B : Nat} {v : Value} {cs : List Cm} (hs : a.eval s = v) {w0 : World} (hown : OwC w0 B v cs) (c : Cm) (hw : w = w0.alloc (.cells c.cs.toArray 38))
    (hx : a.eval x = .slice (some ⟨w0.heap.size, 0, none⟩) 1 1) (hn : (cs.length + 1) * 80 ≤ 140737488355328) (hbase : B ≤ w0.heap.size)
    (h : ∀ v' w', Hid (OwC w' B v' (cs ++ [c])) → Hid (Mb.Kept w0 w' (fun k => v.ownBlock = some k)) → Hid (v'.ownBlock = v.ownBlock ∨ ∃ k, v'.ownBlock = some k ∧ w0.heap.size ≤ k) → wpList Try.prog ops Q rest (a.put o.dst v') w') : wpList Try.prog ops Q (o :: rest) a w := by
  subst hw
  obtain ⟨i0, hi, hz0, hz1, hz2⟩ := info_parts info_cm
  have hb : Below w0.heap.size w0 (w0.alloc (.cells c.cs.toArray 38)) := bsp _ _ _
  refine app_g hgd s x 28 ho B 38 i0 (.agg cm0.cs.toArray) 7 80 Try.underlying28 hi hz0 hz1 hz2 rfl (by omega) v cs.length (flc cs) hs (Mb.own_still hown hb) (some ⟨w0.heap.size, 0, none⟩) 1 1 c.cs hx (by simp) (by rw [Cm.len]) ?_ (Cm.one c) (by unfold maxLen; omega) hn (Nat.le_trans hbase hb.size) ?_
  · intro ad he j u hu
    cases he
    rw [Addr.add_mid, Nat.zero_add, blk_cell (heap_new w0 c.cs.toArray 38)]
    simpa using hu
  · intro v' w' h1 h2 h3
    refine h v' w' ?_ ((Mb.Kept.ofBelow hb (fun k => v.ownBlock = some k)).trans h2.out) ?_
    · show World.ownsRow _ _ _ _ _ _ _
      have := h1.out
      rw [List.length_append, flc_app]
      exact this
    · rcases h3.out with h4 | h4
      · exact .inl h4
      · exact .inr ⟨_, h4, hb.size⟩
theorem builtCs (c : Cm) : Try.prog.builtSlice 38 1 [(0, .agg c.cs.toArray)] = some c.cs.toArray := by kernel_rfl
theorem builtMs (e : Mk) : Try.prog.builtSlice 50 1 [(0, .agg e.cs.toArray)] = some e.cs.toArray := by kernel_rfl
end
end Go.Proofs.Ytfbgoidhgkcgjaa.Lo
