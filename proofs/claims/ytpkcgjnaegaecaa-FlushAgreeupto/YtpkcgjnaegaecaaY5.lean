import Derived.Test.YtpkcgjnaegaecaaYj
import Derived.Test.YtpkcgjnaegaecaaZl
import Derived.Maps.AppendAt
import Derived.Laws.AppendOwnNone
import Derived.Deep.DeepCutAuto
import Derived.Great.Walk
namespace Go.Proofs.Ytpkcgjnaegaecaa.Fm
open Go.RowKit Go.Maps Mb
set_option linter.unusedVariables false
set_option maxRecDepth 100000
set_option linter.unusedSimpArgs false
section
variable {w w' W : World} {B : Nat}
theorem blk_on {a b : World} {k : Nat} {o : Obj} (hb : Below a.heap.size a b) (h : a.heap[k]? = some o) : b.heap[k]? = some o := (hb.block k (Array.getElem?_eq_some_iff.1 h).1).trans h
theorem drew_bel (w : World) : Below w.heap.size w w.drew := (Below.refl _ _).drew
theorem range_on {b off : Nat} {cs : List Value} (h : w.rangeAt b off cs) (hb : Below w.heap.size w w') : w'.rangeAt b off cs := fun j v hv => below_at hb (h j v hv)
theorem run_allocZ {t : TypeId} {Z : Array Value} (hz : (Try.prog.info? t).map (·.zero) = some (some (.agg Z))) : (Instr.alloc t true (.tuple #[])).run Try.prog w = .ok (.pointer (some ⟨w.heap.size, 0, none⟩)) (w.alloc (.cells Z t)) := by
  cases hi : Try.prog.info? t with
  | none => rw [hi] at hz; cases hz
  | some i =>
    rw [hi] at hz
    simp only [Option.map_some, Option.some.injEq] at hz
    simp [Instr.alloc, zeroValue, typeInfo, hi, hz, go_sem, newVar, newRow, Value.cells]
section
variable {ops : Array Oper} {rest : List Oper} {o : Oper} {a : Act} {K : Act → World → Prop} {Q : Exit → Act → World → Prop} {E : Prop}
theorem wl_allocZ {Z : Array Value} (hgd : o.guard = none) (t : TypeId) (ho : o.op = .alloc t) (hz : (Try.prog.info? t).map (·.zero) = some (some (.agg Z)))
    (h : ∀ W : World, W.heap[w.heap.size]? = some (.cells Z t (0, 0)) → Below w.heap.size w W → w.heap.size < W.heap.size → wpList Try.prog ops Q rest (a.put o.dst (.pointer (some ⟨w.heap.size, 0, none⟩))) W) : wpList Try.prog ops Q (o :: rest) a w :=
  wpList_plain hgd fun K hK => by
    unfold Oper.wp execOp
    simp only [ho, Sem.run_bind, run_allocZ hz, Result.andThen_ok, Sem.run_pure]
    exact hK _ _ (h _ (heap_alloc_new w _) ((Below.refl _ _).alloc (Nat.le_refl _) _) (by simp))
theorem step_allocZ {Z : Array Value} (hgd : o.guard = none) (t : TypeId) (ho : o.op = .alloc t) (hz : (Try.prog.info? t).map (·.zero) = some (some (.agg Z)))
    (h : ∀ W : World, W.heap[w.heap.size]? = some (.cells Z t (0, 0)) → Below w.heap.size w W → w.heap.size < W.heap.size → K (a.put o.dst (.pointer (some ⟨w.heap.size, 0, none⟩))) W) : if Region.wanted o (yielded ops a.tmps) = true then Oper.wp Try.prog o a w K Q else E := by
  have hw : Region.wanted o (yielded ops a.tmps) = true := by simp [Region.wanted, hgd]
  rw [if_pos hw]
  unfold Oper.wp execOp
  simp only [ho, Sem.run_bind, run_allocZ hz, Result.andThen_ok, Sem.run_pure]
  exact h _ (heap_alloc_new w _) ((Below.refl _ _).alloc (Nat.le_refl _) _) (by simp)
theorem wl_storeZ (hgd : o.guard = none) (ty : TypeId) (x y : Operand) (ho : o.op = .store ty x y) {g : Nat} {L : List Value} {t : TypeId} {old : Array Value} (hx : a.eval x = .pointer (some ⟨g, 0, none⟩)) (hy : a.eval y = .agg L.toArray) (hg : w.heap[g]? = some (.cells old t (0, 0))) (hi : (Try.prog.info? ty).map (·.size) = some L.length) (hold : old.size = L.length) (h1 : ∀ u ∈ L, u.oneCell' = true)
    (h : ∀ W : World, W.heap[g]? = some (.cells L.toArray t (0, 0)) → Kept w W (fun j => j = g) → wpList Try.prog ops Q rest (a.put o.dst undef) W) : wpList Try.prog ops Q (o :: rest) a w :=
  wpList_plain hgd fun K hK => wp_store_mid ty x y ho g 0 _ hx hy (by simpa using blk_there hg hold) (by simpa using hi) (all_oneCell_toArray h1) (hK _ _ (by simpa using h _ (sets_whole hg hold) (ksets (P := fun j => j = g) rfl _ _ _)))
theorem step_storeZ (hgd : o.guard = none) (ty : TypeId) (x y : Operand) (ho : o.op = .store ty x y) {g : Nat} {L : List Value} {t : TypeId} {old : Array Value} (hx : a.eval x = .pointer (some ⟨g, 0, none⟩)) (hy : a.eval y = .agg L.toArray) (hg : w.heap[g]? = some (.cells old t (0, 0))) (hi : (Try.prog.info? ty).map (·.size) = some L.length) (hold : old.size = L.length) (h1 : ∀ u ∈ L, u.oneCell' = true)
    (h : ∀ W : World, W.heap[g]? = some (.cells L.toArray t (0, 0)) → Kept w W (fun j => j = g) → K (a.put o.dst undef) W) : if Region.wanted o (yielded ops a.tmps) = true then Oper.wp Try.prog o a w K Q else E := by
  have hw : Region.wanted o (yielded ops a.tmps) = true := by simp [Region.wanted, hgd]
  rw [if_pos hw]
  exact wp_store_mid ty x y ho g 0 _ hx hy (by simpa using blk_there hg hold) (by simpa using hi) (all_oneCell_toArray h1) (by simpa using h _ (sets_whole hg hold) (ksets (P := fun j => j = g) rfl _ _ _))
theorem wp_bsl (t e : TypeId) (len : Nat) (parts : Array (Nat × Operand)) (ho : o.op = .buildSlice t len parts) (hu : Try.prog.underlying t = some (.slice e)) (cells : Array Value)
    (hf : Try.prog.builtSlice e len (parts.map fun (i, x) => (i, a.eval x)).toList = some cells)
    (h : K (a.put o.dst (.slice (some ⟨w.heap.size, 0, none⟩) len len)) (w.alloc (.cells cells e))) : Oper.wp Try.prog o a w K Q := by
  unfold Program.builtSlice at hf
  cases hie : Try.prog.info? e with
  | none => simp [hie] at hf
  | some ie =>
    simp only [hie] at hf
    cases hz : ie.zero with
    | none => simp [hz] at hf
    | some z =>
      simp only [hz] at hf
      by_cases hc : len * ie.size > 2 ^ 24 ∨ len * ie.size = 0
      · simp [hc] at hf
      · rw [if_neg hc] at hf
        exact wp_buildSlice t e len parts ho cells ie z hu hie hz (fun h' => hc (Or.inl h')) (fun h' => hc (Or.inr h')) hf h
theorem step_bsl (hgd : o.guard = none) (t e : TypeId) (len : Nat) (parts : Array (Nat × Operand)) (ho : o.op = .buildSlice t len parts) (hu : Try.prog.underlying t = some (.slice e)) (cells : Array Value)
    (hf : Try.prog.builtSlice e len (parts.map fun (i, x) => (i, a.eval x)).toList = some cells)
    (h : ∀ V : World, V.heap[w.heap.size]? = some (.cells cells e (0, 0)) → Below w.heap.size w V → w.heap.size < V.heap.size → K (a.put o.dst (.slice (some ⟨w.heap.size, 0, none⟩) len len)) V) : if Region.wanted o (yielded ops a.tmps) = true then Oper.wp Try.prog o a w K Q else E := by
  have hwt : Region.wanted o (yielded ops a.tmps) = true := by simp [Region.wanted, hgd]
  rw [if_pos hwt]
  exact wp_bsl t e len parts ho hu cells hf (h _ (heap_alloc_new w _) ((Below.refl _ _).alloc (Nat.le_refl _) _) (by simp))
theorem wl_bsl (hgd : o.guard = none) (t e : TypeId) (len : Nat) (parts : Array (Nat × Operand)) (ho : o.op = .buildSlice t len parts) (hu : Try.prog.underlying t = some (.slice e)) (cells : Array Value)
    (hf : Try.prog.builtSlice e len (parts.map fun (i, x) => (i, a.eval x)).toList = some cells)
    (h : ∀ V : World, V.heap[w.heap.size]? = some (.cells cells e (0, 0)) → Below w.heap.size w V → w.heap.size < V.heap.size → wpList Try.prog ops Q rest (a.put o.dst (.slice (some ⟨w.heap.size, 0, none⟩) len len)) V) : wpList Try.prog ops Q (o :: rest) a w :=
  wpList_plain hgd fun K hK => wp_bsl t e len parts ho hu cells hf (hK _ _ (h _ (heap_alloc_new w _) ((Below.refl _ _).alloc (Nat.le_refl _) _) (by simp)))
theorem bsl_eq {e : TypeId} {n : Nat} {l l' : List (Nat × Value)} {c : Array Value} (e1 : l = l') (h : Try.prog.builtSlice e n l' = some c) : Try.prog.builtSlice e n l = some c := e1 ▸ h
theorem app_g (hgd : o.guard = none) (s x : Operand) (t : TypeId)
    (ho : o.op = .call { callee := .builtin .append, args := #[s, x], argTypes := #[t, t] })
    (base : Nat) (e : TypeId) (i : TypeInfo) (z : Value) (size bytes : Nat) (ht : Try.prog.underlying t = some (.slice e)) (hi : Try.prog.info? e = some i) (hz : i.zero = some z)
    (hsize : i.size = size) (hby : i.bytes = bytes) (hzs : z.cells.size = size) (hsz : 0 < size)
    (v : Value) (n : Nat) (xs : List Value) (hs : a.eval s = v) (hown : w.ownsRow base e size v n xs)
    (ao : Option Addr) (m c : Nat) (news : List Value) (hx : a.eval x = .slice ao m c) (hnone : ao = none → m = 0 ∧ c = 0) (hl : news.length = m * size) (hnews : ∀ ad, ao = some ad → ∀ j u, news[j]? = some u → w.cell? (ad.add j) = some u) (h1 : ∀ u ∈ news, u.oneCell' = true)
    (h63 : n + m ≤ maxLen) (hbytes : (n + m) * bytes ≤ 140737488355328) (hbase : base ≤ w.heap.size)
    (h : ∀ v' w', Hid (w'.ownsRow base e size v' (n + m) (xs ++ news)) → Hid (Kept w w' (fun k => v.ownBlock = some k)) → Hid (v'.ownBlock = v.ownBlock ∨ v'.ownBlock = some w.heap.size) → wpList Try.prog ops Q rest (a.put o.dst v') w') :
    wpList Try.prog ops Q (o :: rest) a w := by
  cases ao with
  | some ad =>
    refine wpList_append_own_at w hgd s x t ho base e i z size bytes ht hi hz hsize hby hzs hsz v n xs hs hown ad m c news hx hl (hnews ad rfl) h1 h63 hbytes hbase ?_
    intro v' w' h2 h3 _ h5
    exact h v' w' h2 ((Kept.ofGrown h3).mono fun k _ hk => hk.symm) h5
  | none =>
    obtain ⟨rfl, rfl⟩ := hnone rfl
    obtain rfl : news = [] := List.eq_nil_of_length_eq_zero (by rw [hl]; omega)
    exact wpList_append_own_none hgd s x t ho base e i size ht hi v n xs hs hown hx (h v w (by show World.ownsRow _ _ _ _ _ _ _; simpa using hown) (Kept.refl _ _) (.inl rfl))
theorem flCells_len (xs : List Fl) : (flCells xs).length = xs.length * 7 := by
  induction xs with
  | nil => rfl
  | cons s ss ih => simp only [flCells, List.flatMap_cons, List.length_append] at ih ⊢; rw [ih, Fl.cs_len]; simp; omega
theorem step_appF (hgd : o.guard = none) (s x : Operand)
    (ho : o.op = .call { callee := .builtin .append, args := #[s, x], argTypes := #[22, 22] }) {b off L nb : Nat} {fs : List Fl} {f : Fl} (hs : a.eval s = .slice (some ⟨b, off, none⟩) L L) (hL : fs.length = L) (hn : L ≤ 16) (hr : RdFs w (some ⟨b, off, none⟩) fs) (hf : f.Rd w)
    (hx : a.eval x = .slice (some ⟨nb, 0, none⟩) 1 1) (hnb : w.heap[nb]? = some (.cells f.cs.toArray 35 (0, 0)))
    (h : ∀ a' c' w', RdFs w' a' (fs ++ [f]) → Below w.heap.size w w' → K (a.put o.dst (.slice a' (L + 1) c')) w') : if Region.wanted o (yielded ops a.tmps) = true then Oper.wp Try.prog o a w K Q else E := by
  have hwt : Region.wanted o (yielded ops a.tmps) = true := by simp [Region.wanted, hgd]
  rw [if_pos hwt]
  obtain ⟨i0, hi, hz0, hz1, hz2⟩ := flush_info
  obtain ⟨v', w', hrun, h2, h3⟩ := run_append_arg_grows (P := Try.prog) w 22 o.type 35 i0 _ 7 88 Try.underlying22 hi hz0 hz1 hz2 rfl (by omega) ⟨b, off, none⟩ L L (flCells fs) (by rw [flCells_len, hL]) (fun j u hu => by
      have hj : j < fs.length * 7 := by have := (List.getElem?_eq_some_iff.1 hu).1; rwa [flCells_len] at this
      rcases hr.row with h0 | ⟨b', off', e, hc⟩
      · omega
      · simp only [Option.some.injEq, Addr.mk.injEq, and_true] at e
        rw [Addr.add_lit, e.1, e.2, hc j hj, ← flCells_at _ _ hj, hu]) ⟨nb, 0, none⟩ 1 1 f.cs rfl (fun j u hu => by
      rw [Addr.add_lit, Nat.zero_add, blk_cell hnb]
      simpa using hu) (by omega) (by unfold maxLen; omega) (by omega)
  have hb : Below w.heap.size w w' := ⟨h3.os, h3.tape, h3.output, h3.size, fun k hk => h3.block k hk (by simp)⟩
  obtain ⟨a', c', rfl⟩ : ∃ a' c', v' = .slice a' (L + 1) c' := by
    rcases h2.2 with ⟨_, h4⟩ | ⟨g, cap, cur, hv, _⟩
    · omega
    · exact ⟨_, _, hv⟩
  unfold Oper.wp execOp
  simp only [ho, resolve, invoke, builtin, Sem.run_bind, Sem.run_pure, Result.andThen_ok, List.map_toArray, List.map_cons, List.map_nil, hs, hx, hrun]
  refine h a' c' w' ⟨?_, fun i hi => ?_⟩ hb
  · rw [List.length_append, hL]
    refine own_row h2 (fun i hi => ?_)
    have : (flCells fs ++ f.cs) = flCells (fs ++ [f]) := by simp [flCells]
    rw [this]
    exact flCells_at _ _ (by rw [List.length_append, hL]; exact hi)
  · by_cases e : i < fs.length
    · have : (fs ++ [f]).getD i fl0 = fs.getD i fl0 := by simp [List.getD, List.getElem?_append, e]
      rw [this]
      exact (hr.el i e).still hb
    · have hi2 : i = fs.length := by simp at hi; omega
      have : (fs ++ [f]).getD i fl0 = f := by subst hi2; simp [List.getD]
      rw [this]
      exact hf.still hb
end
theorem own_ne {t s n g t' : Nat} {v : Value} {l : List Value} {C : Array Value} (h : w.ownsRow B t s v n l) (hk : w.heap[g]? = some (.cells C t' (0, 0))) (hne : t ≠ t') (k : Kept w W (fun j => j = g)) : W.ownsRow B t s v n l := by
  refine k.owns h fun j hj e => ?_
  obtain ⟨_, cur, hc⟩ := row_cells h hj
  have e' : j = g := e
  rw [e', hk] at hc
  simp at hc
  exact hne hc.2.symm
theorem zEnd : (Try.prog.info? 71).map (·.zero) = some (some (.agg #[.int .i64 0, .slice none 0 0])) := by kernel_rfl
theorem zSlot : (Try.prog.info? 40).map (·.zero) = some (some (.agg #[.int .i64 0, .int .i64 0])) := by kernel_rfl
theorem zTwin : (Try.prog.info? 94).map (·.zero) = some (some (.agg #[.int .i64 0, .int .i64 0, .int .i64 0, .int .i64 0, .int .i64 0, .slice none 0 0, .slice none 0 0, .slice none 0 0, .slice none 0 0])) := by kernel_rfl
theorem bFl (f : Fl) : Try.prog.builtSlice 35 1 [(0, .agg f.cs.toArray)] = some f.cs.toArray := by kernel_rfl
theorem bSl (s : Int × Int) : Try.prog.builtSlice 40 1 [(0, .agg (slotV s).toArray)] = some (slotV s).toArray := by kernel_rfl
structure JQ (fs : List Fl) (w w' : World) (bb : Int) (a : Option Addr) (n c : Nat) (ev : Int) : Prop where
  e : ev = togE (cos fs)
  k : ev = 0 → bb = baseOf (cos fs) ∧ Ends (cos fs) n ∧ ∃ ss, SlOf (cos fs) n ss ∧ w'.ownsRow w.heap.size 40 2 (.slice a n c) n (slCells ss)
theorem join_one {ao : Option Addr} {cp : Nat} {fs : List Fl} (hr : RdFs w ao fs) (hn : fs.length ≤ 17) : Calls Try.prog 30 #[.slice ao fs.length cp] w fun e w' => ∃ bb a n c ev, e = .returned (.tuple #[.agg (endV bb a n c).toArray, .int .i64 ev]) ∧ JQ fs w w' bb a n c ev ∧ Below w.heap.size w w' := by
  refine (join_any (cp := cp) hr hn).mono ?_
  rintro e w' ⟨hb, h | ⟨h0, n, a, c, ss, h1, h2, h3, h4⟩⟩
  · exact ⟨0, none, 0, 0, _, h.2, ⟨rfl, fun hh => absurd hh h.1⟩, hb⟩
  · exact ⟨_, a, n, c, 0, h3, ⟨h0.symm, fun _ => ⟨rfl, h1, ss, h2, h4⟩⟩, hb⟩
end
end Go.Proofs.Ytpkcgjnaegaecaa.Fm
