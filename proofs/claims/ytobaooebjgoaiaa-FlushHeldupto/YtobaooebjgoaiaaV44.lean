import Derived.Test.YtobaooebjgoaiaaV43
namespace Go.Proofs.Ytobaooebjgoaiaa.Fm
open Go.RowKit Go.Maps Mb
set_option linter.unusedVariables false
set_option maxRecDepth 100000
set_option linter.unusedSimpArgs false
section
variable {w w' W : World} {B : Nat}
theorem idx_place {l : List Int} {q r : Int} (hn : NodT l l.length) (h : IdxS l q r) : PlaceS l q r := .inr ⟨hn, by
 rcases h with ⟨h1, h2⟩ | ⟨m, h1, h2, h3⟩
 ·exact .inl ⟨h1, h2⟩
 ·exact .inr ⟨m, h2, h1, h3⟩⟩
def lowF (fs : List Fl) (who : List Int) (sf : Int) (j : Nat) : List Fl := ((List.range j).filter (fun i => decide (who.getD i 0 < sf))).map (fun i => fs.getD i fl0)
theorem lowF_no {fs : List Fl} {who : List Int} {sf : Int} {j : Nat} (h : ¬ who.getD j 0 < sf) : lowF fs who sf (j + 1) = lowF fs who sf j := by
 unfold lowF
 rw [List.range_succ, List.filter_append, List.map_append]
 rw [List.filter_cons, if_neg (by simpa using h)]
 simp
theorem lowF_yes {fs : List Fl} {who : List Int} {sf : Int} {j : Nat} (h : who.getD j 0 < sf) : lowF fs who sf (j + 1) = lowF fs who sf j ++ [fs.getD j fl0] := by
 unfold lowF
 rw [List.range_succ, List.filter_append, List.map_append]
 congr 1
 rw [List.filter_cons, if_pos (by simpa using h)]
 rfl
theorem lowF_len (fs : List Fl) (who : List Int) (sf : Int) (j : Nat) : (lowF fs who sf j).length ≤ j := by
 unfold lowF
 rw [List.length_map]
 exact Nat.le_trans (List.length_filter_le _ _) (by simp)
theorem lowF_mem {fs : List Fl} {who : List Int} {sf : Int} {j i : Nat} (hi : i < (lowF fs who sf j).length) : ∃ k, k < j ∧ (lowF fs who sf j).getD i fl0 = fs.getD k fl0 := by
 have h1 : (lowF fs who sf j).getD i fl0 ∈ lowF fs who sf j := by
  simp only [List.getD, List.getElem?_eq_getElem hi, Option.getD_some]
  exact List.getElem_mem hi
 generalize (lowF fs who sf j).getD i fl0 = x at h1
 unfold lowF at h1
 rw [List.mem_map] at h1
 obtain ⟨k, hk, e⟩ := h1
 rw [List.mem_filter, List.mem_range] at hk
 exact ⟨k, hk.1, e.symm⟩
theorem any_range (l : List Co) (p : Co → Bool) : ((List.range l.length).any fun i => p (l.getD i c0)) = l.any p := by
 rw [Bool.eq_iff_iff, List.any_eq_true, List.any_eq_true]
 constructor
 ·rintro ⟨i, h1, h2⟩
  rw [List.mem_range] at h1
  refine ⟨l[i], List.getElem_mem h1, ?_⟩
  simpa [List.getD, List.getElem?_eq_getElem h1] using h2
 ·rintro ⟨x, h1, h2⟩
  obtain ⟨i, hi, rfl⟩ := List.mem_iff_getElem.1 h1
  refine ⟨i, List.mem_range.2 hi, ?_⟩
  simpa [List.getD, List.getElem?_eq_getElem hi] using h2
theorem lowF_has (fs : List Fl) (who : List Int) (sf : Int) (s : Int × Int) : hasA (cos (lowF fs who sf fs.length)) s = lowB (cos fs) who sf s := by
 have e1 : hasA (cos (lowF fs who sf fs.length)) s = (cos (lowF fs who sf fs.length)).any (fun f => has f s) := any_range _ (fun f => has f s)
 rw [e1]
 unfold lowB lowF cos
 rw [List.any_map, List.any_map, List.any_filter, List.length_map]
 congr 1
 funext i
 have := cos_at fs i
 unfold cos at this
 rw [this]
 rfl
theorem rd_one {g : Nat} {f : Fl} (h : w.heap[g]? = some (.cells f.cs.toArray 28 (0, 0))) (hf : f.Rd w) : RdFs w (some ⟨g, 0, none⟩) [f] := ⟨.inr ⟨g, 0, rfl, fun i hi => by
 have hi' : i < 7 := by simpa using hi
 rw [Nat.zero_add, blk_cell h]
 unfold flC
 rw [show i / 7 = 0 by omega, show i % 7 = i by omega]
 simp only [List.getD_cons_zero]
 rw [List.getElem?_toArray, List.getD, List.getElem?_eq_getElem (by rw [Fl.cs_len]; exact hi')]
 rfl⟩, fun i hi => by
 have hi0 : i = 0 := by simpa using hi
 subst hi0
 exact hf⟩
theorem hasA_one (f : Fl) (s : Int × Int) : hasA (cos [f]) s = has f.c s := by simp [hasA, cos]
theorem dag_in {P : Program} {md : Region.Mode} {ops : Array Oper} {Q : Exit → Act → World → Prop} {S : World → Prop} {fuel : Nat} {listed : Array Bool} {a : Act} (h : ∀ (Wp : Nat → Array Bool → Act → World → Prop) (a0 : Act), Hid (∀ f l x u, Wp f l x u = wpAnyH P md ops Q S f l x u) → Hid (a0 = a) → Wp fuel listed a0 w) : wpAnyH P md ops Q S fuel listed a w :=
 h (fun f l x u => wpAnyH P md ops Q S f l x u) a (fun _ _ _ _ => rfl) rfl
def put8 (a : Act) (x4 x5 x10 x11 x13 x14 x15 x16 : Value) : Act := { tmps := (((((((a.tmps.setIfInBounds 79 x4).setIfInBounds 80 x5).setIfInBounds 85 x10).setIfInBounds 86 x11).setIfInBounds 88 x13).setIfInBounds 17 x14).setIfInBounds 18 x15).setIfInBounds 19 x16, defers := a.defers }
def Bd (f : Fl) (x : Value) (w : World) : Prop := ∃ g, x = .slice (some ⟨g, 0, none⟩) 1 1 ∧ w.heap[g]? = some (.cells f.cs.toArray 28 (0, 0))
def Cf (v : Value) (x : Value) (w : World) : Prop := ∃ kb, x = .func (.func 61) #[] #[.pointer (some ⟨kb, 0, none⟩)] ∧ w.heap[kb]? = some (.cells #[v] 22 (0, 0))
def Cb (f : Fl) (x : Value) (w : World) : Prop := ∃ g, Cf (.slice (some ⟨g, 0, none⟩) 1 1) x w ∧ w.heap[g]? = some (.cells f.cs.toArray 28 (0, 0))
def Alc (B : Nat) (x : Value) (w : World) : Prop := ∃ k, x = .pointer (some ⟨k, 0, none⟩) ∧ B ≤ k ∧ ∃ v, w.heap[k]? = some (.cells #[v] 83 (0, 0))
def Df (x y : Value) : Prop := ∀ k l, x = .pointer (some ⟨k, 0, none⟩) → y = .pointer (some ⟨l, 0, none⟩) → k ≠ l
theorem Bd.still {f : Fl} {x : Value} (h : Bd f x w) (hb : Below w.heap.size w w') : Bd f x w' := by
 obtain ⟨g, e, k⟩ := h
 exact ⟨g, e, blk_on hb k⟩
theorem Cf.still {v x : Value} (h : Cf v x w) (hb : Below w.heap.size w w') : Cf v x w' := by
 obtain ⟨g, e, k⟩ := h
 exact ⟨g, e, blk_on hb k⟩
theorem Cb.still {f : Fl} {x : Value} (h : Cb f x w) (hb : Below w.heap.size w w') : Cb f x w' := by
 obtain ⟨g, e, k⟩ := h
 exact ⟨g, e.still hb, blk_on hb k⟩
theorem Alc.still {B : Nat} {x : Value} (h : Alc B x w) (hb : Below w.heap.size w w') : Alc B x w' := by
 obtain ⟨g, e, e2, v, k⟩ := h
 exact ⟨g, e, e2, v, blk_on hb k⟩
theorem Alc.df {B : Nat} {x : Value} (h : Alc B x w) : Df (.pointer (some ⟨w.heap.size, 0, none⟩)) x := fun k l e1 e2 e3 => by
 obtain ⟨g, e, _, v, hk⟩ := h
 subst e3
 simp only [Value.pointer.injEq, Option.some.injEq, Addr.mk.injEq, and_true] at e1
 rw [e] at e2
 simp only [Value.pointer.injEq, Option.some.injEq, Addr.mk.injEq, and_true] at e2
 have := (Array.getElem?_eq_some_iff.1 hk).1
 omega
theorem Df.symm {x y : Value} (h : Df x y) : Df y x := fun k l e1 e2 e3 => h l k e2 e1 e3.symm
theorem oneFSB : (Try.prog.info? 83).map (·.size) = some 1 := by kernel_rfl
theorem zFSB : (Try.prog.info? 83).map (·.zero) = some (some .nilFunc) := by kernel_rfl
section
variable {ops : Array Oper} {rest : List Oper} {o : Oper} {a : Act} {K : Act → World → Prop} {Q : Exit → Act → World → Prop} {E : Prop}
theorem step_alloc1 (hgd : o.guard = none) (t : TypeId) (ho : o.op = .alloc t) (hz : (Try.prog.info? t).map (·.zero) = some (some .nilFunc))
  (h : ∀ W : World, W.heap[w.heap.size]? = some (.cells #[.nilFunc] t (0, 0)) → Below w.heap.size w W → K (a.put o.dst (.pointer (some ⟨w.heap.size, 0, none⟩))) W) : if Region.wanted o (yielded ops a.tmps) = true then Oper.wp Try.prog o a w K Q else E := by
 have hw : Region.wanted o (yielded ops a.tmps) = true := by simp [Region.wanted, hgd]
 rw [if_pos hw]
 have hrun : (Instr.alloc t true (.tuple #[])).run Try.prog w = .ok (.pointer (some ⟨w.heap.size, 0, none⟩)) (w.alloc (.cells #[.nilFunc] t)) := by
  cases hi : Try.prog.info? t with
  | none => rw [hi] at hz; cases hz
  | some i =>
   rw [hi] at hz
   simp only [Option.map_some, Option.some.injEq] at hz
   simp [Instr.alloc, zeroValue, typeInfo, hi, hz, go_sem, newVar, newRow, Value.cells]
 unfold Oper.wp execOp
 simp only [ho, Sem.run_bind, hrun, Result.andThen_ok, Sem.run_pure]
 exact h _ (heap_alloc_new w _) ((Below.refl _ _).alloc (Nat.le_refl _) _)
theorem step_store1 (hgd : o.guard = none) (ty : TypeId) (x y : Operand) (ho : o.op = .store ty x y) {g : Nat} {fn : Fn} {fa ca : Array Value} {u : Value} {t : TypeId} (hx : a.eval x = .pointer (some ⟨g, 0, none⟩)) (hy : a.eval y = .func fn fa ca) (hg : w.heap[g]? = some (.cells #[u] t (0, 0))) (hd : o.dst = none) (hz : (Try.prog.info? ty).map (·.size) = some 1)
  (h : K a (w.setCell ⟨g, 0, none⟩ (.func fn fa ca))) : if Region.wanted o (yielded ops a.tmps) = true then Oper.wp Try.prog o a w K Q else E := by
 have hw : Region.wanted o (yielded ops a.tmps) = true := by simp [Region.wanted, hgd]
 rw [if_pos hw]
 have q : w.cell? ⟨g, 0, none⟩ = some u := blk_cell hg 0
 have z : w.frozen? ⟨g, 0, none⟩ = false := frozen_of_row w _ _ _ _ hg
 have hs : (sizeOf ty).run Try.prog w = .ok 1 w := by
  cases hi : Try.prog.info? ty with
  | none => rw [hi] at hz; cases hz
  | some i =>
   rw [hi] at hz
   simp only [Option.map_some, Option.some.injEq] at hz
   simp [sizeOf, typeInfo, hi, hz, go_sem]
 unfold Oper.wp execOp
 simp only [ho, hx, hy]
 go_simp
 exact h
end
structure Cd (V : World) (f1 f2 : Fl) (lv : Value) (m4 m5 m10 m11 m13 m14 m15 m16 : Bool) (x4 x5 x10 x11 x13 x14 x15 x16 : Value) (w : World) : Prop where
 b : Below V.heap.size V w
 h4 : m4 = true → Bd f1 x4 w
 h5 : m5 = true → Cb f1 x5 w
 h10 : m10 = true → Bd f2 x10 w
 h11 : m11 = true → Cb f2 x11 w
 h13 : m13 = true → Cf lv x13 w
 h14 : m14 = true → Alc V.heap.size x14 w
 h15 : m15 = true → Alc V.heap.size x15 w
 h16 : m16 = true → Alc V.heap.size x16 w
 d1 : m14 = true → m15 = true → Df x14 x15
 d2 : m14 = true → m16 = true → Df x14 x16
 d3 : m15 = true → m16 = true → Df x15 x16
section
variable {V : World} {f1 f2 : Fl} {lv : Value} {g : Nat} {m4 m5 m10 m11 m13 m14 m15 m16 : Bool} {x4 x5 x10 x11 x13 x14 x15 x16 y : Value}
theorem Cd.start (V : World) (f1 f2 : Fl) (lv x4 x5 x10 x11 x13 x14 x15 x16 : Value) : Cd V f1 f2 lv false false false false false false false false x4 x5 x10 x11 x13 x14 x15 x16 V :=
 ⟨Below.refl _ _, nofun, nofun, nofun, nofun, nofun, nofun, nofun, nofun, nofun, nofun, nofun⟩
theorem Cd.still (h : Cd V f1 f2 lv m4 m5 m10 m11 m13 m14 m15 m16 x4 x5 x10 x11 x13 x14 x15 x16 w) (hb : Below w.heap.size w w') : Cd V f1 f2 lv m4 m5 m10 m11 m13 m14 m15 m16 x4 x5 x10 x11 x13 x14 x15 x16 w' :=
 ⟨bstep h.b hb, fun e => (h.h4 e).still hb, fun e => (h.h5 e).still hb, fun e => (h.h10 e).still hb, fun e => (h.h11 e).still hb, fun e => (h.h13 e).still hb, fun e => (h.h14 e).still hb, fun e => (h.h15 e).still hb, fun e => (h.h16 e).still hb, h.d1, h.d2, h.d3⟩
theorem Cd.s4 (h : Cd V f1 f2 lv m4 m5 m10 m11 m13 m14 m15 m16 x4 x5 x10 x11 x13 x14 x15 x16 w) (hb : Below w.heap.size w w') (hk : w'.heap[w.heap.size]? = some (.cells f1.cs.toArray 28 (0, 0))) : Cd V f1 f2 lv true m5 m10 m11 m13 m14 m15 m16 (.slice (some ⟨w.heap.size, 0, none⟩) 1 1) x5 x10 x11 x13 x14 x15 x16 w' :=
 { h.still hb with h4 := fun _ => ⟨_, rfl, hk⟩ }
theorem Cd.s10 (h : Cd V f1 f2 lv m4 m5 m10 m11 m13 m14 m15 m16 x4 x5 x10 x11 x13 x14 x15 x16 w) (hb : Below w.heap.size w w') (hk : w'.heap[w.heap.size]? = some (.cells f2.cs.toArray 28 (0, 0))) : Cd V f1 f2 lv m4 m5 true m11 m13 m14 m15 m16 x4 x5 (.slice (some ⟨w.heap.size, 0, none⟩) 1 1) x11 x13 x14 x15 x16 w' :=
 { h.still hb with h10 := fun _ => ⟨_, rfl, hk⟩ }
theorem Cd.s5 (h : Cd V f1 f2 lv true m5 m10 m11 m13 m14 m15 m16 (.slice (some ⟨g, 0, none⟩) 1 1) x5 x10 x11 x13 x14 x15 x16 w) (hb : Below w.heap.size w w') (hk : w'.heap[w.heap.size]? = some (.cells #[.slice (some ⟨g, 0, none⟩) 1 1] 22 (0, 0))) : Cd V f1 f2 lv true true m10 m11 m13 m14 m15 m16 (.slice (some ⟨g, 0, none⟩) 1 1) (.func (.func 61) #[] #[.pointer (some ⟨w.heap.size, 0, none⟩)]) x10 x11 x13 x14 x15 x16 w' :=
 { h.still hb with h5 := fun _ => ⟨g, ⟨_, rfl, hk⟩, by
   obtain ⟨g', e, k⟩ := (h.h4 rfl).still hb
   simp only [Value.slice.injEq, Option.some.injEq, Addr.mk.injEq, and_true] at e
   rw [e]
   exact k⟩ }
theorem Cd.s11 (h : Cd V f1 f2 lv m4 m5 true m11 m13 m14 m15 m16 x4 x5 (.slice (some ⟨g, 0, none⟩) 1 1) x11 x13 x14 x15 x16 w) (hb : Below w.heap.size w w') (hk : w'.heap[w.heap.size]? = some (.cells #[.slice (some ⟨g, 0, none⟩) 1 1] 22 (0, 0))) : Cd V f1 f2 lv m4 m5 true true m13 m14 m15 m16 x4 x5 (.slice (some ⟨g, 0, none⟩) 1 1) (.func (.func 61) #[] #[.pointer (some ⟨w.heap.size, 0, none⟩)]) x13 x14 x15 x16 w' :=
 { h.still hb with h11 := fun _ => ⟨g, ⟨_, rfl, hk⟩, by
   obtain ⟨g', e, k⟩ := (h.h10 rfl).still hb
   simp only [Value.slice.injEq, Option.some.injEq, Addr.mk.injEq, and_true] at e
   rw [e]
   exact k⟩ }
theorem Cd.s13 (h : Cd V f1 f2 lv m4 m5 m10 m11 m13 m14 m15 m16 x4 x5 x10 x11 x13 x14 x15 x16 w) (hb : Below w.heap.size w w') (hk : w'.heap[w.heap.size]? = some (.cells #[lv] 22 (0, 0))) : Cd V f1 f2 lv m4 m5 m10 m11 true m14 m15 m16 x4 x5 x10 x11 (.func (.func 61) #[] #[.pointer (some ⟨w.heap.size, 0, none⟩)]) x14 x15 x16 w' :=
 { h.still hb with h13 := fun _ => ⟨_, rfl, hk⟩ }
theorem Cd.s14 (h : Cd V f1 f2 lv m4 m5 m10 m11 m13 m14 m15 m16 x4 x5 x10 x11 x13 x14 x15 x16 w) (hb : Below w.heap.size w w') (hk : w'.heap[w.heap.size]? = some (.cells #[y] 83 (0, 0))) : Cd V f1 f2 lv m4 m5 m10 m11 m13 true m15 m16 x4 x5 x10 x11 x13 (.pointer (some ⟨w.heap.size, 0, none⟩)) x15 x16 w' :=
 { h.still hb with h14 := fun _ => ⟨_, rfl, h.b.size, _, hk⟩, d1 := fun _ e => (h.h15 e).df, d2 := fun _ e => (h.h16 e).df }
theorem Cd.s15 (h : Cd V f1 f2 lv m4 m5 m10 m11 m13 m14 m15 m16 x4 x5 x10 x11 x13 x14 x15 x16 w) (hb : Below w.heap.size w w') (hk : w'.heap[w.heap.size]? = some (.cells #[y] 83 (0, 0))) : Cd V f1 f2 lv m4 m5 m10 m11 m13 m14 true m16 x4 x5 x10 x11 x13 x14 (.pointer (some ⟨w.heap.size, 0, none⟩)) x16 w' :=
 { h.still hb with h15 := fun _ => ⟨_, rfl, h.b.size, _, hk⟩, d1 := fun e _ => (h.h14 e).df.symm, d3 := fun _ e => (h.h16 e).df }
theorem Cd.s16 (h : Cd V f1 f2 lv m4 m5 m10 m11 m13 m14 m15 m16 x4 x5 x10 x11 x13 x14 x15 x16 w) (hb : Below w.heap.size w w') (hk : w'.heap[w.heap.size]? = some (.cells #[y] 83 (0, 0))) : Cd V f1 f2 lv m4 m5 m10 m11 m13 m14 m15 true x4 x5 x10 x11 x13 x14 x15 (.pointer (some ⟨w.heap.size, 0, none⟩)) w' :=
 { h.still hb with h16 := fun _ => ⟨_, rfl, h.b.size, _, hk⟩, d2 := fun e _ => (h.h14 e).df.symm, d3 := fun e _ => (h.h15 e).df.symm }
end
structure Du3 (V : World) (f1 f2 : Fl) (lv : Value) (p q r : Value) (w : World) : Prop where
 b : Below V.heap.size V w
 o : ∃ k1 k2 k3 b1 b2 b3 g1 g2, p = .pointer (some ⟨k1, 0, none⟩) ∧ q = .pointer (some ⟨k2, 0, none⟩) ∧ r = .pointer (some ⟨k3, 0, none⟩) ∧
  w.heap[k1]? = some (.cells #[.func (.func 61) #[] #[.pointer (some ⟨b1, 0, none⟩)]] 83 (0, 0)) ∧
  w.heap[k2]? = some (.cells #[.func (.func 61) #[] #[.pointer (some ⟨b2, 0, none⟩)]] 83 (0, 0)) ∧
  w.heap[k3]? = some (.cells #[.func (.func 61) #[] #[.pointer (some ⟨b3, 0, none⟩)]] 83 (0, 0)) ∧
  w.heap[b1]? = some (.cells #[.slice (some ⟨g1, 0, none⟩) 1 1] 22 (0, 0)) ∧ w.heap[g1]? = some (.cells f1.cs.toArray 28 (0, 0)) ∧
  w.heap[b2]? = some (.cells #[.slice (some ⟨g2, 0, none⟩) 1 1] 22 (0, 0)) ∧ w.heap[g2]? = some (.cells f2.cs.toArray 28 (0, 0)) ∧
  w.heap[b3]? = some (.cells #[lv] 22 (0, 0))
theorem obj_set {k j t t' : Nat} {C : Array Value} {y : Value} {i : Nat} (h : w.heap[j]? = some (.cells C t (0, 0))) (hk : ∃ v, w.heap[k]? = some (.cells #[v] t' (0, 0))) (hne : t ≠ t' ∨ j ≠ k) : (w.setCell ⟨k, i, none⟩ y).heap[j]? = some (.cells C t (0, 0)) := by
 have : j ≠ k := by
  rcases hne with h1 | h1
  ·rintro rfl
   obtain ⟨v, hk⟩ := hk
   rw [h] at hk
   simp at hk
   exact h1 hk.2
  ·exact h1
 exact blk_set_ne h this
theorem obj_new {k t : Nat} {v y : Value} (h : w.heap[k]? = some (.cells #[v] t (0, 0))) : (w.setCell ⟨k, 0, none⟩ y).heap[k]? = some (.cells #[y] t (0, 0)) := by
 exact blk_set h rfl
theorem Cd.fin {V : World} {f1 f2 : Fl} {lv x4 x5 x10 x11 x13 : Value} {k1 k2 k3 : Nat} (h : Cd V f1 f2 lv true true true true true true true true x4 x5 x10 x11 x13 (.pointer (some ⟨k1, 0, none⟩)) (.pointer (some ⟨k2, 0, none⟩)) (.pointer (some ⟨k3, 0, none⟩)) w) : Du3 V f1 f2 lv (.pointer (some ⟨k1, 0, none⟩)) (.pointer (some ⟨k2, 0, none⟩)) (.pointer (some ⟨k3, 0, none⟩)) (((w.setCell ⟨k1, 0, none⟩ x5).setCell ⟨k2, 0, none⟩ x11).setCell ⟨k3, 0, none⟩ x13) := by
 obtain ⟨g1, ⟨b1, rfl, hb1⟩, hg1⟩ := h.h5 rfl
 obtain ⟨g2, ⟨b2, rfl, hb2⟩, hg2⟩ := h.h11 rfl
 obtain ⟨b3, rfl, hb3⟩ := h.h13 rfl
 obtain ⟨j1, e1, l1, v1, q1⟩ := h.h14 rfl
 obtain ⟨j2, e2, l2, v2, q2⟩ := h.h15 rfl
 obtain ⟨j3, e3, l3, v3, q3⟩ := h.h16 rfl
 simp only [Value.pointer.injEq, Option.some.injEq, Addr.mk.injEq, and_true] at e1 e2 e3
 subst e1 e2 e3
 have n1 : k1 ≠ k2 := h.d1 rfl rfl k1 k2 rfl rfl
 have n2 : k1 ≠ k3 := h.d2 rfl rfl k1 k3 rfl rfl
 have n3 : k2 ≠ k3 := h.d3 rfl rfl k2 k3 rfl rfl
 have key : ∀ {j t : Nat} {C : Array Value}, w.heap[j]? = some (.cells C t (0, 0)) → t ≠ 83 → ∀ y1 y2 y3, (((w.setCell ⟨k1, 0, none⟩ y1).setCell ⟨k2, 0, none⟩ y2).setCell ⟨k3, 0, none⟩ y3).heap[j]? = some (.cells C t (0, 0)) := fun hj ht y1 y2 y3 => by
  have a1 := obj_set (i := 0) (y := y1) hj ⟨v1, q1⟩ (.inl ht)
  have q2' := obj_set (i := 0) (y := y1) q2 ⟨v1, q1⟩ (.inr n1.symm)
  have a2 := obj_set (i := 0) (y := y2) a1 ⟨v2, q2'⟩ (.inl ht)
  have q3' := obj_set (i := 0) (y := y1) q3 ⟨v1, q1⟩ (.inr n2.symm)
  have q3'' := obj_set (i := 0) (y := y2) q3' ⟨v2, q2'⟩ (.inr n3.symm)
  exact obj_set (i := 0) (y := y3) a2 ⟨v3, q3''⟩ (.inl ht)
 refine ⟨?_, k1, k2, k3, b1, b2, b3, g1, g2, rfl, rfl, rfl, ?_, ?_, ?_, key hb1 (by decide) _ _ _, key hg1 (by decide) _ _ _, key hb2 (by decide) _ _ _, key hg2 (by decide) _ _ _, key hb3 (by decide) _ _ _⟩
 ·have s1 := bset h.b l1 0 (.func (.func 61) #[] #[.pointer (some ⟨b1, 0, none⟩)])
  have s2 := bset s1 l2 0 (.func (.func 61) #[] #[.pointer (some ⟨b2, 0, none⟩)])
  exact bset s2 l3 0 (.func (.func 61) #[] #[.pointer (some ⟨b3, 0, none⟩)])
 ·have a1 := obj_new (y := .func (.func 61) #[] #[.pointer (some ⟨b1, 0, none⟩)]) q1
  have q2' := obj_set (i := 0) (y := .func (.func 61) #[] #[.pointer (some ⟨b1, 0, none⟩)]) q2 ⟨v1, q1⟩ (.inr n1.symm)
  have a2 := obj_set (i := 0) (y := .func (.func 61) #[] #[.pointer (some ⟨b2, 0, none⟩)]) a1 ⟨v2, q2'⟩ (.inr n1)
  have q3' := obj_set (i := 0) (y := .func (.func 61) #[] #[.pointer (some ⟨b1, 0, none⟩)]) q3 ⟨v1, q1⟩ (.inr n2.symm)
  have q3'' := obj_set (i := 0) (y := .func (.func 61) #[] #[.pointer (some ⟨b2, 0, none⟩)]) q3' ⟨v2, q2'⟩ (.inr n3.symm)
  exact obj_set a2 ⟨v3, q3''⟩ (.inr n2)
 ·have q2' := obj_set (i := 0) (y := .func (.func 61) #[] #[.pointer (some ⟨b1, 0, none⟩)]) q2 ⟨v1, q1⟩ (.inr n1.symm)
  have a2 := obj_new (y := .func (.func 61) #[] #[.pointer (some ⟨b2, 0, none⟩)]) q2'
  have q3' := obj_set (i := 0) (y := .func (.func 61) #[] #[.pointer (some ⟨b1, 0, none⟩)]) q3 ⟨v1, q1⟩ (.inr n2.symm)
  have q3'' := obj_set (i := 0) (y := .func (.func 61) #[] #[.pointer (some ⟨b2, 0, none⟩)]) q3' ⟨v2, q2'⟩ (.inr n3.symm)
  exact obj_set a2 ⟨v3, q3''⟩ (.inr n3)
 ·have q3' := obj_set (i := 0) (y := .func (.func 61) #[] #[.pointer (some ⟨b1, 0, none⟩)]) q3 ⟨v1, q1⟩ (.inr n2.symm)
  have q2' := obj_set (i := 0) (y := .func (.func 61) #[] #[.pointer (some ⟨b1, 0, none⟩)]) q2 ⟨v1, q1⟩ (.inr n1.symm)
  have q3'' := obj_set (i := 0) (y := .func (.func 61) #[] #[.pointer (some ⟨b2, 0, none⟩)]) q3' ⟨v2, q2'⟩ (.inr n3.symm)
  exact obj_new q3''
end
end Go.Proofs.Ytobaooebjgoaiaa.Fm
