import Derived.Test.YtobaooebjgoaiaaV00
import Derived.ChangeKeysEq
import Derived.Test.YtobaooebjgoaiaaV10
namespace Go.Proofs.Ytobaooebjgoaiaa.Mb
open Go.RowKit
set_option linter.unusedVariables false
set_option maxRecDepth 100000
set_option linter.unusedSimpArgs false
structure Pp where
 set : List Int
 cid : Int
 rev : Int
 top : Int
 prev : List Int
 vec : List Int
def Pp.fl (p : Pp) : List Int := p.set ++ (p.cid :: p.rev :: p.top :: (p.prev ++ p.vec))
structure Pp.L (p : Pp) : Prop where
 ls : p.set.length = 16
 lp : p.prev.length = 4
 lv : p.vec.length = 16
theorem Pp.L.fl {p : Pp} (h : p.L) : p.fl.length = 39 := by simp [Pp.fl, h.ls, h.lp, h.lv]
theorem Pp.inj {p q : Pp} (hp : p.L) (hq : q.L) (h : p.fl = q.fl) : p = q := by
 unfold Pp.fl at h
 obtain ⟨h1, h2⟩ := List.append_inj h (by rw [hp.ls, hq.ls])
 simp only [List.cons.injEq] at h2
 obtain ⟨h3, h4, h5, h6⟩ := h2
 obtain ⟨h7, h8⟩ := List.append_inj h6 (by rw [hp.lp, hq.lp])
 cases p; cases q; simp_all
theorem Pp.L.cid {p : Pp} (h : p.L) : p.fl.getD 16 0 = p.cid := by simp [Pp.fl, List.getD, List.getElem?_append, h.ls]
theorem Pp.L.rev {p : Pp} (h : p.L) : p.fl.getD 17 0 = p.rev := by simp [Pp.fl, List.getD, List.getElem?_append, h.ls]
theorem Pp.L.top {p : Pp} (h : p.L) : p.fl.getD 18 0 = p.top := by simp [Pp.fl, List.getD, List.getElem?_append, h.ls]
section
variable {w : World}
theorem part_i (xs : List Int) (i : Nat) (h : i < xs.length) : (part 3 (ints xs).toArray i).run Try.prog w = .ok (.int .i64 (xs.getD i 0)) w := by
 have hagg : (isAgg 3).run Try.prog w = .ok false w := by
  unfold isAgg
  rw [Sem.run_bind, run_underlying Try.underlying3 w]
  rfl
 unfold part
 simp only [Sem.run_bind, hagg, Result.andThen_ok, Bool.false_eq_true, if_false, List.getElem?_toArray, ints_at xs i h]
 rfl
theorem fields_id : (Try.prog.fieldsOf 24).toList.map (fun f => (f.name, f.type, f.offset)) = [("Epoch", 3, 0), ("Lead", 3, 1), ("Inc", 3, 2), ("Cid", 3, 3)] := by kernel_rfl
def eqF (d : Nat) (xs ys : Array Value) : List (String × TypeId × Nat) → Sem Bool
 | [] => pure true
 | (n, t, o) :: fs =>
  if n ≠ "_" then do
   let a ← part t xs o
   let b ← part t ys o
   let r ← Op.equalIn d t a b
   if (!r) = true then pure false else eqF d xs ys fs
  else eqF d xs ys fs
theorem eqF_eq (d : Nat) (xs ys : Array Value) : ∀ fs : List Field, Op.eqFields d xs ys fs = eqF d xs ys (fs.map fun f => (f.name, f.type, f.offset))
 | [] => rfl
 | f :: fs => by simp only [Op.eqFields, List.map_cons, eqF, eqF_eq d xs ys fs]
theorem under_id : Try.prog.underlying 24 = some (.struct (Try.prog.fieldsOf 24)) := by
 unfold Program.fieldsOf
 rw [Try.underlying24]
theorem stood_id : Try.prog.stoodInHeld 24 = false := by kernel_rfl
theorem list4 (xs : List Int) (h : xs.length = 4) : xs = [xs.getD 0 0, xs.getD 1 0, xs.getD 2 0, xs.getD 3 0] := by
 match xs, h with
 | [a, b, c, d], _ => rfl
theorem eq_id (d : Nat) (xs ys : List Int) (hx : xs.length = 4) (hy : ys.length = 4) : (Op.equalIn (d + 2) 24 (.agg (ints xs).toArray) (.agg (ints ys).toArray)).run Try.prog w = .ok (decide (xs = ys)) w := by
 rw [run_equalIn_struct w (d + 1) 24 _ _ under_id stood_id, eqF_eq, fields_id]
 simp only [eqF, ne_eq, reduceCtorEq, String.reduceEq, not_false_eq_true, if_true, Sem.run_bind, Sem.run_ite, Sem.run_pure, part_i xs 0 (by omega), part_i ys 0 (by omega), part_i xs 1 (by omega), part_i ys 1 (by omega), part_i xs 2 (by omega), part_i ys 2 (by omega), part_i xs 3 (by omega), part_i ys 3 (by omega), Result.andThen_ok, run_equalIn_int w d 3 .i64 .i64 _ _ Try.underlying3]
 have e : decide (xs = ys) = (xs.getD 0 0 == ys.getD 0 0 && xs.getD 1 0 == ys.getD 1 0 && xs.getD 2 0 == ys.getD 2 0 && xs.getD 3 0 == ys.getD 3 0) := by
  match xs, ys, hx, hy with
  | [a, b, c, d], [e, f, g, h], _, _ =>
   rw [Bool.eq_iff_iff]
   simp [and_assoc]
 rw [e]
 cases xs.getD 0 0 == ys.getD 0 0 <;> cases xs.getD 1 0 == ys.getD 1 0 <;> cases xs.getD 2 0 == ys.getD 2 0 <;> cases xs.getD 3 0 == ys.getD 3 0 <;> rfl
end
end Go.Proofs.Ytobaooebjgoaiaa.Mb
namespace Go.Proofs.Ytobaooebjgoaiaa.Fm
open Go.RowKit Go.Maps Mb
set_option linter.unusedVariables false
set_option maxRecDepth 100000
set_option linter.unusedSimpArgs false
section
variable {w w' W : World} {B : Nat}
theorem fields_slot : (Try.prog.fieldsOf 76).toList.map (fun f => (f.name, f.type, f.offset)) = [("Sender", 3, 0), ("Seq", 3, 1)] := by kernel_rfl
theorem under_slot : Try.prog.underlying 76 = some (.struct (Try.prog.fieldsOf 76)) := by
 unfold Program.fieldsOf
 rw [Try.underlying76]
theorem stood_slot : Try.prog.stoodInHeld 76 = false := by kernel_rfl
theorem eq_slot2 (d : Nat) (xs ys : List Int) (hx : xs.length = 2) (hy : ys.length = 2) : (Op.equalIn (d + 2) 76 (.agg (ints xs).toArray) (.agg (ints ys).toArray)).run Try.prog w = .ok (decide (xs = ys)) w := by
 rw [run_equalIn_struct w (d + 1) 76 _ _ under_slot stood_slot, eqF_eq, fields_slot]
 simp only [eqF, ne_eq, reduceCtorEq, String.reduceEq, not_false_eq_true, if_true, Sem.run_bind, Sem.run_ite, Sem.run_pure, part_i xs 0 (by omega), part_i ys 0 (by omega), part_i xs 1 (by omega), part_i ys 1 (by omega), Result.andThen_ok, run_equalIn_int w d 3 .i64 .i64 _ _ Try.underlying3]
 have e : decide (xs = ys) = (xs.getD 0 0 == ys.getD 0 0 && xs.getD 1 0 == ys.getD 1 0) := by
  match xs, ys, hx, hy with
  | [a, b], [e, f], _, _ =>
   rw [Bool.eq_iff_iff]
   simp [and_assoc]
 rw [e]
 cases xs.getD 0 0 == ys.getD 0 0 <;> cases xs.getD 1 0 == ys.getD 1 0 <;> rfl
theorem eq_slot (s t : Int × Int) : (Op.equalIn 10000 76 (.agg (slotV s).toArray) (.agg (slotV t).toArray)).run Try.prog w = .ok (decide (s = t)) w := by
 have h := eq_slot2 (w := w) 9998 [s.1, s.2] [t.1, t.2] rfl rfl
 have e : decide ([s.1, s.2] = [t.1, t.2]) = decide (s = t) := by
  obtain ⟨a, b⟩ := s
  obtain ⟨c, d⟩ := t
  rw [Bool.eq_iff_iff]
  simp
 rw [e] at h
 exact h
theorem eq_vid (s t : Vi) : (Op.equalIn 10000 24 (.agg s.cs.toArray) (.agg t.cs.toArray)).run Try.prog w = .ok (decide (s = t)) w := by
 have h := eq_id (w := w) 9998 [s.e, s.l, s.i, s.c] [t.e, t.l, t.i, t.c] rfl rfl
 have e : decide ([s.e, s.l, s.i, s.c] = [t.e, t.l, t.i, t.c]) = decide (s = t) := by
  obtain ⟨a1, a2, a3, a4⟩ := s
  obtain ⟨b1, b2, b3, b4⟩ := t
  rw [Bool.eq_iff_iff]
  simp
 rw [e] at h
 exact h
theorem guard_slot : Try.prog.eqGuardType Try.prog.depth 76 = false := by kernel_rfl
theorem guard_id : Try.prog.eqGuardType Try.prog.depth 24 = false := by kernel_rfl
end
end Go.Proofs.Ytobaooebjgoaiaa.Fm
namespace Go.Proofs.Ytobaooebjgoaiaa.Fm
open Go.RowKit Go.Maps Mb
set_option linter.unusedVariables false
set_option maxRecDepth 100000
set_option linter.unusedSimpArgs false
section
variable {w w' W : World} {B : Nat}
def forkR (a b : Co) (i : Nat) : Bool := (List.range b.sl.length).any fun j : Nat => (decide (a.base + (i : Int) = b.base + (j : Int))) != (decide (a.sl.getD i z2 = b.sl.getD j z2))
theorem fork_no {a b : Co} (h : ∀ i, i < a.sl.length → forkR a b i = false) : forkB a b = false := by
 unfold forkB
 rw [List.any_eq_false]
 intro i hi
 have := h i (List.mem_range.1 hi)
 unfold forkR at this
 rw [this]
 simp
theorem fork_yes {a b : Co} {i j : Nat} (hi : i < a.sl.length) (hj : j < b.sl.length) (h : ((decide (a.base + (i : Int) = b.base + (j : Int))) != (decide (a.sl.getD i z2 = b.sl.getD j z2))) = true) : forkB a b = true := by
 unfold forkB
 rw [List.any_eq_true]
 refine ⟨i, List.mem_range.2 hi, ?_⟩
 rw [List.any_eq_true]
 exact ⟨j, List.mem_range.2 hj, h⟩
theorem forkR_no {a b : Co} {i : Nat} (h : ∀ j : Nat, j < b.sl.length → ((decide (a.base + (i : Int) = b.base + (j : Int))) != (decide (a.sl.getD i z2 = b.sl.getD j z2))) = false) : forkR a b i = false := by
 unfold forkR
 rw [List.any_eq_false]
 intro j hj
 rw [h j (List.mem_range.1 hj)]
 simp
set_option maxHeartbeats 8000000 in
theorem qfork_any {f g : Fl} (hf : f.Rd w) (hg : g.Rd w) (sf : Snd f.c) (sg : Snd g.c) : Calls Try.prog 68 #[.agg f.cs.toArray, .agg g.cs.toArray] w fun e w' => e = .returned (.bool (forkB f.c g.c)) ∧ Below w.heap.size w w' := by
 generalize hW1 : w.alloc (.cells f.cs.toArray 28) = W1
 generalize hW2 : W1.alloc (.cells g.cs.toArray 28) = W2
 have b1 : Below w.heap.size w W1 := hW1 ▸ balloc (Below.refl _ _)
 have b2 : Below W1.heap.size W1 W2 := hW2 ▸ balloc (Below.refl _ _)
 have k1 : W1.heap[w.heap.size]? = some (.cells f.cs.toArray 28 (0, 0)) := by rw [← hW1]; exact heap_alloc_new w _
 have k2 : W2.heap[W1.heap.size]? = some (.cells g.cs.toArray 28 (0, 0)) := by rw [← hW2]; exact heap_alloc_new W1 _
 have k1' : W2.heap[w.heap.size]? = some (.cells f.cs.toArray 28 (0, 0)) := (b2.block _ (lt_heap k1)).trans k1
 have HF : Hid (f.Rd W2) := (hf.still b1).still b2
 have HG : Hid (g.Rd W2) := (hg.still b1).still b2
 have HB : Hid (Below w.heap.size w W2) := bstep b1 b2
 have HBz : Hid (w.heap.size ≤ W2.heap.size) := (bstep b1 b2).size
 have HC : Hid (∀ V : World, Below W2.heap.size W2 V → (V.cell? ⟨w.heap.size, 4, none⟩ = some (.int .i64 f.c.base) ∧ V.cell? ⟨w.heap.size, 5, none⟩ = some (.slice f.sa f.c.sl.length f.sc)) ∧ (V.cell? ⟨W1.heap.size, 4, none⟩ = some (.int .i64 g.c.base) ∧ V.cell? ⟨W1.heap.size, 5, none⟩ = some (.slice g.sa g.c.sl.length g.sc))) := fun V hV => ⟨⟨below_at hV (blk_cell k1' 4), below_at hV (blk_cell k1' 5)⟩, below_at hV (blk_cell k2 4), below_at hV (blk_cell k2 5)⟩
 have f1 := sf.bM
 have f2 := sf.b0
 have f3 := sf.s128
 have g1 := sg.bM
 have g2 := sg.b0
 have g3 := sg.s128
 have Hyes : Hid (∀ i j : Nat, i < f.c.sl.length → j < g.c.sl.length → ((decide (f.c.base + (i : Int) = g.c.base + (j : Int))) != (decide (f.c.sl.getD i z2 = g.c.sl.getD j z2))) = true → forkB f.c g.c = true) := fun i j hi hj h => fork_yes hi hj h
 have Hno : Hid ((∀ i, i < f.c.sl.length → forkR f.c g.c i = false) → forkB f.c g.c = false) := fork_no
 have HnR : Hid (∀ i : Nat, (∀ j : Nat, j < g.c.sl.length → ((decide (f.c.base + (i : Int) = g.c.base + (j : Int))) != (decide (f.c.sl.getD i z2 = g.c.sl.getD j z2))) = false) → forkR f.c g.c i = false) := fun i h => forkR_no h
 clear hf hg sf sg b1 b2 k1 k2 k1'
 generalize hfl : f.c.sl.length = fn at *
 generalize hgl : g.c.sl.length = gn at *
 have Hfl : Hid (f.c.sl.length = fn) := hfl
 have Hgl : Hid (g.c.sl.length = gn) := hgl
 generalize hfb : f.c.base = fb at *
 generalize hgb : g.c.base = gb at *
 generalize f.cs.toArray = pf at *
 generalize g.cs.toArray = pg at *
 generalize hR : forkB f.c g.c = rr at *
 clear hfl hgl hfb hgb hR
 obtain ⟨⟨e4, e5⟩, d4, d5⟩ := HC.out W2 (Below.refl _ _)
 go_enter Try.func68, Try.ntmps68
 go_wp2
 generalize hkf : w.heap.size = kf at *
 have Hkf : Hid (w.heap.size = kf) := hkf
 generalize hkg : W1.heap.size = kg at *
 clear hkf hkg hW1 hW2 e4 e5 d4 d5
 go_loopw [5] (fun i wr => ∃ j : Nat, j ≤ fn ∧ i = .int .i64 j ∧ (∀ k, k < j → forkR f.c g.c k = false) ∧ Below W2.heap.size W2 wr) (fun i _ => fn - (intOf i).toNat)
 case atStart => exact ⟨0, Nat.zero_le _, rfl, fun k hk => by omega, Below.refl _ _⟩
 case round =>
  obtain ⟨i, hi, rfl, hno, hb⟩ := hrel
  have HN : Hid (∀ k, k < i → forkR f.c g.c k = false) := hno
  have HW : Hid (Below W2.heap.size W2 wr) := hb
  clear hno hb
  obtain ⟨⟨e4, e5⟩, d4, d5⟩ := HC.out wr HW.out
  by_cases hlt : i < fn
  ·have i1 : (0 : Int) ≤ (i : Int) := Int.natCast_nonneg _
   have i2 : (i : Int) < (fn : Int) := by omega
   go_wp2
   clear e4 d4 d5
   go_loopw [6] (fun v wv => ∃ j : Nat, j ≤ gn ∧ v = .int .i64 j ∧ (∀ k : Nat, k < j → ((decide (fb + (i : Int) = gb + (k : Int))) != (decide (f.c.sl.getD i z2 = g.c.sl.getD k z2))) = false) ∧ Below W2.heap.size W2 wv) (fun v _ => gn - (intOf v).toNat)
   case atStart => exact ⟨0, Nat.zero_le _, rfl, fun k hk => by omega, HW.out⟩
   case round =>
    obtain ⟨j, hj, rfl, hno, hb⟩ := hrel
    have HM : Hid (∀ k : Nat, k < j → ((decide (fb + (i : Int) = gb + (k : Int))) != (decide (f.c.sl.getD i z2 = g.c.sl.getD k z2))) = false) := hno
    clear HW e5
    have HW : Hid (Below W2.heap.size W2 wr) := hb
    clear hno hb
    obtain ⟨⟨e4, e5⟩, d4, d5⟩ := HC.out wr HW.out
    by_cases hjt : j < gn
    ·have j1 : (0 : Int) ≤ (j : Int) := Int.natCast_nonneg _
     have j2 : (j : Int) < (gn : Int) := by omega
     obtain ⟨bf, of, hsf, rf, _, _⟩ := (HF.out.s.still HW.out).at (i := i) (by rw [Hfl.out]; exact hlt)
     obtain ⟨bg, og, hsg, rg, _, _⟩ := (HG.out.s.still HW.out).at (i := j) (by rw [Hgl.out]; exact hjt)
     rw [hsf] at e5
     rw [hsg] at d5
     have Hy : Hid (((decide (fb + (i : Int) = gb + (j : Int))) != (decide (f.c.sl.getD i z2 = g.c.sl.getD j z2))) = true → rr = true) := Hyes.out i j hlt hjt
     have Hn : Hid (((decide (fb + (i : Int) = gb + (j : Int))) != (decide (f.c.sl.getD i z2 = g.c.sl.getD j z2))) = false → ∀ k : Nat, k < j + 1 → ((decide (fb + (i : Int) = gb + (k : Int))) != (decide (f.c.sl.getD i z2 = g.c.sl.getD k z2))) = false) := fun h k hk => by
      by_cases e : k = j
      ·subst e; exact h
      ·exact HM.out k (by omega)
     have HEq : Hid (∀ W, (Op.equalIn 10000 76 (.agg (slotV (f.c.sl.getD i z2)).toArray) (.agg (slotV (g.c.sl.getD j z2)).toArray)).run Try.prog W = .ok (decide (f.c.sl.getD i z2 = g.c.sl.getD j z2)) W) := fun W => eq_slot _ _
     generalize hu : f.c.sl.getD i z2 = u at rf HEq Hy
     generalize hv : g.c.sl.getD j z2 = v at rg HEq Hy
     have Hn2 : Hid (((decide (fb + (i : Int) = gb + (j : Int))) != (decide (u = v))) = false → ∀ k : Nat, k < j + 1 → ((decide (fb + (i : Int) = gb + (k : Int))) != (decide (f.c.sl.getD i z2 = g.c.sl.getD k z2))) = false) := by rw [← hu, ← hv]; exact Hn.out
     have Hu : Hid (f.c.sl.getD i z2 = u) := hu
     clear Hn hu hv
     generalize hb2 : decide (u = v) = b2 at *
     clear hb2
     have rf2 : wr.drew.rangeAt bf (of + i * 2) (slotV u) := rf
     have rg2 : wr.drew.rangeAt bg (og + j * 2) (slotV v) := rg
     clear rf rg
     by_cases hp : fb + (i : Int) = gb + (j : Int)
     ·rw [decide_eq_true hp] at Hy Hn2
      cases b2 with
      | true =>
       have Hr : Hid (∀ k : Nat, k < j + 1 → ((decide (fb + (i : Int) = gb + (k : Int))) != (decide (f.c.sl.getD i z2 = g.c.sl.getD k z2))) = false) := Hn2.out rfl
       clear Hn2 Hy
       go_wp2_with (first | (refine wl_at 23 rfl ?_) | fail)
       refine wT9 ?_
       simp only [Act.put,gA9,gZ9,gC9,sA9,sZ9,sC9]
       refine wT9 ?_
       simp only [Act.put,gA9,gZ9,gC9,sA9,sZ9,sC9]
       refine wT9 ?_
       simp only [Act.put,gA9,gZ9,gC9,sA9,sZ9,sC9]
       refine wl_take (v := .int .i64 (fb + (i : Int))) (by kernel_rfl) (by go_simp; exact wrap_id (by omega) (by omega)) ?_
       simp only [Act.put,gA9,gZ9,gC9,sA9,sZ9,sC9]
       refine wT9 ?_
       simp only [Act.put,gA9,gZ9,gC9,sA9,sZ9,sC9]
       refine wT9 ?_
       simp only [Act.put,gA9,gZ9,gC9,sA9,sZ9,sC9]
       refine wT9 ?_
       simp only [Act.put,gA9,gZ9,gC9,sA9,sZ9,sC9]
       refine wl_take (v := .int .i64 (gb + (j : Int))) (by kernel_rfl) (by go_simp; exact wrap_id (by omega) (by omega)) ?_
       simp only [Act.put,gA9,gZ9,gC9,sA9,sZ9,sC9]
       refine wl_take (v := .bool true) (by kernel_rfl) (by first | (go_simp; done) | (go_simp; omega) | (go_simp; simp; omega)) ?_
       simp only [Act.put,gA9,gZ9,gC9,sA9,sZ9,sC9]
       refine wT9 ?_
       simp only [Act.put,gA9,gZ9,gC9,sA9,sZ9,sC9]
       refine ⟨?_⟩
       go_wp2_with (fail)
       refine wp_region_held_drew (S := (fun w' => w'.cell? ⟨kf, 5, none⟩ = some (.slice (some ⟨bf, of, none⟩) fn f.sc) ∧ w'.cell? ⟨kg, 5, none⟩ = some (.slice (some ⟨bg, og, none⟩) gn g.sc) ∧ w'.rangeAt bf (of + i * 2) (slotV u) ∧ w'.rangeAt bg (og + j * 2) (slotV v))) (by kernel_rfl) ⟨below_at (Below.refl _ _).drew e5, below_at (Below.refl _ _).drew d5, rf2, rg2⟩ (fun hHeld => ?_)
       simp only [Act.put, List.size_toArray, List.length_cons, List.length_nil, Nat.zero_add]
       refine wG9 0 (.pointer (some ⟨kf, 5, none⟩)) rfl hHeld ?_
       simp only [Act.put,gA9,gZ9,gC9,sA9,sZ9,sC9]
       refine wX9 1 (.slice (some ⟨bf, of, none⟩) fn f.sc) rfl (Or.inl ⟨by rfl, fun w' hS => by (obtain ⟨t1, t2, t3, t4⟩ := hS; go_simp)⟩) hHeld ?_
       simp only [Act.put,gA9,gZ9,gC9,sA9,sZ9,sC9]
       refine wG9 2 (.int .i64 (i : Int)) rfl hHeld ?_
       simp only [Act.put,gA9,gZ9,gC9,sA9,sZ9,sC9]
       refine wG9 3 (.pointer (some ⟨bf, of + i * 2, none⟩)) rfl hHeld ?_
       simp only [Act.put,gA9,gZ9,gC9,sA9,sZ9,sC9]
       refine wpAnyH_take (i := 4) (v := .agg (slotV u).toArray) rfl (by kernel_rfl) (by kernel_rfl) (by kernel_rfl) (fun _ _ _ h => h) (yieldsIf_load_mid (by rfl) 76 (.tmp 35) rfl bf (of + i * 2) (by rfl) (slotV u) _ (fun w' hS => hS.2.2.1) Try.underlying76 rfl info_slot) hHeld ?_
       simp only [Act.put,gA9,gZ9,gC9,sA9,sZ9,sC9]
       refine wG9 5 (.pointer (some ⟨kg, 5, none⟩)) rfl hHeld ?_
       simp only [Act.put,gA9,gZ9,gC9,sA9,sZ9,sC9]
       refine wX9 6 (.slice (some ⟨bg, og, none⟩) gn g.sc) rfl (Or.inl ⟨by rfl, fun w' hS => by (obtain ⟨t1, t2, t3, t4⟩ := hS; go_simp)⟩) hHeld ?_
       simp only [Act.put,gA9,gZ9,gC9,sA9,sZ9,sC9]
       refine wG9 7 (.int .i64 (j : Int)) rfl hHeld ?_
       simp only [Act.put,gA9,gZ9,gC9,sA9,sZ9,sC9]
       refine wG9 8 (.pointer (some ⟨bg, og + j * 2, none⟩)) rfl hHeld ?_
       simp only [Act.put,gA9,gZ9,gC9,sA9,sZ9,sC9]
       refine wpAnyH_take (i := 9) (v := .agg (slotV v).toArray) rfl (by kernel_rfl) (by kernel_rfl) (by kernel_rfl) (fun _ _ _ h => h) (yieldsIf_load_mid (by rfl) 76 (.tmp 40) rfl bg (og + j * 2) (by rfl) (slotV v) _ (fun w' hS => hS.2.2.2) Try.underlying76 rfl info_slot) hHeld ?_
       simp only [Act.put,gA9,gZ9,gC9,sA9,sZ9,sC9]
       refine wX9 10 (.bool true) rfl (Or.inl ⟨by rfl, fun w' hS => run_eqlop 76 (.tmp 36) (.tmp 41) 76 rfl _ _ (by rfl) (by rfl) guard_slot true (HEq.out _)⟩) hHeld ?_
       simp only [Act.put,gA9,gZ9,gC9,sA9,sZ9,sC9]
       refine wG9 11 (.bool true) rfl hHeld ?_
       simp only [Act.put,gA9,gZ9,gC9,sA9,sZ9,sC9]
       refine wpAnyH_done (by kernel_rfl) ?_ _
       clear hHeld
       have Hr2 := Hr.out
       rw [Hu.out] at Hr2
       have Hr3 : Hid _ := Hr2
       clear Hr2
       go_wp2
       exact ⟨⟨j + 1, by omega, by go_num, Hr3.out, HW.out.drew⟩, by simp [intOf]; omega⟩
      | false =>
       have Hr : Hid (rr = true) := Hy.out rfl
       clear Hn2 Hy
       go_wp2_with (first | (refine wl_at 23 rfl ?_) | fail)
       refine wT9 ?_
       simp only [Act.put,gA9,gZ9,gC9,sA9,sZ9,sC9]
       refine wT9 ?_
       simp only [Act.put,gA9,gZ9,gC9,sA9,sZ9,sC9]
       refine wT9 ?_
       simp only [Act.put,gA9,gZ9,gC9,sA9,sZ9,sC9]
       refine wl_take (v := .int .i64 (fb + (i : Int))) (by kernel_rfl) (by go_simp; exact wrap_id (by omega) (by omega)) ?_
       simp only [Act.put,gA9,gZ9,gC9,sA9,sZ9,sC9]
       refine wT9 ?_
       simp only [Act.put,gA9,gZ9,gC9,sA9,sZ9,sC9]
       refine wT9 ?_
       simp only [Act.put,gA9,gZ9,gC9,sA9,sZ9,sC9]
       refine wT9 ?_
       simp only [Act.put,gA9,gZ9,gC9,sA9,sZ9,sC9]
       refine wl_take (v := .int .i64 (gb + (j : Int))) (by kernel_rfl) (by go_simp; exact wrap_id (by omega) (by omega)) ?_
       simp only [Act.put,gA9,gZ9,gC9,sA9,sZ9,sC9]
       refine wl_take (v := .bool true) (by kernel_rfl) (by first | (go_simp; done) | (go_simp; omega) | (go_simp; simp; omega)) ?_
       simp only [Act.put,gA9,gZ9,gC9,sA9,sZ9,sC9]
       refine wT9 ?_
       simp only [Act.put,gA9,gZ9,gC9,sA9,sZ9,sC9]
       refine ⟨?_⟩
       go_wp2_with (fail)
       refine wp_region_held_drew (S := (fun w' => w'.cell? ⟨kf, 5, none⟩ = some (.slice (some ⟨bf, of, none⟩) fn f.sc) ∧ w'.cell? ⟨kg, 5, none⟩ = some (.slice (some ⟨bg, og, none⟩) gn g.sc) ∧ w'.rangeAt bf (of + i * 2) (slotV u) ∧ w'.rangeAt bg (og + j * 2) (slotV v))) (by kernel_rfl) ⟨below_at (Below.refl _ _).drew e5, below_at (Below.refl _ _).drew d5, rf2, rg2⟩ (fun hHeld => ?_)
       simp only [Act.put, List.size_toArray, List.length_cons, List.length_nil, Nat.zero_add]
       refine wG9 0 (.pointer (some ⟨kf, 5, none⟩)) rfl hHeld ?_
       simp only [Act.put,gA9,gZ9,gC9,sA9,sZ9,sC9]
       refine wX9 1 (.slice (some ⟨bf, of, none⟩) fn f.sc) rfl (Or.inl ⟨by rfl, fun w' hS => by (obtain ⟨t1, t2, t3, t4⟩ := hS; go_simp)⟩) hHeld ?_
       simp only [Act.put,gA9,gZ9,gC9,sA9,sZ9,sC9]
       refine wG9 2 (.int .i64 (i : Int)) rfl hHeld ?_
       simp only [Act.put,gA9,gZ9,gC9,sA9,sZ9,sC9]
       refine wG9 3 (.pointer (some ⟨bf, of + i * 2, none⟩)) rfl hHeld ?_
       simp only [Act.put,gA9,gZ9,gC9,sA9,sZ9,sC9]
       refine wpAnyH_take (i := 4) (v := .agg (slotV u).toArray) rfl (by kernel_rfl) (by kernel_rfl) (by kernel_rfl) (fun _ _ _ h => h) (yieldsIf_load_mid (by rfl) 76 (.tmp 35) rfl bf (of + i * 2) (by rfl) (slotV u) _ (fun w' hS => hS.2.2.1) Try.underlying76 rfl info_slot) hHeld ?_
       simp only [Act.put,gA9,gZ9,gC9,sA9,sZ9,sC9]
       refine wG9 5 (.pointer (some ⟨kg, 5, none⟩)) rfl hHeld ?_
       simp only [Act.put,gA9,gZ9,gC9,sA9,sZ9,sC9]
       refine wX9 6 (.slice (some ⟨bg, og, none⟩) gn g.sc) rfl (Or.inl ⟨by rfl, fun w' hS => by (obtain ⟨t1, t2, t3, t4⟩ := hS; go_simp)⟩) hHeld ?_
       simp only [Act.put,gA9,gZ9,gC9,sA9,sZ9,sC9]
       refine wG9 7 (.int .i64 (j : Int)) rfl hHeld ?_
       simp only [Act.put,gA9,gZ9,gC9,sA9,sZ9,sC9]
       refine wG9 8 (.pointer (some ⟨bg, og + j * 2, none⟩)) rfl hHeld ?_
       simp only [Act.put,gA9,gZ9,gC9,sA9,sZ9,sC9]
       refine wpAnyH_take (i := 9) (v := .agg (slotV v).toArray) rfl (by kernel_rfl) (by kernel_rfl) (by kernel_rfl) (fun _ _ _ h => h) (yieldsIf_load_mid (by rfl) 76 (.tmp 40) rfl bg (og + j * 2) (by rfl) (slotV v) _ (fun w' hS => hS.2.2.2) Try.underlying76 rfl info_slot) hHeld ?_
       simp only [Act.put,gA9,gZ9,gC9,sA9,sZ9,sC9]
       refine wX9 10 (.bool false) rfl (Or.inl ⟨by rfl, fun w' hS => run_eqlop 76 (.tmp 36) (.tmp 41) 76 rfl _ _ (by rfl) (by rfl) guard_slot false (HEq.out _)⟩) hHeld ?_
       simp only [Act.put,gA9,gZ9,gC9,sA9,sZ9,sC9]
       refine wG9 11 (.bool false) rfl hHeld ?_
       simp only [Act.put,gA9,gZ9,gC9,sA9,sZ9,sC9]
       refine wpAnyH_done (by kernel_rfl) ?_ _
       clear hHeld
       go_wp2
       go_ret
       exact ⟨congrArg (fun b => Ending.returned (.bool b)) Hr.out.symm, by rw [Hkf.out]; exact (HB.out.trans (HW.out.mono HBz.out)).drew⟩
     ·rw [decide_eq_false hp] at Hy Hn2
      cases b2 with
      | true =>
       have Hr : Hid (rr = true) := Hy.out rfl
       clear Hn2 Hy
       go_wp2_with (first | (refine wl_at 23 rfl ?_) | fail)
       refine wT9 ?_
       simp only [Act.put,gA9,gZ9,gC9,sA9,sZ9,sC9]
       refine wT9 ?_
       simp only [Act.put,gA9,gZ9,gC9,sA9,sZ9,sC9]
       refine wT9 ?_
       simp only [Act.put,gA9,gZ9,gC9,sA9,sZ9,sC9]
       refine wl_take (v := .int .i64 (fb + (i : Int))) (by kernel_rfl) (by go_simp; exact wrap_id (by omega) (by omega)) ?_
       simp only [Act.put,gA9,gZ9,gC9,sA9,sZ9,sC9]
       refine wT9 ?_
       simp only [Act.put,gA9,gZ9,gC9,sA9,sZ9,sC9]
       refine wT9 ?_
       simp only [Act.put,gA9,gZ9,gC9,sA9,sZ9,sC9]
       refine wT9 ?_
       simp only [Act.put,gA9,gZ9,gC9,sA9,sZ9,sC9]
       refine wl_take (v := .int .i64 (gb + (j : Int))) (by kernel_rfl) (by go_simp; exact wrap_id (by omega) (by omega)) ?_
       simp only [Act.put,gA9,gZ9,gC9,sA9,sZ9,sC9]
       refine wl_take (v := .bool false) (by kernel_rfl) (by first | (go_simp; done) | (go_simp; omega) | (go_simp; simp; omega)) ?_
       simp only [Act.put,gA9,gZ9,gC9,sA9,sZ9,sC9]
       refine wT9 ?_
       simp only [Act.put,gA9,gZ9,gC9,sA9,sZ9,sC9]
       refine ⟨?_⟩
       go_wp2_with (fail)
       refine wp_region_held_drew (S := (fun w' => w'.cell? ⟨kf, 5, none⟩ = some (.slice (some ⟨bf, of, none⟩) fn f.sc) ∧ w'.cell? ⟨kg, 5, none⟩ = some (.slice (some ⟨bg, og, none⟩) gn g.sc) ∧ w'.rangeAt bf (of + i * 2) (slotV u) ∧ w'.rangeAt bg (og + j * 2) (slotV v))) (by kernel_rfl) ⟨below_at (Below.refl _ _).drew e5, below_at (Below.refl _ _).drew d5, rf2, rg2⟩ (fun hHeld => ?_)
       simp only [Act.put, List.size_toArray, List.length_cons, List.length_nil, Nat.zero_add]
       refine wG9 0 (.pointer (some ⟨kf, 5, none⟩)) rfl hHeld ?_
       simp only [Act.put,gA9,gZ9,gC9,sA9,sZ9,sC9]
       refine wX9 1 (.slice (some ⟨bf, of, none⟩) fn f.sc) rfl (Or.inl ⟨by rfl, fun w' hS => by (obtain ⟨t1, t2, t3, t4⟩ := hS; go_simp)⟩) hHeld ?_
       simp only [Act.put,gA9,gZ9,gC9,sA9,sZ9,sC9]
       refine wG9 2 (.int .i64 (i : Int)) rfl hHeld ?_
       simp only [Act.put,gA9,gZ9,gC9,sA9,sZ9,sC9]
       refine wG9 3 (.pointer (some ⟨bf, of + i * 2, none⟩)) rfl hHeld ?_
       simp only [Act.put,gA9,gZ9,gC9,sA9,sZ9,sC9]
       refine wpAnyH_take (i := 4) (v := .agg (slotV u).toArray) rfl (by kernel_rfl) (by kernel_rfl) (by kernel_rfl) (fun _ _ _ h => h) (yieldsIf_load_mid (by rfl) 76 (.tmp 35) rfl bf (of + i * 2) (by rfl) (slotV u) _ (fun w' hS => hS.2.2.1) Try.underlying76 rfl info_slot) hHeld ?_
       simp only [Act.put,gA9,gZ9,gC9,sA9,sZ9,sC9]
       refine wG9 5 (.pointer (some ⟨kg, 5, none⟩)) rfl hHeld ?_
       simp only [Act.put,gA9,gZ9,gC9,sA9,sZ9,sC9]
       refine wX9 6 (.slice (some ⟨bg, og, none⟩) gn g.sc) rfl (Or.inl ⟨by rfl, fun w' hS => by (obtain ⟨t1, t2, t3, t4⟩ := hS; go_simp)⟩) hHeld ?_
       simp only [Act.put,gA9,gZ9,gC9,sA9,sZ9,sC9]
       refine wG9 7 (.int .i64 (j : Int)) rfl hHeld ?_
       simp only [Act.put,gA9,gZ9,gC9,sA9,sZ9,sC9]
       refine wG9 8 (.pointer (some ⟨bg, og + j * 2, none⟩)) rfl hHeld ?_
       simp only [Act.put,gA9,gZ9,gC9,sA9,sZ9,sC9]
       refine wpAnyH_take (i := 9) (v := .agg (slotV v).toArray) rfl (by kernel_rfl) (by kernel_rfl) (by kernel_rfl) (fun _ _ _ h => h) (yieldsIf_load_mid (by rfl) 76 (.tmp 40) rfl bg (og + j * 2) (by rfl) (slotV v) _ (fun w' hS => hS.2.2.2) Try.underlying76 rfl info_slot) hHeld ?_
       simp only [Act.put,gA9,gZ9,gC9,sA9,sZ9,sC9]
       refine wX9 10 (.bool true) rfl (Or.inl ⟨by rfl, fun w' hS => run_eqlop 76 (.tmp 36) (.tmp 41) 76 rfl _ _ (by rfl) (by rfl) guard_slot true (HEq.out _)⟩) hHeld ?_
       simp only [Act.put,gA9,gZ9,gC9,sA9,sZ9,sC9]
       refine wG9 11 (.bool true) rfl hHeld ?_
       simp only [Act.put,gA9,gZ9,gC9,sA9,sZ9,sC9]
       refine wpAnyH_done (by kernel_rfl) ?_ _
       clear hHeld
       go_wp2
       go_ret
       exact ⟨congrArg (fun b => Ending.returned (.bool b)) Hr.out.symm, by rw [Hkf.out]; exact (HB.out.trans (HW.out.mono HBz.out)).drew⟩
      | false =>
       have Hr : Hid (∀ k : Nat, k < j + 1 → ((decide (fb + (i : Int) = gb + (k : Int))) != (decide (f.c.sl.getD i z2 = g.c.sl.getD k z2))) = false) := Hn2.out rfl
       clear Hn2 Hy
       go_wp2_with (first | (refine wl_at 23 rfl ?_) | fail)
       refine wT9 ?_
       simp only [Act.put,gA9,gZ9,gC9,sA9,sZ9,sC9]
       refine wT9 ?_
       simp only [Act.put,gA9,gZ9,gC9,sA9,sZ9,sC9]
       refine wT9 ?_
       simp only [Act.put,gA9,gZ9,gC9,sA9,sZ9,sC9]
       refine wl_take (v := .int .i64 (fb + (i : Int))) (by kernel_rfl) (by go_simp; exact wrap_id (by omega) (by omega)) ?_
       simp only [Act.put,gA9,gZ9,gC9,sA9,sZ9,sC9]
       refine wT9 ?_
       simp only [Act.put,gA9,gZ9,gC9,sA9,sZ9,sC9]
       refine wT9 ?_
       simp only [Act.put,gA9,gZ9,gC9,sA9,sZ9,sC9]
       refine wT9 ?_
       simp only [Act.put,gA9,gZ9,gC9,sA9,sZ9,sC9]
       refine wl_take (v := .int .i64 (gb + (j : Int))) (by kernel_rfl) (by go_simp; exact wrap_id (by omega) (by omega)) ?_
       simp only [Act.put,gA9,gZ9,gC9,sA9,sZ9,sC9]
       refine wl_take (v := .bool false) (by kernel_rfl) (by first | (go_simp; done) | (go_simp; omega) | (go_simp; simp; omega)) ?_
       simp only [Act.put,gA9,gZ9,gC9,sA9,sZ9,sC9]
       refine wT9 ?_
       simp only [Act.put,gA9,gZ9,gC9,sA9,sZ9,sC9]
       refine ⟨?_⟩
       go_wp2_with (fail)
       refine wp_region_held_drew (S := (fun w' => w'.cell? ⟨kf, 5, none⟩ = some (.slice (some ⟨bf, of, none⟩) fn f.sc) ∧ w'.cell? ⟨kg, 5, none⟩ = some (.slice (some ⟨bg, og, none⟩) gn g.sc) ∧ w'.rangeAt bf (of + i * 2) (slotV u) ∧ w'.rangeAt bg (og + j * 2) (slotV v))) (by kernel_rfl) ⟨below_at (Below.refl _ _).drew e5, below_at (Below.refl _ _).drew d5, rf2, rg2⟩ (fun hHeld => ?_)
       simp only [Act.put, List.size_toArray, List.length_cons, List.length_nil, Nat.zero_add]
       refine wG9 0 (.pointer (some ⟨kf, 5, none⟩)) rfl hHeld ?_
       simp only [Act.put,gA9,gZ9,gC9,sA9,sZ9,sC9]
       refine wX9 1 (.slice (some ⟨bf, of, none⟩) fn f.sc) rfl (Or.inl ⟨by rfl, fun w' hS => by (obtain ⟨t1, t2, t3, t4⟩ := hS; go_simp)⟩) hHeld ?_
       simp only [Act.put,gA9,gZ9,gC9,sA9,sZ9,sC9]
       refine wG9 2 (.int .i64 (i : Int)) rfl hHeld ?_
       simp only [Act.put,gA9,gZ9,gC9,sA9,sZ9,sC9]
       refine wG9 3 (.pointer (some ⟨bf, of + i * 2, none⟩)) rfl hHeld ?_
       simp only [Act.put,gA9,gZ9,gC9,sA9,sZ9,sC9]
       refine wpAnyH_take (i := 4) (v := .agg (slotV u).toArray) rfl (by kernel_rfl) (by kernel_rfl) (by kernel_rfl) (fun _ _ _ h => h) (yieldsIf_load_mid (by rfl) 76 (.tmp 35) rfl bf (of + i * 2) (by rfl) (slotV u) _ (fun w' hS => hS.2.2.1) Try.underlying76 rfl info_slot) hHeld ?_
       simp only [Act.put,gA9,gZ9,gC9,sA9,sZ9,sC9]
       refine wG9 5 (.pointer (some ⟨kg, 5, none⟩)) rfl hHeld ?_
       simp only [Act.put,gA9,gZ9,gC9,sA9,sZ9,sC9]
       refine wX9 6 (.slice (some ⟨bg, og, none⟩) gn g.sc) rfl (Or.inl ⟨by rfl, fun w' hS => by (obtain ⟨t1, t2, t3, t4⟩ := hS; go_simp)⟩) hHeld ?_
       simp only [Act.put,gA9,gZ9,gC9,sA9,sZ9,sC9]
       refine wG9 7 (.int .i64 (j : Int)) rfl hHeld ?_
       simp only [Act.put,gA9,gZ9,gC9,sA9,sZ9,sC9]
       refine wG9 8 (.pointer (some ⟨bg, og + j * 2, none⟩)) rfl hHeld ?_
       simp only [Act.put,gA9,gZ9,gC9,sA9,sZ9,sC9]
       refine wpAnyH_take (i := 9) (v := .agg (slotV v).toArray) rfl (by kernel_rfl) (by kernel_rfl) (by kernel_rfl) (fun _ _ _ h => h) (yieldsIf_load_mid (by rfl) 76 (.tmp 40) rfl bg (og + j * 2) (by rfl) (slotV v) _ (fun w' hS => hS.2.2.2) Try.underlying76 rfl info_slot) hHeld ?_
       simp only [Act.put,gA9,gZ9,gC9,sA9,sZ9,sC9]
       refine wX9 10 (.bool false) rfl (Or.inl ⟨by rfl, fun w' hS => run_eqlop 76 (.tmp 36) (.tmp 41) 76 rfl _ _ (by rfl) (by rfl) guard_slot false (HEq.out _)⟩) hHeld ?_
       simp only [Act.put,gA9,gZ9,gC9,sA9,sZ9,sC9]
       refine wG9 11 (.bool false) rfl hHeld ?_
       simp only [Act.put,gA9,gZ9,gC9,sA9,sZ9,sC9]
       refine wpAnyH_done (by kernel_rfl) ?_ _
       clear hHeld
       have Hr2 := Hr.out
       rw [Hu.out] at Hr2
       have Hr3 : Hid _ := Hr2
       clear Hr2
       go_wp2
       exact ⟨⟨j + 1, by omega, by go_num, Hr3.out, HW.out.drew⟩, by simp [intOf]; omega⟩
    ·obtain rfl : gn = j := by omega
     have HR : Hid (∀ k, k < i + 1 → forkR f.c g.c k = false) := fun k hk => by
      by_cases e : k = i
      ·subst e; exact HnR.out _ HM.out
      ·exact HN.out k (by omega)
     go_wp2
     exact ⟨⟨i + 1, by omega, by go_num, HR.out, HW.out⟩, by simp [intOf]; omega⟩
  ·obtain rfl : fn = i := by omega
   have HR : Hid (rr = false) := Hno.out HN.out
   go_wp2
   go_ret
   exact ⟨congrArg (fun b => Ending.returned (.bool b)) HR.out.symm, by rw [Hkf.out]; exact HB.out.trans (HW.out.mono HBz.out)⟩
end
end Go.Proofs.Ytobaooebjgoaiaa.Fm
