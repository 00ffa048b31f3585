import Derived.Test.YtpkcgjnaegaecaaAa
import Derived.ChangeKeysEq
namespace Go.Proofs.Ytpkcgjnaegaecaa.Mb
open Go.RowKit
set_option linter.unusedVariables false
set_option maxRecDepth 100000
set_option linter.unusedSimpArgs false

structure Pp where
  set : List Int
  cid : Int
  rev : Int
  top : Int
  prev : List Int
  vec : List Int
def Pp.fl (p : Pp) : List Int := p.set ++ (p.cid :: p.rev :: p.top :: (p.prev ++ p.vec))
structure Pp.L (p : Pp) : Prop where
  ls : p.set.length = 16
  lp : p.prev.length = 4
  lv : p.vec.length = 16
theorem Pp.L.fl {p : Pp} (h : p.L) : p.fl.length = 39 := by simp [Pp.fl, h.ls, h.lp, h.lv]
theorem Pp.inj {p q : Pp} (hp : p.L) (hq : q.L) (h : p.fl = q.fl) : p = q := by
  unfold Pp.fl at h
  obtain ⟨h1, h2⟩ := List.append_inj h (by rw [hp.ls, hq.ls])
  simp only [List.cons.injEq] at h2
  obtain ⟨h3, h4, h5, h6⟩ := h2
  obtain ⟨h7, h8⟩ := List.append_inj h6 (by rw [hp.lp, hq.lp])
  cases p; cases q; simp_all
theorem Pp.L.at_set {p : Pp} (h : p.L) (j : Nat) (hj : j < 16) : p.fl.getD j 0 = p.set.getD j 0 := by
  simp [Pp.fl, List.getD, List.getElem?_append, h.ls, hj]
theorem Pp.L.cid {p : Pp} (h : p.L) : p.fl.getD 16 0 = p.cid := by simp [Pp.fl, List.getD, List.getElem?_append, h.ls]
theorem Pp.L.rev {p : Pp} (h : p.L) : p.fl.getD 17 0 = p.rev := by simp [Pp.fl, List.getD, List.getElem?_append, h.ls]
theorem Pp.L.top {p : Pp} (h : p.L) : p.fl.getD 18 0 = p.top := by simp [Pp.fl, List.getD, List.getElem?_append, h.ls]
theorem Pp.L.at_prev {p : Pp} (h : p.L) (j : Nat) (hj : j < 4) : p.fl.getD (19 + j) 0 = p.prev.getD j 0 := by
  simp [Pp.fl, List.getD, List.getElem?_append, h.ls, h.lp, show ¬ 19 + j < 16 by omega, show 19 + j - 16 = j + 3 by omega, hj]
theorem Pp.L.at_vec {p : Pp} (h : p.L) (j : Nat) (hj : j < 16) : p.fl.getD (23 + j) 0 = p.vec.getD j 0 := by
  simp [Pp.fl, List.getD, List.getElem?_append, h.ls, h.lp, show ¬ 23 + j < 16 by omega, show 23 + j - 16 = j + 7 by omega, show ¬ j + 4 < 4 by omega]
theorem Pp.L.set_cid {p : Pp} (h : p.L) (x : Int) : p.fl.set 16 x = ({ p with cid := x } : Pp).fl := by
  simp [Pp.fl, List.set_append, h.ls]
theorem Pp.L.set_rev {p : Pp} (h : p.L) (x : Int) : p.fl.set 17 x = ({ p with rev := x } : Pp).fl := by
  simp [Pp.fl, List.set_append, h.ls]
theorem Pp.L.set_top {p : Pp} (h : p.L) (x : Int) : p.fl.set 18 x = ({ p with top := x } : Pp).fl := by
  simp [Pp.fl, List.set_append, h.ls]
theorem Pp.L.put_set {p : Pp} (h : p.L) (s : List Int) (hs : s.length = 16) : p.fl.take 0 ++ s ++ p.fl.drop (0 + s.length) = ({ p with set := s } : Pp).fl := by
  simp [Pp.fl, hs, List.drop_append, h.ls]
theorem Pp.L.put_vec {p : Pp} (h : p.L) (s : List Int) (hs : s.length = 16) : p.fl.take 23 ++ s ++ p.fl.drop (23 + s.length) = ({ p with vec := s } : Pp).fl := by
  rw [List.drop_of_length_le (by rw [h.fl, hs]; omega), List.append_nil]
  simp [Pp.fl, List.take_append, h.ls, h.lp]
  rw [List.take_of_length_le (by rw [h.ls]; omega)]
theorem Pp.L.put_prev {p : Pp} (h : p.L) (s : List Int) (hs : s.length = 4) : p.fl.take 19 ++ s ++ p.fl.drop (19 + s.length) = ({ p with prev := s } : Pp).fl := by
  simp [Pp.fl, List.take_append, List.drop_append, h.ls, h.lp, hs]
  rw [List.take_of_length_le (by rw [h.ls]; omega), List.drop_of_length_le (by rw [h.ls]; omega)]
  simp

section
variable {w : World}
theorem cells_i : Try.prog.cellsOf 3 = 1 := by kernel_rfl
theorem info_iS : ∃ i, Try.prog.info? 3 = some i := by
  have : (Try.prog.info? 3).isSome = true := by kernel_rfl
  exact Option.isSome_iff_exists.1 this
theorem part_i (xs : List Int) (i : Nat) (h : i < xs.length) : (part 3 (ints xs).toArray i).run Try.prog w = .ok (.int .i64 (xs.getD i 0)) w := by
  have hagg : (isAgg 3).run Try.prog w = .ok false w := by
    unfold isAgg
    rw [Sem.run_bind, run_underlying Try.underlying3 w]
    rfl
  unfold part
  simp only [Sem.run_bind, hagg, Result.andThen_ok, Bool.false_eq_true, if_false, List.getElem?_toArray, ints_at xs i h]
  rfl
theorem items_i (d : Nat) (xs ys : List Int) : ∀ (is : List Nat), (∀ i ∈ is, i < xs.length ∧ i < ys.length) → (Op.eqItems (d + 1) 3 1 (ints xs).toArray (ints ys).toArray is).run Try.prog w = .ok (is.all fun i => xs.getD i 0 == ys.getD i 0) w
  | [], _ => by simp [Op.eqItems]
  | i :: is, h => by
    have h1 := h i (by simp)
    have ih := items_i d xs ys is (fun j hj => h j (by simp [hj]))
    simp only [Op.eqItems, Sem.run_bind, Nat.mul_one, part_i xs i h1.1, part_i ys i h1.2, Result.andThen_ok, run_equalIn_int w d 3 .i64 .i64 _ _ Try.underlying3, List.all_cons]
    cases hb : (xs.getD i 0 == ys.getD i 0)
    · simp
    · simpa using ih
theorem all_range (xs ys : List Int) (n : Nat) (hx : xs.length = n) (hy : ys.length = n) : ((List.range n).all fun i => xs.getD i 0 == ys.getD i 0) = decide (xs = ys) := by
  rw [Bool.eq_iff_iff, List.all_eq_true, decide_eq_true_iff]
  constructor
  · intro h
    apply List.ext_getElem (by omega)
    intro i h1 h2
    have := h i (List.mem_range.2 (by omega))
    simpa [List.getD, h1, h2] using this
  · rintro rfl i hi
    simp
theorem part_id (cs : Array Value) (o : Nat) : (part 33 cs o).run Try.prog w = .ok (.agg (cs.extract o (o + 4))) w := by
  have hagg : (isAgg 33).run Try.prog w = .ok true w := by
    unfold isAgg
    rw [Sem.run_bind, run_underlying Try.underlying33 w]
    rfl
  have hs : (sizeOf 33).run Try.prog w = .ok 4 w := by
    have h : (Try.prog.info? 33).map (·.size) = some 4 := by kernel_rfl
    cases hq : Try.prog.info? 33 with
    | none => simp [hq] at h
    | some i => simp [hq] at h; simp [sizeOf, typeInfo, hq, h]
  unfold part
  simp only [Sem.run_bind, hagg, hs, Result.andThen_ok, if_true, Sem.run_pure]
theorem fields_id : (Try.prog.fieldsOf 33).toList.map (fun f => (f.name, f.type, f.offset)) = [("Epoch", 3, 0), ("Lead", 3, 1), ("Inc", 3, 2), ("Cid", 3, 3)] := by kernel_rfl
def eqF (d : Nat) (xs ys : Array Value) : List (String × TypeId × Nat) → Sem Bool
  | [] => pure true
  | (n, t, o) :: fs =>
    if n ≠ "_" then do
      let a ← part t xs o
      let b ← part t ys o
      let r ← Op.equalIn d t a b
      if (!r) = true then pure false else eqF d xs ys fs
    else eqF d xs ys fs
theorem eqF_eq (d : Nat) (xs ys : Array Value) : ∀ fs : List Field, Op.eqFields d xs ys fs = eqF d xs ys (fs.map fun f => (f.name, f.type, f.offset))
  | [] => rfl
  | f :: fs => by simp only [Op.eqFields, List.map_cons, eqF, eqF_eq d xs ys fs]
theorem under_id : Try.prog.underlying 33 = some (.struct (Try.prog.fieldsOf 33)) := by
  unfold Program.fieldsOf
  rw [Try.underlying33]
theorem stood_id : Try.prog.stoodInHeld 33 = false := by kernel_rfl
theorem list4 (xs : List Int) (h : xs.length = 4) : xs = [xs.getD 0 0, xs.getD 1 0, xs.getD 2 0, xs.getD 3 0] := by
  match xs, h with
  | [a, b, c, d], _ => rfl
theorem eq_id (d : Nat) (xs ys : List Int) (hx : xs.length = 4) (hy : ys.length = 4) : (Op.equalIn (d + 2) 33 (.agg (ints xs).toArray) (.agg (ints ys).toArray)).run Try.prog w = .ok (decide (xs = ys)) w := by
  rw [run_equalIn_struct w (d + 1) 33 _ _ under_id stood_id, eqF_eq, fields_id]
  simp only [eqF, ne_eq, reduceCtorEq, String.reduceEq, not_false_eq_true, if_true, Sem.run_bind, Sem.run_ite, Sem.run_pure, part_i xs 0 (by omega), part_i ys 0 (by omega), part_i xs 1 (by omega), part_i ys 1 (by omega), part_i xs 2 (by omega), part_i ys 2 (by omega), part_i xs 3 (by omega), part_i ys 3 (by omega), Result.andThen_ok, run_equalIn_int w d 3 .i64 .i64 _ _ Try.underlying3]
  have e : decide (xs = ys) = (xs.getD 0 0 == ys.getD 0 0 && xs.getD 1 0 == ys.getD 1 0 && xs.getD 2 0 == ys.getD 2 0 && xs.getD 3 0 == ys.getD 3 0) := by
    match xs, ys, hx, hy with
    | [a, b, c, d], [e, f, g, h], _, _ =>
      rw [Bool.eq_iff_iff]
      simp [and_assoc]
  rw [e]
  cases xs.getD 0 0 == ys.getD 0 0 <;> cases xs.getD 1 0 == ys.getD 1 0 <;> cases xs.getD 2 0 == ys.getD 2 0 <;> cases xs.getD 3 0 == ys.getD 3 0 <;> rfl
theorem ints_extract (xs : List Int) (a b : Nat) : (ints xs).toArray.extract a b = (ints ((xs.drop a).take (b - a))).toArray := by
  simp [ints, List.map_take, List.map_drop]
theorem Pp.L.x_set {p : Pp} (h : p.L) : (p.fl.drop 0).take (0 + 16 - 0) = p.set := by
  simp [Pp.fl, List.take_append, h.ls]
theorem Pp.L.x_prev {p : Pp} (h : p.L) : (p.fl.drop 19).take (19 + 4 - 19) = p.prev := by
  simp [Pp.fl, List.drop_append, List.take_append, h.ls, h.lp]
theorem Pp.L.x_vec {p : Pp} (h : p.L) : (p.fl.drop 23).take (23 + 16 - 23) = p.vec := by
  simp [Pp.fl, List.drop_append, h.ls, h.lp]
  rw [List.drop_of_length_le (by rw [h.ls]; omega), List.take_of_length_le (by simp [h.lv])]
  simp
theorem Pp.eq_iff {p q : Pp} (hp : p.L) (hq : q.L) : decide (p.fl = q.fl) = (decide (p.set = q.set) && p.cid == q.cid && p.rev == q.rev && p.top == q.top && decide (p.prev = q.prev) && decide (p.vec = q.vec)) := by
  rw [Bool.eq_iff_iff]
  simp only [decide_eq_true_iff, Bool.and_eq_true, beq_iff_eq]
  constructor
  · intro h
    have := Pp.inj hp hq h
    subst this
    simp
  · rintro ⟨⟨⟨⟨⟨h1, h2⟩, h3⟩, h4⟩, h5⟩, h6⟩
    simp [Pp.fl, h1, h2, h3, h4, h5, h6]
end
end Go.Proofs.Ytpkcgjnaegaecaa.Mb
