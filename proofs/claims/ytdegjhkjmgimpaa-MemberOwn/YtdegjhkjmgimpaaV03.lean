import Derived.Test.YtdegjhkjmgimpaaV00
import Derived.ChangeKeysEq
namespace Go.Proofs.Ytdegjhkjmgimpaa.Mb
open Go.RowKit
set_option linter.unusedVariables false
set_option maxRecDepth 100000
set_option linter.unusedSimpArgs false
structure Pp where
  set : List Int
  cid : Int
  rev : Int
  top : Int
  prev : List Int
  vec : List Int
def Pp.fl (p : Pp) : List Int := p.set ++ (p.cid :: p.rev :: p.top :: (p.prev ++ p.vec))
structure Pp.L (p : Pp) : Prop where
  ls : p.set.length = 16
  lp : p.prev.length = 4
  lv : p.vec.length = 16
theorem Pp.L.fl {p : Pp} (h : p.L) : p.fl.length = 39 := by simp [Pp.fl, h.ls, h.lp, h.lv]
theorem Pp.inj {p q : Pp} (hp : p.L) (hq : q.L) (h : p.fl = q.fl) : p = q := by
  unfold Pp.fl at h
  obtain ⟨h1, h2⟩ := List.append_inj h (by rw [hp.ls, hq.ls])
  simp only [List.cons.injEq] at h2
  obtain ⟨h3, h4, h5, h6⟩ := h2
  obtain ⟨h7, h8⟩ := List.append_inj h6 (by rw [hp.lp, hq.lp])
  cases p; cases q; simp_all
theorem Pp.L.at_set {p : Pp} (h : p.L) (j : Nat) (hj : j < 16) : p.fl.getD j 0 = p.set.getD j 0 := by
  simp [Pp.fl, List.getD, List.getElem?_append, h.ls, hj]
theorem Pp.L.cid {p : Pp} (h : p.L) : p.fl.getD 16 0 = p.cid := by simp [Pp.fl, List.getD, List.getElem?_append, h.ls]
theorem Pp.L.rev {p : Pp} (h : p.L) : p.fl.getD 17 0 = p.rev := by simp [Pp.fl, List.getD, List.getElem?_append, h.ls]
theorem Pp.L.top {p : Pp} (h : p.L) : p.fl.getD 18 0 = p.top := by simp [Pp.fl, List.getD, List.getElem?_append, h.ls]
theorem Pp.L.at_prev {p : Pp} (h : p.L) (j : Nat) (hj : j < 4) : p.fl.getD (19 + j) 0 = p.prev.getD j 0 := by
  simp [Pp.fl, List.getD, List.getElem?_append, h.ls, h.lp, show ¬ 19 + j < 16 by omega, show 19 + j - 16 = j + 3 by omega, hj]
theorem Pp.L.at_vec {p : Pp} (h : p.L) (j : Nat) (hj : j < 16) : p.fl.getD (23 + j) 0 = p.vec.getD j 0 := by
  simp [Pp.fl, List.getD, List.getElem?_append, h.ls, h.lp, show ¬ 23 + j < 16 by omega, show 23 + j - 16 = j + 7 by omega, show ¬ j + 4 < 4 by omega]
theorem Pp.L.set_cid {p : Pp} (h : p.L) (x : Int) : p.fl.set 16 x = ({ p with cid := x } : Pp).fl := by
  simp [Pp.fl, List.set_append, h.ls]
theorem Pp.L.set_rev {p : Pp} (h : p.L) (x : Int) : p.fl.set 17 x = ({ p with rev := x } : Pp).fl := by
  simp [Pp.fl, List.set_append, h.ls]
theorem Pp.L.set_top {p : Pp} (h : p.L) (x : Int) : p.fl.set 18 x = ({ p with top := x } : Pp).fl := by
  simp [Pp.fl, List.set_append, h.ls]
theorem Pp.L.put_set {p : Pp} (h : p.L) (s : List Int) (hs : s.length = 16) : p.fl.take 0 ++ s ++ p.fl.drop (0 + s.length) = ({ p with set := s } : Pp).fl := by
  simp [Pp.fl, hs, List.drop_append, h.ls]
theorem Pp.L.put_vec {p : Pp} (h : p.L) (s : List Int) (hs : s.length = 16) : p.fl.take 23 ++ s ++ p.fl.drop (23 + s.length) = ({ p with vec := s } : Pp).fl := by
  rw [List.drop_of_length_le (by rw [h.fl, hs]; omega), List.append_nil]
  simp [Pp.fl, List.take_append, h.ls, h.lp]
  rw [List.take_of_length_le (by rw [h.ls]; omega)]
theorem Pp.L.put_prev {p : Pp} (h : p.L) (s : List Int) (hs : s.length = 4) : p.fl.take 19 ++ s ++ p.fl.drop (19 + s.length) = ({ p with prev := s } : Pp).fl := by
  simp [Pp.fl, List.take_append, List.drop_append, h.ls, h.lp, hs]
  rw [List.take_of_length_le (by rw [h.ls]; omega), List.drop_of_length_le (by rw [h.ls]; omega)]
  simp
section
variable {w : World}
theorem cells_i : Try.prog.cellsOf 3 = 1 := by kernel_rfl
theorem info_iS : ∃ i, Try.prog.info? 3 = some i := by
  have : (Try.prog.info? 3).isSome = true := by kernel_rfl
  exact Option.isSome_iff_exists.1 this
theorem part_i (xs : List Int) (i : Nat) (h : i < xs.length) : (part 3 (ints xs).toArray i).run Try.prog w = .ok (.int .i64 (xs.getD i 0)) w := by
  have hagg : (isAgg 3).run Try.prog w = .ok false w := by
    unfold isAgg
    rw [Sem.run_bind, run_underlying Try.underlying3 w]
    rfl
  unfold part
  simp only [Sem.run_bind, hagg, Result.andThen_ok, Bool.false_eq_true, if_false, List.getElem?_toArray, ints_at xs i h]
  rfl
theorem items_i (d : Nat) (xs ys : List Int) : ∀ (is : List Nat), (∀ i ∈ is, i < xs.length ∧ i < ys.length) → (Op.eqItems (d + 1) 3 1 (ints xs).toArray (ints ys).toArray is).run Try.prog w = .ok (is.all fun i => xs.getD i 0 == ys.getD i 0) w
  | [], _ => by simp [Op.eqItems]
  | i :: is, h => by
    have h1 := h i (by simp)
    have ih := items_i d xs ys is (fun j hj => h j (by simp [hj]))
    simp only [Op.eqItems, Sem.run_bind, Nat.mul_one, part_i xs i h1.1, part_i ys i h1.2, Result.andThen_ok, run_equalIn_int w d 3 .i64 .i64 _ _ Try.underlying3, List.all_cons]
    cases hb : (xs.getD i 0 == ys.getD i 0)
    · simp
    · simpa using ih
theorem all_range (xs ys : List Int) (n : Nat) (hx : xs.length = n) (hy : ys.length = n) : ((List.range n).all fun i => xs.getD i 0 == ys.getD i 0) = decide (xs = ys) := by
  rw [Bool.eq_iff_iff, List.all_eq_true, decide_eq_true_iff]
  constructor
  · intro h
    apply List.ext_getElem (by omega)
    intro i h1 h2
    have := h i (List.mem_range.2 (by omega))
    simpa [List.getD, h1, h2] using this
  · rintro rfl i hi
    simp
theorem eq_row (d : Nat) (xs ys : List Int) (hx : xs.length = 16) (hy : ys.length = 16) : (Op.equalIn (d + 2) 61 (.agg (ints xs).toArray) (.agg (ints ys).toArray)).run Try.prog w = .ok (decide (xs = ys)) w := by
  obtain ⟨i, hi⟩ := info_iS
  rw [run_equalIn_array w (d + 1) _ _ Try.underlying61 hi, cells_i, items_i d xs ys _ (fun i hi => by have := List.mem_range.1 hi; omega), all_range xs ys 16 hx hy]
theorem part_row (cs : Array Value) (o : Nat) : (part 61 cs o).run Try.prog w = .ok (.agg (cs.extract o (o + 16))) w := by
  have hagg : (isAgg 61).run Try.prog w = .ok true w := by
    unfold isAgg
    rw [Sem.run_bind, run_underlying Try.underlying61 w]
    rfl
  have hs : (sizeOf 61).run Try.prog w = .ok 16 w := by
    have h : (Try.prog.info? 61).map (·.size) = some 16 := by kernel_rfl
    cases hq : Try.prog.info? 61 with
    | none => simp [hq] at h
    | some i => simp [hq] at h; simp [sizeOf, typeInfo, hq, h]
  unfold part
  simp only [Sem.run_bind, hagg, hs, Result.andThen_ok, if_true, Sem.run_pure]
theorem part_id (cs : Array Value) (o : Nat) : (part 31 cs o).run Try.prog w = .ok (.agg (cs.extract o (o + 4))) w := by
  have hagg : (isAgg 31).run Try.prog w = .ok true w := by
    unfold isAgg
    rw [Sem.run_bind, run_underlying Try.underlying31 w]
    rfl
  have hs : (sizeOf 31).run Try.prog w = .ok 4 w := by
    have h : (Try.prog.info? 31).map (·.size) = some 4 := by kernel_rfl
    cases hq : Try.prog.info? 31 with
    | none => simp [hq] at h
    | some i => simp [hq] at h; simp [sizeOf, typeInfo, hq, h]
  unfold part
  simp only [Sem.run_bind, hagg, hs, Result.andThen_ok, if_true, Sem.run_pure]
theorem fields_id : (Try.prog.fieldsOf 31).toList.map (fun f => (f.name, f.type, f.offset)) = [("Epoch", 3, 0), ("Lead", 3, 1), ("Inc", 3, 2), ("Cid", 3, 3)] := by kernel_rfl
theorem fields_prop : (Try.prog.fieldsOf 63).toList.map (fun f => (f.name, f.type, f.offset)) = [("set", 61, 0), ("cid", 3, 16), ("rev", 3, 17), ("top", 3, 18), ("prev", 31, 19), ("vec", 61, 23)] := by kernel_rfl
def eqF (d : Nat) (xs ys : Array Value) : List (String × TypeId × Nat) → Sem Bool
  | [] => pure true
  | (n, t, o) :: fs =>
    if n ≠ "_" then do
      let a ← part t xs o
      let b ← part t ys o
      let r ← Op.equalIn d t a b
      if (!r) = true then pure false else eqF d xs ys fs
    else eqF d xs ys fs
theorem eqF_eq (d : Nat) (xs ys : Array Value) : ∀ fs : List Field, Op.eqFields d xs ys fs = eqF d xs ys (fs.map fun f => (f.name, f.type, f.offset))
  | [] => rfl
  | f :: fs => by simp only [Op.eqFields, List.map_cons, eqF, eqF_eq d xs ys fs]
theorem under_id : Try.prog.underlying 31 = some (.struct (Try.prog.fieldsOf 31)) := by
  unfold Program.fieldsOf
  rw [Try.underlying31]
theorem under_prop : Try.prog.underlying 63 = some (.struct (Try.prog.fieldsOf 63)) := by
  unfold Program.fieldsOf
  rw [Try.underlying63]
theorem stood_id : Try.prog.stoodInHeld 31 = false := by kernel_rfl
theorem stood_prop : Try.prog.stoodInHeld 63 = false := by kernel_rfl
theorem list4 (xs : List Int) (h : xs.length = 4) : xs = [xs.getD 0 0, xs.getD 1 0, xs.getD 2 0, xs.getD 3 0] := by
  match xs, h with
  | [a, b, c, d], _ => rfl
theorem eq_id (d : Nat) (xs ys : List Int) (hx : xs.length = 4) (hy : ys.length = 4) : (Op.equalIn (d + 2) 31 (.agg (ints xs).toArray) (.agg (ints ys).toArray)).run Try.prog w = .ok (decide (xs = ys)) w := by
  rw [run_equalIn_struct w (d + 1) 31 _ _ under_id stood_id, eqF_eq, fields_id]
  simp only [eqF, ne_eq, reduceCtorEq, String.reduceEq, not_false_eq_true, if_true, Sem.run_bind, Sem.run_ite, Sem.run_pure, part_i xs 0 (by omega), part_i ys 0 (by omega), part_i xs 1 (by omega), part_i ys 1 (by omega), part_i xs 2 (by omega), part_i ys 2 (by omega), part_i xs 3 (by omega), part_i ys 3 (by omega), Result.andThen_ok, run_equalIn_int w d 3 .i64 .i64 _ _ Try.underlying3]
  have e : decide (xs = ys) = (xs.getD 0 0 == ys.getD 0 0 && xs.getD 1 0 == ys.getD 1 0 && xs.getD 2 0 == ys.getD 2 0 && xs.getD 3 0 == ys.getD 3 0) := by
    match xs, ys, hx, hy with
    | [a, b, c, d], [e, f, g, h], _, _ =>
      rw [Bool.eq_iff_iff]
      simp [and_assoc]
  rw [e]
  cases xs.getD 0 0 == ys.getD 0 0 <;> cases xs.getD 1 0 == ys.getD 1 0 <;> cases xs.getD 2 0 == ys.getD 2 0 <;> cases xs.getD 3 0 == ys.getD 3 0 <;> rfl
theorem ints_extract (xs : List Int) (a b : Nat) : (ints xs).toArray.extract a b = (ints ((xs.drop a).take (b - a))).toArray := by
  simp [ints, List.map_take, List.map_drop]
theorem Pp.L.x_set {p : Pp} (h : p.L) : (p.fl.drop 0).take (0 + 16 - 0) = p.set := by
  simp [Pp.fl, List.take_append, h.ls]
theorem Pp.L.x_prev {p : Pp} (h : p.L) : (p.fl.drop 19).take (19 + 4 - 19) = p.prev := by
  simp [Pp.fl, List.drop_append, List.take_append, h.ls, h.lp]
theorem Pp.L.x_vec {p : Pp} (h : p.L) : (p.fl.drop 23).take (23 + 16 - 23) = p.vec := by
  simp [Pp.fl, List.drop_append, h.ls, h.lp]
  rw [List.drop_of_length_le (by rw [h.ls]; omega), List.take_of_length_le (by simp [h.lv])]
  simp
theorem Pp.eq_iff {p q : Pp} (hp : p.L) (hq : q.L) : decide (p.fl = q.fl) = (decide (p.set = q.set) && p.cid == q.cid && p.rev == q.rev && p.top == q.top && decide (p.prev = q.prev) && decide (p.vec = q.vec)) := by
  rw [Bool.eq_iff_iff]
  simp only [decide_eq_true_iff, Bool.and_eq_true, beq_iff_eq]
  constructor
  · intro h
    have := Pp.inj hp hq h
    subst this
    simp
  · rintro ⟨⟨⟨⟨⟨h1, h2⟩, h3⟩, h4⟩, h5⟩, h6⟩
    simp [Pp.fl, h1, h2, h3, h4, h5, h6]
theorem eq_prop (d : Nat) (p q : Pp) (hp : p.L) (hq : q.L) : (Op.equalIn (d + 3) 63 (.agg (ints p.fl).toArray) (.agg (ints q.fl).toArray)).run Try.prog w = .ok (decide (p.fl = q.fl)) w := by
  rw [run_equalIn_struct w (d + 2) 63 _ _ under_prop stood_prop, eqF_eq, fields_prop]
  have l1 := hp.fl
  have l2 := hq.fl
  simp only [eqF, ne_eq, reduceCtorEq, String.reduceEq, not_false_eq_true, if_true, Sem.run_bind, Sem.run_ite, Sem.run_pure, part_row, part_id, ints_extract, hp.x_set, hq.x_set, hp.x_prev, hq.x_prev, hp.x_vec, hq.x_vec, part_i p.fl 16 (by omega), part_i q.fl 16 (by omega), part_i p.fl 17 (by omega), part_i q.fl 17 (by omega), part_i p.fl 18 (by omega), part_i q.fl 18 (by omega), Result.andThen_ok, hp.cid, hq.cid, hp.rev, hq.rev, hp.top, hq.top, eq_row d p.set q.set hp.ls hq.ls, eq_row d p.vec q.vec hp.lv hq.lv, eq_id d p.prev q.prev hp.lp hq.lp, run_equalIn_int w (d + 1) 3 .i64 .i64 _ _ Try.underlying3]
  rw [Pp.eq_iff hp hq]
  cases decide (p.set = q.set) <;> cases p.cid == q.cid <;> cases p.rev == q.rev <;> cases p.top == q.top <;> cases decide (p.prev = q.prev) <;> cases decide (p.vec = q.vec) <;> rfl
end
end Go.Proofs.Ytdegjhkjmgimpaa.Mb
namespace Go.Proofs.Ytdegjhkjmgimpaa.Mb
open Go.RowKit
set_option linter.unusedVariables false
set_option maxRecDepth 100000
set_option linter.unusedSimpArgs false
structure Ag where
  b : Nat
  n : Nat
  self : Nat
  own : Pp
  lat : Nat → Pp
  id : List Int
  msv : Value
  k : Nat
  ms : List Int
  chg : Bool
def Ag.at (A : Ag) (i : Nat) : Value :=
  if i = 0 then .int .i64 A.n else if i = 1 then .int .i64 A.self else if i < 41 then .int .i64 (A.own.fl.getD (i - 2) 0)
  else if i < 665 then .int .i64 ((A.lat ((i - 41) / 39)).fl.getD ((i - 41) % 39) 0) else if i < 669 then .int .i64 (A.id.getD (i - 665) 0) else if i = 669 then A.msv else .bool A.chg
structure Ag.Ok (A : Ag) (w : World) (B : Nat) (T : Int) : Prop where
  blk : Fb w A.b 66 671 A.at
  n16 : 1 ≤ A.n ∧ A.n ≤ 16 ∧ A.self < A.n
  ol : A.own.L
  ll : ∀ q, (A.lat q).L
  il : A.id.length = 4
  ge : B ≤ A.b
  mem : w.ownsRow B 79 3 A.msv A.k (ints A.ms)
  ml : A.ms.length = 3 * A.k ∧ A.k ≤ 16
  cid : 0 ≤ A.own.cid ∧ A.own.cid ≤ 4611686018427387904
  rev : 0 ≤ A.own.rev ∧ A.own.rev ≤ 4611686018427387904
  top : 0 ≤ A.own.top ∧ A.own.top ≤ T
  ep : 0 ≤ A.id.getD 0 0 ∧ A.id.getD 0 0 ≤ 4611686018427387904
  lt : ∀ q, 0 ≤ (A.lat q).top ∧ (A.lat q).top ≤ 4611686018427387903
section
variable {A A' : Ag} {w w' W : World} {B : Nat} {T : Int}
theorem Ag.Ok.c (h : A.Ok w B T) (i : Nat) (hi : i < 671) : w.cell? ⟨A.b, i, none⟩ = some (A.at i) := h.blk.cell i hi
theorem Ag.Ok.c0 (h : A.Ok w B T) : w.cell? ⟨A.b, 0, none⟩ = some (.int .i64 A.n) := h.c 0 (by omega)
theorem Ag.Ok.c1 (h : A.Ok w B T) : w.cell? ⟨A.b, 1, none⟩ = some (.int .i64 A.self) := h.c 1 (by omega)
theorem Ag.at_own (A : Ag) (j : Nat) (hj : j < 39) : A.at (2 + j) = .int .i64 (A.own.fl.getD j 0) := by
  unfold Ag.at
  rw [if_neg (by omega), if_neg (by omega), if_pos (by omega), show 2 + j - 2 = j by omega]
theorem Ag.at_lat (A : Ag) (q j : Nat) (hq : q < 16) (hj : j < 39) : A.at (41 + q * 39 + j) = .int .i64 ((A.lat q).fl.getD j 0) := by
  unfold Ag.at
  rw [if_neg (by omega), if_neg (by omega), if_neg (by omega), if_pos (by omega), show (41 + q * 39 + j - 41) / 39 = q by omega, show (41 + q * 39 + j - 41) % 39 = j by omega]
theorem Ag.at_id (A : Ag) (j : Nat) (hj : j < 4) : A.at (665 + j) = .int .i64 (A.id.getD j 0) := by
  unfold Ag.at
  rw [if_neg (by omega), if_neg (by omega), if_neg (by omega), if_neg (by omega), if_pos (by omega), show 665 + j - 665 = j by omega]
theorem Ag.Ok.c669 (h : A.Ok w B T) : w.cell? ⟨A.b, 669, none⟩ = some A.msv := h.c 669 (by omega)
theorem Ag.Ok.c670 (h : A.Ok w B T) : w.cell? ⟨A.b, 670, none⟩ = some (.bool A.chg) := h.c 670 (by omega)
theorem Ag.Ok.cid_c (h : A.Ok w B T) : w.cell? ⟨A.b, 18, none⟩ = some (.int .i64 A.own.cid) := by
  rw [h.c 18 (by omega), show (18 : Nat) = 2 + 16 from rfl, A.at_own 16 (by omega), h.ol.cid]
theorem Ag.Ok.rev_c (h : A.Ok w B T) : w.cell? ⟨A.b, 19, none⟩ = some (.int .i64 A.own.rev) := by
  rw [h.c 19 (by omega), show (19 : Nat) = 2 + 17 from rfl, A.at_own 17 (by omega), h.ol.rev]
theorem Ag.Ok.top_c (h : A.Ok w B T) : w.cell? ⟨A.b, 20, none⟩ = some (.int .i64 A.own.top) := by
  rw [h.c 20 (by omega), show (20 : Nat) = 2 + 18 from rfl, A.at_own 18 (by omega), h.ol.top]
theorem Ag.Ok.own_r (h : A.Ok w B T) : w.rangeAt A.b 2 (ints A.own.fl) := h.blk.range 2 _ fun j v hv => by
  have hj : j < A.own.fl.length := by have := (List.getElem?_eq_some_iff.1 hv).1; rwa [ints_len] at this
  have l := h.ol.fl
  rw [ints_at _ _ hj] at hv
  cases hv
  exact ⟨by omega, A.at_own j (by omega)⟩
theorem Ag.Ok.set_r (h : A.Ok w B T) : w.rangeAt A.b 2 (ints A.own.set) := h.blk.range 2 _ fun j v hv => by
  have hj : j < A.own.set.length := by have := (List.getElem?_eq_some_iff.1 hv).1; rwa [ints_len] at this
  have l := h.ol.ls
  rw [ints_at _ _ hj] at hv
  cases hv
  exact ⟨by omega, by rw [A.at_own j (by omega), h.ol.at_set j (by omega)]⟩
theorem Ag.Ok.vec_r (h : A.Ok w B T) : w.rangeAt A.b 25 (ints A.own.vec) := h.blk.range 25 _ fun j v hv => by
  have hj : j < A.own.vec.length := by have := (List.getElem?_eq_some_iff.1 hv).1; rwa [ints_len] at this
  have l := h.ol.lv
  rw [ints_at _ _ hj] at hv
  cases hv
  exact ⟨by omega, by rw [show 25 + j = 2 + (23 + j) by omega, A.at_own (23 + j) (by omega), h.ol.at_vec j (by omega)]⟩
theorem Ag.Ok.prev_r (h : A.Ok w B T) : w.rangeAt A.b 21 (ints A.own.prev) := h.blk.range 21 _ fun j v hv => by
  have hj : j < A.own.prev.length := by have := (List.getElem?_eq_some_iff.1 hv).1; rwa [ints_len] at this
  have l := h.ol.lp
  rw [ints_at _ _ hj] at hv
  cases hv
  exact ⟨by omega, by rw [show 21 + j = 2 + (19 + j) by omega, A.at_own (19 + j) (by omega), h.ol.at_prev j (by omega)]⟩
theorem Ag.Ok.id_r (h : A.Ok w B T) : w.rangeAt A.b 665 (ints A.id) := h.blk.range 665 _ fun j v hv => by
  have hj : j < A.id.length := by have := (List.getElem?_eq_some_iff.1 hv).1; rwa [ints_len] at this
  have l := h.il
  rw [ints_at _ _ hj] at hv
  cases hv
  exact ⟨by omega, A.at_id j (by omega)⟩
theorem Ag.Ok.lat_r (h : A.Ok w B T) (q : Nat) (hq : q < 16) : w.rangeAt A.b (41 + q * 39) (ints (A.lat q).fl) := h.blk.range _ _ fun j v hv => by
  have hj : j < (A.lat q).fl.length := by have := (List.getElem?_eq_some_iff.1 hv).1; rwa [ints_len] at this
  have l := (h.ll q).fl
  rw [ints_at _ _ hj] at hv
  cases hv
  exact ⟨by omega, A.at_lat q j hq (by omega)⟩
theorem Ag.Ok.lset_r (h : A.Ok w B T) (q : Nat) (hq : q < 16) : w.rangeAt A.b (41 + q * 39) (ints (A.lat q).set) := h.blk.range _ _ fun j v hv => by
  have hj : j < (A.lat q).set.length := by have := (List.getElem?_eq_some_iff.1 hv).1; rwa [ints_len] at this
  have l := (h.ll q).ls
  rw [ints_at _ _ hj] at hv
  cases hv
  exact ⟨by omega, by rw [A.at_lat q j hq (by omega), (h.ll q).at_set j (by omega)]⟩
theorem Ag.Ok.lprev_r (h : A.Ok w B T) (q : Nat) (hq : q < 16) : w.rangeAt A.b (41 + q * 39 + 19) (ints (A.lat q).prev) := h.blk.range _ _ fun j v hv => by
  have hj : j < (A.lat q).prev.length := by have := (List.getElem?_eq_some_iff.1 hv).1; rwa [ints_len] at this
  have l := (h.ll q).lp
  rw [ints_at _ _ hj] at hv
  cases hv
  exact ⟨by omega, by rw [show 41 + q * 39 + 19 + j = 41 + q * 39 + (19 + j) by omega, A.at_lat q (19 + j) hq (by omega), (h.ll q).at_prev j (by omega)]⟩
theorem Ag.Ok.lvec_r (h : A.Ok w B T) (q : Nat) (hq : q < 16) : w.rangeAt A.b (41 + q * 39 + 23) (ints (A.lat q).vec) := h.blk.range _ _ fun j v hv => by
  have hj : j < (A.lat q).vec.length := by have := (List.getElem?_eq_some_iff.1 hv).1; rwa [ints_len] at this
  have l := (h.ll q).lv
  rw [ints_at _ _ hj] at hv
  cases hv
  exact ⟨by omega, by rw [show 41 + q * 39 + 23 + j = 41 + q * 39 + (23 + j) by omega, A.at_lat q (23 + j) hq (by omega), (h.ll q).at_vec j (by omega)]⟩
theorem Ag.Ok.lat_c (h : A.Ok w B T) (q j : Nat) (hq : q < 16) (hj : j < 39) : w.cell? ⟨A.b, 41 + q * 39 + j, none⟩ = some (.int .i64 ((A.lat q).fl.getD j 0)) := by
  rw [h.c _ (by omega), A.at_lat q j hq hj]
theorem Ag.Ok.own_c (h : A.Ok w B T) (j : Nat) (hj : j < 39) : w.cell? ⟨A.b, 2 + j, none⟩ = some (.int .i64 (A.own.fl.getD j 0)) := by
  rw [h.c _ (by omega), A.at_own j hj]
theorem Ag.Ok.fz (h : A.Ok w B T) (i : Nat) : w.frozen? ⟨A.b, i, none⟩ = false := h.blk.fz i
theorem Ag.Ok.lt_b (h : A.Ok w B T) : A.b < w.heap.size := h.blk.lt
theorem Ag.Ok.mem_ne (h : A.Ok w B T) : ∀ g, A.msv.ownBlock = some g → g ≠ A.b := by
  intro g hg e
  subst e
  obtain ⟨C, h1, _⟩ := h.blk
  rcases h.mem.2 with ⟨h2, _⟩ | ⟨g', cap, cur, h2, _, h3, _⟩
  · rw [h2] at hg; cases hg
  · rw [h2] at hg
    cases hg
    rw [h1] at h3
    simp at h3
theorem Ag.Ok.keep {P : Nat → Prop} (h : A.Ok w B T) (k : Kept w w' P) (hp : ¬ P A.b) (hm : ∀ g, A.msv.ownBlock = some g → ¬ P g) : A.Ok w' B T :=
  { h with blk := h.blk.keep k hp, mem := k.owns h.mem hm }
theorem Ag.Ok.still (h : A.Ok w B T) (hb : Below w.heap.size w w') : A.Ok w' B T := h.keep (Kept.ofBelow hb (fun _ => False)) (fun hh => hh) (fun _ _ hh => hh)
theorem Ag.Ok.putOwn (h : A.Ok w B T) (p : Pp) (hp : p.L) (hc : 0 ≤ p.cid ∧ p.cid ≤ 4611686018427387904) (hr : 0 ≤ p.rev ∧ p.rev ≤ 4611686018427387904) (ht : 0 ≤ p.top ∧ p.top ≤ T) : ({ A with own := p } : Ag).Ok (w.setCells A.b 2 (ints p.fl)) B T := by
  have k := ksets (P := fun j => j = A.b) rfl (ints p.fl) 2 w
  refine { h with blk := ?_, mem := k.owns h.mem (fun g hg e => h.mem_ne g hg e), ol := hp, cid := hc, rev := hr, top := ht }
  refine (Fb.sets (ints p.fl) 2 w _ h.blk).congr fun i hi => ?_
  rw [ints_len, hp.fl]
  by_cases e : 2 ≤ i ∧ i < 2 + 39
  · rw [if_pos e]
    obtain ⟨j, rfl⟩ : ∃ j, i = 2 + j := ⟨i - 2, by omega⟩
    rw [Ag.at_own _ j (by omega), show 2 + j - 2 = j by omega]
    have := ints_at p.fl j (by rw [hp.fl]; omega)
    simp [List.getD, this]
  · rw [if_neg e]
    unfold Ag.at
    by_cases e0 : i = 0
    · rw [if_pos e0, if_pos e0]
    by_cases e1 : i = 1
    · rw [if_neg e0, if_pos e1, if_neg e0, if_pos e1]
    rw [if_neg e0, if_neg e1, if_neg (show ¬ i < 41 by omega), if_neg e0, if_neg e1, if_neg (show ¬ i < 41 by omega)]
theorem Ag.Ok.putLat (h : A.Ok w B T) (q : Nat) (hq : q < 16) (p : Pp) (hp : p.L) (ht : 0 ≤ p.top ∧ p.top ≤ 4611686018427387903) : ({ A with lat := upd A.lat q p } : Ag).Ok (w.setCells A.b (41 + q * 39) (ints p.fl)) B T := by
  have k := ksets (P := fun j => j = A.b) rfl (ints p.fl) (41 + q * 39) w
  refine { h with blk := ?_, mem := k.owns h.mem (fun g hg e => h.mem_ne g hg e), ll := fun a => ?_, lt := fun a => ?_ }
  · refine (Fb.sets (ints p.fl) (41 + q * 39) w _ h.blk).congr fun i hi => ?_
    rw [ints_len, hp.fl]
    by_cases e : 41 + q * 39 ≤ i ∧ i < 41 + q * 39 + 39
    · rw [if_pos e]
      obtain ⟨j, rfl⟩ : ∃ j, i = 41 + q * 39 + j := ⟨i - (41 + q * 39), by omega⟩
      rw [Ag.at_lat _ q j hq (by omega), show 41 + q * 39 + j - (41 + q * 39) = j by omega]
      have := ints_at p.fl j (by rw [hp.fl]; omega)
      simp [List.getD, this, upd_same]
    · rw [if_neg e]
      by_cases e2 : 41 ≤ i ∧ i < 665
      · obtain ⟨a, j, rfl, hj, ha⟩ : ∃ a j, i = 41 + a * 39 + j ∧ j < 39 ∧ a < 16 := ⟨(i - 41) / 39, (i - 41) % 39, by omega, by omega, by omega⟩
        rw [Ag.at_lat _ a j ha hj, Ag.at_lat _ a j ha hj]
        have : a ≠ q := by rintro rfl; omega
        simp [upd_ne _ _ this]
      · unfold Ag.at
        by_cases e0 : i < 41
        · rw [if_pos e0, if_pos e0]
        · rw [if_neg e0, if_neg e0, if_neg (show ¬ i < 665 by omega), if_neg (show ¬ i < 665 by omega)]
  · show (upd A.lat q p a).L
    by_cases e : a = q
    · subst e; rw [upd_same]; exact hp
    · rw [upd_ne _ _ e]; exact h.ll a
  · show 0 ≤ (upd A.lat q p a).top ∧ (upd A.lat q p a).top ≤ _
    by_cases e : a = q
    · subst e; rw [upd_same]; exact ht
    · rw [upd_ne _ _ e]; exact h.lt a
theorem Ag.Ok.putChg (h : A.Ok w B T) (c : Bool) : ({ A with chg := c } : Ag).Ok (w.setCell ⟨A.b, 670, none⟩ (.bool c)) B T := by
  have k := kset (P := fun j => j = A.b) w A.b 670 (.bool c) rfl
  refine { h with blk := ?_, mem := k.owns h.mem (fun g hg e => h.mem_ne g hg e) }
  refine (h.blk.set 670 (.bool c)).congr fun i hi => ?_
  by_cases e : i = 670
  · subst e; rfl
  · rw [if_neg e]
    unfold Ag.at
    by_cases e9 : i = 669
    · subst e9; rfl
    · repeat' split
      all_goals first | rfl | omega
end
end Go.Proofs.Ytdegjhkjmgimpaa.Mb
