import Derived.Test.YtmphabgpabbbjaaDoorUi
import Derived.Laws.CopyOwn
import Derived.Laws.StructEq
namespace Go.Proofs.YtmphabgpabbbjaaDoor.Fg
open Go.RowKit Mb
set_option linter.unusedVariables false
set_option maxRecDepth 100000
set_option linter.unusedSimpArgs false
section
variable {w w' W : World} {B : Nat}
theorem byts_rep (n : Nat) : byts (List.replicate n 0) = List.replicate n (.int .u8 0) := by simp [byts]
theorem step_make {ops : Array Oper} {o : Oper} {a : Act} {K : Act → World → Prop} {Q : Exit → Act → World → Prop} {E : Prop} (hgd : o.guard = none) (l c : Operand) (ho : o.op = .makeSlice 28 l c) (n : Nat) (hl : a.eval l = .int .i64 (n : Int)) (hc : a.eval c = .int .i64 (n : Int)) (hn : n ≤ 1000000)
    (h : ∀ w', Bk w' w.heap.size (List.replicate n 0) → Below w.heap.size w w' → K (a.put o.dst (.slice (some ⟨w.heap.size, 0, none⟩) n n)) w') : if Region.wanted o (yielded ops a.tmps) = true then Oper.wp Tryd.prog o a w K Q else E := by
  have hw : Region.wanted o (yielded ops a.tmps) = true := by simp [Region.wanted, hgd]
  rw [if_pos hw]
  obtain ⟨si, shi, shz0, shz1, shz2⟩ := byte_info
  have hrun := run_make (P := Tryd.prog) w 28 5 si (.int .u8 0) Tryd.underlying28 shi shz0 .i64 .i64 n n (by omega) (Int.le_refl _) (by rw [shz2]; omega) (by omega)
  simp only [Int.toNat_natCast, shz1, Nat.mul_one] at hrun
  unfold Oper.wp
  simp [execOp, ho, hl, hc, hrun, Result.andThen]
  refine h _ ?_ ((Below.refl _ _).alloc (Nat.le_refl _) _)
  unfold Bk
  rw [heap_alloc_new, byts_rep]
  congr 2
  apply Array.ext'
  rw [List.toList_toArray]
  exact toList_madeCells_one _ _
theorem kset_row {P : Nat → Prop} (w : World) (g : Nat) (cs : Array Value) (hp : P g) : Kept w (w.setRow g cs) P :=
  ⟨rfl, rfl, rfl, by simp [World.setRow], fun j hj hq => setRow_other w g j cs (fun e => hq (by subst e; exact hp))⟩
def spl (L : List Int) (off : Nat) (xs : List Int) : List Int := L.take off ++ xs ++ L.drop (off + xs.length)
theorem spl_len (L : List Int) (off : Nat) (xs : List Int) (h : off + xs.length ≤ L.length) : (spl L off xs).length = L.length := by simp [spl]; omega
theorem spl_by {L xs : List Int} (off : Nat) (h : By L) (k : By xs) : By (spl L off xs) := ((h.take _).append k).append (h.drop _)
theorem spl_take (L : List Int) (off : Nat) (xs : List Int) (h : off + xs.length ≤ L.length) : (spl L off xs).take (off + xs.length) = L.take off ++ xs := by
  unfold spl
  rw [List.take_append_of_le_length (by simp; omega), List.take_of_length_le (by simp; omega)]
theorem step_copy {ops : Array Oper} {o : Oper} {a : Act} {K : Act → World → Prop} {Q : Exit → Act → World → Prop} {E : Prop} (hgd : o.guard = none) (d s : Operand) (ho : o.op = .call { callee := .builtin .copy, args := #[d, s], argTypes := #[28, 28] })
    (dp sp : Option Addr) (dLen dCap sLen sCap : Nat) (hd : a.eval d = .slice dp dLen dCap) (hs : a.eval s = .slice sp sLen sCap) {g off : Nat} {L xs : List Int} (hb : Bk w g L) (hr : Rd w sp sLen sCap xs) (hm : sLen ≤ dLen) (hdp : 0 < sLen → dp = some ⟨g, off, none⟩) (hfit : off + sLen ≤ L.length)
    (h : ∀ w', Bk w' g (spl L off xs) → Kept w w' (fun k => k = g) → K (a.put o.dst (.int .i64 (sLen : Int))) w') : if Region.wanted o (yielded ops a.tmps) = true then Oper.wp Tryd.prog o a w K Q else E := by
  have hw : Region.wanted o (yielded ops a.tmps) = true := by simp [Region.wanted, hgd]
  rw [if_pos hw]
  have hsz : (Tryd.prog.info? 5).map (·.size) = some 1 := by kernel_rfl
  have hl := hr.len
  by_cases h0 : sLen = 0
  · subst h0
    obtain rfl := hr.nil'
    have hrun := run_copy_none (P := Tryd.prog) w 28 28 o.type 5 dp sp dLen dCap 0 sCap Tryd.underlying28 hsz (by simp)
    unfold Oper.wp
    simp [execOp, ho, resolve, invoke, builtin, hd, hs, hrun, Result.andThen]
    exact h w (by simpa [spl] using hb) (Kept.refl _ _)
  · obtain rfl := hdp (by omega)
    rcases hr.at_ with h1 | ⟨b', off', rfl, hc⟩
    · omega
    · have hrun := run_copy_row (P := Tryd.prog) w 28 28 o.type 5 g off dLen dCap ⟨b', off', none⟩ sLen sCap (byts L).toArray 5 (byts xs) Tryd.underlying28 hsz hb (by rw [byts_len, hl]; simp [Nat.min_def]; omega) (hr.news _ rfl) (by simp [byts_len]; omega) (byts_one xs)
      have e : ((byts L).toArray.toList.take off ++ byts xs ++ (byts L).toArray.toList.drop (off + (byts xs).length)) = byts (spl L off xs) := by
        simp [byts, spl, List.map_take, List.map_drop]
      rw [e] at hrun
      unfold Oper.wp
      simp [execOp, ho, resolve, invoke, builtin, hd, hs, hrun, Result.andThen]
      have hlen : (byts xs).length = sLen := by rw [byts_len, hl]
      rw [hlen]
      exact h _ (setRow_heap w g _ _ _ _ hb) (kset_row _ _ _ rfl)
theorem fields_head : (Tryd.prog.fieldsOf 59).toList.map (fun f => (f.name, f.type, f.offset)) = [("size", 3, 0), ("place", 3, 1), ("sum", 3, 2)] := by kernel_rfl
theorem under_head : Tryd.prog.underlying 59 = some (.struct (Tryd.prog.fieldsOf 59)) := by
  unfold Program.fieldsOf
  rw [Tryd.underlying59]
theorem stood_head : Tryd.prog.stoodInHeld 59 = false := by kernel_rfl
theorem guard_head : Tryd.prog.eqGuardType Tryd.prog.depth 59 = false := by kernel_rfl
theorem part_i (xs : List Int) (i : Nat) (h : i < xs.length) : (part 3 (ints xs).toArray i).run Tryd.prog w = .ok (.int .i64 (xs.getD i 0)) w := by
  have hagg : (isAgg 3).run Tryd.prog w = .ok false w := by
    unfold isAgg
    rw [Sem.run_bind, run_underlying Tryd.underlying3 w]
    rfl
  unfold part
  simp only [Sem.run_bind, hagg, Result.andThen_ok, Bool.false_eq_true, if_false, List.getElem?_toArray, ints_at xs i h]
  rfl
def eqF (d : Nat) (xs ys : Array Value) : List (String × TypeId × Nat) → Sem Bool
  | [] => pure true
  | (n, t, o) :: fs =>
    if n ≠ "_" then do
      let a ← part t xs o
      let b ← part t ys o
      let r ← Op.equalIn d t a b
      if (!r) = true then pure false else eqF d xs ys fs
    else eqF d xs ys fs
theorem eqF_eq (d : Nat) (xs ys : Array Value) : ∀ fs : List Field, Op.eqFields d xs ys fs = eqF d xs ys (fs.map fun f => (f.name, f.type, f.offset))
  | [] => rfl
  | f :: fs => by simp only [Op.eqFields, List.map_cons, eqF, eqF_eq d xs ys fs]
theorem run_neqop {o : Oper} {ρ : Operand → Value} {w : World} (t : TypeId) (x y : Operand) (t' : TypeId) (ho : o.op = .binOp .neq t x y t') (xs ys : Array Value) (hx : ρ x = .agg xs) (hy : ρ y = .agg ys) (hg : Tryd.prog.eqGuardType Tryd.prog.depth t = false) (r : Bool) (h : (Op.equalIn 10000 t (.agg xs) (.agg ys)).run Tryd.prog w = .ok r w) : (execOp ρ o).run Tryd.prog w = .ok (.value (.bool (!r))) w := by
  unfold execOp
  simp only [ho, hx, hy, Sem.run_bind, run_eqGuard_agg w .neq t x y xs ys hg, run_neq_struct, h, Result.andThen_ok, Sem.run_pure]
theorem eq_head3 (d : Nat) (xs ys : List Int) (hx : xs.length = 3) (hy : ys.length = 3) : (Op.equalIn (d + 2) 59 (.agg (ints xs).toArray) (.agg (ints ys).toArray)).run Tryd.prog w = .ok (decide (xs = ys)) w := by
  rw [run_equalIn_struct w (d + 1) 59 _ _ under_head stood_head, eqF_eq, fields_head]
  simp only [eqF, ne_eq, reduceCtorEq, String.reduceEq, not_false_eq_true, if_true, Sem.run_bind, Sem.run_ite, Sem.run_pure, part_i xs 0 (by omega), part_i ys 0 (by omega), part_i xs 1 (by omega), part_i ys 1 (by omega), part_i xs 2 (by omega), part_i ys 2 (by omega), Result.andThen_ok, run_equalIn_int w d 3 .i64 .i64 _ _ Tryd.underlying3]
  have e : decide (xs = ys) = (xs.getD 0 0 == ys.getD 0 0 && xs.getD 1 0 == ys.getD 1 0 && xs.getD 2 0 == ys.getD 2 0) := by
    match xs, ys, hx, hy with
    | [a, b, c], [e, f, g], _, _ =>
      rw [Bool.eq_iff_iff]
      simp [and_assoc]
  rw [e]
  cases xs.getD 0 0 == ys.getD 0 0 <;> cases xs.getD 1 0 == ys.getD 1 0 <;> cases xs.getD 2 0 == ys.getD 2 0 <;> rfl
theorem eq_head (a b c x y z : Int) : (Op.equalIn 10000 59 (.agg #[.int .i64 a, .int .i64 b, .int .i64 c]) (.agg #[.int .i64 x, .int .i64 y, .int .i64 z])).run Tryd.prog w = .ok (decide (a = x ∧ b = y ∧ c = z)) w := by
  have h := eq_head3 (w := w) 9998 [a, b, c] [x, y, z] rfl rfl
  have e : decide ([a, b, c] = [x, y, z]) = decide (a = x ∧ b = y ∧ c = z) := by
    rw [Bool.eq_iff_iff]
    simp
  rw [e] at h
  exact h
end
end Go.Proofs.YtmphabgpabbbjaaDoor.Fg
