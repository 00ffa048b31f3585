import Derived.Test.YtihcaopcfhbofaaX04
import Derived.Test.YtihcaopcfhbofaaX12
namespace Go.Proofs.Ytihcaopcfhbofaa.Fm
open Go.RowKit Go.Maps Mb
set_option linter.unusedVariables false
set_option maxRecDepth 100000
set_option linter.unusedSimpArgs false
section
variable {w w' W : World} {B : Nat}
theorem fields_slot : (Try.prog.fieldsOf 70).toList.map (fun f => (f.name, f.type, f.offset)) = [("Sender", 3, 0), ("Seq", 3, 1)] := by kernel_rfl
theorem under_slot : Try.prog.underlying 70 = some (.struct (Try.prog.fieldsOf 70)) := by
  unfold Program.fieldsOf
  rw [Try.underlying70]
theorem stood_slot : Try.prog.stoodInHeld 70 = false := by kernel_rfl
theorem eq_slot2 (d : Nat) (xs ys : List Int) (hx : xs.length = 2) (hy : ys.length = 2) : (Op.equalIn (d + 2) 70 (.agg (ints xs).toArray) (.agg (ints ys).toArray)).run Try.prog w = .ok (decide (xs = ys)) w := by
  rw [run_equalIn_struct w (d + 1) 70 _ _ under_slot stood_slot, eqF_eq, fields_slot]
  simp only [eqF, ne_eq, reduceCtorEq, String.reduceEq, not_false_eq_true, if_true, Sem.run_bind, Sem.run_ite, Sem.run_pure, part_i xs 0 (by omega), part_i ys 0 (by omega), part_i xs 1 (by omega), part_i ys 1 (by omega), Result.andThen_ok, run_equalIn_int w d 3 .i64 .i64 _ _ Try.underlying3]
  have e : decide (xs = ys) = (xs.getD 0 0 == ys.getD 0 0 && xs.getD 1 0 == ys.getD 1 0) := by
    match xs, ys, hx, hy with
    | [a, b], [e, f], _, _ =>
      rw [Bool.eq_iff_iff]
      simp [and_assoc]
  rw [e]
  cases xs.getD 0 0 == ys.getD 0 0 <;> cases xs.getD 1 0 == ys.getD 1 0 <;> rfl
theorem eq_slot (s t : Int × Int) : (Op.equalIn 10000 70 (.agg (slotV s).toArray) (.agg (slotV t).toArray)).run Try.prog w = .ok (decide (s = t)) w := by
  have h := eq_slot2 (w := w) 9998 [s.1, s.2] [t.1, t.2] rfl rfl
  have e : decide ([s.1, s.2] = [t.1, t.2]) = decide (s = t) := by
    obtain ⟨a, b⟩ := s
    obtain ⟨c, d⟩ := t
    rw [Bool.eq_iff_iff]
    simp
  rw [e] at h
  exact h
theorem eq_vid (s t : Vi) : (Op.equalIn 10000 24 (.agg s.cs.toArray) (.agg t.cs.toArray)).run Try.prog w = .ok (decide (s = t)) w := by
  have h := eq_id (w := w) 9998 [s.e, s.l, s.i, s.c] [t.e, t.l, t.i, t.c] rfl rfl
  have e : decide ([s.e, s.l, s.i, s.c] = [t.e, t.l, t.i, t.c]) = decide (s = t) := by
    obtain ⟨a1, a2, a3, a4⟩ := s
    obtain ⟨b1, b2, b3, b4⟩ := t
    rw [Bool.eq_iff_iff]
    simp
  rw [e] at h
  exact h
theorem guard_slot : Try.prog.eqGuardType Try.prog.depth 70 = false := by kernel_rfl
theorem guard_id : Try.prog.eqGuardType Try.prog.depth 24 = false := by kernel_rfl
end
end Go.Proofs.Ytihcaopcfhbofaa.Fm
