import Derived.Test.YtjgjpepmfiklfaaGreatDoorMxi
import Derived.Laws.BytesArg
namespace Go.Proofs.YtjgjpepmfiklfaaGreatDoor.Mx
open Go.RowKit Mb Mh Lo
set_option linter.unusedVariables false
set_option maxRecDepth 100000
set_option linter.unusedSimpArgs false
section
variable {w w' W : World} {B : Nat}
theorem slice_at {ao : Option Addr} {n c a k : Nat} (hac : a + k ≤ c) : ∃ ad : Option Addr, (∀ X : World, (Instr.slice 24 (.slice ao n c) (some (.int .i64 (a : Int))) (some (.int .i64 ((a + k : Nat) : Int))) none).run Tryz.prog X = .ok (.slice ad k (c - a)) X) ∧ (ao = none → ad = none) ∧ (∀ b off, ao = some ⟨b, off, none⟩ → (ad = some ⟨b, off + a, none⟩ ∨ (k = 0 ∧ ad = some ⟨b, off, none⟩))) ∧ (if c = a then ao else Option.map (fun x => x.add a) ao) = ad := by
  have he : Tryz.prog.underlying 24 = some (.slice (Tryz.prog.elem 24)) := by kernel_rfl
  have hs : ∀ X : World, (sizeOf (Tryz.prog.elem 24)).run Tryz.prog X = .ok 1 X := fun X => by kernel_rfl
  have key : ∀ X : World, (Instr.slice 24 (.slice ao n c) (some (.int .i64 (a : Int))) (some (.int .i64 ((a + k : Nat) : Int))) none).run Tryz.prog X = .ok (sliced ao a (a + k) c 1) X := fun X => by
    rw [run_slice_lh (P := Tryz.prog) X 24 ao n c he .i64 .i64 (a : Int) ((a + k : Nat) : Int) (by omega) (by omega) (by omega), hs X]
    simp only [Result.andThen, Int.toNat_natCast]
  cases ao with
  | none =>
    refine ⟨none, fun X => ?_, fun _ => rfl, (fun _ _ h => by cases h), by simp⟩
    rw [key X]
    simp [sliced]
  | some x =>
    obtain ⟨b, off, spot⟩ := x
    by_cases hc : c = a
    · refine ⟨some ⟨b, off, spot⟩, fun X => ?_, (fun h => by cases h), fun b' off' h => ?_, by simp [hc]⟩
      · rw [key X]
        simp [sliced, hc]
      · cases h
        exact .inr ⟨by omega, rfl⟩
    · refine ⟨some ((⟨b, off, spot⟩ : Addr).add (a * 1)), fun X => ?_, (fun h => by cases h), fun b' off' h => ?_, by simp [hc]⟩
      · rw [key X]
        simp [sliced, hc]
      · cases h
        exact .inl (by simp [Addr.add_lit])
theorem conv_at {ao ad : Option Addr} {n c a k c' : Nat} {bs : List Int} (hr : Rd w ao n c bs) (hak : a + k ≤ n) (h1 : ao = none → ad = none) (h2 : ∀ b off, ao = some ⟨b, off, none⟩ → ad = some ⟨b, off + a, none⟩ ∨ (k = 0 ∧ ad = some ⟨b, off, none⟩)) : (convert 24 9 (.slice ad k c')).run Tryz.prog w = .ok (.string (strOfNums ((bs.drop a).take k))) w := by
  by_cases hk : k = 0
  · subst hk
    rw [List.take_zero]
    cases ad with
    | none =>
      rw [run_convert_bytes_nil (P := Tryz.prog) w 24 5 Tryz.underlying24 Tryz.underlying5 0 c' 9 Tryz.underlying9]
      rfl
    | some x =>
      rw [run_convert_bytes_string w 24 9 5 _ 0 c' Tryz.underlying24 Tryz.underlying5 Tryz.underlying9]
      have hl : (loadCells x 0).run Tryz.prog w = .ok (([] : List Int).map (Value.int .u8)).toArray w := by
        have := run_loadCells_list (P := Tryz.prog) w x [] (fun j v hj => by simp at hj)
        simpa using this
      rw [run_bytesToString w x 0 c' [] hl]
      rfl
  · rcases hr.2.2.1 with h0 | ⟨b, off, hao, hc⟩
    · omega
    · rcases h2 b off hao with h3 | ⟨h3, _⟩
      · subst h3
        have hl : bs.length = n := hr.1
        refine run_convert_bytes_arg (P := Tryz.prog) w 24 5 Tryz.underlying24 Tryz.underlying5 b (off + a) k c' ((bs.drop a).take k) (by rw [List.length_take, List.length_drop]; omega) (fun i hi => ?_) 9 Tryz.underlying9
        have h4 := hc (a + i) (by omega)
        rw [Nat.add_assoc, h4]
        congr 2
        simp [List.getD, List.getElem?_take, List.getElem?_drop, hi]
      · omega
end
end Go.Proofs.YtjgjpepmfiklfaaGreatDoor.Mx
