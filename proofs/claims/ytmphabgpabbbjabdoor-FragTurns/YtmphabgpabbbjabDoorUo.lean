import Derived.Test.YtmphabgpabbbjabDoorUj
namespace Go.Proofs.YtmphabgpabbbjabDoor.Fg
open Go.RowKit Mb
set_option linter.unusedVariables false
set_option maxRecDepth 100000
set_option linter.unusedSimpArgs false
section
variable {w w' W : World} {B : Nat}
theorem spl_nil (L : List Int) (o : Nat) : spl L o [] = L := by simp [spl]
theorem spl_set (L : List Int) (o : Nat) (xs : List Int) (x : Int) (h : o + xs.length < L.length) : (spl L o xs).set (o + xs.length) x = spl L o (xs ++ [x]) := by
  unfold spl
  rw [List.set_append_right _ _ (by simp; omega)]
  have e : o + xs.length - (L.take o ++ xs).length = 0 := by simp; omega
  rw [e]
  have e2 : L.drop (o + xs.length) = L[o + xs.length] :: L.drop (o + xs.length + 1) := List.drop_eq_getElem_cons h
  rw [e2, List.set_cons_zero]
  simp [Nat.add_assoc]
theorem spl_app (L : List Int) (o : Nat) (xs ys : List Int) (h : o + xs.length + ys.length ≤ L.length) : spl (spl L o xs) (o + xs.length) ys = spl L o (xs ++ ys) := by
  unfold spl
  have h1 : (L.take o ++ xs).length = o + xs.length := by simp; omega
  rw [List.take_append_of_le_length (by omega), List.take_of_length_le (by omega)]
  rw [List.drop_append, h1, List.drop_of_length_le (by omega), List.nil_append, List.drop_drop]
  simp [Nat.add_assoc]
theorem be_at (n k i : Nat) (h : i < k) : (be n k).getD i 0 = ((n / 256 ^ (k - 1 - i) % 256 : Nat) : Int) := by simp [be, List.getD, h]
theorem be_take (n k i : Nat) (h : i < k) : (be n k).take (i + 1) = (be n k).take i ++ [((n / 256 ^ (k - 1 - i) % 256 : Nat) : Int)] := by
  have hl : i < (be n k).length := by rw [be_len]; exact h
  rw [List.take_succ_eq_append_getElem hl]
  congr 2
  have := be_at n k i h
  simpa [List.getD, hl] using this
theorem shr_be (n k i : Nat) (h : i < k) : ((n : Int) / 2 ^ (8 * (k - 1 - i))) % 256 = ((n / 256 ^ (k - 1 - i) % 256 : Nat) : Int) := by
  rw [show (2 : Int) ^ (8 * (k - 1 - i)) = ((256 ^ (k - 1 - i) : Nat) : Int) from by rw [Int.pow_mul]; push_cast; rfl]
  push_cast
  rfl
def hdB (s p q : Nat) : List Int := be s 2 ++ (be p 2 ++ be q 4)
theorem hdB_len (s p q : Nat) : (hdB s p q).length = 8 := by simp [hdB, be_len]
theorem hdB_by (s p q : Nat) : By (hdB s p q) := (be_by _ _).append ((be_by _ _).append (be_by _ _))
end
end Go.Proofs.YtmphabgpabbbjabDoor.Fg
