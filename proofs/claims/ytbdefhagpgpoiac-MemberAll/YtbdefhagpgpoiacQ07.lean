import Derived.Test.YtbdefhagpgpoiacQ00
import Derived.Test.YtbdefhagpgpoiacQ05
namespace Go.Proofs.Ytbdefhagpgpoiac.Mb
open Go.RowKit
set_option linter.unusedVariables false
set_option maxRecDepth 100000
set_option linter.unusedSimpArgs false
section
variable {A A' : Ag} {w w' W : World} {B : Nat} {T : Int}
theorem list16 (xs : List Int) (h : xs.length = 16) : ∃ a0 a1 a2 a3 a4 a5 a6 a7 a8 a9 a10 a11 a12 a13 a14 a15 : Int, xs = [a0, a1, a2, a3, a4, a5, a6, a7, a8, a9, a10, a11, a12, a13, a14, a15] := by
  match xs, h with
  | [a0, a1, a2, a3, a4, a5, a6, a7, a8, a9, a10, a11, a12, a13, a14, a15], _ => exact ⟨a0, a1, a2, a3, a4, a5, a6, a7, a8, a9, a10, a11, a12, a13, a14, a15, rfl⟩
theorem list4e (xs : List Int) (h : xs.length = 4) : ∃ a b c d : Int, xs = [a, b, c, d] := by
  match xs, h with
  | [a, b, c, d], _ => exact ⟨a, b, c, d, rfl⟩
theorem built_prop (p : Pp) (hp : p.L) : Try.prog.built 47 [(0, .agg (ints p.set).toArray), (1, .int .i64 p.cid), (2, .int .i64 p.rev), (3, .int .i64 p.top), (4, .agg (ints p.prev).toArray), (5, .agg (ints p.vec).toArray)] = some (ints p.fl).toArray := by
  obtain ⟨set, cid, rev, top, prev, vec⟩ := p
  obtain ⟨h1, h2, h3⟩ := hp
  obtain ⟨a0, a1, a2, a3, a4, a5, a6, a7, a8, a9, a10, a11, a12, a13, a14, a15, rfl⟩ := list16 set h1
  obtain ⟨b0, b1, b2, b3, b4, b5, b6, b7, b8, b9, b10, b11, b12, b13, b14, b15, rfl⟩ := list16 vec h3
  obtain ⟨c0, c1, c2, c3, rfl⟩ := list4e prev h2
  kernel_rfl
end
end Go.Proofs.Ytbdefhagpgpoiac.Mb
namespace Go.Proofs.Ytbdefhagpgpoiac.Mb
open Go.RowKit
set_option linter.unusedVariables false
set_option maxRecDepth 100000
set_option linter.unusedSimpArgs false
section
variable {A A' : Ag} {w w' W : World} {B : Nat} {T : Int}
def honly (vec set : List Int) : Bool := (List.range 16).all fun q => !(set.getD q 0 == 0 && vec.getD q 0 != 0)
set_option maxHeartbeats 2000000 in
theorem honly_any (vec set : List Int) (hv : vec.length = 16) (hs : set.length = 16) : Calls Try.prog 56 #[.agg (ints vec).toArray, .agg (ints set).toArray] w fun e w' => e = .returned (.bool (honly vec set)) ∧ Below w.heap.size w w' := by
  generalize hW1 : w.alloc (.cells (ints vec).toArray 45) = W1
  generalize hW2 : W1.alloc (.cells (ints set).toArray 45) = W2
  have b1 : Below w.heap.size w W1 := hW1 ▸ balloc (Below.refl _ _)
  have b2 : Below W1.heap.size W1 W2 := hW2 ▸ balloc (Below.refl _ _)
  have k1 : Rw W1 w.heap.size 45 vec := by unfold Rw; rw [← hW1]; exact heap_alloc_new w _
  have HK2 : Hid (Rw W2 W1.heap.size 45 set) := by show Rw _ _ _ _; unfold Rw; rw [← hW2]; exact heap_alloc_new W1 _
  have HK1 : Hid (Rw W2 w.heap.size 45 vec) := k1.still b2
  have HB2 : Hid (Below w.heap.size w W2) := bstep b1 b2
  clear b1 b2 k1
  go_enter Try.func56, Try.ntmps56
  go_wp2
  go_loopw [6] (fun i wr => ∃ k : Nat, k ≤ 16 ∧ i = .int .i64 k ∧ ((List.range k).all fun q => !(set.getD q 0 == 0 && vec.getD q 0 != 0)) = true ∧ wr = W2) (fun i _ => 16 - (intOf i).toNat)
  case atStart => exact ⟨0, Nat.zero_le _, rfl, by simp, rfl⟩
  case round =>
    obtain ⟨k, hk, rfl, hall, rfl⟩ := hrel
    by_cases hlt : k < 16
    · have d1 := HK1.out.cell (i := k) (by omega)
      have d2 := HK2.out.cell (i := k) (by omega)
      have i1 : (0 : Int) ≤ (k : Int) := Int.natCast_nonneg _
      have i3 : (k : Int) < 16 := by omega
      have Hbad : Hid ((set.getD k 0 == 0 && vec.getD k 0 != 0) = true → honly vec set = false) := fun h => by
        cases ha : honly vec set with
        | false => rfl
        | true =>
          have := List.all_eq_true.1 ha k (List.mem_range.2 hlt)
          rw [h] at this; cases this
      have Hgood : Hid ((set.getD k 0 == 0 && vec.getD k 0 != 0) = false → ((List.range (k + 1)).all fun q => !(set.getD q 0 == 0 && vec.getD q 0 != 0)) = true) := fun h => by
        rw [List.range_succ, List.all_append, hall]
        simp only [List.all_cons, List.all_nil, h]
        rfl
      generalize set.getD k 0 = x at *
      generalize vec.getD k 0 = y at *
      clear hall
      by_cases hx : x = 0
      · have Hx : Hid (x = 0) := hx
        rw [hx] at d2
        clear hx
        by_cases hy : y = 0
        · have Hy : Hid (y = 0) := hy
          rw [hy] at d1
          clear hy
          go_wp2
          exact ⟨⟨k + 1, by omega, by go_num, Hgood.out (by rw [Hx.out, Hy.out]; rfl), by first | rfl | trivial⟩, by simp [intOf]; omega⟩
        · have Hy : Hid (¬ y = 0) := hy
          have e1 : (y != 0) = true := by simpa using hy
          go_wp2
          go_ret
          exact ⟨by rw [Hbad.out (by rw [Hx.out]; simpa using Hy.out)]; rfl, HB2.out⟩
      · have Hx : Hid (¬ x = 0) := hx
        have e1 : (x == 0) = false := by simpa using hx
        go_wp2
        exact ⟨⟨k + 1, by omega, by go_num, Hgood.out (by rw [show (x == 0) = false by simpa using Hx.out]; rfl), by first | rfl | trivial⟩, by simp [intOf]; omega⟩
    · obtain rfl : k = 16 := by omega
      have Hall : Hid (honly vec set = true) := hall
      clear hall
      go_wp2
      go_ret
      exact ⟨by rw [Hall.out]; rfl, HB2.out⟩
end
end Go.Proofs.Ytbdefhagpgpoiac.Mb
