import Derived.Test.YtbdefhagpgpoiaaAg
namespace Go.Proofs.Ytbdefhagpgpoiaa.Mb
open Go.RowKit
set_option linter.unusedVariables false
set_option maxRecDepth 100000
set_option linter.unusedSimpArgs false
section
variable {A A' : Ag} {w w' W : World} {B : Nat} {T : Int}
theorem list16 (xs : List Int) (h : xs.length = 16) : ∃ a0 a1 a2 a3 a4 a5 a6 a7 a8 a9 a10 a11 a12 a13 a14 a15 : Int, xs = [a0, a1, a2, a3, a4, a5, a6, a7, a8, a9, a10, a11, a12, a13, a14, a15] := by
  match xs, h with
  | [a0, a1, a2, a3, a4, a5, a6, a7, a8, a9, a10, a11, a12, a13, a14, a15], _ => exact ⟨a0, a1, a2, a3, a4, a5, a6, a7, a8, a9, a10, a11, a12, a13, a14, a15, rfl⟩
theorem list4e (xs : List Int) (h : xs.length = 4) : ∃ a b c d : Int, xs = [a, b, c, d] := by
  match xs, h with
  | [a, b, c, d], _ => exact ⟨a, b, c, d, rfl⟩
theorem built_prop (p : Pp) (hp : p.L) : Try.prog.built 102 [(0, .agg (ints p.set).toArray), (1, .int .i64 p.cid), (2, .int .i64 p.rev), (3, .int .i64 p.top), (4, .agg (ints p.prev).toArray), (5, .agg (ints p.vec).toArray)] = some (ints p.fl).toArray := by
  obtain ⟨set, cid, rev, top, prev, vec⟩ := p
  obtain ⟨h1, h2, h3⟩ := hp
  obtain ⟨a0, a1, a2, a3, a4, a5, a6, a7, a8, a9, a10, a11, a12, a13, a14, a15, rfl⟩ := list16 set h1
  obtain ⟨b0, b1, b2, b3, b4, b5, b6, b7, b8, b9, b10, b11, b12, b13, b14, b15, rfl⟩ := list16 vec h3
  obtain ⟨c0, c1, c2, c3, rfl⟩ := list4e prev h2
  kernel_rfl
end
end Go.Proofs.Ytbdefhagpgpoiaa.Mb
