import Derived.Test.YtnmnobcikmiojaaPd3
import Derived.Test.YtnmnobcikmiojaaPe
namespace Go.Proofs.Ytnmnobcikmiojaa.Oe
open Go.RowKit Qm
open Go.ChangeShapes Go.WideShapes Go.ChangeAt
set_option linter.unusedVariables false
set_option maxRecDepth 100000
section
variable {W : World} {H : Type} {enc : TypeId × Value → H}
structure Life where
  a0 : Option Addr
  n0 : Nat
  c0 : Nat
  x0 : List Int
  a1 : Option Addr
  n1 : Nat
  c1 : Nat
  x1 : List Int
  a2 : Option Addr
  n2 : Nat
  c2 : Nat
  x2 : List Int
  a3 : Option Addr
  n3 : Nat
  c3 : Nat
  x3 : List Int
structure Life.Rd (X : Life) (W : World) : Prop where
  r0 : RdI W X.a0 X.n0 X.c0 X.x0
  r1 : RdI W X.a1 X.n1 X.c1 X.x1
  m1 : X.n1 ≤ 17592186043904
  r2 : RdI W X.a2 X.n2 X.c2 X.x2
  m2 : X.n2 ≤ 17592186043904
  r3 : RdI W X.a3 X.n3 X.c3 X.x3
  m3 : X.n3 ≤ 17592186043904
def Life.val (X : Life) : Value := .agg #[.slice X.a0 X.n0 X.c0, .slice X.a1 X.n1 X.c1, .slice X.a2 X.n2 X.c2, .slice X.a3 X.n3 X.c3]
theorem cL : Try.prog.cellsOf 24 = 4 := by kernel_rfl
theorem arg_life {base : Nat} {v : Value} {d : DataW H} {p : List MemPlace} (hok : Value.okWide Try.prog W .any base 24 v) (h : DataW.Trod enc Try.prog W 0 (fun _ => true) true 24 v d p) (hw : Wt d 24) : ∃ X : Life, v = X.val ∧ X.Rd W := by
  obtain ⟨cs, rfl, hsz⟩ := okWide_struct Try.underlying24 hok
  rw [cL] at hsz
  obtain ⟨c0, c1, c2, c3, hcs⟩ := list4 (show cs.toList.length = 4 by simpa using hsz)
  obtain rfl : cs = #[c0, c1, c2, c3] := by
    apply Array.ext'
    rw [hcs]
  obtain ⟨fuel, hf⟩ := h
  obtain ⟨xs, n, hxl, hF, hWf⟩ := struct_parts Try.underlying24 (cs := [c0, c1, c2, c3]) (by simpa [Value.cells] using hf) hw
  obtain ⟨y0, y1, y2, y3, rfl⟩ := list4 hxl
  have h0 : DataW.trod enc Try.prog W 0 (fun _ => true) true n 22 [c0] = some y0 := by simpa [Value.cells, cI, cIs] using hF 0 _ rfl
  have h1 : DataW.trod enc Try.prog W 0 (fun _ => true) true n 22 [c1] = some y1 := by simpa [Value.cells, cI, cIs] using hF 1 _ rfl
  have h2 : DataW.trod enc Try.prog W 0 (fun _ => true) true n 22 [c2] = some y2 := by simpa [Value.cells, cI, cIs] using hF 2 _ rfl
  have h3 : DataW.trod enc Try.prog W 0 (fun _ => true) true n 22 [c3] = some y3 := by simpa [Value.cells, cI, cIs] using hF 3 _ rfl
  obtain ⟨a, m, c, zs, rfl, hr, hm, _⟩ := open_is h0 (hWf 0 _ y0 rfl rfl)
  obtain ⟨a', m', c', zs', rfl, hr', hm', _⟩ := open_is h1 (hWf 1 _ y1 rfl rfl)
  obtain ⟨a'', m'', c'', zs'', rfl, hr'', hm'', _⟩ := open_is h2 (hWf 2 _ y2 rfl rfl)
  obtain ⟨b, k, e, us, rfl, hu, hk, _⟩ := open_is h3 (hWf 3 _ y3 rfl rfl)
  exact ⟨⟨a, m, c, zs, a', m', c', zs', a'', m'', c'', zs'', b, k, e, us⟩, rfl, hr, hr', hm', hr'', hm'', hu, hk⟩
theorem primary_life {X : Life} (h : X.Rd W) : Calls Try.prog 3 #[X.val] W fun e w' => e = .returned (.bool true) ∧ Below W.heap.size W w' := primary_any h.r0 h.r1 h.m1 h.r2 h.m2 h.r3 h.m3
end
end Go.Proofs.Ytnmnobcikmiojaa.Oe
