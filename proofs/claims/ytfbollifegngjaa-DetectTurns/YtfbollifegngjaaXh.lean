import Derived.Test.YtfbollifegngjaaVf
namespace Go.Proofs.Ytfbollifegngjaa.Dt
open Go.RowKit
set_option linter.unusedVariables false
set_option maxRecDepth 100000
set_option linter.unusedSimpArgs false
section
variable {D D' : De} {w w' W V : World} {B m : Nat}
theorem own_cap {b t s n g c : Nat} {l : List Value} (h : w.ownsRow b t s (.slice (some ⟨g, 0, none⟩) n c) n l) : n ≤ c := by
  rcases h.2 with ⟨h1, _⟩ | ⟨g', cap, cur, hv, _, _, h3, _⟩
  · cases h1
  · simp at hv
    omega

theorem own_sliceD {b t s n : Nat} {v : Value} {l : List Value} (h : w.ownsRow b t s v n l) : ∃ a c, v = .slice a n c := by
  rcases h.2 with ⟨h1, h2⟩ | ⟨g, cap, cur, hv, _⟩
  · exact ⟨none, 0, by rw [h1, h2]⟩
  · exact ⟨_, _, hv⟩
def InA (ao : Option Addr) (F : Nat → Prop) : Prop := ∀ b off, ao = some ⟨b, off, none⟩ → F b
theorem kept_cellD {P : Nat → Prop} {b i : Nat} {v : Value} (k : Kept w w' P) (hp : ¬ P b) (h : w.cell? ⟨b, i, none⟩ = some v) : w'.cell? ⟨b, i, none⟩ = some v := by
  have hl := World.block_lt_of_cell? w _ h
  have := k.block b hl hp
  rw [← h]
  simp [World.cell?, this]
theorem RdI.keep {P : Nat → Prop} {ao : Option Addr} {n : Nat} {xs : List Int} (h : RdI w ao n xs) (k : Kept w w' P) (hp : InA ao fun b => ¬ P b) : RdI w' ao n xs := by
  obtain ⟨h1, h3⟩ := h
  refine ⟨h1, h3.elim (fun hh => .inl hh) (fun hh => .inr ?_)⟩
  obtain ⟨b, off, rfl, hc⟩ := hh
  exact ⟨b, off, rfl, fun i hi => kept_cellD k (hp b off rfl) (hc i hi)⟩
structure Hn where
  a1 : Option Addr
  a2 : Option Addr
  a3 : Option Addr
  n : Nat
  c1 : Nat
  c2 : Nat
  c3 : Nat
  km : Int
def Hn.cs (h : Hn) : List Value := [.slice h.a1 h.n h.c1, .slice h.a2 (h.n + 1) h.c2, .slice h.a3 (h.n + 1) h.c3, .int .i64 h.km]
def mks (n : Nat) (x : Int) : List Int := List.replicate n x
structure Hn.Ok (h : Hn) (w : World) (F : Nat → Prop) : Prop where
  r1 : RdI w h.a1 h.n (mks h.n h.km)
  r2 : RdI w h.a2 (h.n + 1) (mks h.n h.km ++ [h.km + 1])
  r3 : RdI w h.a3 (h.n + 1) (mks h.n h.km ++ [h.km + 1])
  i1 : InA h.a1 F
  i2 : InA h.a2 F
  i3 : InA h.a3 F
  nn : h.n ≤ 16
  m0 : 0 ≤ h.km
  m1 : h.km ≤ 2000
theorem Hn.Ok.keep {h : Hn} {F P : Nat → Prop} (o : h.Ok w F) (k : Kept w w' P) (hp : ∀ q, F q → ¬ P q) : h.Ok w' F :=
  ⟨o.r1.keep k (fun b off e => hp b (o.i1 b off e)), o.r2.keep k (fun b off e => hp b (o.i2 b off e)), o.r3.keep k (fun b off e => hp b (o.i3 b off e)), o.i1, o.i2, o.i3, o.nn, o.m0, o.m1⟩
theorem Hn.Ok.sub {h : Hn} {F F' : Nat → Prop} (o : h.Ok w F) (hp : ∀ q, F q → F' q) : h.Ok w F' :=
  ⟨o.r1, o.r2, o.r3, fun b off e => hp b (o.i1 b off e), fun b off e => hp b (o.i2 b off e), fun b off e => hp b (o.i3 b off e), o.nn, o.m0, o.m1⟩
end
end Go.Proofs.Ytfbollifegngjaa.Dt
