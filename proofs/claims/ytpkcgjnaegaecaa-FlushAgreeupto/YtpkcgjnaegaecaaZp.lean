import Derived.Test.YtpkcgjnaegaecaaYl
import Derived.Laws.ResultCell
namespace Go.Proofs.Ytpkcgjnaegaecaa.Fm
open Go.RowKit Go.Maps Mb
set_option linter.unusedVariables false
set_option maxRecDepth 100000
set_option linter.unusedSimpArgs false
section
variable {w w' W : World} {B : Nat}
structure Dx where
  s : Int × Int
  st : Int
  ba : Option Addr
  bc : Nat
  bs : List Int
def dx0 : Dx := ⟨z2, 0, none, 0, []⟩
def Dx.cs (d : Dx) : List Value := [.int .i64 d.s.1, .int .i64 d.s.2, .int .i64 d.st, .slice d.ba d.bs.length d.bc]
def RdB (w : World) (ao : Option Addr) (bs : List Int) : Prop := Row w ao bs.length 1 fun i => .int .u8 (bs.getD i 0)
structure Dx.Rd (d : Dx) (w : World) : Prop where
  b : RdB w d.ba d.bs
  r : i64B d.s.1 ∧ i64B d.s.2
def dxC (ds : List Dx) (i : Nat) : Value := ((ds.getD (i / 4) dx0).cs).getD (i % 4) undef
structure RdDs (w : World) (ao : Option Addr) (ds : List Dx) : Prop where
  row : Row w ao ds.length 4 (dxC ds)
  el : ∀ i, i < ds.length → (ds.getD i dx0).Rd w
theorem Dx.Rd.still {d : Dx} (h : d.Rd w) (hb : Below w.heap.size w w') : d.Rd w' := ⟨Row.still h.b hb, h.r⟩
theorem RdDs.still {ao : Option Addr} {ds : List Dx} (h : RdDs w ao ds) (hb : Below w.heap.size w w') : RdDs w' ao ds := ⟨h.row.still hb, fun i hi => (h.el i hi).still hb⟩
theorem Dx.cs_len (d : Dx) : d.cs.length = 4 := rfl
theorem dxcs_one (d : Dx) : ∀ u ∈ d.cs, u.oneCell' = true := by
  intro u hu
  simp [Dx.cs] at hu
  rcases hu with rfl | rfl | rfl | rfl <;> rfl
theorem RdDs.at {ao : Option Addr} {ds : List Dx} (h : RdDs w ao ds) {i : Nat} (hi : i < ds.length) : ∃ b off, ao = some ⟨b, off, none⟩ ∧ w.rangeAt b (off + i * 4) (ds.getD i dx0).cs := by
  rcases h.row with h1 | ⟨b, off, h1, h2⟩
  · omega
  · refine ⟨b, off, h1, fun j v hv => ?_⟩
    have hj : j < 4 := by have := (List.getElem?_eq_some_iff.1 hv).1; rwa [Dx.cs_len] at this
    have e := h2 (i * 4 + j) (by omega)
    simp only [dxC, show (i * 4 + j) / 4 = i by omega, show (i * 4 + j) % 4 = j by omega] at e
    rw [← Nat.add_assoc] at e
    rw [e, List.getD, hv]
    rfl
theorem info_data : (Try.prog.info? 85).map (·.size) = some 4 := by kernel_rfl
def First (ds : List Dx) (s : Int × Int) (i : Nat) : Prop := i < ds.length ∧ (ds.getD i dx0).s = s ∧ ∀ j, j < i → (ds.getD j dx0).s ≠ s
theorem First.eq {ds : List Dx} {s : Int × Int} {i j : Nat} (h : First ds s i) (k : First ds s j) : i = j := by
  by_cases h1 : i < j
  · exact absurd h.2.1 (k.2.2 i h1)
  · by_cases h2 : j < i
    · exact absurd k.2.1 (h.2.2 j h2)
    · omega
def FindS (ds : List Dx) (s : Int × Int) (r : Int) : Prop := (r = -1 ∧ ∀ i, i < ds.length → (ds.getD i dx0).s ≠ s) ∨ ∃ i : Nat, r = i ∧ First ds s i
end
end Go.Proofs.Ytpkcgjnaegaecaa.Fm
