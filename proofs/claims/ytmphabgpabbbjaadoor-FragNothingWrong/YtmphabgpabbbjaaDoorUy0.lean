import Derived.Test.YtmphabgpabbbjaaDoorUx
namespace Go.Proofs.YtmphabgpabbbjaaDoor.Fg
open Go.RowKit Mb Ov
set_option linter.unusedVariables false
set_option maxRecDepth 100000
set_option linter.unusedSimpArgs false
section
variable {w w' W : World} {B : Nat}
theorem size_al (w : World) (o : Obj) : (w.alloc o).heap.size = w.heap.size + 1 := by first | exact World.size_alloc | exact nblk_alloc w o | (unfold World.alloc; simp)
def two {α : Type} (x y : α) : Nat → α := fun t => if t = 0 then x else y
theorem two0 {α : Type} (x y : α) : two x y 0 = x := rfl
theorem two1 {α : Type} (x y : α) : two x y 1 = y := rfl
theorem Sd.bumpI {wr : World} {gB gA gW gt jb m : Nat} {ao : Nat → Option Addr} {nn cc NN gc gr kk a : Nat → Nat} {bb : Nat → List Int} {J : Jn} (h : Sd w wr B jb m J gB gA gW gt ao nn cc NN gc gr kk a bb) (s : Nat) : Sd w (wr.setCell ⟨gt, s, none⟩ (.int .i64 ((a s : Int) + 1))) B jb m J gB gA gW gt ao nn cc NN gc gr kk (upd a s (a s + 1)) bb := by
  rw [show ((a s : Int) + 1) = ((a s + 1 : Nat) : Int) by omega]
  exact h.bump s (a s + 1)
end
end Go.Proofs.YtmphabgpabbbjaaDoor.Fg
