import Derived.Test.YtcieinejjkddfabPu2
import Derived.Test.YtcieinejjkddfabPx2
namespace Go.Proofs.Ytcieinejjkddfab.Oe
open Go.RowKit Qm Mb
section
variable {W : World}
theorem turns_wat {X Y : Wat} (h : X.Rd W) (h2 : Y.Rd W) : Calls Try.prog 6 #[X.val, Y.val] W fun e w' => e = .returned (.bool true) ∧ Below W.heap.size W w' := turns_law h.r h.n h.o h.m h2.r h2.n h2.o h2.m
end
end Go.Proofs.Ytcieinejjkddfab.Oe
