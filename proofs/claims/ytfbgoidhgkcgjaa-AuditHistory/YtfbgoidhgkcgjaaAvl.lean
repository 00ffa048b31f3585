import Derived.Test.YtfbgoidhgkcgjaaRows
import Derived.Shelf.Pu.Clone
import Derived.Shelf.Lay
import Derived.Ground.MpProg
import Derived.WalkKit
namespace Go.Proofs
open Go.Shelf
shelf_lay LaysPu.n25 Mp 25 at Try as Try.cloneL
end Go.Proofs
