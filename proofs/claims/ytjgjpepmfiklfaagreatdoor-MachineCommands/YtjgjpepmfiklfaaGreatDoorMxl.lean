import Derived.Test.YtjgjpepmfiklfaaGreatDoorRows
import Derived.Shelf.Strconv.Atoi
import Derived.Shelf.Strconv.AtoiErr
import Derived.Shelf.Strconv.Itoa3
import Derived.Shelf.Lay
import Derived.Ground.NamesProg
import Derived.WalkKit
namespace Go.Proofs
open Go.Shelf
shelf_lay Lays.n172 Nm 172 at Tryz as Tryz.atoiL
shelf_lay LaysC.n172 Nm 172 at Tryz as Tryz.atoiC
shelf_lay LaysM.n171 Nm 171 at Tryz as Tryz.itoaL
end Go.Proofs
