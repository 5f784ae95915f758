import Derived.Shelf.Lay
import Derived.Shelf.LaySoft
import Derived.Shelf.SlIterI.Nil
import Derived.Shelf.SortM.Plain
import Derived.Shelf.SortM.SortNone
import Derived.Shelf.Slices.Turned
import Derived.Shelf.Slices.Empties
import Derived.Shelf.Slices.SearchI
import Derived.Shelf.Small.Wraps
import Derived.Shelf.Spec.SlicesInsertGrow
import Derived.Shelf.SlicesE.DeleteFunc
import Derived.Ground.SlgfProg
import Derived.Ground.GgzProg
import Derived.Ground.SlgmProg
import Derived.Ground.NamesProg
import Derived.Ground.Names2Prog
import Derived.Test.YthacgiajnafpgaaGreatDoorProg
namespace Go.Proofs
open Go.Shelf
shelf_try shelf_lay_g SlLaysZI.n7 Ggz 7 at Tryz 99 as Tryz.shKeys
shelf_try shelf_lay_g SlLaysZI.n6 Ggz 6 at Tryz 98 as Tryz.shSorted
shelf_try shelf_lay_g SlLaysM.n5 Slgm 5 at Tryz 173 as Tryz.shSort
shelf_try shelf_lay_g SlLaysH.n10 Slgf 10 at Tryz 229 as Tryz.shDelete
shelf_try shelf_lay Lays2.n21 Nm2 21 at Tryz as Tryz.shInsert
shelf_try shelf_lay Lays2.n25 Nm2 25 at Tryz as Tryz.shBinary
shelf_try shelf_lay Lays.n107 Nm 107 at Tryz as Tryz.shContains
shelf_try shelf_lay Lays.n122 Nm 122 at Tryz as Tryz.shCompare
shelf_tried
end Go.Proofs
