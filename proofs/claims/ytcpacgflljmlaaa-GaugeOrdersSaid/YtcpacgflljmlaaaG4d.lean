/-
  Layer 4: the library's sorting, laid at this program.
-/
import Derived.Test.YtcpacgflljmlaaaG4c
import Derived.Shelf.SlSortCmp.Whole1
import Derived.Shelf.SlSortCmp.NoneTotal
import Derived.Shelf.SlGeneric
import Derived.Shelf.Lay
import Derived.Ground.SlsfProg
namespace Go.Proofs.Ytcpacgflljmlaaa
open Go.Shelf Go.RowKit Go.Lib Go.Sort
set_option linter.unusedVariables false

shelf_lay_g SlLaysF.n6 Slsf 6 at Try 34 as Try.sortF
shelf_lay_g SlLaysF.n20 Slsf 20 at Try 53 as Try.insI

end Go.Proofs.Ytcpacgflljmlaaa
