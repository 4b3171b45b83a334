/-
  Layer 4: the library's sorting, laid at this program.
-/
import Derived.Test.YtcpacgflljmlaaaG4c
import Derived.Test.YtcpacgflljmlaaaLay4
import Derived.Shelf.SlSortCmp.Whole1
import Derived.Shelf.SlSortCmp.NoneTotal
import Derived.Shelf.SlGeneric
import Derived.Shelf.Lay
import Derived.Ground.SlsfProg
namespace Go.Proofs.Ytcpacgflljmlaaa
open Go.Shelf Go.RowKit Go.Lib Go.Sort
set_option linter.unusedVariables false


end Go.Proofs.Ytcpacgflljmlaaa
