/- A value that comes in, opened. -/
import Derived.Test.YtjhcabpddleoaaaDoorO1

import Derived.Test.YtjhcabpddleoaaaDoorV1

import Derived.Deep.Slices

namespace Go.Proofs.YtjhcabpddleoaaaDoor

open Go.RowKit Go.Deep Go.ChangeShapes Go.WideShapes
theorem Tryd.cells3 : Tryd.prog.cellsOf 3 = 1 := by kernel_rfl

end Go.Proofs.YtjhcabpddleoaaaDoor
