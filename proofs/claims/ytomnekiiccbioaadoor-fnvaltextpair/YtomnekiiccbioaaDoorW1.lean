/- Walks: whether a type is in form. -/
import Derived.Test.YtomnekiiccbioaaDoorProg

import Derived.Test.YtomnekiiccbioaaDoorBase

import Derived.Deep.RegionWith

namespace Go.Proofs.YtomnekiiccbioaaDoor

open Go.RowKit Go.Deep
end Go.Proofs.YtomnekiiccbioaaDoor
