/- Walks: whether a type is in form. -/
import Derived.Test.YthfbifkohhegeaaDoorProg

import Derived.Test.YthfbifkohhegeaaDoorBase

import Derived.Deep.RegionWith

namespace Go.Proofs.YthfbifkohhegeaaDoor

open Go.RowKit Go.Deep
end Go.Proofs.YthfbifkohhegeaaDoor
