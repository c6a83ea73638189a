/- Walks: whether a type is in form. -/
import Derived.Test.YtngheeeadekdmaaDoorProg

import Derived.Test.YtngheeeadekdmaaDoorBase

import Derived.Deep.RegionWith

namespace Go.Proofs.YtngheeeadekdmaaDoor

open Go.RowKit Go.Deep
end Go.Proofs.YtngheeeadekdmaaDoor
