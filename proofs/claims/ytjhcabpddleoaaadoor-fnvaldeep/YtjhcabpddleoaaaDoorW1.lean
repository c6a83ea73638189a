/- Walks: whether a type is in form. -/
import Derived.Test.YtjhcabpddleoaaaDoorProg

import Derived.Test.YtjhcabpddleoaaaDoorBase

import Derived.Deep.RegionWith

namespace Go.Proofs.YtjhcabpddleoaaaDoor

open Go.RowKit Go.Deep
end Go.Proofs.YtjhcabpddleoaaaDoor
