/- Walks: whether a type is in form. -/
import Derived.Test.YtopfmiaiijeijaaProg

import Derived.Test.YtopfmiaiijeijaaBase

import Derived.Deep.RegionWith

namespace Go.Proofs.Ytopfmiaiijeijaa

open Go.RowKit Go.Deep
end Go.Proofs.Ytopfmiaiijeijaa
