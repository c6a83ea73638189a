/- Walks: a type of the laws turned into one of the program. -/
import Derived.Test.YtopfmiaiijeijaaE1

import Derived.Test.YtopfmiaiijeijaaD4

namespace Go.Proofs.Ytopfmiaiijeijaa

open Go.RowKit Go.Deep
end Go.Proofs.Ytopfmiaiijeijaa
