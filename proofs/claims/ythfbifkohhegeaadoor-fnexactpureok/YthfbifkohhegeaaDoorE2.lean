/- Walks: a type of the laws turned into one of the program. -/
import Derived.Test.YthfbifkohhegeaaDoorE1

import Derived.Test.YthfbifkohhegeaaDoorD4

namespace Go.Proofs.YthfbifkohhegeaaDoor

open Go.RowKit Go.Deep
end Go.Proofs.YthfbifkohhegeaaDoor
