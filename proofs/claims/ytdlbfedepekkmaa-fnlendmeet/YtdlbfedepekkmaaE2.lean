/- Walks: a type of the laws turned into one of the program. -/
import Derived.Test.YtdlbfedepekkmaaE1

import Derived.Test.YtdlbfedepekkmaaD4

namespace Go.Proofs.Ytdlbfedepekkmaa

open Go.RowKit Go.Deep
end Go.Proofs.Ytdlbfedepekkmaa
