/- Walks: whether a type is in form. -/
import Derived.Test.YtdlbfedepekkmaaProg

import Derived.Test.YtdlbfedepekkmaaBase

import Derived.Deep.RegionWith

namespace Go.Proofs.Ytdlbfedepekkmaa

open Go.RowKit Go.Deep
end Go.Proofs.Ytdlbfedepekkmaa
