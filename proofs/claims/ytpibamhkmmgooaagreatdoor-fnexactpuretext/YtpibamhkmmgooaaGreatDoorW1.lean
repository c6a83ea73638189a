/- Walks: whether a type is in form. -/
import Derived.Test.YtpibamhkmmgooaaGreatDoorProg

import Derived.Test.YtpibamhkmmgooaaGreatDoorBase

import Derived.Deep.RegionWith

namespace Go.Proofs.YtpibamhkmmgooaaGreatDoor

open Go.RowKit Go.Deep
end Go.Proofs.YtpibamhkmmgooaaGreatDoor
