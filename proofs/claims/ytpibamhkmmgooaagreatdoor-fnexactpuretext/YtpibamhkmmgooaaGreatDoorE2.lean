/- Walks: a type of the laws turned into one of the program. -/
import Derived.Test.YtpibamhkmmgooaaGreatDoorE1

import Derived.Test.YtpibamhkmmgooaaGreatDoorD4

namespace Go.Proofs.YtpibamhkmmgooaaGreatDoor

open Go.RowKit Go.Deep
end Go.Proofs.YtpibamhkmmgooaaGreatDoor
