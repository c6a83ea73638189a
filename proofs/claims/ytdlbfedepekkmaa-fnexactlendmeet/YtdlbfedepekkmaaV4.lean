/- Walks: the type of a value, and whether a value is of a type, by the specification. -/
import Derived.Test.YtdlbfedepekkmaaV2

import Derived.Test.YtdlbfedepekkmaaW5

import Derived.Test.YtdlbfedepekkmaaW7

namespace Go.Proofs.Ytdlbfedepekkmaa

open Go.RowKit Go.Deep

attribute [local go_sem ↓] Go.wp_at_zero Go.wp_at_succ
/-- A value is of a type, whatever that is. -/
def isOf : Nat → F → Int → F → Bool
  | 0, _, _, _ => false
  | d + 1, t, n, f => len f == len t && (len f == 0 || n == 0) && decide (0 ≤ n ∧ n ≤ 9999) && (List.range (len f)).all fun i => isOf d (kid t i) (num f i) (kid f i)

end Go.Proofs.Ytdlbfedepekkmaa
