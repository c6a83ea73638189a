/- Walks: a type copied. -/
import Derived.Test.YtngheeeadekdmaaDoorW2

import Derived.Deep.RegionHeld3

import Derived.Deep.AppendLies

import Derived.Deep.DrawnRows

namespace Go.Proofs.YtngheeeadekdmaaDoor

open Go.RowKit Go.Deep

attribute [local go_sem ↓] Go.wp_at_zero Go.wp_at_succ

theorem fits_len {r : Nat} {f : F} (h : fits r f = true) : len f = 0 ∨ len f = 2 := by
  by_cases h0 : len f = 0
  · exact Or.inl h0
  · by_cases h2 : len f = 2
    · exact Or.inr h2
    · rw [fits_no h0 h2] at h; cases h

end Go.Proofs.YtngheeeadekdmaaDoor
