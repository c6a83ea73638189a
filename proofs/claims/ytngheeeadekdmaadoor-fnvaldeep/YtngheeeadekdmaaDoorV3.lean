/- Walks: whether a value is of a type, by the program. -/
import Derived.Test.YtngheeeadekdmaaDoorV2

import Derived.Test.YtngheeeadekdmaaDoorW5

namespace Go.Proofs.YtngheeeadekdmaaDoor

open Go.RowKit Go.Deep

attribute [local go_sem ↓] Go.wp_at_zero Go.wp_at_succ

theorem eqT_two {f g : F} (hf : len f = 2) (hg : len g = 2) : eqT f g = (eqT (kid f 0) (kid g 0) && eqT (kid f 1) (kid g 1)) := by
  cases h0 : eqT (kid f 0) (kid g 0)
  · rw [eqT_bad f g 0 (by omega) h0]; rfl
  · cases h1 : eqT (kid f 1) (kid g 1)
    · rw [eqT_bad f g 1 (by omega) h1]; rfl
    · refine eqT_good f g (by omega) fun i hi => ?_
      have : i = 0 ∨ i = 1 := by omega
      rcases this with rfl | rfl
      · exact h0
      · exact h1

theorem eqT_zero {f g : F} (hf : len f = 0) (hg : len g = 0) : eqT f g = true := eqT_good f g (by omega) fun i hi => by omega

end Go.Proofs.YtngheeeadekdmaaDoor
