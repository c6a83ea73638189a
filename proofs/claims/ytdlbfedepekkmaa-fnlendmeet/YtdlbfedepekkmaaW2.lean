/- Walks: types are ok, by the program and by the specification. -/
import Derived.Test.YtdlbfedepekkmaaW1

namespace Go.Proofs.Ytdlbfedepekkmaa

open Go.RowKit Go.Deep

theorem fits_two {r : Nat} {f : F} (h : len f = 2) : fits (r + 1) f = (fits r (kid f 0) && fits r (kid f 1)) := by simp [fits, h]
theorem fits_nil {r : Nat} {f : F} (h : len f = 0) : fits (r + 1) f = true := by simp [fits, h]
theorem fits_no {r : Nat} {f : F} (h : len f ≠ 0) (h2 : len f ≠ 2) : fits r f = false := by cases r <;> simp [fits, h, h2]
theorem fits_all {r : Nat} {f : F} (hl : len f = 0 ∨ len f = 2) (h : ∀ j, j < len f → fits r (kid f j) = true) : fits (r + 1) f = true := by
  rcases hl with hl | hl
  · exact fits_nil hl
  · rw [fits_two hl, h 0 (by omega), h 1 (by omega)]; rfl
theorem fits_bad {r : Nat} {f : F} (hl : len f = 0 ∨ len f = 2) {j : Nat} (hj : j < len f) (h : fits r (kid f j) = false) : fits (r + 1) f = false := by
  rcases hl with hl | hl
  · omega
  · rw [fits_two hl]
    have : j = 0 ∨ j = 1 := by omega
    rcases this with rfl | rfl <;> simp [h]

end Go.Proofs.Ytdlbfedepekkmaa
