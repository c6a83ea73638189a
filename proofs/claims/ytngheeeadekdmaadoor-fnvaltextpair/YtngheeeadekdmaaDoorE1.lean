/- Walks: what the exact laws do with types. -/
import Derived.Test.YtngheeeadekdmaaDoorW5

namespace Go.Proofs.YtngheeeadekdmaaDoor

open Go.RowKit Go.Deep

attribute [local go_sem ↓] Go.wp_at_zero Go.wp_at_succ

/-- All lists are of a length that is one. -/
def Lm : F → Prop
  | .nil => True
  | .node _ _ _ k r => len k ≤ 9223372036854775807 ∧ Lm k ∧ Lm r
theorem Lm_kid : ∀ {f : F}, Lm f → ∀ i, i < len f → len (kid f i) ≤ 9223372036854775807 ∧ Lm (kid f i)
  | .nil, _, i, h => by simp [len] at h
  | .node _ _ _ k r, hs, 0, _ => ⟨hs.1, hs.2.1⟩
  | .node _ _ _ k r, hs, i + 1, h => Lm_kid hs.2.2 i (by simp only [len] at h; omega)

/-- Small, as far as it goes. -/
def SmTo (f : F) (k : Nat) : Prop := ∀ j, j < k → len (kid f j) ≤ 1000000000 ∧ Sm (kid f j)
theorem Sm_of : ∀ {f : F}, SmTo f (len f) → Sm f
  | .nil, _ => trivial
  | .node _ _ _ k r, h => ⟨(h 0 (by simp [len])).1, (h 0 (by simp [len])).2, Sm_of fun j hj => h (j + 1) (by simp only [len]; omega)⟩

end Go.Proofs.YtngheeeadekdmaaDoor
