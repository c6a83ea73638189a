/- A type that comes in, opened. -/
import Derived.Test.YtdlbfedepekkmaaE1

import Derived.Deep.Slices

namespace Go.Proofs.Ytdlbfedepekkmaa

open Go.RowKit Go.Deep Go.ChangeShapes Go.WideShapes

/-- So many of a family. -/
def build (g : Nat → Int × F) : Nat → Nat → F
  | _, 0 => .nil
  | i, n + 1 => .node 0 0 (g i).1 (g i).2 (build g (i + 1) n)
theorem len_build (g : Nat → Int × F) : ∀ i n, len (build g i n) = n
  | _, 0 => rfl
  | i, n + 1 => by simp [build, len, len_build g (i + 1) n]
theorem kid_build (g : Nat → Int × F) : ∀ i n j, j < n → kid (build g i n) j = (g (i + j)).2
  | _, 0, j, h => by omega
  | i, n + 1, 0, _ => rfl
  | i, n + 1, j + 1, h => by
    show kid (build g (i + 1) n) j = _
    rw [kid_build g (i + 1) n j (by omega)]; congr 2; omega
theorem num_build (g : Nat → Int × F) : ∀ i n j, j < n → num (build g i n) j = (g (i + j)).1
  | _, 0, j, h => by omega
  | i, n + 1, 0, _ => rfl
  | i, n + 1, j + 1, h => by
    show num (build g (i + 1) n) j = _
    rw [num_build g (i + 1) n j (by omega)]; congr 2; omega
theorem Lm_mk : ∀ {f : F}, (∀ j, j < len f → len (kid f j) ≤ 9223372036854775807 ∧ Lm (kid f j)) → Lm f
  | .nil, _ => trivial
  | .node _ _ _ k r, h => ⟨(h 0 (by simp [len])).1, (h 0 (by simp [len])).2, Lm_mk fun j hj => h (j + 1) (by simp only [len]; omega)⟩

end Go.Proofs.Ytdlbfedepekkmaa
