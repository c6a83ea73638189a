/- Walks: the type of a value. -/
import Derived.Test.YtdlbfedepekkmaaV1

namespace Go.Proofs.Ytdlbfedepekkmaa

open Go.RowKit Go.Deep

attribute [local go_sem ↓] Go.wp_at_zero Go.wp_at_succ

theorem vType_zero (n : Int) (f : F) : vType 0 n f = none := rfl
theorem vType_num {r : Nat} {n : Int} {f : F} (h : len f = 0) : vType (r + 1) n f = if 0 ≤ n ∧ n ≤ 9999 then some .nil else none := by simp [vType, h]
theorem vType_bad {r : Nat} {n : Int} {f : F} (h : len f ≠ 0) (hb : ¬ (len f = 2 ∧ n = 0)) : vType (r + 1) n f = none := by simp only [vType, if_neg h, if_neg hb]
theorem vType_two {r : Nat} {n : Int} {f : F} (h : len f = 2) (hn : n = 0) : vType (r + 1) n f = (vType r (num f 0) (kid f 0)).bind fun a => (vType r (num f 1) (kid f 1)).bind fun b => some (two 0 a 0 b) := by
  simp only [vType]
  rw [if_neg (by omega), if_pos ⟨h, hn⟩]

end Go.Proofs.Ytdlbfedepekkmaa
