/- Walks: a value copied. -/
import Derived.Test.YtdlbfedepekkmaaV5

namespace Go.Proofs.Ytdlbfedepekkmaa

open Go.RowKit Go.Deep

attribute [local go_sem ↓] Go.wp_at_zero Go.wp_at_succ

theorem vType_some {r : Nat} {n : Int} {f u : F} (h : vType (r + 1) n f = some u) : len f = 0 ∨ (len f = 2 ∧ n = 0 ∧ ∃ a b, vType r (num f 0) (kid f 0) = some a ∧ vType r (num f 1) (kid f 1) = some b) := by
  by_cases h0 : len f = 0
  · exact Or.inl h0
  · by_cases hb : len f = 2 ∧ n = 0
    · rw [vType_two hb.1 hb.2] at h
      cases ha : vType r (num f 0) (kid f 0) with
      | none => rw [ha] at h; cases h
      | some a =>
        cases hc : vType r (num f 1) (kid f 1) with
        | none => rw [ha, hc] at h; cases h
        | some b => exact Or.inr ⟨hb.1, hb.2, a, b, rfl, rfl⟩
    · rw [vType_bad h0 hb] at h; cases h

end Go.Proofs.Ytdlbfedepekkmaa
