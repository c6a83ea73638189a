/- Terms that are ok: of what shape they are. -/
import Derived.Test.YthdihpcpobhadaaDoorIM5

namespace Go.Proofs.YthdihpcpobhadaaDoor

open Go.RowKit Go.Deep

theorem tok_shape {k n : Int} {s : ByteArray} {p : List Int} {l : Nat} (h : tokB k n s p l = true) : (k = 1 → 0 ≤ n ∧ n ≤ 9999) ∧ l ≤ 2 ∧ (k = 1 ∨ k = 2 ∨ k = 6 ∨ (k = 7 ∧ l = 1) ∨ (k ≠ 7 ∧ l = 2)) := by
  by_cases h1 : k = 1
  · subst h1
    simp only [tokB_1, Bool.and_eq_true, decide_eq_true_eq] at h
    exact ⟨fun _ => ⟨h.2.2.2.1, h.2.2.2.2⟩, by omega, Or.inl rfl⟩
  by_cases h2 : k = 2
  · subst h2
    simp only [tokB_2, Bool.and_eq_true, decide_eq_true_eq] at h
    exact ⟨fun e => absurd e h1, by omega, Or.inr (Or.inl rfl)⟩
  by_cases h3 : k = 3 ∨ k = 4 ∨ k = 5 ∨ k = 6
  · rw [tokB_3 h3] at h
    simp only [Bool.and_eq_true, decide_eq_true_eq] at h
    exact ⟨fun e => absurd e h1, by omega, by omega⟩
  by_cases h7 : k = 7
  · subst h7
    simp only [tokB_7, Bool.and_eq_true, decide_eq_true_eq] at h
    exact ⟨fun e => absurd e h1, by omega, by omega⟩
  by_cases h8 : k = 8
  · subst h8
    simp only [tokB_8, Bool.and_eq_true, decide_eq_true_eq] at h
    exact ⟨fun e => absurd e h1, by omega, by omega⟩
  · rw [tokB_o (by omega)] at h; cases h

theorem kid_tok {ns : List ByteArray} {d : Nat} {f : TM} (h : kidsB ns (d + 1) f = true) {j : Nat} (hj : j < tlen f) : tokB (tkind f j) (tnum f j) (tname f j) (tpath f j) (tlen (tkid f j)) = true ∧ kidsB ns d (tkid f j) = true ∧ (tkind f j = 2 → hasB ns (tname f j) = true) := by
  simp only [kidsB, List.all_eq_true] at h
  have := h j (List.mem_range.2 hj)
  rw [kidB, termB_tok] at this
  simp only [Bool.and_eq_true] at this
  exact ⟨this.1, this.2.2, fun e => by have := this.2.1; rw [decide_eq_true e] at this; simpa using this⟩
theorem kids_zero {ns : List ByteArray} {f : TM} (h : kidsB ns 0 f = true) : tlen f = 0 := by
  simp only [kidsB, List.all_eq_true] at h
  by_cases h0 : tlen f = 0
  · exact h0
  · have := h 0 (List.mem_range.2 (by omega))
    cases this
end Go.Proofs.YthdihpcpobhadaaDoor
