/- Walks: terms of a list, and how much a function is given and says. -/
import Derived.Test.YthdihpcpobhadaaDoorTM3

import Derived.Test.YthdihpcpobhadaaDoorBD1

namespace Go.Proofs.YthdihpcpobhadaaDoor

open Go.RowKit Go.Deep

attribute [local go_sem ↓] Go.wp_at_zero Go.wp_at_succ

/-- Terms are ok by names. -/
def termsB (ns : List ByteArray) (f : TM) : Bool := decide (tlen f ≤ 60) && (List.range (tlen f)).all fun i => kidB ns 8 f i
theorem termsB_len {ns : List ByteArray} {f : TM} (h : 60 < tlen f) : termsB ns f = false := by simp [termsB, show ¬ tlen f ≤ 60 by omega]
theorem termsB_no {ns : List ByteArray} {f : TM} {i : Nat} (h : i < tlen f) (hb : kidB ns 8 f i = false) : termsB ns f = false := by
  cases hn : termsB ns f with
  | false => rfl
  | true =>
    simp only [termsB, Bool.and_eq_true, List.all_eq_true, List.mem_range] at hn
    rw [hn.2 i h] at hb; cases hb
theorem termsB_yes {ns : List ByteArray} {f : TM} (h1 : tlen f ≤ 60) (h : ∀ i, i < tlen f → kidB ns 8 f i = true) : termsB ns f = true := by
  simp only [termsB, Bool.and_eq_true, List.all_eq_true, List.mem_range, decide_eq_true_eq]
  exact ⟨h1, h⟩

/-- How much a function is given, and says. -/
def arityR (l : List PM) (s : ByteArray) : Nat × Nat × Bool := match l.find? (fun f => f.name.toList == s.toList) with
  | some f => (f.params.length, tlen f.says, true)
  | none => (0, 0, false)

theorem arity_yes {l : List PM} {s : ByteArray} {m i : Nat} (h : i < l.length) (him : i < m) (hb : ∀ j, j < i → ((l.getD j pm0).name.toList == s.toList) = false) (he : ((l.getD i pm0).name.toList == s.toList) = true) : arityR (l.take m) s = ((l.getD i pm0).params.length, tlen (l.getD i pm0).says, true) := by
  have : (l.take m).find? (fun f => f.name.toList == s.toList) = some (l.getD i pm0) := by
    rw [List.find?_eq_some_iff_getElem]
    refine ⟨he, i, by rw [List.length_take]; omega, by simp [List.getD, h], fun j hj => ?_⟩
    have hjl : j < l.length := by omega
    have := hb j hj
    simp only [List.getD, List.getElem?_eq_getElem hjl, Option.getD_some] at this
    simp only [List.getElem_take, this, Bool.not_false]
  simp only [arityR, this]
theorem arity_no {l : List PM} {s : ByteArray} {m : Nat} (hm : m ≤ l.length) (hb : ∀ j, j < m → ((l.getD j pm0).name.toList == s.toList) = false) : arityR (l.take m) s = (0, 0, false) := by
  have : (l.take m).find? (fun f => f.name.toList == s.toList) = none := by
    rw [List.find?_eq_none]
    intro f hf
    obtain ⟨i, hi, rfl⟩ := List.getElem_of_mem hf
    rw [List.length_take] at hi
    have hil : i < l.length := by omega
    have := hb i (by omega)
    simp only [List.getD, List.getElem?_eq_getElem hil, Option.getD_some] at this
    simp only [List.getElem_take, this]
    simp
  simp only [arityR, this]

end Go.Proofs.YthdihpcpobhadaaDoor
