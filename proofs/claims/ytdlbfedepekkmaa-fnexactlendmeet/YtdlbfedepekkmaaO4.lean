/- A place that comes in, opened. -/
import Derived.Test.YtdlbfedepekkmaaO2

import Derived.Deep.Slices

namespace Go.Proofs.Ytdlbfedepekkmaa

open Go.RowKit Go.Deep Go.ChangeShapes Go.WideShapes Go.ChangeAt

set_option maxRecDepth 100000

theorem Try.cells30 : Try.prog.cellsOf 30 = 2 := by kernel_rfl
theorem Try.cells23 : Try.prog.cellsOf 23 = 1 := by kernel_rfl
theorem Try.cells9 : Try.prog.cellsOf 9 = 1 := by kernel_rfl

/-- Cells that are a list of numbers. -/
theorem open_intsC {H : Type} {enc : TypeId × Value → H} {W : World} {sp : Nat → Bool} {hd : Bool} {fuel : Nat} {cs : List Value} {x : DataW H × List MemPlace} (hf : DataW.trod enc Try.prog W 0 sp hd fuel 23 cs = some x) :
    ∃ (xs : List Int) (a : Option Addr) (cap : Nat), cs = [.slice a xs.length cap] ∧ PA W 0 xs a ∧ xs.length ≤ 9223372036854775807 := by
  rcases open_ints Try.underlying23 Try.underlying3 (by kernel_rfl) hf with ⟨hcs, _⟩ | ⟨x, len, cap, zs, hcs, _, hl, hm, hz, _, hcell, _⟩
  · exact ⟨[], none, 0, hcs, Or.inl rfl, by simp⟩
  · unfold maxLen at hm
    have hle : len ≤ zs.length := by rw [hz]; split <;> omega
    have htl : (zs.take len).length = len := by simp; omega
    refine ⟨zs.take len, some x, cap, by rw [htl]; exact hcs, ?_, by omega⟩
    by_cases h0 : len = 0
    · exact Or.inl (by omega)
    · obtain ⟨b, o, s⟩ := x
      have h1 := hcell 0 (by omega)
      have hs : s = none := by simpa [Addr.add] using World.cell?_spot h1
      subst hs
      refine Or.inr ⟨b, o, rfl, Nat.zero_le _, fun i hi => ?_⟩
      have := hcell i (by omega)
      rw [add_plain] at this
      rw [this]
      simp [List.getD, List.getElem?_take_of_lt (show i < len by omega)]

/-- A place by value. -/
theorem open_placeV {H : Type} {enc : TypeId × Value → H} {W : World} {sp : Nat → Bool} {hd : Bool} {r : Reach} {b0 : Nat} {v : Value} {dd : DataW H} {p : List MemPlace} (hv : Value.okWide Try.prog W r b0 30 v) (h : DataW.Trod enc Try.prog W 0 sp hd 30 v dd p) :
    ∃ (s : ByteArray) (xs : List Int) (a : Option Addr) (cap : Nat), v = .agg #[.string s, .slice a xs.length cap] ∧ s.size ≤ 9223372036854775807 ∧ PA W 0 xs a ∧ xs.length ≤ 9223372036854775807 := by
  obtain ⟨cs, rfl, hsz⟩ := okWide_struct Try.underlying30 hv
  rw [Try.cells30] at hsz
  obtain ⟨fuel, hf⟩ := h
  obtain ⟨xs, k, _, _, _, hxl, hff⟩ := DataW.trod_struct Try.underlying30 hf
  have h3 : DataW.trod enc Try.prog W 0 sp hd k 9 (((Value.agg cs).cells.toList.drop 0).take (Try.prog.cellsOf 9)) = xs[0]? := hff 0 _ rfl
  have h4 : DataW.trod enc Try.prog W 0 sp hd k 23 (((Value.agg cs).cells.toList.drop 1).take (Try.prog.cellsOf 23)) = xs[1]? := hff 1 _ rfl
  rw [Try.cells9] at h3
  rw [Try.cells23] at h4
  obtain ⟨l⟩ := cs
  match l, hsz with
  | [u, c], _ =>
    match xs, hxl with
    | [y, z], _ =>
      obtain ⟨s, e0, _, hz⟩ := DataW.trod_string Try.underlying9 (cs := [u]) (x := y) (by simpa [Value.cells] using h3)
      obtain ⟨g, a', cap', e1, e2, e3⟩ := open_intsC (cs := [c]) (x := z) (by simpa [Value.cells] using h4)
      simp only [List.cons.injEq, and_true] at e0 e1
      exact ⟨s, g, a', cap', by rw [e0, e1], hz, e2, e3⟩

end Go.Proofs.Ytdlbfedepekkmaa
