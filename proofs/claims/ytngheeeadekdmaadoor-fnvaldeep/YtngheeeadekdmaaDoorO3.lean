/- A value that comes in, opened. -/
import Derived.Test.YtngheeeadekdmaaDoorO1

import Derived.Test.YtngheeeadekdmaaDoorV1

import Derived.Deep.Slices

namespace Go.Proofs.YtngheeeadekdmaaDoor

open Go.RowKit Go.Deep Go.ChangeShapes Go.WideShapes

theorem Tryd.cells31 : Tryd.prog.cellsOf 31 = 2 := by kernel_rfl
theorem Tryd.cells29 : Tryd.prog.cellsOf 29 = 1 := by kernel_rfl
theorem Tryd.cells3 : Tryd.prog.cellsOf 3 = 1 := by kernel_rfl

theorem open_val {H : Type} {enc : TypeId × Value → H} {w : World} {sp : Nat → Bool} {hd : Bool} : ∀ (fuel : Nat) (cs : List Value) (x : DataW H × List MemPlace), DataW.trod enc Tryd.prog w 0 sp hd fuel 29 cs = some x →
    ∃ (f : F) (a : Option Addr) (cap : Nat), cs = [.slice a (len f) cap] ∧ VA w 0 f a ∧ len f ≤ 9223372036854775807 ∧ Lm f := by
  intro fuel
  induction fuel using Nat.strongRecOn with
  | _ fuel ih =>
    intro cs x h
    rcases DataW.trod_slice Tryd.underlying29 h with ⟨rfl, _⟩ | ⟨a, n, cap, elems, rest, m, hfm, rfl, _, hb, hl, hm, hlen, hel, _, _⟩
    · exact ⟨.nil, none, 0, rfl, Or.inl rfl, by simp [len], trivial⟩
    · unfold maxLen at hm
      have hfam : ∀ i, i < n → ∃ g : Int × F, ∃ a' cap', w.cell? (a.add (i * 2)) = some (.int .i64 g.1) ∧ w.cell? ((a.add (i * 2)).add 1) = some (.slice a' (len g.2) cap') ∧ VA w 0 g.2 a' ∧ len g.2 ≤ 9223372036854775807 ∧ Lm g.2 := by
        intro i hi
        have e := hel i hi
        rw [Tryd.cells31] at e
        have hi' : i < elems.length := by omega
        rw [List.getElem?_eq_getElem hi', Option.bind_eq_some_iff] at e
        obtain ⟨cs', h1, h2⟩ := e
        obtain ⟨_, hl1, hcc⟩ := World.cells?_some h1
        match cs', hl1 with
        | [u, v], _ =>
          have hc0 := hcc 0 (by omega)
          have hc1 := hcc 1 (by omega)
          obtain ⟨xs, k, hmk, _, _, hxl, hf⟩ := DataW.trod_struct Tryd.underlying31 h2
          have h3 : DataW.trod enc Tryd.prog w 0 sp hd k 3 (([u, v].drop 0).take (Tryd.prog.cellsOf 3)) = xs[0]? := hf 0 _ rfl
          have h4 : DataW.trod enc Tryd.prog w 0 sp hd k 29 (([u, v].drop 1).take (Tryd.prog.cellsOf 29)) = xs[1]? := hf 1 _ rfl
          match xs, hxl with
          | [y, z], _ =>
            rw [Tryd.cells3] at h3
            rw [Tryd.cells29] at h4
            obtain ⟨n', e0, _, _⟩ := DataW.trod_int Tryd.underlying3 (cs := [u]) (x := y) (by simpa using h3)
            obtain ⟨g, a', cap', e1, e2, e3, e4⟩ := ih k (by omega) [v] z (by simpa using h4)
            simp only [List.cons.injEq, and_true] at e0 e1
            exact ⟨(n', g), a', cap', by simpa [Addr.add, e0] using hc0, by rw [hc1, e1]; rfl, e2, e3, e4⟩
      haveI : Inhabited (Int × F) := ⟨(0, .nil)⟩
      obtain ⟨g, hg⟩ := choose_lt hfam
      by_cases hn : n = 0
      · subst hn
        exact ⟨.nil, some a, cap, rfl, Or.inl rfl, by simp [len], trivial⟩
      · obtain ⟨b, o, spot⟩ := a
        obtain ⟨_, _, hc0, _⟩ := hg 0 (by omega)
        have hs : spot = none := by simpa [Addr.add] using World.cell?_spot hc0
        subst hs
        refine ⟨build g 0 n, some ⟨b, o, none⟩, cap, by rw [len_build], VS_mk (Nat.zero_le _) fun i hi => ?_, by rw [len_build]; omega, Lm_mk fun i hi => ?_⟩
        · rw [len_build] at hi
          obtain ⟨a', cap', e0, e1, e2, _⟩ := hg i hi
          rw [kid_build g 0 n i hi, num_build g 0 n i hi, Nat.zero_add]
          rw [add_plain] at e0
          rw [add_plain, add_plain] at e1
          exact ⟨e0, a', cap', e1, e2⟩
        · rw [len_build] at hi
          obtain ⟨a', cap', _, _, _, e3, e4⟩ := hg i hi
          rw [kid_build g 0 n i hi, Nat.zero_add]
          exact ⟨e3, e4⟩

/-- A value by value. -/
theorem open_valV {H : Type} {enc : TypeId × Value → H} {W : World} {sp : Nat → Bool} {hd : Bool} {r : Reach} {b0 : Nat} {v : Value} {dd : DataW H} {p : List MemPlace} (hv : Value.okWide Tryd.prog W r b0 31 v) (h : DataW.Trod enc Tryd.prog W 0 sp hd 31 v dd p) :
    ∃ (n : Int) (f : F) (a : Option Addr) (cap : Nat), v = .agg #[.int .i64 n, .slice a (len f) cap] ∧ VA W 0 f a ∧ True ∧ len f ≤ 9223372036854775807 ∧ Lm f := by
  obtain ⟨cs, rfl, hsz⟩ := okWide_struct Tryd.underlying31 hv
  rw [Tryd.cells31] at hsz
  obtain ⟨fuel, hf⟩ := h
  obtain ⟨xs, k, _, _, _, hxl, hff⟩ := DataW.trod_struct Tryd.underlying31 hf
  have h3 : DataW.trod enc Tryd.prog W 0 sp hd k 3 (((Value.agg cs).cells.toList.drop 0).take (Tryd.prog.cellsOf 3)) = xs[0]? := hff 0 _ rfl
  have h4 : DataW.trod enc Tryd.prog W 0 sp hd k 29 (((Value.agg cs).cells.toList.drop 1).take (Tryd.prog.cellsOf 29)) = xs[1]? := hff 1 _ rfl
  rw [Tryd.cells3] at h3
  rw [Tryd.cells29] at h4
  obtain ⟨l⟩ := cs
  match l, hsz with
  | [u, c], _ =>
    match xs, hxl with
    | [y, z], _ =>
      obtain ⟨n', e0, _, _⟩ := DataW.trod_int Tryd.underlying3 (cs := [u]) (x := y) (by simpa [Value.cells] using h3)
      obtain ⟨g, a', cap', e1, e2, e3, e4⟩ := open_val k [c] z (by simpa [Value.cells] using h4)
      simp only [List.cons.injEq, and_true] at e0 e1
      exact ⟨n', g, a', cap', by rw [e0, e1], e2, trivial, e3, e4⟩

end Go.Proofs.YtngheeeadekdmaaDoor
