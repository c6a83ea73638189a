/- A type that comes in, opened. -/
import Derived.Test.YthdihpcpobhadaaDoorE1

import Derived.Deep.Slices

namespace Go.Proofs.YthdihpcpobhadaaDoor

open Go.RowKit Go.Deep Go.ChangeShapes Go.WideShapes

set_option maxRecDepth 100000

/-- So many of a family. -/
def build (g : Nat → Int × F) : Nat → Nat → F
  | _, 0 => .nil
  | i, n + 1 => .node 0 0 (g i).1 (g i).2 (build g (i + 1) n)
theorem len_build (g : Nat → Int × F) : ∀ i n, len (build g i n) = n
  | _, 0 => rfl
  | i, n + 1 => by simp [build, len, len_build g (i + 1) n]
theorem kid_build (g : Nat → Int × F) : ∀ i n j, j < n → kid (build g i n) j = (g (i + j)).2
  | _, 0, j, h => by omega
  | i, n + 1, 0, _ => rfl
  | i, n + 1, j + 1, h => by
    show kid (build g (i + 1) n) j = _
    rw [kid_build g (i + 1) n j (by omega)]; congr 2; omega
theorem num_build (g : Nat → Int × F) : ∀ i n j, j < n → num (build g i n) j = (g (i + j)).1
  | _, 0, j, h => by omega
  | i, n + 1, 0, _ => rfl
  | i, n + 1, j + 1, h => by
    show num (build g (i + 1) n) j = _
    rw [num_build g (i + 1) n j (by omega)]; congr 2; omega
theorem Lm_mk : ∀ {f : F}, (∀ j, j < len f → len (kid f j) ≤ 9223372036854775807 ∧ Lm (kid f j)) → Lm f
  | .nil, _ => trivial
  | .node _ _ _ k r, h => ⟨(h 0 (by simp [len])).1, (h 0 (by simp [len])).2, Lm_mk fun j hj => h (j + 1) (by simp only [len]; omega)⟩

theorem Tryd.cells82 : Tryd.prog.cellsOf 82 = 1 := by kernel_rfl
theorem Tryd.cells40 : Tryd.prog.cellsOf 40 = 1 := by kernel_rfl

theorem open_type {H : Type} {enc : TypeId × Value → H} {w : World} {sp : Nat → Bool} {hd : Bool} : ∀ (fuel : Nat) (cs : List Value) (x : DataW H × List MemPlace), DataW.trod enc Tryd.prog w 0 sp hd fuel 40 cs = some x →
    ∃ (f : F) (a : Option Addr) (cap : Nat), cs = [.slice a (len f) cap] ∧ TA w 0 f a ∧ len f ≤ 9223372036854775807 ∧ Lm f := by
  intro fuel
  induction fuel using Nat.strongRecOn with
  | _ fuel ih =>
    intro cs x h
    rcases DataW.trod_slice Tryd.underlying40 h with ⟨rfl, _⟩ | ⟨a, n, cap, elems, rest, m, hfm, rfl, _, hb, hl, hm, hlen, hel, _, _⟩
    · exact ⟨.nil, none, 0, rfl, Or.inl rfl, by simp [len], trivial⟩
    · unfold maxLen at hm
      have hfam : ∀ i, i < n → ∃ g : Int × F, ∃ a' cap', w.cell? (a.add i) = some (.slice a' (len g.2) cap') ∧ TA w 0 g.2 a' ∧ len g.2 ≤ 9223372036854775807 ∧ Lm g.2 := by
        intro i hi
        have e := hel i hi
        rw [Tryd.cells82, Nat.mul_one] at e
        have hi' : i < elems.length := by omega
        rw [List.getElem?_eq_getElem hi', Option.bind_eq_some_iff] at e
        obtain ⟨cs', h1, h2⟩ := e
        obtain ⟨_, hl1, _⟩ := World.cells?_some h1
        match cs', hl1 with
        | [v], _ =>
          have hc := cell_of_cells?_one h1
          obtain ⟨xs, k, hmk, _, _, hxl, hf⟩ := DataW.trod_struct Tryd.underlying82 h2
          have h3 : DataW.trod enc Tryd.prog w 0 sp hd k 40 (([v].drop 0).take (Tryd.prog.cellsOf 40)) = xs[0]? := hf 0 _ rfl
          match xs, hxl with
          | [y], _ =>
            rw [Tryd.cells40] at h3
            obtain ⟨g, a', cap', e1, e2, e3, e4⟩ := ih k (by omega) [v] y (by simpa using h3)
            simp only [List.cons.injEq, and_true] at e1
            exact ⟨(0, g), a', cap', by rw [hc, e1], e2, e3, e4⟩
      haveI : Inhabited (Int × F) := ⟨(0, .nil)⟩
      obtain ⟨g, hg⟩ := choose_lt hfam
      by_cases hn : n = 0
      · subst hn
        exact ⟨.nil, some a, cap, rfl, Or.inl rfl, by simp [len], trivial⟩
      · obtain ⟨b, o, spot⟩ := a
        obtain ⟨_, _, hc0, _⟩ := hg 0 (by omega)
        have hs : spot = none := by simpa [Addr.add] using World.cell?_spot hc0
        subst hs
        refine ⟨build g 0 n, some ⟨b, o, none⟩, cap, by rw [len_build], SA_mk (Nat.zero_le _) fun i hi => ?_, by rw [len_build]; omega, Lm_mk fun i hi => ?_⟩
        · rw [len_build] at hi
          obtain ⟨a', cap', e1, e2, _⟩ := hg i hi
          rw [kid_build g 0 n i hi, Nat.zero_add]
          rw [add_plain] at e1
          exact ⟨a', cap', e1, e2⟩
        · rw [len_build] at hi
          obtain ⟨a', cap', _, _, e3, e4⟩ := hg i hi
          rw [kid_build g 0 n i hi, Nat.zero_add]
          exact ⟨e3, e4⟩

/-- A type by value. -/
theorem open_typeV {H : Type} {enc : TypeId × Value → H} {W : World} {sp : Nat → Bool} {hd : Bool} {r : Reach} {b0 : Nat} {v : Value} {dd : DataW H} {p : List MemPlace} (hv : Value.okWide Tryd.prog W r b0 82 v) (h : DataW.Trod enc Tryd.prog W 0 sp hd 82 v dd p) :
    ∃ (f : F) (a : Option Addr) (cap : Nat), v = .agg #[.slice a (len f) cap] ∧ TA W 0 f a ∧ len f ≤ 9223372036854775807 ∧ Lm f := by
  obtain ⟨cs, rfl, hsz⟩ := okWide_struct Tryd.underlying82 hv
  rw [Tryd.cells82] at hsz
  obtain ⟨fuel, hf⟩ := h
  obtain ⟨xs, k, _, _, _, hxl, hff⟩ := DataW.trod_struct Tryd.underlying82 hf
  have h3 : DataW.trod enc Tryd.prog W 0 sp hd k 40 (((Value.agg cs).cells.toList.drop 0).take (Tryd.prog.cellsOf 40)) = xs[0]? := hff 0 _ rfl
  rw [Tryd.cells40] at h3
  obtain ⟨l⟩ := cs
  match l, hsz with
  | [c], _ =>
    match xs, hxl with
    | [y], _ =>
      obtain ⟨g, a', cap', e1, e2, e3, e4⟩ := open_type k [c] y (by simpa [Value.cells] using h3)
      simp only [List.cons.injEq, and_true] at e1
      exact ⟨g, a', cap', by rw [e1], e2, e3, e4⟩

end Go.Proofs.YthdihpcpobhadaaDoor
