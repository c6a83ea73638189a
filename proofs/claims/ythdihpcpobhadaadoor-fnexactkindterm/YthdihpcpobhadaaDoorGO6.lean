/- A type that comes in, opened. What an argument that is a list of numbers is. A place that comes in, opened. Functions that come in, opened. Texts, types and a term that come in, opened. -/
import Derived.Test.YthdihpcpobhadaaDoorGKT1
import Derived.Deep.Slices
import Derived.Test.YthdihpcpobhadaaDoorGTM1
import Derived.WalkKit
import Derived.ProofKit
import Derived.OpenShut
import Derived.Test.YthdihpcpobhadaaDoorGSZ2
import Derived.SliceStrings
namespace Go.Proofs.YthdihpcpobhadaaDoor

open Go.RowKit Go.Deep Go.ChangeShapes Go.WideShapes

set_option maxRecDepth 100000

/-- So many of a family. -/
def build (g : Nat → Int × F) : Nat → Nat → F
  | _, 0 => .nil
  | i, n + 1 => .node 0 0 (g i).1 (g i).2 (build g (i + 1) n)
theorem len_build (g : Nat → Int × F) : ∀ i n, len (build g i n) = n
  | _, 0 => rfl
  | i, n + 1 => by simp [build, len, len_build g (i + 1) n]
theorem kid_build (g : Nat → Int × F) : ∀ i n j, j < n → kid (build g i n) j = (g (i + j)).2
  | _, 0, j, h => by omega
  | i, n + 1, 0, _ => rfl
  | i, n + 1, j + 1, h => by
    show kid (build g (i + 1) n) j = _
    rw [kid_build g (i + 1) n j (by omega)]; congr 2; omega
theorem num_build (g : Nat → Int × F) : ∀ i n j, j < n → num (build g i n) j = (g (i + j)).1
  | _, 0, j, h => by omega
  | i, n + 1, 0, _ => rfl
  | i, n + 1, j + 1, h => by
    show num (build g (i + 1) n) j = _
    rw [num_build g (i + 1) n j (by omega)]; congr 2; omega
theorem Lm_mk : ∀ {f : F}, (∀ j, j < len f → len (kid f j) ≤ 9223372036854775807 ∧ Lm (kid f j)) → Lm f
  | .nil, _ => trivial
  | .node _ _ _ k r, h => ⟨(h 0 (by simp [len])).1, (h 0 (by simp [len])).2, Lm_mk fun j hj => h (j + 1) (by simp only [len]; omega)⟩

theorem Tryd.cells82 : Tryd.prog.cellsOf 82 = 1 := by kernel_rfl
theorem Tryd.cells40 : Tryd.prog.cellsOf 40 = 1 := by kernel_rfl

theorem open_type {H : Type} {enc : TypeId × Value → H} {w : World} {sp : Nat → Bool} {hd : Bool} : ∀ (fuel : Nat) (cs : List Value) (x : DataW H × List MemPlace), DataW.trod enc Tryd.prog w 0 sp hd fuel 40 cs = some x →
    ∃ (f : F) (a : Option Addr) (cap : Nat), cs = [.slice a (len f) cap] ∧ TA w 0 f a ∧ len f ≤ 9223372036854775807 ∧ Lm f := by
  intro fuel
  induction fuel using Nat.strongRecOn with
  | _ fuel ih =>
    intro cs x h
    rcases DataW.trod_slice Tryd.underlying40 h with ⟨rfl, _⟩ | ⟨a, n, cap, elems, rest, m, hfm, rfl, _, hb, hl, hm, hlen, hel, _, _⟩
    · exact ⟨.nil, none, 0, rfl, Or.inl rfl, by simp [len], trivial⟩
    · unfold maxLen at hm
      have hfam : ∀ i, i < n → ∃ g : Int × F, ∃ a' cap', w.cell? (a.add i) = some (.slice a' (len g.2) cap') ∧ TA w 0 g.2 a' ∧ len g.2 ≤ 9223372036854775807 ∧ Lm g.2 := by
        intro i hi
        have e := hel i hi
        rw [Tryd.cells82, Nat.mul_one] at e
        have hi' : i < elems.length := by omega
        rw [List.getElem?_eq_getElem hi', Option.bind_eq_some_iff] at e
        obtain ⟨cs', h1, h2⟩ := e
        obtain ⟨_, hl1, _⟩ := World.cells?_some h1
        match cs', hl1 with
        | [v], _ =>
          have hc := cell_of_cells?_one h1
          obtain ⟨xs, k, hmk, _, _, hxl, hf⟩ := DataW.trod_struct Tryd.underlying82 h2
          have h3 : DataW.trod enc Tryd.prog w 0 sp hd k 40 (([v].drop 0).take (Tryd.prog.cellsOf 40)) = xs[0]? := hf 0 _ rfl
          match xs, hxl with
          | [y], _ =>
            rw [Tryd.cells40] at h3
            obtain ⟨g, a', cap', e1, e2, e3, e4⟩ := ih k (by omega) [v] y (by simpa using h3)
            simp only [List.cons.injEq, and_true] at e1
            exact ⟨(0, g), a', cap', by rw [hc, e1], e2, e3, e4⟩
      haveI : Inhabited (Int × F) := ⟨(0, .nil)⟩
      obtain ⟨g, hg⟩ := choose_lt hfam
      by_cases hn : n = 0
      · subst hn
        exact ⟨.nil, some a, cap, rfl, Or.inl rfl, by simp [len], trivial⟩
      · obtain ⟨b, o, spot⟩ := a
        obtain ⟨_, _, hc0, _⟩ := hg 0 (by omega)
        have hs : spot = none := by simpa [Addr.add] using World.cell?_spot hc0
        subst hs
        refine ⟨build g 0 n, some ⟨b, o, none⟩, cap, by rw [len_build], SA_mk (Nat.zero_le _) fun i hi => ?_, by rw [len_build]; omega, Lm_mk fun i hi => ?_⟩
        · rw [len_build] at hi
          obtain ⟨a', cap', e1, e2, _⟩ := hg i hi
          rw [kid_build g 0 n i hi, Nat.zero_add]
          rw [add_plain] at e1
          exact ⟨a', cap', e1, e2⟩
        · rw [len_build] at hi
          obtain ⟨a', cap', _, _, e3, e4⟩ := hg i hi
          rw [kid_build g 0 n i hi, Nat.zero_add]
          exact ⟨e3, e4⟩

/-- A type by value. -/
theorem open_typeV {H : Type} {enc : TypeId × Value → H} {W : World} {sp : Nat → Bool} {hd : Bool} {r : Reach} {b0 : Nat} {v : Value} {dd : DataW H} {p : List MemPlace} (hv : Value.okWide Tryd.prog W r b0 82 v) (h : DataW.Trod enc Tryd.prog W 0 sp hd 82 v dd p) :
    ∃ (f : F) (a : Option Addr) (cap : Nat), v = .agg #[.slice a (len f) cap] ∧ TA W 0 f a ∧ len f ≤ 9223372036854775807 ∧ Lm f := by
  obtain ⟨cs, rfl, hsz⟩ := okWide_struct Tryd.underlying82 hv
  rw [Tryd.cells82] at hsz
  obtain ⟨fuel, hf⟩ := h
  obtain ⟨xs, k, _, _, _, hxl, hff⟩ := DataW.trod_struct Tryd.underlying82 hf
  have h3 : DataW.trod enc Tryd.prog W 0 sp hd k 40 (((Value.agg cs).cells.toList.drop 0).take (Tryd.prog.cellsOf 40)) = xs[0]? := hff 0 _ rfl
  rw [Tryd.cells40] at h3
  obtain ⟨l⟩ := cs
  match l, hsz with
  | [c], _ =>
    match xs, hxl with
    | [y], _ =>
      obtain ⟨g, a', cap', e1, e2, e3, e4⟩ := open_type k [c] y (by simpa [Value.cells] using h3)
      simp only [List.cons.injEq, and_true] at e1
      exact ⟨g, a', cap', by rw [e1], e2, e3, e4⟩

end Go.Proofs.YthdihpcpobhadaaDoor

namespace Go.Proofs.YthdihpcpobhadaaDoor

open Go.ChangeShapes Go.WideShapes Go.ChangeAt Go.RowKit Go.Deep

set_option maxRecDepth 100000

/-- A list of numbers by value. -/
theorem open_intsV {H : Type} {enc : TypeId × Value → H} {W : World} {sp : Nat → Bool} {hd : Bool} {r : Reach} {b0 : Nat} {v : Value} {dd : DataW H} {p : List MemPlace} (hv : Value.okWide Tryd.prog W r b0 25 v) (h : DataW.Trod enc Tryd.prog W 0 sp hd 25 v dd p) :
    ∃ (xs : List Int) (a : Option Addr) (cap : Nat), v = .slice a xs.length cap ∧ PA W 0 xs a ∧ xs.length ≤ 9223372036854775807 := by
  obtain ⟨a, len, cap, rfl⟩ := okWide_slice Tryd.underlying25 hv
  obtain ⟨fuel, hf⟩ := h
  rcases open_ints Tryd.underlying25 Tryd.underlying3 (by kernel_rfl) hf with ⟨hcs, _⟩ | ⟨x, l, c, zs, hcs, _, hl, hm, hz, _, hcell, _⟩
  · simp [Value.cells] at hcs
    obtain ⟨rfl, rfl, rfl⟩ := hcs
    exact ⟨[], none, 0, rfl, Or.inl rfl, by simp⟩
  · simp [Value.cells] at hcs
    obtain ⟨rfl, rfl, rfl⟩ := hcs
    unfold maxLen at hm
    have hle : len ≤ zs.length := by rw [hz]; split <;> omega
    have htl : (zs.take len).length = len := by simp; omega
    refine ⟨zs.take len, some x, cap, by rw [htl], ?_, by omega⟩
    by_cases h0 : len = 0
    · exact Or.inl (by omega)
    · obtain ⟨b, o, s⟩ := x
      have h1 := hcell 0 (by omega)
      have hs : s = none := by simpa [Addr.add] using World.cell?_spot h1
      subst hs
      refine Or.inr ⟨b, o, rfl, Nat.zero_le _, fun i hi => ?_⟩
      have := hcell i (by omega)
      rw [add_plain] at this
      rw [this]
      simp [List.getD, List.getElem?_take_of_lt (show i < len by omega)]

end Go.Proofs.YthdihpcpobhadaaDoor

namespace Go.Proofs.YthdihpcpobhadaaDoor

open Go.RowKit Go.Deep Go.ChangeShapes Go.WideShapes Go.ChangeAt

set_option maxRecDepth 100000
theorem Tryd.cells25 : Tryd.prog.cellsOf 25 = 1 := by kernel_rfl
theorem Tryd.cells9 : Tryd.prog.cellsOf 9 = 1 := by kernel_rfl

/-- Cells that are a list of numbers. -/
theorem open_intsC {H : Type} {enc : TypeId × Value → H} {W : World} {sp : Nat → Bool} {hd : Bool} {fuel : Nat} {cs : List Value} {x : DataW H × List MemPlace} (hf : DataW.trod enc Tryd.prog W 0 sp hd fuel 25 cs = some x) :
    ∃ (xs : List Int) (a : Option Addr) (cap : Nat), cs = [.slice a xs.length cap] ∧ PA W 0 xs a ∧ xs.length ≤ 9223372036854775807 ∧ xs.length ≤ cap ∧ cap ≤ 9223372036854775807 := by
  rcases open_ints Tryd.underlying25 Tryd.underlying3 (by kernel_rfl) hf with ⟨hcs, _⟩ | ⟨x, len, cap, zs, hcs, _, hl, hm, hz, _, hcell, _⟩
  · exact ⟨[], none, 0, hcs, Or.inl rfl, by simp, by simp, by simp⟩
  · unfold maxLen at hm
    have hle : len ≤ zs.length := by rw [hz]; split <;> omega
    have htl : (zs.take len).length = len := by simp; omega
    refine ⟨zs.take len, some x, cap, by rw [htl]; exact hcs, ?_, by omega, by omega, by omega⟩
    by_cases h0 : len = 0
    · exact Or.inl (by omega)
    · obtain ⟨b, o, s⟩ := x
      have h1 := hcell 0 (by omega)
      have hs : s = none := by simpa [Addr.add] using World.cell?_spot h1
      subst hs
      refine Or.inr ⟨b, o, rfl, Nat.zero_le _, fun i hi => ?_⟩
      have := hcell i (by omega)
      rw [add_plain] at this
      rw [this]
      simp [List.getD, List.getElem?_take_of_lt (show i < len by omega)]

end Go.Proofs.YthdihpcpobhadaaDoor

namespace Go.Proofs.YthdihpcpobhadaaDoor

open Go.RowKit Go.Deep Go.ChangeShapes Go.WideShapes Go.ChangeAt

set_option maxRecDepth 100000

theorem Tryd.cells43 : Tryd.prog.cellsOf 43 = 5 := by kernel_rfl
theorem Tryd.cells41 : Tryd.prog.cellsOf 41 = 1 := by kernel_rfl
theorem Tryd.cells23 : Tryd.prog.cellsOf 23 = 1 := by kernel_rfl
theorem Tryd.cells3 : Tryd.prog.cellsOf 3 = 1 := by kernel_rfl

/-- Cells that are a list of texts. -/
theorem open_strsC {H : Type} {enc : TypeId × Value → H} {W : World} {sp : Nat → Bool} {hd : Bool} {fuel : Nat} {cs : List Value} {x : DataW H × List MemPlace} (hf : DataW.trod enc Tryd.prog W 0 sp hd fuel 23 cs = some x) :
    ∃ (xs : List ByteArray) (a : Option Addr) (cap : Nat), cs = [.slice a xs.length cap] ∧ XA W 0 xs a ∧ xs.length ≤ cap ∧ xs.length ≤ 9223372036854775807 ∧ XLm xs := by
  rcases open_strings Tryd.underlying23 Tryd.underlying9 (by kernel_rfl) hf with ⟨hcs, _⟩ | ⟨x, len, cap, zs, hcs, _, hl, hm, hz, _, hcell, hsz⟩
  · exact ⟨[], none, 0, hcs, Or.inl rfl, by simp, by simp, fun i hi => by simp at hi⟩
  · unfold maxLen at hm hsz
    have hle : len ≤ zs.length := by rw [hz]; split <;> omega
    have htl : (zs.take len).length = len := by simp; omega
    refine ⟨zs.take len, some x, cap, by rw [htl]; exact hcs, ?_, by omega, by omega, fun i hi => ?_⟩
    · by_cases h0 : len = 0
      · exact Or.inl (by omega)
      · obtain ⟨b, o, s⟩ := x
        have h1 := hcell 0 (by omega)
        have hs : s = none := by simpa [Addr.add] using World.cell?_spot h1
        subst hs
        refine Or.inr ⟨b, o, rfl, Nat.zero_le _, fun i hi => ?_⟩
        have := hcell i (by omega)
        rw [add_plain] at this
        rw [this]
        simp [List.getD, List.getElem?_take_of_lt (show i < len by omega), show i < zs.length by omega]
    · rw [htl] at hi
      have := hsz (zs.getD i ⟨#[]⟩) (by simp [List.getD, show i < zs.length by omega])
      simp only [List.getD] at this ⊢
      rw [List.getElem?_take_of_lt hi]
      exact this

/-- So many of a family. -/
def buildT (g : Nat → (Int × Int × ByteArray × List Int × TM)) : Nat → Nat → TM
  | _, 0 => .nil
  | i, n + 1 => .node 0 0 ((g i).1, (g i).2.1, (g i).2.2.1, (g i).2.2.2.1) (g i).2.2.2.2 (buildT g (i + 1) n)
theorem tlen_buildT (g : Nat → (Int × Int × ByteArray × List Int × TM)) : ∀ i n, tlen (buildT g i n) = n
  | _, 0 => rfl
  | i, n + 1 => by simp [buildT, tlen, tlen_buildT g (i + 1) n]
theorem tkind_buildT (g : Nat → (Int × Int × ByteArray × List Int × TM)) : ∀ i n j, j < n → tkind (buildT g i n) j = (g (i + j)).1
  | _, 0, j, h => by omega
  | i, n + 1, 0, _ => rfl
  | i, n + 1, j + 1, h => by
    show tkind (buildT g (i + 1) n) j = _
    rw [tkind_buildT g (i + 1) n j (by omega), show i + 1 + j = i + (j + 1) by omega]
theorem tnum_buildT (g : Nat → (Int × Int × ByteArray × List Int × TM)) : ∀ i n j, j < n → tnum (buildT g i n) j = (g (i + j)).2.1
  | _, 0, j, h => by omega
  | i, n + 1, 0, _ => rfl
  | i, n + 1, j + 1, h => by
    show tnum (buildT g (i + 1) n) j = _
    rw [tnum_buildT g (i + 1) n j (by omega), show i + 1 + j = i + (j + 1) by omega]
theorem tname_buildT (g : Nat → (Int × Int × ByteArray × List Int × TM)) : ∀ i n j, j < n → tname (buildT g i n) j = (g (i + j)).2.2.1
  | _, 0, j, h => by omega
  | i, n + 1, 0, _ => rfl
  | i, n + 1, j + 1, h => by
    show tname (buildT g (i + 1) n) j = _
    rw [tname_buildT g (i + 1) n j (by omega), show i + 1 + j = i + (j + 1) by omega]
theorem tpath_buildT (g : Nat → (Int × Int × ByteArray × List Int × TM)) : ∀ i n j, j < n → tpath (buildT g i n) j = (g (i + j)).2.2.2.1
  | _, 0, j, h => by omega
  | i, n + 1, 0, _ => rfl
  | i, n + 1, j + 1, h => by
    show tpath (buildT g (i + 1) n) j = _
    rw [tpath_buildT g (i + 1) n j (by omega), show i + 1 + j = i + (j + 1) by omega]
theorem tkid_buildT (g : Nat → (Int × Int × ByteArray × List Int × TM)) : ∀ i n j, j < n → tkid (buildT g i n) j = (g (i + j)).2.2.2.2
  | _, 0, j, h => by omega
  | i, n + 1, 0, _ => rfl
  | i, n + 1, j + 1, h => by
    show tkid (buildT g (i + 1) n) j = _
    rw [tkid_buildT g (i + 1) n j (by omega), show i + 1 + j = i + (j + 1) by omega]

theorem TLm_mk : ∀ {f : TM}, (∀ j, j < tlen f → (tname f j).size ≤ 9223372036854775807 ∧ (tpath f j).length ≤ 9223372036854775807 ∧ tlen (tkid f j) ≤ 9223372036854775807 ∧ TLm (tkid f j)) → TLm f
  | .nil, _ => trivial
  | .node _ _ (_, _, s, p) k r, h => ⟨(h 0 (by simp [tlen])).1, (h 0 (by simp [tlen])).2.1, (h 0 (by simp [tlen])).2.2.1, (h 0 (by simp [tlen])).2.2.2, TLm_mk fun j hj => h (j + 1) (by simp only [tlen]; omega)⟩

theorem open_terms {H : Type} {enc : TypeId × Value → H} {w : World} {sp : Nat → Bool} {hd : Bool} : ∀ (fuel : Nat) (cs : List Value) (x : DataW H × List MemPlace), DataW.trod enc Tryd.prog w 0 sp hd fuel 41 cs = some x →
    ∃ (f : TM) (a : Option Addr) (cap : Nat), cs = [.slice a (tlen f) cap] ∧ MA w 0 f a ∧ tlen f ≤ 9223372036854775807 ∧ TLm f := by
  intro fuel
  induction fuel using Nat.strongRecOn with
  | _ fuel ih =>
    intro cs x h
    rcases DataW.trod_slice Tryd.underlying41 h with ⟨rfl, _⟩ | ⟨a, n, cap, elems, rest, m, hfm, rfl, _, hb, hl, hm, hlen, hel, _, _⟩
    · exact ⟨.nil, none, 0, rfl, Or.inl rfl, by simp [tlen], trivial⟩
    · unfold maxLen at hm
      have hfam : ∀ i, i < n → ∃ g : (Int × Int × ByteArray × List Int × TM), ∃ pa pc a' cap', w.cell? ((a.add (i * 5)).add 0) = some (.int .i64 g.1) ∧ w.cell? ((a.add (i * 5)).add 1) = some (.int .i64 g.2.1) ∧ w.cell? ((a.add (i * 5)).add 2) = some (.string g.2.2.1) ∧ w.cell? ((a.add (i * 5)).add 3) = some (.slice pa g.2.2.2.1.length pc) ∧ w.cell? ((a.add (i * 5)).add 4) = some (.slice a' (tlen g.2.2.2.2) cap') ∧ PA w 0 g.2.2.2.1 pa ∧ MA w 0 g.2.2.2.2 a' ∧ g.2.2.1.size ≤ 9223372036854775807 ∧ g.2.2.2.1.length ≤ 9223372036854775807 ∧ tlen g.2.2.2.2 ≤ 9223372036854775807 ∧ TLm g.2.2.2.2 ∧ g.2.2.2.1.length ≤ pc ∧ pc ≤ 9223372036854775807 := by
        intro i hi
        have e := hel i hi
        rw [Tryd.cells43] at e
        have hi' : i < elems.length := by omega
        rw [List.getElem?_eq_getElem hi', Option.bind_eq_some_iff] at e
        obtain ⟨cs', h1, h2⟩ := e
        obtain ⟨_, hl1, hcc⟩ := World.cells?_some h1
        match cs', hl1 with
        | [u0, u1, u2, u3, u4], _ =>
          have hc0 := hcc 0 (by omega)
          have hc1 := hcc 1 (by omega)
          have hc2 := hcc 2 (by omega)
          have hc3 := hcc 3 (by omega)
          have hc4 := hcc 4 (by omega)
          obtain ⟨xs, k, hmk, _, _, hxl, hf⟩ := DataW.trod_struct Tryd.underlying43 h2
          have f0 : DataW.trod enc Tryd.prog w 0 sp hd k 3 (([u0, u1, u2, u3, u4].drop 0).take (Tryd.prog.cellsOf 3)) = xs[0]? := hf 0 _ rfl
          have f1 : DataW.trod enc Tryd.prog w 0 sp hd k 3 (([u0, u1, u2, u3, u4].drop 1).take (Tryd.prog.cellsOf 3)) = xs[1]? := hf 1 _ rfl
          have f2 : DataW.trod enc Tryd.prog w 0 sp hd k 9 (([u0, u1, u2, u3, u4].drop 2).take (Tryd.prog.cellsOf 9)) = xs[2]? := hf 2 _ rfl
          have f3 : DataW.trod enc Tryd.prog w 0 sp hd k 25 (([u0, u1, u2, u3, u4].drop 3).take (Tryd.prog.cellsOf 25)) = xs[3]? := hf 3 _ rfl
          have f4 : DataW.trod enc Tryd.prog w 0 sp hd k 41 (([u0, u1, u2, u3, u4].drop 4).take (Tryd.prog.cellsOf 41)) = xs[4]? := hf 4 _ rfl
          match xs, hxl with
          | [y0, y1, y2, y3, y4], _ =>
            rw [Tryd.cells3] at f0 f1
            rw [Tryd.cells9] at f2
            rw [Tryd.cells25] at f3
            rw [Tryd.cells41] at f4
            obtain ⟨k', e0, _, _⟩ := DataW.trod_int Tryd.underlying3 (cs := [u0]) (x := y0) (by simpa using f0)
            obtain ⟨n', e1, _, _⟩ := DataW.trod_int Tryd.underlying3 (cs := [u1]) (x := y1) (by simpa using f1)
            obtain ⟨s', e2, _, z2⟩ := DataW.trod_string Tryd.underlying9 (cs := [u2]) (x := y2) (by simpa using f2)
            obtain ⟨p', pa, pc, e3, z3, z4, z8⟩ := open_intsC (cs := [u3]) (x := y3) (by simpa using f3)
            obtain ⟨g, a', cap', e4, z5, z6, z7⟩ := ih k (by omega) [u4] y4 (by simpa using f4)
            simp only [List.cons.injEq, and_true] at e0 e1 e2 e3 e4
            exact ⟨(k', n', s', p', g), pa, pc, a', cap', by rw [hc0, e0]; rfl, by rw [hc1, e1]; rfl, by rw [hc2, e2]; rfl, by rw [hc3, e3]; rfl, by rw [hc4, e4]; rfl, z3, z5, z2, z4, z6, z7, z8⟩
      haveI : Inhabited (Int × Int × ByteArray × List Int × TM) := ⟨(0, 0, ⟨#[]⟩, [], .nil)⟩
      obtain ⟨g, hg⟩ := choose_lt hfam
      by_cases hn : n = 0
      · subst hn
        exact ⟨.nil, some a, cap, rfl, Or.inl rfl, by simp [tlen], trivial⟩
      · obtain ⟨b, o, spot⟩ := a
        obtain ⟨_, _, _, _, hc0, _⟩ := hg 0 (by omega)
        have hs : spot = none := by simpa [Addr.add] using World.cell?_spot hc0
        subst hs
        refine ⟨buildT g 0 n, some ⟨b, o, none⟩, cap, by rw [tlen_buildT], MS_mk (Nat.zero_le _) fun i hi => ?_, by rw [tlen_buildT]; omega, TLm_mk fun i hi => ?_⟩
        · rw [tlen_buildT] at hi
          obtain ⟨pa, pc, a', cap', e0, e1, e2, e3, e4, e5, e6, _, _, _, _, e8⟩ := hg i hi
          simp only [MT]
          rw [tkind_buildT g 0 n i hi, tnum_buildT g 0 n i hi, tname_buildT g 0 n i hi, tpath_buildT g 0 n i hi, tkid_buildT g 0 n i hi, Nat.zero_add]
          rw [add_plain, add_plain] at e0 e1 e2 e3 e4
          exact ⟨e0, e1, e2, ⟨pa, pc, e3, e5, e8⟩, a', cap', e4, e6⟩
        · rw [tlen_buildT] at hi
          obtain ⟨pa, pc, a', cap', _, _, _, _, _, _, _, e7, e8, e9, ea, _⟩ := hg i hi
          rw [tname_buildT g 0 n i hi, tpath_buildT g 0 n i hi, tkid_buildT g 0 n i hi, Nat.zero_add]
          exact ⟨e7, e8, e9, ea⟩

/-- So many of a family. -/
def buildB (g : Nat → (Int × List ByteArray × ByteArray × TM × BD × TM × BD × TM)) : Nat → Nat → BD
  | _, 0 => .nil
  | i, n + 1 => .node 0 0 ((g i).1, (g i).2.1, (g i).2.2.1, (g i).2.2.2.1, (g i).2.2.2.2.2.1, (g i).2.2.2.2.2.2.2) (g i).2.2.2.2.1 (.node 0 0 (0, [], ⟨#[]⟩, .nil, .nil, .nil) (g i).2.2.2.2.2.2.1 (buildB g (i + 1) n))
theorem blen_buildB (g : Nat → (Int × List ByteArray × ByteArray × TM × BD × TM × BD × TM)) : ∀ i n, blen (buildB g i n) = n
  | _, 0 => rfl
  | i, n + 1 => by simp [buildB, blen, blen_buildB g (i + 1) n]
theorem bkind_buildB (g : Nat → (Int × List ByteArray × ByteArray × TM × BD × TM × BD × TM)) : ∀ i n j, j < n → bkind (buildB g i n) j = (g (i + j)).1
  | _, 0, j, h => by omega
  | i, n + 1, 0, _ => rfl
  | i, n + 1, j + 1, h => by
    show bkind (buildB g (i + 1) n) j = _
    rw [bkind_buildB g (i + 1) n j (by omega), show i + 1 + j = i + (j + 1) by omega]
theorem bnames_buildB (g : Nat → (Int × List ByteArray × ByteArray × TM × BD × TM × BD × TM)) : ∀ i n j, j < n → bnames (buildB g i n) j = (g (i + j)).2.1
  | _, 0, j, h => by omega
  | i, n + 1, 0, _ => rfl
  | i, n + 1, j + 1, h => by
    show bnames (buildB g (i + 1) n) j = _
    rw [bnames_buildB g (i + 1) n j (by omega), show i + 1 + j = i + (j + 1) by omega]
theorem bfn_buildB (g : Nat → (Int × List ByteArray × ByteArray × TM × BD × TM × BD × TM)) : ∀ i n j, j < n → bfn (buildB g i n) j = (g (i + j)).2.2.1
  | _, 0, j, h => by omega
  | i, n + 1, 0, _ => rfl
  | i, n + 1, j + 1, h => by
    show bfn (buildB g (i + 1) n) j = _
    rw [bfn_buildB g (i + 1) n j (by omega), show i + 1 + j = i + (j + 1) by omega]
theorem bterms_buildB (g : Nat → (Int × List ByteArray × ByteArray × TM × BD × TM × BD × TM)) : ∀ i n j, j < n → bterms (buildB g i n) j = (g (i + j)).2.2.2.1
  | _, 0, j, h => by omega
  | i, n + 1, 0, _ => rfl
  | i, n + 1, j + 1, h => by
    show bterms (buildB g (i + 1) n) j = _
    rw [bterms_buildB g (i + 1) n j (by omega), show i + 1 + j = i + (j + 1) by omega]
theorem bthen_buildB (g : Nat → (Int × List ByteArray × ByteArray × TM × BD × TM × BD × TM)) : ∀ i n j, j < n → bthen (buildB g i n) j = (g (i + j)).2.2.2.2.1
  | _, 0, j, h => by omega
  | i, n + 1, 0, _ => rfl
  | i, n + 1, j + 1, h => by
    show bthen (buildB g (i + 1) n) j = _
    rw [bthen_buildB g (i + 1) n j (by omega), show i + 1 + j = i + (j + 1) by omega]
theorem btsay_buildB (g : Nat → (Int × List ByteArray × ByteArray × TM × BD × TM × BD × TM)) : ∀ i n j, j < n → btsay (buildB g i n) j = (g (i + j)).2.2.2.2.2.1
  | _, 0, j, h => by omega
  | i, n + 1, 0, _ => rfl
  | i, n + 1, j + 1, h => by
    show btsay (buildB g (i + 1) n) j = _
    rw [btsay_buildB g (i + 1) n j (by omega), show i + 1 + j = i + (j + 1) by omega]
theorem belse_buildB (g : Nat → (Int × List ByteArray × ByteArray × TM × BD × TM × BD × TM)) : ∀ i n j, j < n → belse (buildB g i n) j = (g (i + j)).2.2.2.2.2.2.1
  | _, 0, j, h => by omega
  | i, n + 1, 0, _ => rfl
  | i, n + 1, j + 1, h => by
    show belse (buildB g (i + 1) n) j = _
    rw [belse_buildB g (i + 1) n j (by omega), show i + 1 + j = i + (j + 1) by omega]
theorem besay_buildB (g : Nat → (Int × List ByteArray × ByteArray × TM × BD × TM × BD × TM)) : ∀ i n j, j < n → besay (buildB g i n) j = (g (i + j)).2.2.2.2.2.2.2
  | _, 0, j, h => by omega
  | i, n + 1, 0, _ => rfl
  | i, n + 1, j + 1, h => by
    show besay (buildB g (i + 1) n) j = _
    rw [besay_buildB g (i + 1) n j (by omega), show i + 1 + j = i + (j + 1) by omega]

theorem BLm_mk : ∀ {f : BD}, (∀ j, j < blen f → (bnames f j).length ≤ 9223372036854775807 ∧ XLm (bnames f j) ∧ (bfn f j).size ≤ 9223372036854775807 ∧ tlen (bterms f j) ≤ 9223372036854775807 ∧ TLm (bterms f j) ∧ blen (bthen f j) ≤ 9223372036854775807 ∧ BLm (bthen f j) ∧ tlen (btsay f j) ≤ 9223372036854775807 ∧ TLm (btsay f j) ∧ blen (belse f j) ≤ 9223372036854775807 ∧ BLm (belse f j) ∧ tlen (besay f j) ≤ 9223372036854775807 ∧ TLm (besay f j)) → BLm f
  | .nil, _ => trivial
  | .node _ _ _ _ .nil, _ => trivial
  | .node _ _ (_, ns, fn, ts, tz, ez) tb (.node _ _ _ eb r), h => by
    obtain ⟨h1, h2, h3, h4, h5, h6, h7, h8, h9, ha, hb, hc, hd⟩ := h 0 (by simp [blen])
    exact ⟨h1, h2, h3, h4, h5, h6, h7, h8, h9, ha, hb, hc, hd, BLm_mk fun j hj => h (j + 1) (by simp only [blen]; omega)⟩

end Go.Proofs.YthdihpcpobhadaaDoor

namespace Go.Proofs.YthdihpcpobhadaaDoor

open Go.RowKit Go.Deep Go.ChangeShapes Go.WideShapes Go.ChangeAt

set_option maxRecDepth 100000

/-- A list of texts. -/
theorem open_textsV {H : Type} {enc : TypeId × Value → H} {W : World} {sp : Nat → Bool} {hd : Bool} {r : Reach} {b0 : Nat} {v : Value} {dd : DataW H} {p : List MemPlace} (hv : Value.okWide Tryd.prog W r b0 23 v) (h : DataW.Trod enc Tryd.prog W 0 sp hd 23 v dd p) :
    ∃ (xs : List ByteArray) (a : Option Addr) (cap : Nat), v = .slice a xs.length cap ∧ XA W 0 xs a ∧ xs.length ≤ 9223372036854775807 ∧ XLm xs := by
  obtain ⟨a, n, cap, rfl⟩ := okWide_slice Tryd.underlying23 hv
  obtain ⟨fuel, hf⟩ := h
  obtain ⟨xs, a', cap', e, h1, _, h3, h4⟩ := open_strsC (cs := [.slice a n cap]) (by simpa [Value.cells] using hf)
  simp only [List.cons.injEq, and_true] at e
  exact ⟨xs, a', cap', e, h1, h3, h4⟩
/-- A list of types. -/
theorem open_typesV {H : Type} {enc : TypeId × Value → H} {W : World} {sp : Nat → Bool} {hd : Bool} {r : Reach} {b0 : Nat} {v : Value} {dd : DataW H} {p : List MemPlace} (hv : Value.okWide Tryd.prog W r b0 40 v) (h : DataW.Trod enc Tryd.prog W 0 sp hd 40 v dd p) :
    ∃ (f : F) (a : Option Addr) (cap : Nat), v = .slice a (len f) cap ∧ TA W 0 f a ∧ len f ≤ 9223372036854775807 ∧ Lm f := by
  obtain ⟨a, n, cap, rfl⟩ := okWide_slice Tryd.underlying40 hv
  obtain ⟨fuel, hf⟩ := h
  obtain ⟨f, a', cap', e, h1, h2, h3⟩ := open_type fuel [.slice a n cap] _ (by simpa [Value.cells] using hf)
  simp only [List.cons.injEq, and_true] at e
  exact ⟨f, a', cap', e, h1, h2, h3⟩
/-- A term by value. -/
theorem open_termV {H : Type} {enc : TypeId × Value → H} {W : World} {sp : Nat → Bool} {hd : Bool} {r : Reach} {b0 : Nat} {v : Value} {dd : DataW H} {p : List MemPlace} (hv : Value.okWide Tryd.prog W r b0 43 v) (h : DataW.Trod enc Tryd.prog W 0 sp hd 43 v dd p) :
    ∃ (k n : Int) (s : ByteArray) (x : List Int) (xa : Option Addr) (xc : Nat) (f : TM) (a : Option Addr) (c : Nat), v = .agg #[.int .i64 k, .int .i64 n, .string s, .slice xa x.length xc, .slice a (tlen f) c] ∧ s.size ≤ 9223372036854775807 ∧ PA W 0 x xa ∧ x.length ≤ 9223372036854775807 ∧ MA W 0 f a ∧ tlen f ≤ 9223372036854775807 ∧ TLm f := by
  obtain ⟨cs, rfl, hsz⟩ := okWide_struct Tryd.underlying43 hv
  rw [Tryd.cells43] at hsz
  obtain ⟨fuel, hf⟩ := h
  obtain ⟨xs, k, _, _, _, hxl, hff⟩ := DataW.trod_struct Tryd.underlying43 hf
  have f0 : DataW.trod enc Tryd.prog W 0 sp hd k 3 (((Value.agg cs).cells.toList.drop 0).take (Tryd.prog.cellsOf 3)) = xs[0]? := hff 0 _ rfl
  have f1 : DataW.trod enc Tryd.prog W 0 sp hd k 3 (((Value.agg cs).cells.toList.drop 1).take (Tryd.prog.cellsOf 3)) = xs[1]? := hff 1 _ rfl
  have f2 : DataW.trod enc Tryd.prog W 0 sp hd k 9 (((Value.agg cs).cells.toList.drop 2).take (Tryd.prog.cellsOf 9)) = xs[2]? := hff 2 _ rfl
  have f3 : DataW.trod enc Tryd.prog W 0 sp hd k 25 (((Value.agg cs).cells.toList.drop 3).take (Tryd.prog.cellsOf 25)) = xs[3]? := hff 3 _ rfl
  have f4 : DataW.trod enc Tryd.prog W 0 sp hd k 41 (((Value.agg cs).cells.toList.drop 4).take (Tryd.prog.cellsOf 41)) = xs[4]? := hff 4 _ rfl
  rw [Tryd.cells3] at f0 f1
  rw [Tryd.cells9] at f2
  rw [Tryd.cells25] at f3
  rw [Tryd.cells41] at f4
  obtain ⟨l⟩ := cs
  match l, hsz with
  | [u0, u1, u2, u3, u4], _ =>
    match xs, hxl with
    | [y0, y1, y2, y3, y4], _ =>
      obtain ⟨k', e0, _, _⟩ := DataW.trod_int Tryd.underlying3 (cs := [u0]) (x := y0) (by simpa [Value.cells] using f0)
      obtain ⟨n', e1, _, _⟩ := DataW.trod_int Tryd.underlying3 (cs := [u1]) (x := y1) (by simpa [Value.cells] using f1)
      obtain ⟨s', e2, _, z2⟩ := DataW.trod_string Tryd.underlying9 (cs := [u2]) (x := y2) (by simpa [Value.cells] using f2)
      obtain ⟨p', pa, pc, e3, z3, z4, _⟩ := open_intsC (cs := [u3]) (x := y3) (by simpa [Value.cells] using f3)
      obtain ⟨g, a', cap', e4, z5, z6, z7⟩ := open_terms k [u4] y4 (by simpa [Value.cells] using f4)
      simp only [List.cons.injEq, and_true] at e0 e1 e2 e3 e4
      exact ⟨k', n', s', p', pa, pc, g, a', cap', by rw [e0, e1, e2, e3, e4], z2, z3, z4, z5, z6, z7⟩

end Go.Proofs.YthdihpcpobhadaaDoor
