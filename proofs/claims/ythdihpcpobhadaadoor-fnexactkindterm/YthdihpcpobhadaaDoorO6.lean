/- Texts, types and a term that come in, opened. -/
import Derived.Test.YthdihpcpobhadaaDoorO5

namespace Go.Proofs.YthdihpcpobhadaaDoor

open Go.RowKit Go.Deep Go.ChangeShapes Go.WideShapes Go.ChangeAt

set_option maxRecDepth 100000

/-- A list of texts. -/
theorem open_textsV {H : Type} {enc : TypeId × Value → H} {W : World} {sp : Nat → Bool} {hd : Bool} {r : Reach} {b0 : Nat} {v : Value} {dd : DataW H} {p : List MemPlace} (hv : Value.okWide Tryd.prog W r b0 23 v) (h : DataW.Trod enc Tryd.prog W 0 sp hd 23 v dd p) :
    ∃ (xs : List ByteArray) (a : Option Addr) (cap : Nat), v = .slice a xs.length cap ∧ XA W 0 xs a ∧ xs.length ≤ 9223372036854775807 ∧ XLm xs := by
  obtain ⟨a, n, cap, rfl⟩ := okWide_slice Tryd.underlying23 hv
  obtain ⟨fuel, hf⟩ := h
  obtain ⟨xs, a', cap', e, h1, _, h3, h4⟩ := open_strsC (cs := [.slice a n cap]) (by simpa [Value.cells] using hf)
  simp only [List.cons.injEq, and_true] at e
  exact ⟨xs, a', cap', e, h1, h3, h4⟩
/-- A list of types. -/
theorem open_typesV {H : Type} {enc : TypeId × Value → H} {W : World} {sp : Nat → Bool} {hd : Bool} {r : Reach} {b0 : Nat} {v : Value} {dd : DataW H} {p : List MemPlace} (hv : Value.okWide Tryd.prog W r b0 40 v) (h : DataW.Trod enc Tryd.prog W 0 sp hd 40 v dd p) :
    ∃ (f : F) (a : Option Addr) (cap : Nat), v = .slice a (len f) cap ∧ TA W 0 f a ∧ len f ≤ 9223372036854775807 ∧ Lm f := by
  obtain ⟨a, n, cap, rfl⟩ := okWide_slice Tryd.underlying40 hv
  obtain ⟨fuel, hf⟩ := h
  obtain ⟨f, a', cap', e, h1, h2, h3⟩ := open_type fuel [.slice a n cap] _ (by simpa [Value.cells] using hf)
  simp only [List.cons.injEq, and_true] at e
  exact ⟨f, a', cap', e, h1, h2, h3⟩
/-- A term by value. -/
theorem open_termV {H : Type} {enc : TypeId × Value → H} {W : World} {sp : Nat → Bool} {hd : Bool} {r : Reach} {b0 : Nat} {v : Value} {dd : DataW H} {p : List MemPlace} (hv : Value.okWide Tryd.prog W r b0 43 v) (h : DataW.Trod enc Tryd.prog W 0 sp hd 43 v dd p) :
    ∃ (k n : Int) (s : ByteArray) (x : List Int) (xa : Option Addr) (xc : Nat) (f : TM) (a : Option Addr) (c : Nat), v = .agg #[.int .i64 k, .int .i64 n, .string s, .slice xa x.length xc, .slice a (tlen f) c] ∧ s.size ≤ 9223372036854775807 ∧ PA W 0 x xa ∧ x.length ≤ 9223372036854775807 ∧ MA W 0 f a ∧ tlen f ≤ 9223372036854775807 ∧ TLm f := by
  obtain ⟨cs, rfl, hsz⟩ := okWide_struct Tryd.underlying43 hv
  rw [Tryd.cells43] at hsz
  obtain ⟨fuel, hf⟩ := h
  obtain ⟨xs, k, _, _, _, hxl, hff⟩ := DataW.trod_struct Tryd.underlying43 hf
  have f0 : DataW.trod enc Tryd.prog W 0 sp hd k 3 (((Value.agg cs).cells.toList.drop 0).take (Tryd.prog.cellsOf 3)) = xs[0]? := hff 0 _ rfl
  have f1 : DataW.trod enc Tryd.prog W 0 sp hd k 3 (((Value.agg cs).cells.toList.drop 1).take (Tryd.prog.cellsOf 3)) = xs[1]? := hff 1 _ rfl
  have f2 : DataW.trod enc Tryd.prog W 0 sp hd k 9 (((Value.agg cs).cells.toList.drop 2).take (Tryd.prog.cellsOf 9)) = xs[2]? := hff 2 _ rfl
  have f3 : DataW.trod enc Tryd.prog W 0 sp hd k 25 (((Value.agg cs).cells.toList.drop 3).take (Tryd.prog.cellsOf 25)) = xs[3]? := hff 3 _ rfl
  have f4 : DataW.trod enc Tryd.prog W 0 sp hd k 41 (((Value.agg cs).cells.toList.drop 4).take (Tryd.prog.cellsOf 41)) = xs[4]? := hff 4 _ rfl
  rw [Tryd.cells3] at f0 f1
  rw [Tryd.cells9] at f2
  rw [Tryd.cells25] at f3
  rw [Tryd.cells41] at f4
  obtain ⟨l⟩ := cs
  match l, hsz with
  | [u0, u1, u2, u3, u4], _ =>
    match xs, hxl with
    | [y0, y1, y2, y3, y4], _ =>
      obtain ⟨k', e0, _, _⟩ := DataW.trod_int Tryd.underlying3 (cs := [u0]) (x := y0) (by simpa [Value.cells] using f0)
      obtain ⟨n', e1, _, _⟩ := DataW.trod_int Tryd.underlying3 (cs := [u1]) (x := y1) (by simpa [Value.cells] using f1)
      obtain ⟨s', e2, _, z2⟩ := DataW.trod_string Tryd.underlying9 (cs := [u2]) (x := y2) (by simpa [Value.cells] using f2)
      obtain ⟨p', pa, pc, e3, z3, z4, _⟩ := open_intsC (cs := [u3]) (x := y3) (by simpa [Value.cells] using f3)
      obtain ⟨g, a', cap', e4, z5, z6, z7⟩ := open_terms k [u4] y4 (by simpa [Value.cells] using f4)
      simp only [List.cons.injEq, and_true] at e0 e1 e2 e3 e4
      exact ⟨k', n', s', p', pa, pc, g, a', cap', by rw [e0, e1, e2, e3, e4], z2, z3, z4, z5, z6, z7⟩

end Go.Proofs.YthdihpcpobhadaaDoor
