/- Functions that come in, opened. A text and a list of values that come in, opened. -/
import Derived.Test.YtldbmlojgakieaaGreatDoorGTO1
import Derived.Test.YtldbmlojgakieaaGreatDoorGO4
import Derived.SliceStrings
import Derived.Deep.Slices
import Derived.Test.YtldbmlojgakieaaGreatDoorGV3
namespace Go.Proofs.YtldbmlojgakieaaGreatDoor

open Go.RowKit Go.Deep Go.ChangeShapes Go.WideShapes Go.ChangeAt

set_option maxRecDepth 100000

theorem Tryz.cells162 : Tryz.prog.cellsOf 162 = 5 := by kernel_rfl
theorem Tryz.cells42 : Tryz.prog.cellsOf 42 = 1 := by kernel_rfl
theorem Tryz.cells159 : Tryz.prog.cellsOf 159 = 8 := by kernel_rfl
theorem Tryz.cells41 : Tryz.prog.cellsOf 41 = 1 := by kernel_rfl
theorem Tryz.cells44 : Tryz.prog.cellsOf 44 = 2 := by kernel_rfl
theorem Tryz.cells46 : Tryz.prog.cellsOf 46 = 4 := by kernel_rfl
theorem Tryz.cells40 : Tryz.prog.cellsOf 40 = 1 := by kernel_rfl
theorem Tryz.cells3 : Tryz.prog.cellsOf 3 = 1 := by kernel_rfl

/-- Cells that are a list of texts. -/
theorem open_strsC {H : Type} {enc : TypeId × Value → H} {W : World} {sp : Nat → Bool} {hd : Bool} {fuel : Nat} {cs : List Value} {x : DataW H × List MemPlace} (hf : DataW.trod enc Tryz.prog W 0 sp hd fuel 40 cs = some x) :
    ∃ (xs : List ByteArray) (a : Option Addr) (cap : Nat), cs = [.slice a xs.length cap] ∧ XA W 0 xs a ∧ xs.length ≤ cap ∧ xs.length ≤ 9223372036854775807 ∧ XLm xs := by
  rcases open_strings Tryz.underlying40 Tryz.underlying9 (by kernel_rfl) hf with ⟨hcs, _⟩ | ⟨x, len, cap, zs, hcs, _, hl, hm, hz, _, hcell, hsz⟩
  · exact ⟨[], none, 0, hcs, Or.inl rfl, by simp, by simp, fun i hi => by simp at hi⟩
  · unfold maxLen at hm hsz
    have hle : len ≤ zs.length := by rw [hz]; split <;> omega
    have htl : (zs.take len).length = len := by simp; omega
    refine ⟨zs.take len, some x, cap, by rw [htl]; exact hcs, ?_, by omega, by omega, fun i hi => ?_⟩
    · by_cases h0 : len = 0
      · exact Or.inl (by omega)
      · obtain ⟨b, o, s⟩ := x
        have h1 := hcell 0 (by omega)
        have hs : s = none := by simpa [Addr.add] using World.cell?_spot h1
        subst hs
        refine Or.inr ⟨b, o, rfl, Nat.zero_le _, fun i hi => ?_⟩
        have := hcell i (by omega)
        rw [add_plain] at this
        rw [this]
        simp [List.getD, List.getElem?_take_of_lt (show i < len by omega), show i < zs.length by omega]
    · rw [htl] at hi
      have := hsz (zs.getD i ⟨#[]⟩) (by simp [List.getD, show i < zs.length by omega])
      simp only [List.getD] at this ⊢
      rw [List.getElem?_take_of_lt hi]
      exact this

/-- So many of a family. -/
def buildT (g : Nat → (Int × Int × ByteArray × List Int × TM)) : Nat → Nat → TM
  | _, 0 => .nil
  | i, n + 1 => .node 0 0 ((g i).1, (g i).2.1, (g i).2.2.1, (g i).2.2.2.1) (g i).2.2.2.2 (buildT g (i + 1) n)
theorem tlen_buildT (g : Nat → (Int × Int × ByteArray × List Int × TM)) : ∀ i n, tlen (buildT g i n) = n
  | _, 0 => rfl
  | i, n + 1 => by simp [buildT, tlen, tlen_buildT g (i + 1) n]
theorem tkind_buildT (g : Nat → (Int × Int × ByteArray × List Int × TM)) : ∀ i n j, j < n → tkind (buildT g i n) j = (g (i + j)).1
  | _, 0, j, h => by omega
  | i, n + 1, 0, _ => rfl
  | i, n + 1, j + 1, h => by
    show tkind (buildT g (i + 1) n) j = _
    rw [tkind_buildT g (i + 1) n j (by omega), show i + 1 + j = i + (j + 1) by omega]
theorem tnum_buildT (g : Nat → (Int × Int × ByteArray × List Int × TM)) : ∀ i n j, j < n → tnum (buildT g i n) j = (g (i + j)).2.1
  | _, 0, j, h => by omega
  | i, n + 1, 0, _ => rfl
  | i, n + 1, j + 1, h => by
    show tnum (buildT g (i + 1) n) j = _
    rw [tnum_buildT g (i + 1) n j (by omega), show i + 1 + j = i + (j + 1) by omega]
theorem tname_buildT (g : Nat → (Int × Int × ByteArray × List Int × TM)) : ∀ i n j, j < n → tname (buildT g i n) j = (g (i + j)).2.2.1
  | _, 0, j, h => by omega
  | i, n + 1, 0, _ => rfl
  | i, n + 1, j + 1, h => by
    show tname (buildT g (i + 1) n) j = _
    rw [tname_buildT g (i + 1) n j (by omega), show i + 1 + j = i + (j + 1) by omega]
theorem tpath_buildT (g : Nat → (Int × Int × ByteArray × List Int × TM)) : ∀ i n j, j < n → tpath (buildT g i n) j = (g (i + j)).2.2.2.1
  | _, 0, j, h => by omega
  | i, n + 1, 0, _ => rfl
  | i, n + 1, j + 1, h => by
    show tpath (buildT g (i + 1) n) j = _
    rw [tpath_buildT g (i + 1) n j (by omega), show i + 1 + j = i + (j + 1) by omega]
theorem tkid_buildT (g : Nat → (Int × Int × ByteArray × List Int × TM)) : ∀ i n j, j < n → tkid (buildT g i n) j = (g (i + j)).2.2.2.2
  | _, 0, j, h => by omega
  | i, n + 1, 0, _ => rfl
  | i, n + 1, j + 1, h => by
    show tkid (buildT g (i + 1) n) j = _
    rw [tkid_buildT g (i + 1) n j (by omega), show i + 1 + j = i + (j + 1) by omega]

theorem TLm_mk : ∀ {f : TM}, (∀ j, j < tlen f → (tname f j).size ≤ 9223372036854775807 ∧ (tpath f j).length ≤ 9223372036854775807 ∧ tlen (tkid f j) ≤ 9223372036854775807 ∧ TLm (tkid f j)) → TLm f
  | .nil, _ => trivial
  | .node _ _ (_, _, s, p) k r, h => ⟨(h 0 (by simp [tlen])).1, (h 0 (by simp [tlen])).2.1, (h 0 (by simp [tlen])).2.2.1, (h 0 (by simp [tlen])).2.2.2, TLm_mk fun j hj => h (j + 1) (by simp only [tlen]; omega)⟩

theorem open_terms {H : Type} {enc : TypeId × Value → H} {w : World} {sp : Nat → Bool} {hd : Bool} : ∀ (fuel : Nat) (cs : List Value) (x : DataW H × List MemPlace), DataW.trod enc Tryz.prog w 0 sp hd fuel 42 cs = some x →
    ∃ (f : TM) (a : Option Addr) (cap : Nat), cs = [.slice a (tlen f) cap] ∧ MA w 0 f a ∧ tlen f ≤ 9223372036854775807 ∧ TLm f := by
  intro fuel
  induction fuel using Nat.strongRecOn with
  | _ fuel ih =>
    intro cs x h
    rcases DataW.trod_slice Tryz.underlying42 h with ⟨rfl, _⟩ | ⟨a, n, cap, elems, rest, m, hfm, rfl, _, hb, hl, hm, hlen, hel, _, _⟩
    · exact ⟨.nil, none, 0, rfl, Or.inl rfl, by simp [tlen], trivial⟩
    · unfold maxLen at hm
      have hfam : ∀ i, i < n → ∃ g : (Int × Int × ByteArray × List Int × TM), ∃ pa pc a' cap', w.cell? ((a.add (i * 5)).add 0) = some (.int .i64 g.1) ∧ w.cell? ((a.add (i * 5)).add 1) = some (.int .i64 g.2.1) ∧ w.cell? ((a.add (i * 5)).add 2) = some (.string g.2.2.1) ∧ w.cell? ((a.add (i * 5)).add 3) = some (.slice pa g.2.2.2.1.length pc) ∧ w.cell? ((a.add (i * 5)).add 4) = some (.slice a' (tlen g.2.2.2.2) cap') ∧ PA w 0 g.2.2.2.1 pa ∧ MA w 0 g.2.2.2.2 a' ∧ g.2.2.1.size ≤ 9223372036854775807 ∧ g.2.2.2.1.length ≤ 9223372036854775807 ∧ tlen g.2.2.2.2 ≤ 9223372036854775807 ∧ TLm g.2.2.2.2 ∧ g.2.2.2.1.length ≤ pc ∧ pc ≤ 9223372036854775807 := by
        intro i hi
        have e := hel i hi
        rw [Tryz.cells162] at e
        have hi' : i < elems.length := by omega
        rw [List.getElem?_eq_getElem hi', Option.bind_eq_some_iff] at e
        obtain ⟨cs', h1, h2⟩ := e
        obtain ⟨_, hl1, hcc⟩ := World.cells?_some h1
        match cs', hl1 with
        | [u0, u1, u2, u3, u4], _ =>
          have hc0 := hcc 0 (by omega)
          have hc1 := hcc 1 (by omega)
          have hc2 := hcc 2 (by omega)
          have hc3 := hcc 3 (by omega)
          have hc4 := hcc 4 (by omega)
          obtain ⟨xs, k, hmk, _, _, hxl, hf⟩ := DataW.trod_struct Tryz.underlying162 h2
          have f0 : DataW.trod enc Tryz.prog w 0 sp hd k 3 (([u0, u1, u2, u3, u4].drop 0).take (Tryz.prog.cellsOf 3)) = xs[0]? := hf 0 _ rfl
          have f1 : DataW.trod enc Tryz.prog w 0 sp hd k 3 (([u0, u1, u2, u3, u4].drop 1).take (Tryz.prog.cellsOf 3)) = xs[1]? := hf 1 _ rfl
          have f2 : DataW.trod enc Tryz.prog w 0 sp hd k 9 (([u0, u1, u2, u3, u4].drop 2).take (Tryz.prog.cellsOf 9)) = xs[2]? := hf 2 _ rfl
          have f3 : DataW.trod enc Tryz.prog w 0 sp hd k 119 (([u0, u1, u2, u3, u4].drop 3).take (Tryz.prog.cellsOf 119)) = xs[3]? := hf 3 _ rfl
          have f4 : DataW.trod enc Tryz.prog w 0 sp hd k 42 (([u0, u1, u2, u3, u4].drop 4).take (Tryz.prog.cellsOf 42)) = xs[4]? := hf 4 _ rfl
          match xs, hxl with
          | [y0, y1, y2, y3, y4], _ =>
            rw [Tryz.cells3] at f0 f1
            rw [Tryz.cells9] at f2
            rw [Tryz.cells119] at f3
            rw [Tryz.cells42] at f4
            obtain ⟨k', e0, _, _⟩ := DataW.trod_int Tryz.underlying3 (cs := [u0]) (x := y0) (by simpa using f0)
            obtain ⟨n', e1, _, _⟩ := DataW.trod_int Tryz.underlying3 (cs := [u1]) (x := y1) (by simpa using f1)
            obtain ⟨s', e2, _, z2⟩ := DataW.trod_string Tryz.underlying9 (cs := [u2]) (x := y2) (by simpa using f2)
            obtain ⟨p', pa, pc, e3, z3, z4, z8⟩ := open_intsC (cs := [u3]) (x := y3) (by simpa using f3)
            obtain ⟨g, a', cap', e4, z5, z6, z7⟩ := ih k (by omega) [u4] y4 (by simpa using f4)
            simp only [List.cons.injEq, and_true] at e0 e1 e2 e3 e4
            exact ⟨(k', n', s', p', g), pa, pc, a', cap', by rw [hc0, e0]; rfl, by rw [hc1, e1]; rfl, by rw [hc2, e2]; rfl, by rw [hc3, e3]; rfl, by rw [hc4, e4]; rfl, z3, z5, z2, z4, z6, z7, z8⟩
      haveI : Inhabited (Int × Int × ByteArray × List Int × TM) := ⟨(0, 0, ⟨#[]⟩, [], .nil)⟩
      obtain ⟨g, hg⟩ := choose_lt hfam
      by_cases hn : n = 0
      · subst hn
        exact ⟨.nil, some a, cap, rfl, Or.inl rfl, by simp [tlen], trivial⟩
      · obtain ⟨b, o, spot⟩ := a
        obtain ⟨_, _, _, _, hc0, _⟩ := hg 0 (by omega)
        have hs : spot = none := by simpa [Addr.add] using World.cell?_spot hc0
        subst hs
        refine ⟨buildT g 0 n, some ⟨b, o, none⟩, cap, by rw [tlen_buildT], MS_mk (Nat.zero_le _) fun i hi => ?_, by rw [tlen_buildT]; omega, TLm_mk fun i hi => ?_⟩
        · rw [tlen_buildT] at hi
          obtain ⟨pa, pc, a', cap', e0, e1, e2, e3, e4, e5, e6, _, _, _, _, e8⟩ := hg i hi
          simp only [MT]
          rw [tkind_buildT g 0 n i hi, tnum_buildT g 0 n i hi, tname_buildT g 0 n i hi, tpath_buildT g 0 n i hi, tkid_buildT g 0 n i hi, Nat.zero_add]
          rw [add_plain, add_plain] at e0 e1 e2 e3 e4
          exact ⟨e0, e1, e2, ⟨pa, pc, e3, e5, e8⟩, a', cap', e4, e6⟩
        · rw [tlen_buildT] at hi
          obtain ⟨pa, pc, a', cap', _, _, _, _, _, _, _, e7, e8, e9, ea, _⟩ := hg i hi
          rw [tname_buildT g 0 n i hi, tpath_buildT g 0 n i hi, tkid_buildT g 0 n i hi, Nat.zero_add]
          exact ⟨e7, e8, e9, ea⟩

/-- So many of a family. -/
def buildB (g : Nat → (Int × List ByteArray × ByteArray × TM × BD × TM × BD × TM)) : Nat → Nat → BD
  | _, 0 => .nil
  | i, n + 1 => .node 0 0 ((g i).1, (g i).2.1, (g i).2.2.1, (g i).2.2.2.1, (g i).2.2.2.2.2.1, (g i).2.2.2.2.2.2.2) (g i).2.2.2.2.1 (.node 0 0 (0, [], ⟨#[]⟩, .nil, .nil, .nil) (g i).2.2.2.2.2.2.1 (buildB g (i + 1) n))
theorem blen_buildB (g : Nat → (Int × List ByteArray × ByteArray × TM × BD × TM × BD × TM)) : ∀ i n, blen (buildB g i n) = n
  | _, 0 => rfl
  | i, n + 1 => by simp [buildB, blen, blen_buildB g (i + 1) n]
theorem bkind_buildB (g : Nat → (Int × List ByteArray × ByteArray × TM × BD × TM × BD × TM)) : ∀ i n j, j < n → bkind (buildB g i n) j = (g (i + j)).1
  | _, 0, j, h => by omega
  | i, n + 1, 0, _ => rfl
  | i, n + 1, j + 1, h => by
    show bkind (buildB g (i + 1) n) j = _
    rw [bkind_buildB g (i + 1) n j (by omega), show i + 1 + j = i + (j + 1) by omega]
theorem bnames_buildB (g : Nat → (Int × List ByteArray × ByteArray × TM × BD × TM × BD × TM)) : ∀ i n j, j < n → bnames (buildB g i n) j = (g (i + j)).2.1
  | _, 0, j, h => by omega
  | i, n + 1, 0, _ => rfl
  | i, n + 1, j + 1, h => by
    show bnames (buildB g (i + 1) n) j = _
    rw [bnames_buildB g (i + 1) n j (by omega), show i + 1 + j = i + (j + 1) by omega]
theorem bfn_buildB (g : Nat → (Int × List ByteArray × ByteArray × TM × BD × TM × BD × TM)) : ∀ i n j, j < n → bfn (buildB g i n) j = (g (i + j)).2.2.1
  | _, 0, j, h => by omega
  | i, n + 1, 0, _ => rfl
  | i, n + 1, j + 1, h => by
    show bfn (buildB g (i + 1) n) j = _
    rw [bfn_buildB g (i + 1) n j (by omega), show i + 1 + j = i + (j + 1) by omega]
theorem bterms_buildB (g : Nat → (Int × List ByteArray × ByteArray × TM × BD × TM × BD × TM)) : ∀ i n j, j < n → bterms (buildB g i n) j = (g (i + j)).2.2.2.1
  | _, 0, j, h => by omega
  | i, n + 1, 0, _ => rfl
  | i, n + 1, j + 1, h => by
    show bterms (buildB g (i + 1) n) j = _
    rw [bterms_buildB g (i + 1) n j (by omega), show i + 1 + j = i + (j + 1) by omega]
theorem bthen_buildB (g : Nat → (Int × List ByteArray × ByteArray × TM × BD × TM × BD × TM)) : ∀ i n j, j < n → bthen (buildB g i n) j = (g (i + j)).2.2.2.2.1
  | _, 0, j, h => by omega
  | i, n + 1, 0, _ => rfl
  | i, n + 1, j + 1, h => by
    show bthen (buildB g (i + 1) n) j = _
    rw [bthen_buildB g (i + 1) n j (by omega), show i + 1 + j = i + (j + 1) by omega]
theorem btsay_buildB (g : Nat → (Int × List ByteArray × ByteArray × TM × BD × TM × BD × TM)) : ∀ i n j, j < n → btsay (buildB g i n) j = (g (i + j)).2.2.2.2.2.1
  | _, 0, j, h => by omega
  | i, n + 1, 0, _ => rfl
  | i, n + 1, j + 1, h => by
    show btsay (buildB g (i + 1) n) j = _
    rw [btsay_buildB g (i + 1) n j (by omega), show i + 1 + j = i + (j + 1) by omega]
theorem belse_buildB (g : Nat → (Int × List ByteArray × ByteArray × TM × BD × TM × BD × TM)) : ∀ i n j, j < n → belse (buildB g i n) j = (g (i + j)).2.2.2.2.2.2.1
  | _, 0, j, h => by omega
  | i, n + 1, 0, _ => rfl
  | i, n + 1, j + 1, h => by
    show belse (buildB g (i + 1) n) j = _
    rw [belse_buildB g (i + 1) n j (by omega), show i + 1 + j = i + (j + 1) by omega]
theorem besay_buildB (g : Nat → (Int × List ByteArray × ByteArray × TM × BD × TM × BD × TM)) : ∀ i n j, j < n → besay (buildB g i n) j = (g (i + j)).2.2.2.2.2.2.2
  | _, 0, j, h => by omega
  | i, n + 1, 0, _ => rfl
  | i, n + 1, j + 1, h => by
    show besay (buildB g (i + 1) n) j = _
    rw [besay_buildB g (i + 1) n j (by omega), show i + 1 + j = i + (j + 1) by omega]

theorem BLm_mk : ∀ {f : BD}, (∀ j, j < blen f → (bnames f j).length ≤ 9223372036854775807 ∧ XLm (bnames f j) ∧ (bfn f j).size ≤ 9223372036854775807 ∧ tlen (bterms f j) ≤ 9223372036854775807 ∧ TLm (bterms f j) ∧ blen (bthen f j) ≤ 9223372036854775807 ∧ BLm (bthen f j) ∧ tlen (btsay f j) ≤ 9223372036854775807 ∧ TLm (btsay f j) ∧ blen (belse f j) ≤ 9223372036854775807 ∧ BLm (belse f j) ∧ tlen (besay f j) ≤ 9223372036854775807 ∧ TLm (besay f j)) → BLm f
  | .nil, _ => trivial
  | .node _ _ _ _ .nil, _ => trivial
  | .node _ _ (_, ns, fn, ts, tz, ez) tb (.node _ _ _ eb r), h => by
    obtain ⟨h1, h2, h3, h4, h5, h6, h7, h8, h9, ha, hb, hc, hd⟩ := h 0 (by simp [blen])
    exact ⟨h1, h2, h3, h4, h5, h6, h7, h8, h9, ha, hb, hc, hd, BLm_mk fun j hj => h (j + 1) (by simp only [blen]; omega)⟩

/-- Cells that are a body, where its bindings are read by a smaller reader. -/
theorem open_bodyC {H : Type} {enc : TypeId × Value → H} {w : World} {sp : Nat → Bool} {hd : Bool} {fuel : Nat} {v0 v1 : Value} {x : DataW H × List MemPlace}
    (ih : ∀ k, k < fuel → ∀ (cs : List Value) (x : DataW H × List MemPlace), DataW.trod enc Tryz.prog w 0 sp hd k 41 cs = some x → ∃ (f : BD) (a : Option Addr) (cap : Nat), cs = [.slice a (blen f) cap] ∧ BA w 0 f a ∧ blen f ≤ 9223372036854775807 ∧ BLm f)
    (h : DataW.trod enc Tryz.prog w 0 sp hd fuel 44 [v0, v1] = some x) :
    ∃ (b : BD) (ba : Option Addr) (bc : Nat) (z : TM) (za : Option Addr) (zc : Nat), v0 = .slice ba (blen b) bc ∧ v1 = .slice za (tlen z) zc ∧ BA w 0 b ba ∧ MA w 0 z za ∧ blen b ≤ 9223372036854775807 ∧ BLm b ∧ tlen z ≤ 9223372036854775807 ∧ TLm z := by
  obtain ⟨xs, k, hmk, _, _, hxl, hf⟩ := DataW.trod_struct Tryz.underlying44 h
  have f0 : DataW.trod enc Tryz.prog w 0 sp hd k 41 (([v0, v1].drop 0).take (Tryz.prog.cellsOf 41)) = xs[0]? := hf 0 _ rfl
  have f1 : DataW.trod enc Tryz.prog w 0 sp hd k 42 (([v0, v1].drop 1).take (Tryz.prog.cellsOf 42)) = xs[1]? := hf 1 _ rfl
  match xs, hxl with
  | [y0, y1], _ =>
    rw [Tryz.cells41] at f0
    rw [Tryz.cells42] at f1
    obtain ⟨b, ba, bc, e0, z0, z1, z2⟩ := ih k (by omega) [v0] y0 (by simpa using f0)
    obtain ⟨z, za, zc, e1, z3, z4, z5⟩ := open_terms k [v1] y1 (by simpa using f1)
    simp only [List.cons.injEq, and_true] at e0 e1
    exact ⟨b, ba, bc, z, za, zc, e0, e1, z0, z3, z1, z2, z4, z5⟩

theorem open_binds {H : Type} {enc : TypeId × Value → H} {w : World} {sp : Nat → Bool} {hd : Bool} : ∀ (fuel : Nat) (cs : List Value) (x : DataW H × List MemPlace), DataW.trod enc Tryz.prog w 0 sp hd fuel 41 cs = some x →
    ∃ (f : BD) (a : Option Addr) (cap : Nat), cs = [.slice a (blen f) cap] ∧ BA w 0 f a ∧ blen f ≤ 9223372036854775807 ∧ BLm f := by
  intro fuel
  induction fuel using Nat.strongRecOn with
  | _ fuel ih =>
    intro cs x h
    rcases DataW.trod_slice Tryz.underlying41 h with ⟨rfl, _⟩ | ⟨a, n, cap, elems, rest, m, hfm, rfl, _, hb, hl, hm, hlen, hel, _, _⟩
    · exact ⟨.nil, none, 0, rfl, Or.inl rfl, by simp [blen], trivial⟩
    · unfold maxLen at hm
      have hfam : ∀ i, i < n → ∃ g : (Int × List ByteArray × ByteArray × TM × BD × TM × BD × TM), ∃ a1 k1 a3 k3 a4 k4 a5 k5 a6 k6 a7 k7, w.cell? ((a.add (i * 8)).add 0) = some (.int .i64 g.1) ∧ w.cell? ((a.add (i * 8)).add 1) = some (.slice a1 g.2.1.length k1) ∧ w.cell? ((a.add (i * 8)).add 2) = some (.string g.2.2.1) ∧ w.cell? ((a.add (i * 8)).add 3) = some (.slice a3 (tlen g.2.2.2.1) k3) ∧ w.cell? ((a.add (i * 8)).add 4) = some (.slice a4 (blen g.2.2.2.2.1) k4) ∧ w.cell? ((a.add (i * 8)).add 5) = some (.slice a5 (tlen g.2.2.2.2.2.1) k5) ∧ w.cell? ((a.add (i * 8)).add 6) = some (.slice a6 (blen g.2.2.2.2.2.2.1) k6) ∧ w.cell? ((a.add (i * 8)).add 7) = some (.slice a7 (tlen g.2.2.2.2.2.2.2) k7) ∧
          (g.2.1.length ≤ k1 ∧ XA w 0 g.2.1 a1 ∧ MA w 0 g.2.2.2.1 a3 ∧ BA w 0 g.2.2.2.2.1 a4 ∧ MA w 0 g.2.2.2.2.2.1 a5 ∧ BA w 0 g.2.2.2.2.2.2.1 a6 ∧ MA w 0 g.2.2.2.2.2.2.2 a7) ∧
          (g.2.1.length ≤ 9223372036854775807 ∧ XLm g.2.1 ∧ g.2.2.1.size ≤ 9223372036854775807 ∧ tlen g.2.2.2.1 ≤ 9223372036854775807 ∧ TLm g.2.2.2.1 ∧ blen g.2.2.2.2.1 ≤ 9223372036854775807 ∧ BLm g.2.2.2.2.1 ∧ tlen g.2.2.2.2.2.1 ≤ 9223372036854775807 ∧ TLm g.2.2.2.2.2.1 ∧ blen g.2.2.2.2.2.2.1 ≤ 9223372036854775807 ∧ BLm g.2.2.2.2.2.2.1 ∧ tlen g.2.2.2.2.2.2.2 ≤ 9223372036854775807 ∧ TLm g.2.2.2.2.2.2.2) := by
        intro i hi
        have e := hel i hi
        rw [Tryz.cells159] at e
        have hi' : i < elems.length := by omega
        rw [List.getElem?_eq_getElem hi', Option.bind_eq_some_iff] at e
        obtain ⟨cs', h1, h2⟩ := e
        obtain ⟨_, hl1, hcc⟩ := World.cells?_some h1
        match cs', hl1 with
        | [u0, u1, u2, u3, u4, u5, u6, u7], _ =>
          have hc0 := hcc 0 (by omega)
          have hc1 := hcc 1 (by omega)
          have hc2 := hcc 2 (by omega)
          have hc3 := hcc 3 (by omega)
          have hc4 := hcc 4 (by omega)
          have hc5 := hcc 5 (by omega)
          have hc6 := hcc 6 (by omega)
          have hc7 := hcc 7 (by omega)
          obtain ⟨xs, k, hmk, _, _, hxl, hf⟩ := DataW.trod_struct Tryz.underlying159 h2
          have f0 : DataW.trod enc Tryz.prog w 0 sp hd k 3 (([u0, u1, u2, u3, u4, u5, u6, u7].drop 0).take (Tryz.prog.cellsOf 3)) = xs[0]? := hf 0 _ rfl
          have f1 : DataW.trod enc Tryz.prog w 0 sp hd k 40 (([u0, u1, u2, u3, u4, u5, u6, u7].drop 1).take (Tryz.prog.cellsOf 40)) = xs[1]? := hf 1 _ rfl
          have f2 : DataW.trod enc Tryz.prog w 0 sp hd k 9 (([u0, u1, u2, u3, u4, u5, u6, u7].drop 2).take (Tryz.prog.cellsOf 9)) = xs[2]? := hf 2 _ rfl
          have f3 : DataW.trod enc Tryz.prog w 0 sp hd k 42 (([u0, u1, u2, u3, u4, u5, u6, u7].drop 3).take (Tryz.prog.cellsOf 42)) = xs[3]? := hf 3 _ rfl
          have f4 : DataW.trod enc Tryz.prog w 0 sp hd k 44 (([u0, u1, u2, u3, u4, u5, u6, u7].drop 4).take (Tryz.prog.cellsOf 44)) = xs[4]? := hf 4 _ rfl
          have f5 : DataW.trod enc Tryz.prog w 0 sp hd k 44 (([u0, u1, u2, u3, u4, u5, u6, u7].drop 6).take (Tryz.prog.cellsOf 44)) = xs[5]? := hf 5 _ rfl
          match xs, hxl with
          | [y0, y1, y2, y3, y4, y5], _ =>
            rw [Tryz.cells3] at f0
            rw [Tryz.cells40] at f1
            rw [Tryz.cells9] at f2
            rw [Tryz.cells42] at f3
            rw [Tryz.cells44] at f4 f5
            obtain ⟨k', e0, _, _⟩ := DataW.trod_int Tryz.underlying3 (cs := [u0]) (x := y0) (by simpa using f0)
            obtain ⟨nm, a1, k1, e1, z1, z1c, z1l, z1x⟩ := open_strsC (cs := [u1]) (x := y1) (by simpa using f1)
            obtain ⟨s', e2, _, z2⟩ := DataW.trod_string Tryz.underlying9 (cs := [u2]) (x := y2) (by simpa using f2)
            obtain ⟨ts, a3, k3, e3, z3, z3l, z3m⟩ := open_terms k [u3] y3 (by simpa using f3)
            obtain ⟨tb, a4, k4, tz, a5, k5, e4, e5, z4, z5, z4l, z4m, z5l, z5m⟩ := open_bodyC (fuel := k) (v0 := u4) (v1 := u5) (x := y4) (fun k2 hk2 => ih k2 (by omega)) (by simpa using f4)
            obtain ⟨eb, a6, k6, ez, a7, k7, e6, e7, z6, z7, z6l, z6m, z7l, z7m⟩ := open_bodyC (fuel := k) (v0 := u6) (v1 := u7) (x := y5) (fun k2 hk2 => ih k2 (by omega)) (by simpa using f5)
            simp only [List.cons.injEq, and_true] at e0 e1 e2 e3
            exact ⟨(k', nm, s', ts, tb, tz, eb, ez), a1, k1, a3, k3, a4, k4, a5, k5, a6, k6, a7, k7, by rw [hc0, e0]; rfl, by rw [hc1, e1]; rfl, by rw [hc2, e2]; rfl, by rw [hc3, e3]; rfl, by rw [hc4, e4]; rfl, by rw [hc5, e5]; rfl, by rw [hc6, e6]; rfl, by rw [hc7, e7]; rfl, ⟨z1c, z1, z3, z4, z5, z6, z7⟩, ⟨z1l, z1x, z2, z3l, z3m, z4l, z4m, z5l, z5m, z6l, z6m, z7l, z7m⟩⟩
      haveI : Inhabited (Int × List ByteArray × ByteArray × TM × BD × TM × BD × TM) := ⟨(0, [], ⟨#[]⟩, .nil, .nil, .nil, .nil, .nil)⟩
      obtain ⟨g, hg⟩ := choose_lt hfam
      by_cases hn : n = 0
      · subst hn
        exact ⟨.nil, some a, cap, rfl, Or.inl rfl, by simp [blen], trivial⟩
      · obtain ⟨b, o, spot⟩ := a
        obtain ⟨_, _, _, _, _, _, _, _, _, _, _, _, hc0, _⟩ := hg 0 (by omega)
        have hs : spot = none := by simpa [Addr.add] using World.cell?_spot hc0
        subst hs
        refine ⟨buildB g 0 n, some ⟨b, o, none⟩, cap, by rw [blen_buildB], BS_mk (Nat.zero_le _) fun i hi => ?_, by rw [blen_buildB]; omega, BLm_mk fun i hi => ?_⟩
        · rw [blen_buildB] at hi
          obtain ⟨a1, k1, a3, k3, a4, k4, a5, k5, a6, k6, a7, k7, e0, e1, e2, e3, e4, e5, e6, e7, ⟨m0, m1, m3, m4, m5, m6, m7⟩, _⟩ := hg i hi
          simp only [BT8]
          rw [bkind_buildB g 0 n i hi, bnames_buildB g 0 n i hi, bfn_buildB g 0 n i hi, bterms_buildB g 0 n i hi, bthen_buildB g 0 n i hi, btsay_buildB g 0 n i hi, belse_buildB g 0 n i hi, besay_buildB g 0 n i hi, Nat.zero_add]
          rw [add_plain, add_plain] at e0 e1 e2 e3 e4 e5 e6 e7
          exact ⟨e0, ⟨a1, k1, e1, m0, m1⟩, e2, ⟨a3, k3, e3, m3⟩, ⟨a4, k4, e4, m4⟩, ⟨a5, k5, e5, m5⟩, ⟨a6, k6, e6, m6⟩, ⟨a7, k7, e7, m7⟩⟩
        · rw [blen_buildB] at hi
          obtain ⟨a1, k1, a3, k3, a4, k4, a5, k5, a6, k6, a7, k7, _, _, _, _, _, _, _, _, _, hm⟩ := hg i hi
          rw [bnames_buildB g 0 n i hi, bfn_buildB g 0 n i hi, bterms_buildB g 0 n i hi, bthen_buildB g 0 n i hi, btsay_buildB g 0 n i hi, belse_buildB g 0 n i hi, besay_buildB g 0 n i hi, Nat.zero_add]
          exact hm

/-- Functions that come in. -/
theorem open_puresV {H : Type} {enc : TypeId × Value → H} {w : World} {sp : Nat → Bool} {hd : Bool} {r : Reach} {b0 : Nat} {v : Value} {dd : DataW H} {p : List MemPlace} (hv : Value.okWide Tryz.prog w r b0 22 v) (h : DataW.Trod enc Tryz.prog w 0 sp hd 22 v dd p) :
    ∃ (l : List PM) (a : Option Addr) (cap : Nat), v = .slice a l.length cap ∧ QA w 0 l a ∧ l.length ≤ 9223372036854775807 ∧ (∀ j, j < l.length → PLm (l.getD j pm0)) ∧ l.length ≤ cap := by
  obtain ⟨a, n, cap, rfl⟩ := okWide_slice Tryz.underlying22 hv
  obtain ⟨fuel, hf⟩ := h
  rcases DataW.trod_slice Tryz.underlying22 hf with ⟨hcs, _⟩ | ⟨a, n, cap, elems, rest, m, hfm, hcs, _, hb, hl, hm, hlen, hel, _, _⟩
  · simp [Value.cells] at hcs
    obtain ⟨rfl, rfl, rfl⟩ := hcs
    exact ⟨[], none, 0, rfl, Or.inl rfl, by simp, fun j hj => by simp at hj, by simp⟩
  · simp [Value.cells] at hcs
    obtain ⟨rfl, rfl, rfl⟩ := hcs
    unfold maxLen at hm
    have hfam : ∀ i, i < n → ∃ g : PM, ∃ a1 k1 a2 k2 a3 k3, w.cell? ((a.add (i * 4)).add 0) = some (.string g.name) ∧ w.cell? ((a.add (i * 4)).add 1) = some (.slice a1 g.params.length k1) ∧ w.cell? ((a.add (i * 4)).add 2) = some (.slice a2 (blen g.binds) k2) ∧ w.cell? ((a.add (i * 4)).add 3) = some (.slice a3 (tlen g.says) k3) ∧ (g.params.length ≤ k1 ∧ XA w 0 g.params a1 ∧ BA w 0 g.binds a2 ∧ MA w 0 g.says a3) ∧ PLm g := by
      intro i hi
      have e := hel i hi
      rw [Tryz.cells46] at e
      have hi' : i < elems.length := by omega
      rw [List.getElem?_eq_getElem hi', Option.bind_eq_some_iff] at e
      obtain ⟨cs', h1, h2⟩ := e
      obtain ⟨_, hl1, hcc⟩ := World.cells?_some h1
      match cs', hl1 with
      | [u0, u1, u2, u3], _ =>
        have hc0 := hcc 0 (by omega)
        have hc1 := hcc 1 (by omega)
        have hc2 := hcc 2 (by omega)
        have hc3 := hcc 3 (by omega)
        obtain ⟨xs, k, hmk, _, _, hxl, hff⟩ := DataW.trod_struct Tryz.underlying46 h2
        have f0 : DataW.trod enc Tryz.prog w 0 sp hd k 9 (([u0, u1, u2, u3].drop 0).take (Tryz.prog.cellsOf 9)) = xs[0]? := hff 0 _ rfl
        have f1 : DataW.trod enc Tryz.prog w 0 sp hd k 40 (([u0, u1, u2, u3].drop 1).take (Tryz.prog.cellsOf 40)) = xs[1]? := hff 1 _ rfl
        have f2 : DataW.trod enc Tryz.prog w 0 sp hd k 44 (([u0, u1, u2, u3].drop 2).take (Tryz.prog.cellsOf 44)) = xs[2]? := hff 2 _ rfl
        match xs, hxl with
        | [y0, y1, y2], _ =>
          rw [Tryz.cells9] at f0
          rw [Tryz.cells40] at f1
          rw [Tryz.cells44] at f2
          obtain ⟨s', e0, _, z0⟩ := DataW.trod_string Tryz.underlying9 (cs := [u0]) (x := y0) (by simpa using f0)
          obtain ⟨nm, a1, k1, e1, z1, z1c, z1l, z1x⟩ := open_strsC (cs := [u1]) (x := y1) (by simpa using f1)
          obtain ⟨tb, a4, k4, tz, a5, k5, e2, e3, z4, z5, z4l, z4m, z5l, z5m⟩ := open_bodyC (fuel := k) (v0 := u2) (v1 := u3) (x := y2) (fun k2 _ => open_binds k2) (by simpa using f2)
          simp only [List.cons.injEq, and_true] at e0 e1
          exact ⟨⟨s', nm, tb, tz⟩, a1, k1, a4, k4, a5, k5, by rw [hc0, e0]; rfl, by rw [hc1, e1]; rfl, by rw [hc2, e2]; rfl, by rw [hc3, e3]; rfl, ⟨z1c, z1, z4, z5⟩, ⟨z0, z1l, z1x, z4l, z4m, z5l, z5m⟩⟩
    haveI : Inhabited PM := ⟨pm0⟩
    obtain ⟨g, hg⟩ := choose_lt hfam
    have hgl : ((List.range n).map g).length = n := by simp
    have hgg : ∀ i, i < n → ((List.range n).map g).getD i pm0 = g i := fun i hi => by simp [List.getD, hi]
    by_cases hn : n = 0
    · subst hn
      exact ⟨[], some a, cap, rfl, Or.inl rfl, by simp, fun j hj => by simp at hj, by simp⟩
    · obtain ⟨b, o, spot⟩ := a
      obtain ⟨_, _, _, _, _, _, hc0, _⟩ := hg 0 (by omega)
      have hs : spot = none := by simpa [Addr.add] using World.cell?_spot hc0
      subst hs
      refine ⟨(List.range n).map g, some ⟨b, o, none⟩, cap, by rw [hgl], Or.inr ⟨b, o, rfl, Nat.zero_le _, fun i hi => ?_⟩, by rw [hgl]; omega, fun i hi => ?_, by rw [hgl]; omega⟩
      · rw [hgl] at hi
        obtain ⟨a1, k1, a2, k2, a3, k3, e0, e1, e2, e3, ⟨m0, m1, m2, m3⟩, _⟩ := hg i hi
        rw [hgg i hi]
        rw [add_plain, add_plain] at e0 e1 e2 e3
        exact ⟨e0, ⟨a1, k1, e1, m0, m1⟩, ⟨a2, k2, e2, m2⟩, ⟨a3, k3, e3, m3⟩⟩
      · rw [hgl] at hi
        obtain ⟨_, _, _, _, _, _, _, _, _, _, _, hm⟩ := hg i hi
        rw [hgg i hi]
        exact hm

end Go.Proofs.YtldbmlojgakieaaGreatDoor

namespace Go.Proofs.YtldbmlojgakieaaGreatDoor

open Go.RowKit Go.Deep Go.ChangeShapes Go.WideShapes Go.ChangeAt

set_option maxRecDepth 100000

theorem Tryz.cells49 : Tryz.prog.cellsOf 49 = 2 := by kernel_rfl
theorem Tryz.cells23 : Tryz.prog.cellsOf 23 = 1 := by kernel_rfl
theorem open_val {H : Type} {enc : TypeId × Value → H} {w : World} {sp : Nat → Bool} {hd : Bool} : ∀ (fuel : Nat) (cs : List Value) (x : DataW H × List MemPlace), DataW.trod enc Tryz.prog w 0 sp hd fuel 23 cs = some x →
    ∃ (f : F) (a : Option Addr) (cap : Nat), cs = [.slice a (len f) cap] ∧ VA w 0 f a ∧ len f ≤ 9223372036854775807 ∧ Lm f := by
  intro fuel
  induction fuel using Nat.strongRecOn with
  | _ fuel ih =>
    intro cs x h
    rcases DataW.trod_slice Tryz.underlying23 h with ⟨rfl, _⟩ | ⟨a, n, cap, elems, rest, m, hfm, rfl, _, hb, hl, hm, hlen, hel, _, _⟩
    · exact ⟨.nil, none, 0, rfl, Or.inl rfl, by simp [len], trivial⟩
    · unfold maxLen at hm
      have hfam : ∀ i, i < n → ∃ g : Int × F, ∃ a' cap', w.cell? (a.add (i * 2)) = some (.int .i64 g.1) ∧ w.cell? ((a.add (i * 2)).add 1) = some (.slice a' (len g.2) cap') ∧ VA w 0 g.2 a' ∧ len g.2 ≤ 9223372036854775807 ∧ Lm g.2 := by
        intro i hi
        have e := hel i hi
        rw [Tryz.cells49] at e
        have hi' : i < elems.length := by omega
        rw [List.getElem?_eq_getElem hi', Option.bind_eq_some_iff] at e
        obtain ⟨cs', h1, h2⟩ := e
        obtain ⟨_, hl1, hcc⟩ := World.cells?_some h1
        match cs', hl1 with
        | [u, v], _ =>
          have hc0 := hcc 0 (by omega)
          have hc1 := hcc 1 (by omega)
          obtain ⟨xs, k, hmk, _, _, hxl, hf⟩ := DataW.trod_struct Tryz.underlying49 h2
          have h3 : DataW.trod enc Tryz.prog w 0 sp hd k 3 (([u, v].drop 0).take (Tryz.prog.cellsOf 3)) = xs[0]? := hf 0 _ rfl
          have h4 : DataW.trod enc Tryz.prog w 0 sp hd k 23 (([u, v].drop 1).take (Tryz.prog.cellsOf 23)) = xs[1]? := hf 1 _ rfl
          match xs, hxl with
          | [y, z], _ =>
            rw [Tryz.cells3] at h3
            rw [Tryz.cells23] at h4
            obtain ⟨n', e0, _, _⟩ := DataW.trod_int Tryz.underlying3 (cs := [u]) (x := y) (by simpa using h3)
            obtain ⟨g, a', cap', e1, e2, e3, e4⟩ := ih k (by omega) [v] z (by simpa using h4)
            simp only [List.cons.injEq, and_true] at e0 e1
            exact ⟨(n', g), a', cap', by simpa [Addr.add, e0] using hc0, by rw [hc1, e1]; rfl, e2, e3, e4⟩
      haveI : Inhabited (Int × F) := ⟨(0, .nil)⟩
      obtain ⟨g, hg⟩ := choose_lt hfam
      by_cases hn : n = 0
      · subst hn
        exact ⟨.nil, some a, cap, rfl, Or.inl rfl, by simp [len], trivial⟩
      · obtain ⟨b, o, spot⟩ := a
        obtain ⟨_, _, hc0, _⟩ := hg 0 (by omega)
        have hs : spot = none := by simpa [Addr.add] using World.cell?_spot hc0
        subst hs
        refine ⟨build g 0 n, some ⟨b, o, none⟩, cap, by rw [len_build], VS_mk (Nat.zero_le _) fun i hi => ?_, by rw [len_build]; omega, Lm_mk fun i hi => ?_⟩
        · rw [len_build] at hi
          obtain ⟨a', cap', e0, e1, e2, _⟩ := hg i hi
          rw [kid_build g 0 n i hi, num_build g 0 n i hi, Nat.zero_add]
          rw [add_plain] at e0
          rw [add_plain, add_plain] at e1
          exact ⟨e0, a', cap', e1, e2⟩
        · rw [len_build] at hi
          obtain ⟨a', cap', _, _, _, e3, e4⟩ := hg i hi
          rw [kid_build g 0 n i hi, Nat.zero_add]
          exact ⟨e3, e4⟩

/-- A text by value. -/
theorem open_textV {W : World} {r : Reach} {b0 : Nat} {v : Value} (hv : Value.okWide Tryz.prog W r b0 9 v) : ∃ s : ByteArray, v = .string s := okWide_string Tryz.underlying9 hv
/-- A list of values. -/
theorem open_valsV {H : Type} {enc : TypeId × Value → H} {W : World} {sp : Nat → Bool} {hd : Bool} {r : Reach} {b0 : Nat} {v : Value} {dd : DataW H} {p : List MemPlace} (hv : Value.okWide Tryz.prog W r b0 23 v) (h : DataW.Trod enc Tryz.prog W 0 sp hd 23 v dd p) :
    ∃ (f : F) (a : Option Addr) (cap : Nat), v = .slice a (len f) cap ∧ VA W 0 f a ∧ len f ≤ 9223372036854775807 ∧ Lm f := by
  obtain ⟨a, n, cap, rfl⟩ := okWide_slice Tryz.underlying23 hv
  obtain ⟨fuel, hf⟩ := h
  obtain ⟨f, a', cap', e, h1, h2, h3⟩ := open_val fuel [.slice a n cap] _ (by simpa [Value.cells] using hf)
  simp only [List.cons.injEq, and_true] at e
  exact ⟨f, a', cap', e, h1, h2, h3⟩

end Go.Proofs.YtldbmlojgakieaaGreatDoor
