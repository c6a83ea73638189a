/- Contracts off the shelf, laid at this program. Trees as the program's types and values are: plain functions on them, and how they lie in memory. Walks: whether a type is in form. Walks: types are ok, by the program and by the specification. Walks: a type copied. Walks: a part of a type by a path. Itoa by its contract off the shelf; its table stays; the specification's digits. A byte as a text. The specification's digits. -/
import Derived.Shelf.Strings.Builder1
import Derived.Shelf.Strings.Builder2
import Derived.Shelf.Strings.OnBuilder
import Derived.Shelf.Strconv.Itoa0
import Derived.Shelf.Strconv.Itoa1
import Derived.Shelf.LaysM
import Derived.Shelf.Strconv.Itoa2
import Derived.Shelf.Strconv.Itoa3
import Derived.Test.YtldbmlojgakieaaGreatDoorChecked
import Derived.WalkKit
import Derived.WalkSpells
import Derived.WalkLawsBesides
import Derived.Deep.Trees
import Derived.Deep.Draws
import Derived.Test.YtldbmlojgakieaaGreatDoorProg
import Derived.Deep.RegionWith
import Derived.Deep.RegionHeld3
import Derived.Deep.AppendLies
import Derived.Deep.DrawnRows
import Derived.OneCell
import Derived.Laws.Strings
namespace Go.Proofs

open Go.Shelf
def Tryz.lays169_ren : Go.Shelf.Ren := ⟨fun | 169 => 43 | n => n, fun | 70 => 83 | 9 => 9 | 0 => 0 | 72 => 86 | 37 => 84 | 127 => 125 | 3 => 3 | 5 => 5 | n => n, fun | n => n⟩
theorem Tryz.lays169 : Go.Proofs.Lays.n169 Tryz.prog Tryz.lays169_ren := {
  mixed := by kernel_rfl
  f169 := Tryz.func43.trans (congrArg some (by kernel_rfl))
  t0 := Tryz.underlying0
  a0 := Tryz.isAgg0
  z0 := Tryz.sizeOf0
  v0 := Tryz.zeroValue0
  t3 := Tryz.underlying3
  a3 := Tryz.isAgg3
  z3 := Tryz.sizeOf3
  v3 := Tryz.zeroValue3
  t9 := Tryz.underlying9
  a9 := Tryz.isAgg9
  z9 := Tryz.sizeOf9
  v9 := Tryz.zeroValue9
  t37 := Tryz.underlying84
  a37 := Tryz.isAgg84
  z37 := Tryz.sizeOf84
  v37 := Tryz.zeroValue84
  t70 := Tryz.underlying83
  a70 := Tryz.isAgg83
  z70 := Tryz.sizeOf83
  v70 := Tryz.zeroValue83
  t72 := Tryz.underlying86
  a72 := Tryz.isAgg86
  z72 := Tryz.sizeOf86
  v72 := Tryz.zeroValue86
  t127 := Tryz.underlying125
  a127 := Tryz.isAgg125
  z127 := Tryz.sizeOf125
  v127 := Tryz.zeroValue125 }
theorem Tryz.Builder_Extra_169 : Builder.Extra Tryz.prog Tryz.lays169_ren := {
  sizeBuilder := by kernel_rfl
  liesBuilder := by kernel_rfl
  t5 := Tryz.underlying5
  a5 := Tryz.isAgg5
  z5 := Tryz.sizeOf5
  v5 := Tryz.zeroValue5
  infoByte := by kernel_rfl
  cellsByte := by kernel_rfl
  sizeByte := by kernel_rfl
  neB5 := by decide }
open Go.RowKit in
/-- (*strings.Builder).String: "String returns the accumulated string.": WHATEVER THE BUILDER HOLDS. (LAID: no walk: one application.) -/
theorem Tryz.Builder_String_any (B b : Nat) (l : List UInt8) (w : World) (h : Lib.IsBuilder 86 5 B b (Lib.byteCells l) w) (hBw : B ≤ w.heap.size) :
    Calls Tryz.prog 43 #[.pointer (some ⟨b, 0, none⟩)] w fun e w' => e = .returned (.string ⟨l.toArray⟩) ∧ Below B w w' := Any.Builder_String_any Tryz.lays169 Tryz.Builder_Extra_169 B b l w h hBw
def Tryz.lays156_ren : Go.Shelf.Ren := ⟨fun | 156 => 86 | 165 => 111 | 166 => 40 | 169 => 43 | 240 => 65 | 241 => 127 | 276 => 84 | 277 => 138 | n => n, fun | 31 => 40 | 9 => 9 | 3 => 3 | 4 => 4 | 0 => 0 | 20 => 20 | 72 => 86 | 76 => 87 | 70 => 83 | 37 => 84 | 75 => 70 | 127 => 125 | 164 => 154 | 5 => 5 | 80 => 90 | n => n, fun | n => n⟩
theorem Tryz.lays156 : Go.Proofs.Lays.n156 Tryz.prog Tryz.lays156_ren := {
  mixed := by kernel_rfl
  f156 := Tryz.func86.trans (congrArg some (by kernel_rfl))
  f165 := Tryz.func111.trans (congrArg some (by kernel_rfl))
  f166 := Tryz.func40.trans (congrArg some (by kernel_rfl))
  f169 := Tryz.func43.trans (congrArg some (by kernel_rfl))
  f240 := Tryz.func65.trans (congrArg some (by kernel_rfl))
  f241 := Tryz.func127.trans (congrArg some (by kernel_rfl))
  f276 := Tryz.func84.trans (congrArg some (by kernel_rfl))
  f277 := Tryz.func138.trans (congrArg some (by kernel_rfl))
  t0 := Tryz.underlying0
  a0 := Tryz.isAgg0
  z0 := Tryz.sizeOf0
  v0 := Tryz.zeroValue0
  t3 := Tryz.underlying3
  a3 := Tryz.isAgg3
  z3 := Tryz.sizeOf3
  v3 := Tryz.zeroValue3
  t4 := Tryz.underlying4
  a4 := Tryz.isAgg4
  z4 := Tryz.sizeOf4
  v4 := Tryz.zeroValue4
  t9 := Tryz.underlying9
  a9 := Tryz.isAgg9
  z9 := Tryz.sizeOf9
  v9 := Tryz.zeroValue9
  t20 := Tryz.underlying20
  a20 := Tryz.isAgg20
  z20 := Tryz.sizeOf20
  v20 := Tryz.zeroValue20
  t31 := Tryz.underlying40
  a31 := Tryz.isAgg40
  z31 := Tryz.sizeOf40
  v31 := Tryz.zeroValue40
  t37 := Tryz.underlying84
  a37 := Tryz.isAgg84
  z37 := Tryz.sizeOf84
  v37 := Tryz.zeroValue84
  t70 := Tryz.underlying83
  a70 := Tryz.isAgg83
  z70 := Tryz.sizeOf83
  v70 := Tryz.zeroValue83
  t72 := Tryz.underlying86
  a72 := Tryz.isAgg86
  z72 := Tryz.sizeOf86
  v72 := Tryz.zeroValue86
  t75 := Tryz.underlying70
  a75 := Tryz.isAgg70
  z75 := Tryz.sizeOf70
  v75 := Tryz.zeroValue70
  t76 := Tryz.underlying87
  a76 := Tryz.isAgg87
  z76 := Tryz.sizeOf87
  v76 := Tryz.zeroValue87
  t127 := Tryz.underlying125
  a127 := Tryz.isAgg125
  z127 := Tryz.sizeOf125
  v127 := Tryz.zeroValue125
  t164 := Tryz.underlying154
  a164 := Tryz.isAgg154
  z164 := Tryz.sizeOf154
  v164 := Tryz.zeroValue154 }
theorem Tryz.Builder_Extra_156 : Builder.Extra Tryz.prog Tryz.lays156_ren := {
  sizeBuilder := by kernel_rfl
  liesBuilder := by kernel_rfl
  t5 := Tryz.underlying5
  a5 := Tryz.isAgg5
  z5 := Tryz.sizeOf5
  v5 := Tryz.zeroValue5
  infoByte := by kernel_rfl
  cellsByte := by kernel_rfl
  sizeByte := by kernel_rfl
  neB5 := by decide }
open Go.RowKit in
/-- No element: the empty string; the world is as it was. (Whatever the slice's address and capacity: a nil slice too.) (LAID: no walk: one application.) -/
theorem Tryz.strings_Join_none (a : Option Addr) (c : Nat) (sep : ByteArray) (w : World) :
    Calls Tryz.prog 86 #[.slice a 0 c, .string sep] w fun e w' => e = .returned (.string ⟨#[]⟩) ∧ w' = w := Any.strings_Join_none Tryz.lays156 Tryz.Builder_Extra_156 a c sep w
open Go.RowKit in
/-- strings.Join: "Join concatenates the elements of its first argument to create a single string. The separator string sep is placed between elements in the resulting string.": HOWEVER MANY ELEMENTS. Below the heap's end the world is as it was. (LAID: no walk: one application.) -/
theorem Tryz.strings_Join (bk o c : Nat) (xs : List ByteArray) (sep : ByteArray) (w : World) (hcells : ∀ (j : Nat) x, xs[j]? = some x → w.cell? ⟨bk, o + j, none⟩ = some (.string x)) (hbk : bk < w.heap.size) (hN : xs.length ≤ 140737488355328) (hcap : xs.length ≤ c) (hlen : (Lib.join (xs.map (·.data.toList)) sep.data.toList).length ≤ 140737488355328) :
    Calls Tryz.prog 86 #[.slice (some ⟨bk, o, none⟩) xs.length c, .string sep] w fun e w' => e = .returned (.string ⟨(Lib.join (xs.map (·.data.toList)) sep.data.toList).toArray⟩) ∧ Below w.heap.size w w' := Any.strings_Join Tryz.lays156 Tryz.Builder_Extra_156 bk o c xs sep w hcells hbk hN hcap hlen
def Tryz.laysM171_ren : Go.Shelf.Ren := ⟨fun | 171 => 125 | 243 => 137 | 246 => 148 | 283 => 152 | 284 => 153 | 285 => 154 | 286 => 155 | 129 => 158 | 317 => 157 | 318 => 159 | 319 => 160 | 320 => 161 | 337 => 162 | 338 => 163 | n => n, fun | 3 => 3 | 9 => 9 | 2 => 2 | 4 => 4 | 171 => 216 | 0 => 0 | 53 => 217 | 37 => 84 | 5 => 5 | 173 => 220 | 212 => 224 | 51 => 225 | 20 => 20 | 213 => 226 | 46 => 228 | 232 => 231 | 233 => 232 | n => n, fun | 17 => 3 | 18 => 4 | 19 => 5 | n => n⟩
theorem Tryz.laysM171 : Go.Proofs.LaysM.n171 Tryz.prog Tryz.laysM171_ren := {
  mixed := by kernel_rfl
  f129 := Tryz.func158.trans (congrArg some (by kernel_rfl))
  f171 := Tryz.func125.trans (congrArg some (by kernel_rfl))
  f243 := Tryz.func137.trans (congrArg some (by kernel_rfl))
  f246 := Tryz.func148.trans (congrArg some (by kernel_rfl))
  f283 := Tryz.func152.trans (congrArg some (by kernel_rfl))
  f284 := Tryz.func153.trans (congrArg some (by kernel_rfl))
  f285 := Tryz.func154.trans (congrArg some (by kernel_rfl))
  f286 := Tryz.func155.trans (congrArg some (by kernel_rfl))
  f317 := Tryz.func157.trans (congrArg some (by kernel_rfl))
  f318 := Tryz.func159.trans (congrArg some (by kernel_rfl))
  f319 := Tryz.func160.trans (congrArg some (by kernel_rfl))
  f320 := Tryz.func161.trans (congrArg some (by kernel_rfl))
  f337 := Tryz.func162.trans (congrArg some (by kernel_rfl))
  f338 := Tryz.func163.trans (congrArg some (by kernel_rfl))
  t0 := Tryz.underlying0
  a0 := Tryz.isAgg0
  z0 := Tryz.sizeOf0
  v0 := Tryz.zeroValue0
  t2 := Tryz.underlying2
  a2 := Tryz.isAgg2
  z2 := Tryz.sizeOf2
  v2 := Tryz.zeroValue2
  t3 := Tryz.underlying3
  a3 := Tryz.isAgg3
  z3 := Tryz.sizeOf3
  v3 := Tryz.zeroValue3
  t4 := Tryz.underlying4
  a4 := Tryz.isAgg4
  z4 := Tryz.sizeOf4
  v4 := Tryz.zeroValue4
  t5 := Tryz.underlying5
  a5 := Tryz.isAgg5
  z5 := Tryz.sizeOf5
  v5 := Tryz.zeroValue5
  t9 := Tryz.underlying9
  a9 := Tryz.isAgg9
  z9 := Tryz.sizeOf9
  v9 := Tryz.zeroValue9
  t20 := Tryz.underlying20
  a20 := Tryz.isAgg20
  z20 := Tryz.sizeOf20
  v20 := Tryz.zeroValue20
  t37 := Tryz.underlying84
  a37 := Tryz.isAgg84
  z37 := Tryz.sizeOf84
  v37 := Tryz.zeroValue84
  t46 := Tryz.underlying228
  a46 := Tryz.isAgg228
  z46 := Tryz.sizeOf228
  v46 := Tryz.zeroValue228
  t51 := Tryz.underlying225
  a51 := Tryz.isAgg225
  z51 := Tryz.sizeOf225
  v51 := Tryz.zeroValue225
  t53 := Tryz.underlying217
  a53 := Tryz.isAgg217
  z53 := Tryz.sizeOf217
  v53 := Tryz.zeroValue217
  t171 := Tryz.underlying216
  a171 := Tryz.isAgg216
  z171 := Tryz.sizeOf216
  v171 := Tryz.zeroValue216
  t173 := Tryz.underlying220
  a173 := Tryz.isAgg220
  z173 := Tryz.sizeOf220
  v173 := Tryz.zeroValue220
  t212 := Tryz.underlying224
  a212 := Tryz.isAgg224
  z212 := Tryz.sizeOf224
  v212 := Tryz.zeroValue224
  t213 := Tryz.underlying226
  a213 := Tryz.isAgg226
  z213 := Tryz.sizeOf226
  t232 := Tryz.underlying231
  a232 := Tryz.isAgg231
  z232 := Tryz.sizeOf231
  v232 := Tryz.zeroValue231
  t233 := Tryz.underlying232
  a233 := Tryz.isAgg232
  z233 := Tryz.sizeOf232
  v233 := Tryz.zeroValue232
  g17 := by kernel_rfl
  g18 := by kernel_rfl
  g19 := by kernel_rfl
  i0 := by kernel_rfl
  i2 := by kernel_rfl
  i3 := by kernel_rfl
  i4 := by kernel_rfl
  i5 := by kernel_rfl
  i9 := by kernel_rfl
  i20 := by kernel_rfl
  i37 := by kernel_rfl
  i46 := by kernel_rfl
  i51 := by kernel_rfl
  i53 := by kernel_rfl
  i171 := by kernel_rfl
  i173 := by kernel_rfl
  i212 := by kernel_rfl
  i232 := by kernel_rfl
  i233 := by kernel_rfl
  m17 := by kernel_rfl
  m18 := by kernel_rfl
  m19 := by kernel_rfl }
open Go.RowKit Go.Sort Go.Lib in
/-- strconv.Itoa: "Itoa is equivalent to FormatInt(int64(i), 10).": i's DECIMAL NUMERAL ('Lib.itoa': a '-' where i is negative, then the digits), FOR EVERY int. The world behind the call: the world before it, new blocks behind the heap (the library's 'var a [24]byte'), draws. (LAID: no walk: one application.) -/
theorem Tryz.strconv_Itoa (n : Int) (h0 : -9223372036854775808 ≤ n) (h1 : n ≤ 9223372036854775807) (w : World) (htab : Lib.TabIs Tryz.prog w "internal/strconv.uint64pow10" .u64 Lib.pow10Tab) :
    Calls Tryz.prog 125 #[.int .i64 n] w fun e w' => e = .returned (.string ⟨(Lib.itoa n).toArray⟩) ∧ ∃ k os, w' = grow (w.drewN k) os := Any.strconv_Itoa Tryz.laysM171 n h0 h1 w htab
/-- Behind a write the builder holds more, and nothing below it has turned. -/
theorem Tryz.Builder_WriteString (B b : Nat) (bs : List Value) (s : ByteArray) (w : World) (h : Lib.IsBuilder 86 5 B b bs w) (hlen : bs.length + s.size ≤ 140737488355328) (hBw : B ≤ w.heap.size) :
    Calls Tryz.prog 40 #[.pointer (some ⟨b, 0, none⟩), .string s] w fun e w' => e = .returned (.tuple #[.int .i64 s.size, .nilIface]) ∧ (Lib.BuilderAt 86 5 B b (.pointer (some ⟨b, 0, none⟩)) (bs ++ Lib.strCells s) w' ∧ Go.RowKit.Below B w w') := Any.Builder_WriteString { Tryz.lays156 with } Tryz.Builder_Extra_156 B b bs s w h hlen hBw
end Go.Proofs

namespace Go.Proofs.YtldbmlojgakieaaGreatDoor

open Go.RowKit Go.Deep

/-- A list of trees: each a number and a list of trees. (The two places of a node are not looked at.) -/
abbrev F := BT Int

def len : F → Nat
  | .nil => 0
  | .node _ _ _ _ r => len r + 1

def kid : F → Nat → F
  | .nil, _ => .nil
  | .node _ _ _ k _, 0 => k
  | .node _ _ _ _ r, i + 1 => kid r i

def num : F → Nat → Int
  | .nil, _ => 0
  | .node _ _ n _ _, 0 => n
  | .node _ _ _ _ r, i + 1 => num r i

def dep : F → Nat
  | .nil => 0
  | .node _ _ _ k r => max (dep k + 1) (dep r)

theorem dep_kid : ∀ (f : F) (i : Nat), i < len f → dep (kid f i) < dep f
  | .nil, _, h => by simp [len] at h
  | .node _ _ _ k r, 0, _ => by simp only [kid, dep]; omega
  | .node _ _ _ k r, i + 1, h => by
    have := dep_kid r i (by simp only [len] at h; omega)
    simp only [kid, dep]; omega

/-- Two of them. -/
def two (n : Int) (a : F) (m : Int) (b : F) : F := .node 0 0 n a (.node 0 0 m b .nil)

theorem len_two (n m : Int) (a b : F) : len (two n a m b) = 2 := rfl
theorem kid_two0 (n m : Int) (a b : F) : kid (two n a m b) 0 = a := rfl
theorem kid_two1 (n m : Int) (a b : F) : kid (two n a m b) 1 = b := rfl
theorem num_two0 (n m : Int) (a b : F) : num (two n a m b) 0 = n := rfl
theorem num_two1 (n m : Int) (a b : F) : num (two n a m b) 1 = m := rfl

/-- From block lo on, all that was there is there. -/
structure Kp (lo : Nat) (w w' : World) : Prop where
  size : w.heap.size ≤ w'.heap.size
  block : ∀ k, lo ≤ k → k < w.heap.size → w'.heap[k]? = w.heap[k]?

theorem Kp.refl (lo : Nat) (w : World) : Kp lo w w := ⟨Nat.le_refl _, fun _ _ _ => rfl⟩
theorem Kp.trans {lo : Nat} {a b c : World} (h : Kp lo a b) (k : Kp lo b c) : Kp lo a c :=
  ⟨Nat.le_trans h.size k.size, fun i h1 h2 => (k.block i h1 (Nat.lt_of_lt_of_le h2 h.size)).trans (h.block i h1 h2)⟩
theorem Kp.mono {lo lo' : Nat} {w w' : World} (h : Kp lo w w') (hl : lo ≤ lo') : Kp lo' w w' := ⟨h.size, fun k h1 h2 => h.block k (Nat.le_trans hl h1) h2⟩
theorem Kp.of_below {w w' : World} (h : Below w.heap.size w w') (lo : Nat) : Kp lo w w' := ⟨h.size, fun k _ h2 => h.block k h2⟩
theorem Kp.cell {lo : Nat} {w w' : World} (h : Kp lo w w') {p : Addr} (h1 : lo ≤ p.block) (h2 : p.block < w.heap.size) : w'.cell? p = w.cell? p := World.cell?_of_block (w := w) (h.block p.block h1 h2)

/-- All that was there in blocks of S is there. -/
def Ks (S : Nat → Prop) (w w' : World) : Prop := ∀ k, S k → k < w.heap.size → w'.heap[k]? = w.heap[k]?
theorem Ks.cell {S : Nat → Prop} {w w' : World} (h : Ks S w w') {p : Addr} (h1 : S p.block) (h2 : p.block < w.heap.size) : w'.cell? p = w.cell? p := World.cell?_of_block (w := w) (h p.block h1 h2)

/-- A list of types lies at block b from place o on: a cell each, its own list behind it, all in blocks of S. -/
def SC (w : World) (S : Nat → Prop) : F → Nat → Nat → Prop
  | .nil, _, _ => True
  | .node _ _ _ k r, b, o => (∃ a cap, w.cell? ⟨b, o, none⟩ = some (.slice a (len k) cap) ∧ (len k = 0 ∨ ∃ b' o', a = some ⟨b', o', none⟩ ∧ S b' ∧ SC w S k b' o')) ∧ SC w S r b (o + 1)

/-- A list of types lies behind a slice's address. -/
def SA (w : World) (S : Nat → Prop) (f : F) (a : Option Addr) : Prop := len f = 0 ∨ ∃ b o, a = some ⟨b, o, none⟩ ∧ S b ∧ SC w S f b o

theorem SC_cell {w : World} {S : Nat → Prop} : ∀ {f : F} {b o : Nat}, SC w S f b o → ∀ i, i < len f → ∃ a cap, w.cell? ⟨b, o + i, none⟩ = some (.slice a (len (kid f i)) cap) ∧ SA w S (kid f i) a
  | .nil, _, _, _, i, h => by simp [len] at h
  | .node _ _ _ k r, b, o, hc, 0, _ => hc.1
  | .node _ _ _ k r, b, o, hc, i + 1, h => by
    have := SC_cell hc.2 i (by simp only [len] at h; omega)
    rw [Nat.add_right_comm, Nat.add_assoc] at this
    exact this

theorem SC_mk {w : World} {S : Nat → Prop} : ∀ {f : F} {b o : Nat}, (∀ i, i < len f → ∃ a cap, w.cell? ⟨b, o + i, none⟩ = some (.slice a (len (kid f i)) cap) ∧ SA w S (kid f i) a) → SC w S f b o
  | .nil, _, _, _ => trivial
  | .node _ _ _ k r, b, o, h => by
    refine ⟨h 0 (by simp [len]), SC_mk fun i hi => ?_⟩
    have := h (i + 1) (by simp only [len]; omega)
    rw [show o + (i + 1) = o + 1 + i by omega] at this
    exact this

theorem SC_ks {w w' : World} {S : Nat → Prop} (hk : Ks S w w') : ∀ {f : F} {b o : Nat}, S b → SC w S f b o → SC w' S f b o
  | .nil, _, _, _, _ => trivial
  | .node _ _ _ k r, b, o, hb, ⟨⟨a, cap, hc, hr⟩, h2⟩ => by
    refine ⟨⟨a, cap, ?_, ?_⟩, SC_ks hk hb h2⟩
    · rw [hk.cell hb (World.block_lt_of_cell? _ _ hc)]; exact hc
    · rcases hr with h0 | ⟨b', o', e, hb', ht⟩
      · exact Or.inl h0
      · exact Or.inr ⟨b', o', e, hb', SC_ks hk hb' ht⟩

theorem SA_ks {w w' : World} {S : Nat → Prop} {f : F} {a : Option Addr} (h : SA w S f a) (hk : Ks S w w') : SA w' S f a := by
  rcases h with h | ⟨b, o, e, hb, ht⟩
  · exact Or.inl h
  · exact Or.inr ⟨b, o, e, hb, SC_ks hk hb ht⟩

theorem SC_mono {w : World} {S S' : Nat → Prop} (hl : ∀ b, b < w.heap.size → S b → S' b) : ∀ {f : F} {b o : Nat}, SC w S f b o → SC w S' f b o
  | .nil, _, _, _ => trivial
  | .node _ _ _ k r, b, o, ⟨⟨a, cap, hc, hr⟩, h2⟩ => by
    refine ⟨⟨a, cap, hc, ?_⟩, SC_mono hl h2⟩
    rcases hr with h0 | ⟨b', o', e, hb', ht⟩
    · exact Or.inl h0
    · by_cases h0 : len k = 0
      · exact Or.inl h0
      · obtain ⟨_, _, hc', _⟩ := SC_cell ht 0 (by omega)
        exact Or.inr ⟨b', o', e, hl b' (World.block_lt_of_cell? _ _ hc') hb', SC_mono hl ht⟩

theorem SA_mono {w : World} {S S' : Nat → Prop} {f : F} {a : Option Addr} (h : SA w S f a) (hl : ∀ b, b < w.heap.size → S b → S' b) : SA w S' f a := by
  rcases h with h | ⟨b, o, e, hb, ht⟩
  · exact Or.inl h
  · by_cases h0 : len f = 0
    · exact Or.inl h0
    · obtain ⟨_, _, hc', _⟩ := SC_cell ht 0 (by omega)
      exact Or.inr ⟨b, o, e, hl b (World.block_lt_of_cell? _ _ hc') hb, SC_mono hl ht⟩

theorem SA_at {w : World} {S : Nat → Prop} {f : F} {a : Option Addr} (h : SA w S f a) (h0 : 0 < len f) : ∃ b o, a = some ⟨b, o, none⟩ ∧ S b ∧ b < w.heap.size ∧
    ∀ i, i < len f → ∃ a' cap, w.cell? ⟨b, o + i, none⟩ = some (.slice a' (len (kid f i)) cap) ∧ SA w S (kid f i) a' := by
  rcases h with h | ⟨b, o, e, hb, ht⟩
  · omega
  · obtain ⟨_, _, hc, _⟩ := SC_cell ht 0 h0
    exact ⟨b, o, e, hb, World.block_lt_of_cell? _ _ hc, fun i hi => SC_cell ht i hi⟩

theorem SA_mk {w : World} {S : Nat → Prop} {f : F} {g o : Nat} (hg : S g) (h : ∀ i, i < len f → ∃ a cap, w.cell? ⟨g, o + i, none⟩ = some (.slice a (len (kid f i)) cap) ∧ SA w S (kid f i) a) : SA w S f (some ⟨g, o, none⟩) :=
  Or.inr ⟨g, o, rfl, hg, SC_mk h⟩

theorem SA_two {w : World} {S : Nat → Prop} {f : F} (h2 : len f = 2) {g o : Nat} (hg : S g) {a0 a1 : Option Addr} {k0 k1 : Nat} (c0 : w.cell? ⟨g, o, none⟩ = some (.slice a0 (len (kid f 0)) k0)) (c1 : w.cell? ⟨g, o + 1, none⟩ = some (.slice a1 (len (kid f 1)) k1))
    (t0 : SA w S (kid f 0) a0) (t1 : SA w S (kid f 1) a1) : SA w S f (some ⟨g, o, none⟩) := by
  refine SA_mk hg fun i hi => ?_
  have : i = 0 ∨ i = 1 := by omega
  rcases this with rfl | rfl
  · exact ⟨a0, k0, c0, t0⟩
  · exact ⟨a1, k1, c1, t1⟩

/-- .. all from block lo on. -/
def TA (w : World) (lo : Nat) (f : F) (a : Option Addr) : Prop := SA w (fun b => lo ≤ b) f a

theorem TA_kp {w w' : World} {lo : Nat} {f : F} {a : Option Addr} (h : TA w lo f a) (hk : Kp lo w w') : TA w' lo f a := SA_ks h hk.block
theorem TA_lo {w : World} {lo lo' : Nat} {f : F} {a : Option Addr} (h : TA w lo f a) (hl : lo' ≤ lo) : TA w lo' f a := SA_mono h fun _ _ hb => Nat.le_trans hl hb
theorem TA_below {w w' : World} {lo : Nat} {f : F} {a : Option Addr} (h : TA w lo f a) (hb : Below w.heap.size w w') : TA w' lo f a := TA_kp h (Kp.of_below hb lo)
theorem TA_nil (w : World) (lo : Nat) (a : Option Addr) : TA w lo .nil a := Or.inl rfl
theorem TA_at {w : World} {lo : Nat} {f : F} {a : Option Addr} (h : TA w lo f a) (h0 : 0 < len f) : ∃ b o, a = some ⟨b, o, none⟩ ∧ lo ≤ b ∧ b < w.heap.size ∧
    ∀ i, i < len f → ∃ a' cap, w.cell? ⟨b, o + i, none⟩ = some (.slice a' (len (kid f i)) cap) ∧ TA w lo (kid f i) a' := SA_at h h0
theorem TA_two {w : World} {lo : Nat} {f : F} (h2 : len f = 2) {g o : Nat} (hg : lo ≤ g) {a0 a1 : Option Addr} {k0 k1 : Nat} (c0 : w.cell? ⟨g, o, none⟩ = some (.slice a0 (len (kid f 0)) k0)) (c1 : w.cell? ⟨g, o + 1, none⟩ = some (.slice a1 (len (kid f 1)) k1))
    (t0 : TA w lo (kid f 0) a0) (t1 : TA w lo (kid f 1) a1) : TA w lo f (some ⟨g, o, none⟩) := SA_two h2 hg c0 c1 t0 t1

/-- All lists are of a length that can be counted. -/
def Sm : F → Prop
  | .nil => True
  | .node _ _ _ k r => len k ≤ 1000000000 ∧ Sm k ∧ Sm r
theorem Sm_kid : ∀ {f : F}, Sm f → ∀ i, i < len f → len (kid f i) ≤ 1000000000 ∧ Sm (kid f i)
  | .nil, _, i, h => by simp [len] at h
  | .node _ _ _ k r, hs, 0, _ => ⟨hs.1, hs.2.1⟩
  | .node _ _ _ k r, hs, i + 1, h => Sm_kid hs.2.2 i (by simp only [len] at h; omega)

theorem ret_b {a b : Bool} (h : a = b) : Ending.returned (.bool a) = .returned (.bool b) := by rw [h]
theorem ret_s {a b : ByteArray} (h : a = b) : Ending.returned (.string a) = .returned (.string b) := by rw [h]
theorem ret_i {k : IntKind} {a b : Int} (h : a = b) : Ending.returned (.int k a) = .returned (.int k b) := by rw [h]

/-- Nothing that was there has turned. -/
abbrev Ex (w w' : World) : Prop := Below w.heap.size w w'
theorem Ex.refl (w : World) : Ex w w := Below.refl _ _
theorem Ex.trans {a b c : World} (h : Ex a b) (k : Ex b c) : Ex a c := Below.trans h (Below.mono k h.size)
theorem Ex.alloc {a b : World} (h : Ex a b) (o : Obj) : Ex a (b.alloc o) := Below.alloc h h.size o
theorem Ex.new (w : World) (o : Obj) : Ex w (w.alloc o) := Ex.alloc (Ex.refl w) o
theorem Ex.drew {a b : World} (h : Ex a b) : Ex a b.drew := Below.drew h
theorem Ex.drewN {a b : World} (h : Ex a b) (n : Nat) : Ex a (b.drewN n) := ⟨h.os, h.tape, h.output, h.size, h.block⟩
theorem Ex.set {a b : World} (h : Ex a b) {p : Addr} (hp : a.heap.size ≤ p.block) (u : Value) : Ex a (b.setCell p u) := Below.setCell h hp u
theorem Ex.at {a b : World} (h : Ex a b) {p : Addr} {v : Value} (hc : a.cell? p = some v) : b.cell? p = some v := (Below.cell h (World.block_lt_of_cell? _ _ hc)).trans hc
theorem Ex.lt {a b : World} (h : Ex a b) {n : Nat} (hn : n < a.heap.size) : n < b.heap.size := Nat.lt_of_lt_of_le hn h.size

theorem Ex.blk {a b : World} (h : Ex a b) {n : Nat} {o : Obj} (hc : a.heap[n]? = some o) : b.heap[n]? = some o := by
  have hn : n < a.heap.size := by
    rcases Nat.lt_or_ge n a.heap.size with h' | h'
    · exact h'
    · rw [Array.getElem?_eq_none h'] at hc; cases hc
  exact (h.block n hn).trans hc

theorem Kp.ex {lo : Nat} {a b c : World} (h : Kp lo a b) (k : Ex b c) : Kp lo a c := h.trans (Kp.of_below k lo)
theorem Kp.alloc {lo : Nat} {a b : World} (h : Kp lo a b) (o : Obj) : Kp lo a (b.alloc o) := h.ex (Ex.new _ _)
theorem Kp.drew {lo : Nat} {a b : World} (h : Kp lo a b) : Kp lo a b.drew := ⟨h.size, h.block⟩
theorem Kp.set {lo : Nat} {a b : World} (h : Kp lo a b) {p : Addr} (hp : p.block < lo ∨ a.heap.size ≤ p.block) (v : Value) : Kp lo a (b.setCell p v) :=
  ⟨by rw [World.size_setCell]; exact h.size, fun k h1 h2 => by rw [Below.heap_setCell _ _ _ _ (by omega)]; exact h.block k h1 h2⟩

theorem cell_set_new (w : World) (p : Addr) (v : Value) (cs : Array Value) (t : TypeId) (i : Nat) : ((w.setCell p v).alloc (.cells cs t)).cell? ⟨w.heap.size, i, none⟩ = cs[i]? := by
  have := World.cell?_alloc_new (w.setCell p v) cs t i
  rw [World.size_setCell] at this; exact this

theorem res_at {w : World} {p : Addr} {u : Value} (hc : w.cell? p = some u) (v : Value) (o : Obj) : ((w.setCell p v).alloc o).cell? p = some v :=
  (World.cell?_alloc_lt _ _ _ (by rw [World.size_setCell]; exact World.block_lt_of_cell? _ _ hc)).trans (World.cell?_setCell_same _ _ _ hc)

/-- While a region goes on: nothing of W0 has turned, and block n is one with c cells of type t that may be written. -/
def Core (W0 : World) (n c : Nat) (t : TypeId) (w : World) : Prop := Ex W0 w ∧ W0.heap.size ≤ n ∧ ∃ vs : Array Value, vs.size = c ∧ w.heap[n]? = some (.cells vs t (0, 0))
theorem Core.lt {W0 w : World} {n c : Nat} {t : TypeId} (h : Core W0 n c t w) : n < w.heap.size := by
  obtain ⟨_, _, vs, _, hv⟩ := h
  rcases Nat.lt_or_ge n w.heap.size with h' | h'
  · exact h'
  · rw [Array.getElem?_eq_none h'] at hv; cases hv
theorem Core.start (W0 : World) (vs : Array Value) (t : TypeId) : Core W0 W0.heap.size vs.size t (W0.alloc (.cells vs t)) := ⟨Ex.new _ _, Nat.le_refl _, vs, rfl, by show (W0.heap.push _)[W0.heap.size]? = _; simp⟩
theorem Core.drew {W0 w : World} {n c : Nat} {t : TypeId} (h : Core W0 n c t w) : Core W0 n c t w.drew := ⟨h.1.drew, h.2.1, h.2.2⟩
theorem Core.ex {W0 w w1 : World} {n c : Nat} {t : TypeId} (h : Core W0 n c t w) (hb : Ex w w1) : Core W0 n c t w1 := by
  obtain ⟨h1, h2, vs, h3, h4⟩ := h
  exact ⟨h1.trans hb, h2, vs, h3, hb.blk h4⟩
theorem Core.alloc {W0 w : World} {n c : Nat} {t : TypeId} (h : Core W0 n c t w) (o : Obj) : Core W0 n c t (w.alloc o) := h.ex (Ex.new _ _)
theorem Core.set {W0 w : World} {n c : Nat} {t : TypeId} (h : Core W0 n c t w) (m i : Nat) (hm : W0.heap.size ≤ m) (v : Value) : Core W0 n c t (w.setCell ⟨m, i, none⟩ v) := by
  obtain ⟨h1, h2, vs, h3, h4⟩ := h
  refine ⟨h1.set hm v, h2, ?_⟩
  by_cases hmn : m = n
  · subst hmn
    exact ⟨vs.setIfInBounds i v, by simp [h3], by simp [World.setCell, Array.getElem?_modify, h4]⟩
  · exact ⟨vs, h3, by rw [Below.heap_setCell _ _ _ _ (by simpa using fun e => hmn e.symm)]; exact h4⟩
theorem Core.cell {W0 w : World} {n c : Nat} {t : TypeId} (h : Core W0 n c t w) (i : Nat) (hi : i < c) : ∃ v, w.cell? ⟨n, i, none⟩ = some v := by
  obtain ⟨_, _, vs, h3, h4⟩ := h
  exact ⟨vs[i]'(by omega), by simp [World.cell?, h4, h3, hi]⟩
theorem Core.frozen {W0 w : World} {n c : Nat} {t : TypeId} (h : Core W0 n c t w) (i : Nat) : w.frozen? ⟨n, i, none⟩ = false := by
  obtain ⟨_, _, vs, h3, h4⟩ := h
  simp [World.frozen?, h4]

/-- The type is in form, at most so deep. -/
def fits : Nat → F → Bool
  | 0, _ => false
  | r + 1, f => len f == 0 || (len f == 2 && (fits r (kid f 0) && fits r (kid f 1)))

end Go.Proofs.YtldbmlojgakieaaGreatDoor

namespace Go.Proofs.YtldbmlojgakieaaGreatDoor

open Go.RowKit Go.Deep

set_option maxHeartbeats 400000 in
theorem typeFits_any : ∀ (r : Nat) (f : F) (a : Option Addr) (cap : Nat) (lo : Nat) (w : World), r ≤ 100 → TA w lo f a →
    Calls Tryz.prog 156 #[.agg #[.slice a (len f) cap], .int .i64 r] w fun e w' => e = .returned (.bool (fits r f)) ∧ Ex w w'
  | 0, f, a, cap, lo, w, hr, hT => by
    go_enter Tryz.func156, Tryz.ntmps156
    go_wp2_with fail
    go_ret
    exact ⟨rfl, Ex.new _ _⟩
  | r + 1, f, a, cap, lo, w, hr, hT => by
    by_cases h0 : len f = 0
    · have h0' : ((len f : Int) == 0) = true := by simp [h0]
      go_enter Tryz.func156, Tryz.ntmps156
      go_wp2_with fail
      go_ret
      exact ⟨by simp [fits, h0], Ex.new _ _⟩
    · have h0' : ((len f : Int) == 0) = false := by simp [h0]
      by_cases h2 : len f = 2
      · have h2' : ((len f : Int) == 2) = true := by simp [h2]
        obtain ⟨b, o, rfl, hlo, hbs, hk⟩ := TA_at hT (by omega)
        obtain ⟨a0, c0, hc0, ht0⟩ := hk 0 (by omega)
        obtain ⟨a1, c1, hc1, ht1⟩ := hk 1 (by omega)
        rw [Nat.add_zero] at hc0
        have I0 : Hid _ := typeFits_any r (kid f 0) a0 c0 lo
        have I1 : Hid _ := typeFits_any r (kid f 1) a1 c1 lo
        have T0 : Hid _ := ht0
        have T1 : Hid _ := ht1
        clear hk hT ht0 ht1
        go_enter Tryz.func156, Tryz.ntmps156
        go_wp2_with fail
        refine (I0.out _ (by omega) (TA_below T0.out (Ex.new _ _))).mono ?_
        rintro e w1 ⟨rfl, hb1⟩
        have hx1 : Ex w w1 := (Ex.new _ _).trans hb1
        have hc1' := hx1.at hc1
        have hbx : w1.cell? ⟨w.heap.size, 0, none⟩ = some (.slice (some ⟨b, o, none⟩) 2 cap) := Ex.at hb1 (by simp)
        cases hf0 : fits r (kid f 0)
        · go_wp2_with fail
          go_ret
          exact ⟨by simp [fits, h2, hf0], hx1⟩
        · go_wp2_with fail
          refine (I1.out _ (by omega) (TA_below T1.out hx1)).mono ?_
          rintro e w2 ⟨rfl, hb2⟩
          go_wp2_with fail
          go_ret
          exact ⟨by simp [fits, h2, hf0], hx1.trans hb2⟩
      · have h2' : ((len f : Int) == 2) = false := by simp; omega
        go_enter Tryz.func156, Tryz.ntmps156
        go_wp2_with fail
        go_ret
        exact ⟨by simp [fits, h0, h2], Ex.new _ _⟩

end Go.Proofs.YtldbmlojgakieaaGreatDoor

namespace Go.Proofs.YtldbmlojgakieaaGreatDoor

open Go.RowKit Go.Deep

theorem fits_two {r : Nat} {f : F} (h : len f = 2) : fits (r + 1) f = (fits r (kid f 0) && fits r (kid f 1)) := by simp [fits, h]
theorem fits_nil {r : Nat} {f : F} (h : len f = 0) : fits (r + 1) f = true := by simp [fits, h]
theorem fits_no {r : Nat} {f : F} (h : len f ≠ 0) (h2 : len f ≠ 2) : fits r f = false := by cases r <;> simp [fits, h, h2]
theorem fits_all {r : Nat} {f : F} (hl : len f = 0 ∨ len f = 2) (h : ∀ j, j < len f → fits r (kid f j) = true) : fits (r + 1) f = true := by
  rcases hl with hl | hl
  · exact fits_nil hl
  · rw [fits_two hl, h 0 (by omega), h 1 (by omega)]; rfl
theorem fits_bad {r : Nat} {f : F} (hl : len f = 0 ∨ len f = 2) {j : Nat} (hj : j < len f) (h : fits r (kid f j) = false) : fits (r + 1) f = false := by
  rcases hl with hl | hl
  · omega
  · rw [fits_two hl]
    have : j = 0 ∨ j = 1 := by omega
    rcases this with rfl | rfl <;> simp [h]

set_option maxHeartbeats 400000 in
theorem l1Deep_any : ∀ (r : Nat) (d : Int) (f : F) (a : Option Addr) (cap : Nat) (lo : Nat) (w : World), d = r → r ≤ 100 → TA w lo f a →
    Calls Tryz.prog 90 #[.agg #[.slice a (len f) cap], .int .i64 d] w fun e w' => e = .returned (.bool (fits r f)) ∧ Ex w w'
  | 0, d, f, a, cap, lo, w, hd, hr, hT => by
    subst hd
    go_enter Tryz.func90, Tryz.ntmps90
    go_wp2_with fail
    go_ret
    exact ⟨rfl, Ex.new _ _⟩
  | r + 1, d, f, a, cap, lo, w, hd, hr, hT => by
    have T : Hid (TA w lo f a) := hT
    have I : Hid _ := l1Deep_any r
    have D : Hid (d = (r + 1 : Nat)) := hd
    have hd1 : 1 ≤ d := by omega
    have hd2 : d ≤ 100 := by omega
    have e1 : decide (d < 1) = false := by simp; omega
    clear hT hd
    by_cases hl : len f = 0 ∨ len f = 2
    · have L : Hid (len f = 0 ∨ len f = 2) := hl
      rcases hl with hl | hl
      · go_enter Tryz.func90, Tryz.ntmps90
        go_wp2_with fail
        go_loopw [5] (fun i wr => i = .int .i64 0 ∧ Ex (w.alloc (.cells #[.slice a (len f) cap] 97)) wr) (fun i _ => 0)
        case atStart => exact ⟨rfl, by rw [hl]; exact Ex.refl _⟩
        case round =>
          obtain ⟨rfl, hx⟩ := hrel
          have hbx : wr.cell? ⟨w.heap.size, 0, none⟩ = some (.slice a (len f) cap) := Ex.at hx (by simp)
          go_wp2_with fail
          go_ret
          exact ⟨ret_b (fits_nil hl).symm, (Ex.new _ _).trans hx⟩
      · have e0 : ((len f : Int) != 0) = true := by simp [hl]
        have e2 : ((len f : Int) != 2) = false := by simp [hl]
        have hb : len f ≤ 2 := by omega
        clear hl
        go_enter Tryz.func90, Tryz.ntmps90
        go_wp2_with fail
        go_loopw [5] (fun i wr => ∃ k : Nat, k ≤ len f ∧ i = .int .i64 k ∧ Ex (w.alloc (.cells #[.slice a (len f) cap] 97)) wr ∧ ∀ j, j < k → fits r (kid f j) = true) (fun i _ => len f - (intOf i).toNat)
        case atStart => exact ⟨0, Nat.zero_le _, rfl, Ex.refl _, fun j hj => by omega⟩
        case round =>
          obtain ⟨k, hk, rfl, hx, hfit⟩ := hrel
          have hbx : wr.cell? ⟨w.heap.size, 0, none⟩ = some (.slice a (len f) cap) := Ex.at hx (by simp)
          have hw : Ex w wr := (Ex.new _ _).trans hx
          have FT : Hid (∀ j, j < k → fits r (kid f j) = true) := hfit
          clear hfit
          by_cases hlt : k < len f
          · obtain ⟨b, o, rfl, hlo, hbs, hkk⟩ := TA_at (TA_below T.out hw) (by omega)
            obtain ⟨a0, c0, hc0, ht0⟩ := hkk k hlt
            clear hkk
            have T0 : Hid (TA wr lo (kid f k) a0) := ht0
            clear ht0
            go_wp2_with fail
            refine (I.out _ _ _ _ _ _ (by have := D.out; omega) (by omega) T0.out).mono ?_
            rintro e w1 ⟨rfl, hb1⟩
            cases hfk : fits r (kid f k)
            · go_wp2_with fail
              go_ret
              exact ⟨ret_b (fits_bad L.out hlt hfk).symm, hw.trans hb1⟩
            · go_wp2_with fail
              go_roundw
              case rel => exact ⟨k + 1, by omega, by go_num, hx.trans hb1, fun j hj => by
                by_cases hj' : j < k
                · exact FT.out j hj'
                · rw [show j = k by omega]; exact hfk⟩
              case measure => simp [intOf]; omega
          · go_wp2_with fail
            go_ret
            exact ⟨ret_b (fits_all L.out fun j hj => FT.out j (by omega)).symm, hw⟩
    · have e0 : ((len f : Int) != 0) = true := by simp; omega
      have e2 : ((len f : Int) != 2) = true := by simp; omega
      go_enter Tryz.func90, Tryz.ntmps90
      go_wp2_with fail
      go_ret
      exact ⟨ret_b (fits_no (by omega) (by omega)).symm, Ex.new _ _⟩

theorem iTypeOk_any (f : F) (a : Option Addr) (cap lo : Nat) (w : World) (h : TA w lo f a) :
    Calls Tryz.prog 150 #[.agg #[.slice a (len f) cap]] w fun e w' => e = .returned (.bool (fits 4 f)) ∧ Ex w w' := by
  have T : Hid (TA w lo f a) := h
  clear h
  go_enter Tryz.func150, Tryz.ntmps150
  go_wp2_with fail
  refine (typeFits_any 4 _ _ _ _ _ (by omega) (TA_below T.out (Ex.new _ _))).mono ?_
  rintro e w1 ⟨rfl, hb1⟩
  go_wp2_with fail
  go_ret
  exact ⟨rfl, (Ex.new _ _).trans hb1⟩

theorem sTypeOk_any (f : F) (a : Option Addr) (cap lo : Nat) (w : World) (h : TA w lo f a) :
    Calls Tryz.prog 72 #[.agg #[.slice a (len f) cap]] w fun e w' => e = .returned (.bool (fits 4 f)) ∧ Ex w w' := by
  have T : Hid (TA w lo f a) := h
  clear h
  go_enter Tryz.func72, Tryz.ntmps72
  go_wp2_with fail
  refine (l1Deep_any 4 _ _ _ _ _ _ rfl (by omega) (TA_below T.out (Ex.new _ _))).mono ?_
  rintro e w1 ⟨rfl, hb1⟩
  go_wp2_with fail
  go_ret
  exact ⟨rfl, (Ex.new _ _).trans hb1⟩

end Go.Proofs.YtldbmlojgakieaaGreatDoor

namespace Go.Proofs.YtldbmlojgakieaaGreatDoor

open Go.RowKit Go.Deep

attribute [local go_sem ↓] Go.wp_at_zero Go.wp_at_succ

theorem fits_len {r : Nat} {f : F} (h : fits r f = true) : len f = 0 ∨ len f = 2 := by
  by_cases h0 : len f = 0
  · exact Or.inl h0
  · by_cases h2 : len f = 2
    · exact Or.inr h2
    · rw [fits_no h0 h2] at h; cases h

end Go.Proofs.YtldbmlojgakieaaGreatDoor

namespace Go.Proofs.YtldbmlojgakieaaGreatDoor

open Go.RowKit Go.Deep

/-- Numbers lie behind a slice's address, from block lo on. -/
def PA (w : World) (lo : Nat) (p : List Int) (a : Option Addr) : Prop := p.length = 0 ∨ ∃ b o, a = some ⟨b, o, none⟩ ∧ lo ≤ b ∧ ∀ i, i < p.length → w.cell? ⟨b, o + i, none⟩ = some (.int .i64 (p.getD i 0))

theorem PA_kp {w w' : World} {lo : Nat} {p : List Int} {a : Option Addr} (h : PA w lo p a) (hk : Kp lo w w') : PA w' lo p a := by
  rcases h with h | ⟨b, o, e, hb, hc⟩
  · exact Or.inl h
  · refine Or.inr ⟨b, o, e, hb, fun i hi => ?_⟩
    rw [hk.cell hb (World.block_lt_of_cell? _ _ (hc i hi))]; exact hc i hi
theorem PA_below {w w' : World} {lo : Nat} {p : List Int} {a : Option Addr} (h : PA w lo p a) (hb : Ex w w') : PA w' lo p a := PA_kp h (Kp.of_below hb lo)
theorem PA_lo {w : World} {lo lo' : Nat} {p : List Int} {a : Option Addr} (h : PA w lo p a) (hl : lo' ≤ lo) : PA w lo' p a := by
  rcases h with h | ⟨b, o, e, hb, hc⟩
  · exact Or.inl h
  · exact Or.inr ⟨b, o, e, Nat.le_trans hl hb, hc⟩
theorem PA_at {w : World} {lo : Nat} {p : List Int} {a : Option Addr} (h : PA w lo p a) (h0 : 0 < p.length) : ∃ b o, a = some ⟨b, o, none⟩ ∧ b < w.heap.size ∧ lo ≤ b ∧ ∀ i, i < p.length → w.cell? ⟨b, o + i, none⟩ = some (.int .i64 (p.getD i 0)) := by
  rcases h with h | ⟨b, o, e, hb, hc⟩
  · omega
  · exact ⟨b, o, e, World.block_lt_of_cell? _ _ (hc 0 h0), hb, hc⟩

theorem drop_cons (p : List Int) (k : Nat) (h : k < p.length) : p.drop k = p.getD k 0 :: p.drop (k + 1) := by
  rw [List.drop_eq_getElem_cons h]; simp [List.getD, h]

/-- The part by a path. -/
def partF : F → List Int → Option F
  | f, [] => some f
  | f, i :: p => if 0 ≤ i ∧ i < len f then partF (kid f i.toNat) p else none

theorem typeKids_any (a : Option Addr) (n cap : Nat) (w : World) :
    Calls Tryz.prog 144 #[.agg #[.slice a n cap]] w fun e w' => e = .returned (.slice a n cap) ∧ Ex w w' := by
  go_enter Tryz.func144, Tryz.ntmps144
  go_wp2_with fail
  go_ret
  exact ⟨rfl, Ex.new _ _⟩

set_option maxHeartbeats 1000000 in
theorem partAtT_any (f : F) (p : List Int) (a : Option Addr) (cap : Nat) (pa : Option Addr) (pc : Nat) (lo : Nat) (w : World) (hp : p.length ≤ 1000000000) (hT : TA w lo f a) (hP : PA w 0 p pa) :
    Calls Tryz.prog 143 #[.agg #[.slice a (len f) cap], .slice pa p.length pc, .func (.func 144) #[] #[]] w fun e w' =>
      (∃ g a' cap', partF f p = some g ∧ e = .returned (.tuple #[.agg #[.slice a' (len g) cap'], .bool true]) ∧ TA w' lo g a' ∧ Ex w w') ∨ (partF f p = none ∧ e = .returned (.tuple #[.agg #[.slice none 0 0], .bool false]) ∧ Ex w w') := by
  have T : Hid (TA w lo f a) := hT
  have P : Hid (PA w 0 p pa) := hP
  clear hT hP
  go_enter Tryz.func143, Tryz.ntmps143
  go_wp2_with fail
  go_loopw [14] (fun i wr => ∃ (k : Nat) (g : F) (a' : Option Addr) (cap' : Nat), k ≤ p.length ∧ i = .int .i64 k ∧ partF g (p.drop k) = partF f p ∧ TA w lo g a' ∧ Ex w wr ∧ wr.heap[w.heap.size]? = some (.cells #[.slice a' (len g) cap'] 97 (0, 0)) ∧ wr.heap[w.heap.size + 1]? = some (.cells #[.slice none 0 0] 97 (0, 0))) (fun i _ => p.length - (intOf i).toNat)
  case atStart => exact ⟨0, f, a, cap, Nat.zero_le _, rfl, rfl, T.out, (Ex.new _ _).alloc _, by rw [Below.heap_alloc _ _ _ (by simp)]; exact heap_alloc_new _ _, by rw [← World.size_alloc w (.cells #[.slice a (len f) cap] 97)]; exact heap_alloc_new _ _⟩
  case round =>
    obtain ⟨k, g, a', cap', hk, rfl, hpg, hg, hx, hbx, hrs⟩ := hrel
    have PG : Hid (partF g (p.drop k) = partF f p) := hpg
    have TG : Hid (TA w lo g a') := hg
    have c1 := cell_of_one hbx
    have c2 := free_of_one hbx
    have c3 := cell_of_one hrs
    have c4 := free_of_one hrs
    clear hpg hg
    by_cases hlt : k < p.length
    · obtain ⟨pb, po, rfl, hpb, _, hpc⟩ := PA_at (PA_below P.out hx) (by omega)
      obtain ⟨x, hxe⟩ : ∃ x, x = p.getD k 0 := ⟨_, rfl⟩
      have hck := hpc k hlt
      rw [← hxe] at hck
      have hpd : partF f p = if 0 ≤ x ∧ x < len g then partF (kid g x.toNat) (p.drop (k + 1)) else none := by
        rw [← PG.out, drop_cons p k hlt, ← hxe]; rfl
      have PD : Hid _ := hpd
      clear hpc hxe hpd
      go_wp2_with fail
      refine (typeKids_any _ _ _ _).mono ?_
      rintro e w1 ⟨rfl, hb1⟩
      have hbx1 := hb1.blk hbx
      have hrs1 := hb1.blk hrs
      have d1 := cell_of_one hbx1
      have d2 := free_of_one hbx1
      have d3 := cell_of_one hrs1
      have d4 := free_of_one hrs1
      have d5 := lt_of_block hrs1
      have hx1 : Ex w w1 := hx.trans hb1
      clear c1 c2 c3 c4 hbx hrs
      by_cases hxx : 0 ≤ x ∧ x < len g
      · obtain ⟨hx0, hxl⟩ := hxx
        have e0 : decide (x < 0) = false := by simp; omega
        obtain ⟨b, o, rfl, hlo, hbs, hkk⟩ := TA_at (TA_below TG.out hx1) (by omega)
        obtain ⟨a2, k2, hc2, ht2⟩ := hkk x.toNat (by omega)
        obtain ⟨b', o', e', _, _, hkk'⟩ := TA_at TG.out (by omega)
        obtain ⟨a3, k3, hc3, ht3⟩ := hkk' x.toNat (by omega)
        cases e'
        have e4 := (hx1.at hc3).symm.trans hc2
        injection e4 with e4
        injection e4 with e5 e6 e7
        subst e5 e7
        have T3 : Hid (TA w lo (kid g x.toNat) a3) := ht3
        clear hkk hkk' ht2 ht3 hc3 e6
        go_wp2_with fail
        go_roundw
        case rel =>
          exact ⟨k + 1, kid g x.toNat, a3, k3, by omega, by go_num, by rw [PD.out, if_pos ⟨hx0, hxl⟩], T3.out, hx1.set (Nat.le_refl _) _, one_setCell hbx1, by rw [Below.heap_setCell _ _ _ _ (by simp)]; exact hrs1⟩
        case measure => simp [intOf]; omega
      · have HN : Hid (partF f p = none) := by show _ = _; rw [PD.out, if_neg hxx]
        by_cases hx0 : x < 0
        · have e0 : decide (x < 0) = true := by simp; omega
          go_wp2_with fail
          have hres := res_at d3 (.slice none 0 0) (.cells #[.slice none 0 0] 97)
          exact bodyPost_ret (v := .tuple #[.agg #[.slice none 0 0], .bool false]) (by simp [results, Tryz.results143, go_sem, hres]) rfl (Or.inr ⟨HN.out, rfl, (hx1.set (Nat.le_succ _) _).alloc _⟩)
        · have e0 : decide (x < 0) = false := by simp; omega
          have e1 : (len g : Int) ≤ x := by omega
          go_wp2_with fail
          have hres := res_at d3 (.slice none 0 0) (.cells #[.slice none 0 0] 97)
          exact bodyPost_ret (v := .tuple #[.agg #[.slice none 0 0], .bool false]) (by simp [results, Tryz.results143, go_sem, hres]) rfl (Or.inr ⟨HN.out, rfl, (hx1.set (Nat.le_succ _) _).alloc _⟩)
    · have hd : p.drop k = [] := List.drop_eq_nil_of_le (by omega)
      have hs : partF f p = some g := by rw [← PG.out, hd]; rfl
      have HS : Hid (partF f p = some g) := hs
      clear hs hd
      go_wp2_with fail
      have hres := World.cell?_setCell_same wr ⟨w.heap.size + 1, 0, none⟩ (.slice a' (len g) cap') c3
      have hxf : Ex w (wr.setCell ⟨w.heap.size + 1, 0, none⟩ (.slice a' (len g) cap')) := hx.set (Nat.le_succ _) _
      exact bodyPost_ret (v := .tuple #[.agg #[.slice a' (len g) cap'], .bool true]) (by simp [results, Tryz.results143, go_sem, hres]) rfl (Or.inl ⟨g, a', cap', HS.out, rfl, TA_below TG.out hxf, hxf⟩)

theorem fits_part : ∀ (p : List Int) (r : Nat) (f g : F), fits r f = true → partF f p = some g → ∃ r', fits r' g = true
  | [], r, f, g, h, e => by cases e; exact ⟨r, h⟩
  | i :: p, r, f, g, h, e => by
    simp only [partF] at e
    split at e
    · rename_i hi
      cases r with
      | zero => simp [fits] at h
      | succ r =>
        have h2 : len f = 2 := by have := fits_len h; omega
        rw [fits_two h2, Bool.and_eq_true] at h
        have : i.toNat = 0 ∨ i.toNat = 1 := by omega
        rcases this with hi | hi <;> rw [hi] at e
        · exact fits_part p r _ g h.1 e
        · exact fits_part p r _ g h.2 e
    · cases e

theorem partAtT_one (f : F) (p : List Int) (a : Option Addr) (cap : Nat) (pa : Option Addr) (pc : Nat) (lo : Nat) (w : World) (hp : p.length ≤ 1000000000) (hT : TA w lo f a) (hP : PA w 0 p pa) :
    Calls Tryz.prog 143 #[.agg #[.slice a (len f) cap], .slice pa p.length pc, .func (.func 144) #[] #[]] w fun e w' =>
      ∃ (g : F) (ok : Bool) (a' : Option Addr) (cap' : Nat), (partF f p = some g ∧ ok = true ∨ partF f p = none ∧ g = .nil ∧ ok = false) ∧ e = .returned (.tuple #[.agg #[.slice a' (len g) cap'], .bool ok]) ∧ TA w' lo g a' ∧ Ex w w' :=
  (partAtT_any f p a cap pa pc lo w hp hT hP).mono fun e w' h => by
    rcases h with ⟨g, a', cap', h1, h2, h3, h4⟩ | ⟨h1, h2, h3⟩
    · exact ⟨g, true, a', cap', Or.inl ⟨h1, rfl⟩, h2, h3, h4⟩
    · exact ⟨.nil, false, none, 0, Or.inr ⟨h1, rfl, rfl⟩, h2, Or.inl rfl, h3⟩

/-- What TypeAt tells. -/
def typeAtR (f : F) (p : List Int) : F × Bool := match (if fits 4 f = true then partF f p else none) with
  | some g => (g, true)
  | none => (.nil, false)

end Go.Proofs.YtldbmlojgakieaaGreatDoor

namespace Go.Proofs

namespace YtldbmlojgakieaaGreatDoor

open Go.RowKit Go.Deep

attribute [local go_sem ↓] Go.wp_at_zero Go.wp_at_succ

/-- The table of powers of ten reads as it was laid. -/
abbrev Tab (w : World) : Prop := Lib.TabIs Tryz.prog w "internal/strconv.uint64pow10" .u64 Lib.pow10Tab

theorem Tab.ex {w w' : World} (h : Tab w) (hx : Ex w w') : Tab w' := by
  unfold Tab Lib.TabIs World.var? at *
  cases hg : Tryz.prog.globalNamed "internal/strconv.uint64pow10" with
  | none => rw [hg] at h; simp at h
  | some g =>
    rw [hg] at h
    simp only [Option.bind_some] at h ⊢
    cases hb : w.heap[g]? with
    | none => rw [hb] at h; simp at h
    | some o => rw [hx.blk hb, ← hb]; exact h

theorem Ex.grow (w : World) (os : Array Obj) : Ex w (Sort.grow w os) := by
  refine ⟨rfl, rfl, rfl, by simp [Sort.grow], fun b hb => ?_⟩
  show (w.heap ++ os)[b]? = w.heap[b]?
  rw [Array.getElem?_append_left hb]

theorem itoa_any (n : Int) (h0 : -9223372036854775808 ≤ n) (h1 : n ≤ 9223372036854775807) (w : World) (htab : Tab w) :
    Calls Tryz.prog 125 #[.int .i64 n] w fun e w' => e = .returned (.string ⟨(Lib.itoa n).toArray⟩) ∧ Ex w w' := by
  refine (Tryz.strconv_Itoa n h0 h1 w htab).mono ?_
  rintro e w' ⟨rfl, k, os, rfl⟩
  exact ⟨rfl, ((Ex.refl w).drewN k).trans (Ex.grow _ os)⟩

end YtldbmlojgakieaaGreatDoor

end Go.Proofs

namespace Go.Proofs.YtldbmlojgakieaaGreatDoor

open Go.RowKit Go.Deep

theorem one_at {u : Int} {w : World} {b : Nat} (hc : w.cell? ⟨b, 0, none⟩ = some (.int .u8 u)) (i : Nat) (hi : i < 1) : w.cell? ⟨b, 0 + i, none⟩ = some (.int .u8 ([u].getD i 0)) := by
  have : i = 0 := by omega
  subst this
  exact hc

theorem conv_one (u : Int) (w : World) (b : Nat) (hc : w.cell? ⟨b, 0, none⟩ = some (.int .u8 u)) :
    (convert 84 9 (.slice (some ⟨b, 0, none⟩) 1 1)).run Tryz.prog w = .ok (.string (strOfNums [u])) w :=
  run_convert_bytes_arg w 84 5 Tryz.underlying84 Tryz.underlying5 b 0 1 1 [u] rfl (one_at hc) 9 Tryz.underlying9

end Go.Proofs.YtldbmlojgakieaaGreatDoor

namespace Go.Proofs.YtldbmlojgakieaaGreatDoor

open Go.RowKit Go.Deep

attribute [local go_sem ↓] Go.wp_at_zero Go.wp_at_succ

theorem dec_small {u : Nat} (h : u < 10) : Lib.decDigits u = [UInt8.ofNat (48 + u)] := by rw [Lib.decDigits, dif_pos h]
theorem dec_great {u : Nat} (h : ¬ u < 10) : Lib.decDigits u = Lib.decDigits (u / 10) ++ [UInt8.ofNat (48 + u % 10)] := by rw [Lib.decDigits, dif_neg h]

theorem dec_len : ∀ (d u : Nat), u < 10 ^ (d + 1) → (Lib.decDigits u).length ≤ d + 1
  | 0, u, h => by rw [dec_small (by simpa using h)]; simp
  | d + 1, u, h => by
    by_cases h0 : u < 10
    · rw [dec_small h0]; simp
    · rw [dec_great h0]
      have := dec_len d (u / 10) (by rw [Nat.pow_succ] at h; omega)
      simp; omega

theorem cut_in {A B : Prop} (a : A) (b : A → B) : B := b a

theorem l6Dec_one (n : Int) (w : World) (h0 : 0 ≤ n) (hn : n < 10) :
    Calls Tryz.prog 107 #[.int .i64 n] w fun e w' => e = .returned (.string ⟨(Lib.decDigits n.toNat).toArray⟩) ∧ Ex w w' := by
  have d1 : decide (n < -9223372036854775807) = false := by simp; omega
  have d2 : decide (n < 0) = false := by simp; omega
  have d3 : decide (n < 10) = true := by simp; omega
  have HR : Hid (strOfNums [48 + n] = ⟨(Lib.decDigits n.toNat).toArray⟩) := by
    show _ = _
    rw [dec_small (by omega)]
    simp only [strOfNums, List.map_cons, List.map_nil]
    rw [show (48 + n).toNat = 48 + n.toNat by omega]
  have cv := conv_one (48 + n)
  go_enter Tryz.func107, Tryz.ntmps107
  go_wp2_with fail
  go_ret
  exact ⟨ret_s HR.out, Ex.new _ _⟩

set_option maxRecDepth 100000 in
set_option maxHeartbeats 4000000 in
theorem l6Dec_any : ∀ (d : Nat) (n : Int) (w : World), d ≤ 17 → 0 ≤ n → n.toNat < 10 ^ (d + 1) →
    Calls Tryz.prog 107 #[.int .i64 n] w fun e w' => e = .returned (.string ⟨(Lib.decDigits n.toNat).toArray⟩) ∧ Ex w w' := by
  intro d
  induction d with
  | zero =>
    intro n w hd h0 h1
    exact l6Dec_one n w h0 (by simp at h1; omega)
  | succ d ih =>
    intro n w hd h0 h1
    by_cases hn : n < 10
    · exact l6Dec_one n w h0 hn
    · have d1 : decide (n < -9223372036854775807) = false := by simp; omega
      have d2 : decide (n < 0) = false := by simp; omega
      have d3 : decide (n < 10) = false := by simp; omega
      have hp : n.toNat / 10 < 10 ^ (d + 1) := by rw [Nat.pow_succ] at h1; omega
      have hm : n < 9223372036854775807 := by
        have : 10 ^ (d + 1 + 1) ≤ 10 ^ 18 := Nat.pow_le_pow_right (by omega) (by omega)
        omega
      obtain ⟨q, hq⟩ : ∃ q, n / 10 = q := ⟨_, rfl⟩
      obtain ⟨m, hmm⟩ : ∃ m, n % 10 = m := ⟨_, rfl⟩
      have hq' : n.tdiv 10 = q := by rw [Int.tdiv_eq_ediv_of_nonneg h0]; exact hq
      have hm' : n.tmod 10 = m := by rw [Int.tmod_eq_emod_of_nonneg h0]; exact hmm
      have wq : IntKind.i64.wrap q = q := by rw [IntKind.wrap_i64]; omega
      have wm : IntKind.i64.wrap m = m := by rw [IntKind.wrap_i64]; omega
      have m0 : 0 ≤ m := by omega
      have m1 : m < 10 := by omega
      have w48 : IntKind.i64.wrap (48 + m) = 48 + m := by rw [IntKind.wrap_i64]; omega
      have w8 : IntKind.u8.wrap (48 + m) = 48 + m := by simp [IntKind.wrap, IntKind.bits, IntKind.signed]; omega
      obtain ⟨s, hs⟩ : ∃ s : ByteArray, s = ⟨(Lib.decDigits q.toNat).toArray⟩ := ⟨_, rfl⟩
      have I : Hid (∀ w', Calls Tryz.prog 107 #[.int .i64 q] w' fun e w'' => e = .returned (.string s) ∧ Ex w' w'') := fun w' => by
        rw [hs]; exact ih q w' (by omega) (by omega) (by omega)
      have hsl : s.size ≤ 100 := by
        rw [hs]; show (Lib.decDigits q.toNat).toArray.size ≤ _
        have := dec_len d q.toNat (by omega)
        simp; omega
      have HR : Hid (s ++ strOfNums [48 + m] = ⟨(Lib.decDigits n.toNat).toArray⟩) := by
        show _ = _
        rw [dec_great (u := n.toNat) (by omega), hs, show n.toNat / 10 = q.toNat by omega, show n.toNat % 10 = m.toNat by omega]
        simp only [strOfNums, List.map_cons, List.map_nil]
        rw [show (48 + m).toNat = 48 + m.toNat by omega]
        apply ByteArray.ext
        simp
      obtain ⟨t, ht⟩ : ∃ t, strOfNums [48 + m] = t := ⟨_, rfl⟩
      have cv := conv_one (48 + m)
      rw [ht] at cv HR
      have htl : t.size = 1 := by rw [← ht, strOfNums_size]; rfl
      have n1 : ¬ 9223372036854775807 < s.size + t.size := by omega
      clear h1 hs ih ht htl hsl hp hd
      go_enter Tryz.func107, Tryz.ntmps107
      go_wp2_with fail
      go_region_held (fun w' => Ex w w' ∧ True) ((refine ⟨?_, trivial⟩; first | exact (Ex.refl _).drew | exact And.left ‹Ex _ _ ∧ _› | exact Ex.alloc (And.left ‹Ex _ _ ∧ _›) _ | exact Ex.trans (And.left ‹Ex _ _ ∧ _›) ‹Ex _ _›)) (first | (go_at_call 107; refine (I.out _).mono ?_; rintro e w1 ⟨rfl, hb1⟩; refine cut_in (A := w1.cell? ⟨w.heap.size, 0, none⟩ = some (.int .u8 (48 + m))) ?_ (fun hc1 => ?_); focus (refine hb1.at ?_; simp; done)) | (go_at_call 107; refine (I.out _).mono ?_; rintro e w1 ⟨rfl, hb1⟩))
      all_goals go_wp2_with fail
      all_goals go_ret
      all_goals exact ⟨ret_s HR.out, And.left ‹Ex _ _ ∧ _›⟩
end Go.Proofs.YtldbmlojgakieaaGreatDoor
