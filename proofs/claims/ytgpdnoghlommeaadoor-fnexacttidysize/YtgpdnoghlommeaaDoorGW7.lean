/- Trees as the program's types and values are: plain functions on them, and how they lie in memory. Walks: whether a type is in form. Walks: types are ok, by the program and by the specification. Walks: a type copied. Walks: a part of a type by a path. Terms as they lie in memory. Walks: how codes are read and types are drawn. Walks: codes opened, types drawn. Walks: types drawn, some spoilt. Walks: two types held against each other. Walks: paths drawn. Walks: a type copied by the specification; its part by a path. -/
import Derived.WalkKit
import Derived.WalkSpells
import Derived.WalkLawsBesides
import Derived.Deep.Trees
import Derived.Deep.Draws
import Derived.Test.YtgpdnoghlommeaaDoorProg
import Derived.Deep.RegionWith
import Derived.Deep.RegionHeld3
import Derived.Deep.AppendLies
import Derived.Deep.DrawnRows
import Derived.OneCell
import Derived.Deep.QuietTactic
import Derived.BigQuiet
import Derived.Deep.LoopGhost
import Derived.Deep.RegionLaw
namespace Go.Proofs.YtgpdnoghlommeaaDoor

open Go.RowKit Go.Deep

/-- A list of trees: each a number and a list of trees. (The two places of a node are not looked at.) -/
abbrev F := BT Int

def len : F → Nat
  | .nil => 0
  | .node _ _ _ _ r => len r + 1

def kid : F → Nat → F
  | .nil, _ => .nil
  | .node _ _ _ k _, 0 => k
  | .node _ _ _ _ r, i + 1 => kid r i

def num : F → Nat → Int
  | .nil, _ => 0
  | .node _ _ n _ _, 0 => n
  | .node _ _ _ _ r, i + 1 => num r i

def dep : F → Nat
  | .nil => 0
  | .node _ _ _ k r => max (dep k + 1) (dep r)

theorem dep_kid : ∀ (f : F) (i : Nat), i < len f → dep (kid f i) < dep f
  | .nil, _, h => by simp [len] at h
  | .node _ _ _ k r, 0, _ => by simp only [kid, dep]; omega
  | .node _ _ _ k r, i + 1, h => by
    have := dep_kid r i (by simp only [len] at h; omega)
    simp only [kid, dep]; omega

/-- Two of them. -/
def two (n : Int) (a : F) (m : Int) (b : F) : F := .node 0 0 n a (.node 0 0 m b .nil)

theorem len_two (n m : Int) (a b : F) : len (two n a m b) = 2 := rfl
theorem kid_two0 (n m : Int) (a b : F) : kid (two n a m b) 0 = a := rfl
theorem kid_two1 (n m : Int) (a b : F) : kid (two n a m b) 1 = b := rfl
theorem num_two0 (n m : Int) (a b : F) : num (two n a m b) 0 = n := rfl
theorem num_two1 (n m : Int) (a b : F) : num (two n a m b) 1 = m := rfl

/-- From block lo on, all that was there is there. -/
structure Kp (lo : Nat) (w w' : World) : Prop where
  size : w.heap.size ≤ w'.heap.size
  block : ∀ k, lo ≤ k → k < w.heap.size → w'.heap[k]? = w.heap[k]?

theorem Kp.refl (lo : Nat) (w : World) : Kp lo w w := ⟨Nat.le_refl _, fun _ _ _ => rfl⟩
theorem Kp.trans {lo : Nat} {a b c : World} (h : Kp lo a b) (k : Kp lo b c) : Kp lo a c :=
  ⟨Nat.le_trans h.size k.size, fun i h1 h2 => (k.block i h1 (Nat.lt_of_lt_of_le h2 h.size)).trans (h.block i h1 h2)⟩
theorem Kp.mono {lo lo' : Nat} {w w' : World} (h : Kp lo w w') (hl : lo ≤ lo') : Kp lo' w w' := ⟨h.size, fun k h1 h2 => h.block k (Nat.le_trans hl h1) h2⟩
theorem Kp.of_below {w w' : World} (h : Below w.heap.size w w') (lo : Nat) : Kp lo w w' := ⟨h.size, fun k _ h2 => h.block k h2⟩
theorem Kp.cell {lo : Nat} {w w' : World} (h : Kp lo w w') {p : Addr} (h1 : lo ≤ p.block) (h2 : p.block < w.heap.size) : w'.cell? p = w.cell? p := World.cell?_of_block (w := w) (h.block p.block h1 h2)

/-- All that was there in blocks of S is there. -/
def Ks (S : Nat → Prop) (w w' : World) : Prop := ∀ k, S k → k < w.heap.size → w'.heap[k]? = w.heap[k]?
theorem Ks.cell {S : Nat → Prop} {w w' : World} (h : Ks S w w') {p : Addr} (h1 : S p.block) (h2 : p.block < w.heap.size) : w'.cell? p = w.cell? p := World.cell?_of_block (w := w) (h p.block h1 h2)

/-- A list of types lies at block b from place o on: a cell each, its own list behind it, all in blocks of S. -/
def SC (w : World) (S : Nat → Prop) : F → Nat → Nat → Prop
  | .nil, _, _ => True
  | .node _ _ _ k r, b, o => (∃ a cap, w.cell? ⟨b, o, none⟩ = some (.slice a (len k) cap) ∧ (len k = 0 ∨ ∃ b' o', a = some ⟨b', o', none⟩ ∧ S b' ∧ SC w S k b' o')) ∧ SC w S r b (o + 1)

/-- A list of types lies behind a slice's address. -/
def SA (w : World) (S : Nat → Prop) (f : F) (a : Option Addr) : Prop := len f = 0 ∨ ∃ b o, a = some ⟨b, o, none⟩ ∧ S b ∧ SC w S f b o

theorem SC_cell {w : World} {S : Nat → Prop} : ∀ {f : F} {b o : Nat}, SC w S f b o → ∀ i, i < len f → ∃ a cap, w.cell? ⟨b, o + i, none⟩ = some (.slice a (len (kid f i)) cap) ∧ SA w S (kid f i) a
  | .nil, _, _, _, i, h => by simp [len] at h
  | .node _ _ _ k r, b, o, hc, 0, _ => hc.1
  | .node _ _ _ k r, b, o, hc, i + 1, h => by
    have := SC_cell hc.2 i (by simp only [len] at h; omega)
    rw [Nat.add_right_comm, Nat.add_assoc] at this
    exact this

theorem SC_mk {w : World} {S : Nat → Prop} : ∀ {f : F} {b o : Nat}, (∀ i, i < len f → ∃ a cap, w.cell? ⟨b, o + i, none⟩ = some (.slice a (len (kid f i)) cap) ∧ SA w S (kid f i) a) → SC w S f b o
  | .nil, _, _, _ => trivial
  | .node _ _ _ k r, b, o, h => by
    refine ⟨h 0 (by simp [len]), SC_mk fun i hi => ?_⟩
    have := h (i + 1) (by simp only [len]; omega)
    rw [show o + (i + 1) = o + 1 + i by omega] at this
    exact this

theorem SC_ks {w w' : World} {S : Nat → Prop} (hk : Ks S w w') : ∀ {f : F} {b o : Nat}, S b → SC w S f b o → SC w' S f b o
  | .nil, _, _, _, _ => trivial
  | .node _ _ _ k r, b, o, hb, ⟨⟨a, cap, hc, hr⟩, h2⟩ => by
    refine ⟨⟨a, cap, ?_, ?_⟩, SC_ks hk hb h2⟩
    · rw [hk.cell hb (World.block_lt_of_cell? _ _ hc)]; exact hc
    · rcases hr with h0 | ⟨b', o', e, hb', ht⟩
      · exact Or.inl h0
      · exact Or.inr ⟨b', o', e, hb', SC_ks hk hb' ht⟩

theorem SA_ks {w w' : World} {S : Nat → Prop} {f : F} {a : Option Addr} (h : SA w S f a) (hk : Ks S w w') : SA w' S f a := by
  rcases h with h | ⟨b, o, e, hb, ht⟩
  · exact Or.inl h
  · exact Or.inr ⟨b, o, e, hb, SC_ks hk hb ht⟩

theorem SC_mono {w : World} {S S' : Nat → Prop} (hl : ∀ b, b < w.heap.size → S b → S' b) : ∀ {f : F} {b o : Nat}, SC w S f b o → SC w S' f b o
  | .nil, _, _, _ => trivial
  | .node _ _ _ k r, b, o, ⟨⟨a, cap, hc, hr⟩, h2⟩ => by
    refine ⟨⟨a, cap, hc, ?_⟩, SC_mono hl h2⟩
    rcases hr with h0 | ⟨b', o', e, hb', ht⟩
    · exact Or.inl h0
    · by_cases h0 : len k = 0
      · exact Or.inl h0
      · obtain ⟨_, _, hc', _⟩ := SC_cell ht 0 (by omega)
        exact Or.inr ⟨b', o', e, hl b' (World.block_lt_of_cell? _ _ hc') hb', SC_mono hl ht⟩

theorem SA_mono {w : World} {S S' : Nat → Prop} {f : F} {a : Option Addr} (h : SA w S f a) (hl : ∀ b, b < w.heap.size → S b → S' b) : SA w S' f a := by
  rcases h with h | ⟨b, o, e, hb, ht⟩
  · exact Or.inl h
  · by_cases h0 : len f = 0
    · exact Or.inl h0
    · obtain ⟨_, _, hc', _⟩ := SC_cell ht 0 (by omega)
      exact Or.inr ⟨b, o, e, hl b (World.block_lt_of_cell? _ _ hc') hb, SC_mono hl ht⟩

theorem SA_at {w : World} {S : Nat → Prop} {f : F} {a : Option Addr} (h : SA w S f a) (h0 : 0 < len f) : ∃ b o, a = some ⟨b, o, none⟩ ∧ S b ∧ b < w.heap.size ∧
    ∀ i, i < len f → ∃ a' cap, w.cell? ⟨b, o + i, none⟩ = some (.slice a' (len (kid f i)) cap) ∧ SA w S (kid f i) a' := by
  rcases h with h | ⟨b, o, e, hb, ht⟩
  · omega
  · obtain ⟨_, _, hc, _⟩ := SC_cell ht 0 h0
    exact ⟨b, o, e, hb, World.block_lt_of_cell? _ _ hc, fun i hi => SC_cell ht i hi⟩

theorem SA_mk {w : World} {S : Nat → Prop} {f : F} {g o : Nat} (hg : S g) (h : ∀ i, i < len f → ∃ a cap, w.cell? ⟨g, o + i, none⟩ = some (.slice a (len (kid f i)) cap) ∧ SA w S (kid f i) a) : SA w S f (some ⟨g, o, none⟩) :=
  Or.inr ⟨g, o, rfl, hg, SC_mk h⟩

theorem SA_two {w : World} {S : Nat → Prop} {f : F} (h2 : len f = 2) {g o : Nat} (hg : S g) {a0 a1 : Option Addr} {k0 k1 : Nat} (c0 : w.cell? ⟨g, o, none⟩ = some (.slice a0 (len (kid f 0)) k0)) (c1 : w.cell? ⟨g, o + 1, none⟩ = some (.slice a1 (len (kid f 1)) k1))
    (t0 : SA w S (kid f 0) a0) (t1 : SA w S (kid f 1) a1) : SA w S f (some ⟨g, o, none⟩) := by
  refine SA_mk hg fun i hi => ?_
  have : i = 0 ∨ i = 1 := by omega
  rcases this with rfl | rfl
  · exact ⟨a0, k0, c0, t0⟩
  · exact ⟨a1, k1, c1, t1⟩

/-- .. all from block lo on. -/
def TA (w : World) (lo : Nat) (f : F) (a : Option Addr) : Prop := SA w (fun b => lo ≤ b) f a

theorem TA_kp {w w' : World} {lo : Nat} {f : F} {a : Option Addr} (h : TA w lo f a) (hk : Kp lo w w') : TA w' lo f a := SA_ks h hk.block
theorem TA_lo {w : World} {lo lo' : Nat} {f : F} {a : Option Addr} (h : TA w lo f a) (hl : lo' ≤ lo) : TA w lo' f a := SA_mono h fun _ _ hb => Nat.le_trans hl hb
theorem TA_below {w w' : World} {lo : Nat} {f : F} {a : Option Addr} (h : TA w lo f a) (hb : Below w.heap.size w w') : TA w' lo f a := TA_kp h (Kp.of_below hb lo)
theorem TA_nil (w : World) (lo : Nat) (a : Option Addr) : TA w lo .nil a := Or.inl rfl
theorem TA_at {w : World} {lo : Nat} {f : F} {a : Option Addr} (h : TA w lo f a) (h0 : 0 < len f) : ∃ b o, a = some ⟨b, o, none⟩ ∧ lo ≤ b ∧ b < w.heap.size ∧
    ∀ i, i < len f → ∃ a' cap, w.cell? ⟨b, o + i, none⟩ = some (.slice a' (len (kid f i)) cap) ∧ TA w lo (kid f i) a' := SA_at h h0
theorem TA_two {w : World} {lo : Nat} {f : F} (h2 : len f = 2) {g o : Nat} (hg : lo ≤ g) {a0 a1 : Option Addr} {k0 k1 : Nat} (c0 : w.cell? ⟨g, o, none⟩ = some (.slice a0 (len (kid f 0)) k0)) (c1 : w.cell? ⟨g, o + 1, none⟩ = some (.slice a1 (len (kid f 1)) k1))
    (t0 : TA w lo (kid f 0) a0) (t1 : TA w lo (kid f 1) a1) : TA w lo f (some ⟨g, o, none⟩) := SA_two h2 hg c0 c1 t0 t1

/-- All lists are of a length that can be counted. -/
def Sm : F → Prop
  | .nil => True
  | .node _ _ _ k r => len k ≤ 1000000000 ∧ Sm k ∧ Sm r
theorem Sm_kid : ∀ {f : F}, Sm f → ∀ i, i < len f → len (kid f i) ≤ 1000000000 ∧ Sm (kid f i)
  | .nil, _, i, h => by simp [len] at h
  | .node _ _ _ k r, hs, 0, _ => ⟨hs.1, hs.2.1⟩
  | .node _ _ _ k r, hs, i + 1, h => Sm_kid hs.2.2 i (by simp only [len] at h; omega)

theorem ret_b {a b : Bool} (h : a = b) : Ending.returned (.bool a) = .returned (.bool b) := by rw [h]
theorem ret_s {a b : ByteArray} (h : a = b) : Ending.returned (.string a) = .returned (.string b) := by rw [h]
theorem ret_i {k : IntKind} {a b : Int} (h : a = b) : Ending.returned (.int k a) = .returned (.int k b) := by rw [h]

/-- Nothing that was there has turned. -/
abbrev Ex (w w' : World) : Prop := Below w.heap.size w w'
theorem Ex.refl (w : World) : Ex w w := Below.refl _ _
theorem Ex.trans {a b c : World} (h : Ex a b) (k : Ex b c) : Ex a c := Below.trans h (Below.mono k h.size)
theorem Ex.alloc {a b : World} (h : Ex a b) (o : Obj) : Ex a (b.alloc o) := Below.alloc h h.size o
theorem Ex.new (w : World) (o : Obj) : Ex w (w.alloc o) := Ex.alloc (Ex.refl w) o
theorem Ex.drew {a b : World} (h : Ex a b) : Ex a b.drew := Below.drew h
theorem Ex.drewN {a b : World} (h : Ex a b) (n : Nat) : Ex a (b.drewN n) := ⟨h.os, h.tape, h.output, h.size, h.block⟩
theorem Ex.set {a b : World} (h : Ex a b) {p : Addr} (hp : a.heap.size ≤ p.block) (u : Value) : Ex a (b.setCell p u) := Below.setCell h hp u
theorem Ex.at {a b : World} (h : Ex a b) {p : Addr} {v : Value} (hc : a.cell? p = some v) : b.cell? p = some v := (Below.cell h (World.block_lt_of_cell? _ _ hc)).trans hc
theorem Ex.lt {a b : World} (h : Ex a b) {n : Nat} (hn : n < a.heap.size) : n < b.heap.size := Nat.lt_of_lt_of_le hn h.size

theorem Ex.blk {a b : World} (h : Ex a b) {n : Nat} {o : Obj} (hc : a.heap[n]? = some o) : b.heap[n]? = some o := by
  have hn : n < a.heap.size := by
    rcases Nat.lt_or_ge n a.heap.size with h' | h'
    · exact h'
    · rw [Array.getElem?_eq_none h'] at hc; cases hc
  exact (h.block n hn).trans hc

theorem Kp.ex {lo : Nat} {a b c : World} (h : Kp lo a b) (k : Ex b c) : Kp lo a c := h.trans (Kp.of_below k lo)
theorem Kp.alloc {lo : Nat} {a b : World} (h : Kp lo a b) (o : Obj) : Kp lo a (b.alloc o) := h.ex (Ex.new _ _)
theorem Kp.drew {lo : Nat} {a b : World} (h : Kp lo a b) : Kp lo a b.drew := ⟨h.size, h.block⟩
theorem Kp.set {lo : Nat} {a b : World} (h : Kp lo a b) {p : Addr} (hp : p.block < lo ∨ a.heap.size ≤ p.block) (v : Value) : Kp lo a (b.setCell p v) :=
  ⟨by rw [World.size_setCell]; exact h.size, fun k h1 h2 => by rw [Below.heap_setCell _ _ _ _ (by omega)]; exact h.block k h1 h2⟩

theorem cell_set_new (w : World) (p : Addr) (v : Value) (cs : Array Value) (t : TypeId) (i : Nat) : ((w.setCell p v).alloc (.cells cs t)).cell? ⟨w.heap.size, i, none⟩ = cs[i]? := by
  have := World.cell?_alloc_new (w.setCell p v) cs t i
  rw [World.size_setCell] at this; exact this

theorem res_at {w : World} {p : Addr} {u : Value} (hc : w.cell? p = some u) (v : Value) (o : Obj) : ((w.setCell p v).alloc o).cell? p = some v :=
  (World.cell?_alloc_lt _ _ _ (by rw [World.size_setCell]; exact World.block_lt_of_cell? _ _ hc)).trans (World.cell?_setCell_same _ _ _ hc)

/-- While a region goes on: nothing of W0 has turned, and block n is one with c cells of type t that may be written. -/
def Core (W0 : World) (n c : Nat) (t : TypeId) (w : World) : Prop := Ex W0 w ∧ W0.heap.size ≤ n ∧ ∃ vs : Array Value, vs.size = c ∧ w.heap[n]? = some (.cells vs t (0, 0))
theorem Core.lt {W0 w : World} {n c : Nat} {t : TypeId} (h : Core W0 n c t w) : n < w.heap.size := by
  obtain ⟨_, _, vs, _, hv⟩ := h
  rcases Nat.lt_or_ge n w.heap.size with h' | h'
  · exact h'
  · rw [Array.getElem?_eq_none h'] at hv; cases hv
theorem Core.start (W0 : World) (vs : Array Value) (t : TypeId) : Core W0 W0.heap.size vs.size t (W0.alloc (.cells vs t)) := ⟨Ex.new _ _, Nat.le_refl _, vs, rfl, by show (W0.heap.push _)[W0.heap.size]? = _; simp⟩
theorem Core.drew {W0 w : World} {n c : Nat} {t : TypeId} (h : Core W0 n c t w) : Core W0 n c t w.drew := ⟨h.1.drew, h.2.1, h.2.2⟩
theorem Core.ex {W0 w w1 : World} {n c : Nat} {t : TypeId} (h : Core W0 n c t w) (hb : Ex w w1) : Core W0 n c t w1 := by
  obtain ⟨h1, h2, vs, h3, h4⟩ := h
  exact ⟨h1.trans hb, h2, vs, h3, hb.blk h4⟩
theorem Core.alloc {W0 w : World} {n c : Nat} {t : TypeId} (h : Core W0 n c t w) (o : Obj) : Core W0 n c t (w.alloc o) := h.ex (Ex.new _ _)
theorem Core.set {W0 w : World} {n c : Nat} {t : TypeId} (h : Core W0 n c t w) (m i : Nat) (hm : W0.heap.size ≤ m) (v : Value) : Core W0 n c t (w.setCell ⟨m, i, none⟩ v) := by
  obtain ⟨h1, h2, vs, h3, h4⟩ := h
  refine ⟨h1.set hm v, h2, ?_⟩
  by_cases hmn : m = n
  · subst hmn
    exact ⟨vs.setIfInBounds i v, by simp [h3], by simp [World.setCell, Array.getElem?_modify, h4]⟩
  · exact ⟨vs, h3, by rw [Below.heap_setCell _ _ _ _ (by simpa using fun e => hmn e.symm)]; exact h4⟩
theorem Core.cell {W0 w : World} {n c : Nat} {t : TypeId} (h : Core W0 n c t w) (i : Nat) (hi : i < c) : ∃ v, w.cell? ⟨n, i, none⟩ = some v := by
  obtain ⟨_, _, vs, h3, h4⟩ := h
  exact ⟨vs[i]'(by omega), by simp [World.cell?, h4, h3, hi]⟩
theorem Core.frozen {W0 w : World} {n c : Nat} {t : TypeId} (h : Core W0 n c t w) (i : Nat) : w.frozen? ⟨n, i, none⟩ = false := by
  obtain ⟨_, _, vs, h3, h4⟩ := h
  simp [World.frozen?, h4]

/-- The type is in form, at most so deep. -/
def fits : Nat → F → Bool
  | 0, _ => false
  | r + 1, f => len f == 0 || (len f == 2 && (fits r (kid f 0) && fits r (kid f 1)))

end Go.Proofs.YtgpdnoghlommeaaDoor

namespace Go.Proofs.YtgpdnoghlommeaaDoor

open Go.RowKit Go.Deep
end Go.Proofs.YtgpdnoghlommeaaDoor

namespace Go.Proofs.YtgpdnoghlommeaaDoor

open Go.RowKit Go.Deep

theorem fits_two {r : Nat} {f : F} (h : len f = 2) : fits (r + 1) f = (fits r (kid f 0) && fits r (kid f 1)) := by simp [fits, h]
theorem fits_nil {r : Nat} {f : F} (h : len f = 0) : fits (r + 1) f = true := by simp [fits, h]
theorem fits_no {r : Nat} {f : F} (h : len f ≠ 0) (h2 : len f ≠ 2) : fits r f = false := by cases r <;> simp [fits, h, h2]
theorem fits_all {r : Nat} {f : F} (hl : len f = 0 ∨ len f = 2) (h : ∀ j, j < len f → fits r (kid f j) = true) : fits (r + 1) f = true := by
  rcases hl with hl | hl
  · exact fits_nil hl
  · rw [fits_two hl, h 0 (by omega), h 1 (by omega)]; rfl
theorem fits_bad {r : Nat} {f : F} (hl : len f = 0 ∨ len f = 2) {j : Nat} (hj : j < len f) (h : fits r (kid f j) = false) : fits (r + 1) f = false := by
  rcases hl with hl | hl
  · omega
  · rw [fits_two hl]
    have : j = 0 ∨ j = 1 := by omega
    rcases this with rfl | rfl <;> simp [h]

end Go.Proofs.YtgpdnoghlommeaaDoor

namespace Go.Proofs.YtgpdnoghlommeaaDoor

open Go.RowKit Go.Deep

attribute [local go_sem ↓] Go.wp_at_zero Go.wp_at_succ

theorem fits_len {r : Nat} {f : F} (h : fits r f = true) : len f = 0 ∨ len f = 2 := by
  by_cases h0 : len f = 0
  · exact Or.inl h0
  · by_cases h2 : len f = 2
    · exact Or.inr h2
    · rw [fits_no h0 h2] at h; cases h

end Go.Proofs.YtgpdnoghlommeaaDoor

namespace Go.Proofs.YtgpdnoghlommeaaDoor

open Go.RowKit Go.Deep

/-- Numbers lie behind a slice's address, from block lo on. -/
def PA (w : World) (lo : Nat) (p : List Int) (a : Option Addr) : Prop := p.length = 0 ∨ ∃ b o, a = some ⟨b, o, none⟩ ∧ lo ≤ b ∧ ∀ i, i < p.length → w.cell? ⟨b, o + i, none⟩ = some (.int .i64 (p.getD i 0))

theorem PA_kp {w w' : World} {lo : Nat} {p : List Int} {a : Option Addr} (h : PA w lo p a) (hk : Kp lo w w') : PA w' lo p a := by
  rcases h with h | ⟨b, o, e, hb, hc⟩
  · exact Or.inl h
  · refine Or.inr ⟨b, o, e, hb, fun i hi => ?_⟩
    rw [hk.cell hb (World.block_lt_of_cell? _ _ (hc i hi))]; exact hc i hi
theorem PA_below {w w' : World} {lo : Nat} {p : List Int} {a : Option Addr} (h : PA w lo p a) (hb : Ex w w') : PA w' lo p a := PA_kp h (Kp.of_below hb lo)
theorem PA_lo {w : World} {lo lo' : Nat} {p : List Int} {a : Option Addr} (h : PA w lo p a) (hl : lo' ≤ lo) : PA w lo' p a := by
  rcases h with h | ⟨b, o, e, hb, hc⟩
  · exact Or.inl h
  · exact Or.inr ⟨b, o, e, Nat.le_trans hl hb, hc⟩
theorem PA_at {w : World} {lo : Nat} {p : List Int} {a : Option Addr} (h : PA w lo p a) (h0 : 0 < p.length) : ∃ b o, a = some ⟨b, o, none⟩ ∧ b < w.heap.size ∧ lo ≤ b ∧ ∀ i, i < p.length → w.cell? ⟨b, o + i, none⟩ = some (.int .i64 (p.getD i 0)) := by
  rcases h with h | ⟨b, o, e, hb, hc⟩
  · omega
  · exact ⟨b, o, e, World.block_lt_of_cell? _ _ (hc 0 h0), hb, hc⟩

theorem drop_cons (p : List Int) (k : Nat) (h : k < p.length) : p.drop k = p.getD k 0 :: p.drop (k + 1) := by
  rw [List.drop_eq_getElem_cons h]; simp [List.getD, h]

/-- The part by a path. -/
def partF : F → List Int → Option F
  | f, [] => some f
  | f, i :: p => if 0 ≤ i ∧ i < len f then partF (kid f i.toNat) p else none

theorem fits_part : ∀ (p : List Int) (r : Nat) (f g : F), fits r f = true → partF f p = some g → ∃ r', fits r' g = true
  | [], r, f, g, h, e => by cases e; exact ⟨r, h⟩
  | i :: p, r, f, g, h, e => by
    simp only [partF] at e
    split at e
    · rename_i hi
      cases r with
      | zero => simp [fits] at h
      | succ r =>
        have h2 : len f = 2 := by have := fits_len h; omega
        rw [fits_two h2, Bool.and_eq_true] at h
        have : i.toNat = 0 ∨ i.toNat = 1 := by omega
        rcases this with hi | hi <;> rw [hi] at e
        · exact fits_part p r _ g h.1 e
        · exact fits_part p r _ g h.2 e
    · cases e

/-- What TypeAt tells. -/
def typeAtR (f : F) (p : List Int) : F × Bool := match (if fits 4 f = true then partF f p else none) with
  | some g => (g, true)
  | none => (.nil, false)

end Go.Proofs.YtgpdnoghlommeaaDoor

namespace Go.Proofs.YtgpdnoghlommeaaDoor

open Go.RowKit Go.Deep

/-- A list of terms: each a kind, a number, a name, a path, and a list of terms. -/
abbrev TM := BT (Int × Int × ByteArray × List Int)

def tlen : TM → Nat
  | .nil => 0
  | .node _ _ (_, _, _, _) _ r => tlen r + 1
def tkid : TM → Nat → TM
  | .nil, _ => .nil
  | .node _ _ (_, _, _, _) k _, 0 => k
  | .node _ _ (_, _, _, _) _ r, i + 1 => tkid r i
def tkind : TM → Nat → Int
  | .nil, _ => 0
  | .node _ _ (k, _, _, _) _ _, 0 => k
  | .node _ _ (_, _, _, _) _ r, i + 1 => tkind r i
def tnum : TM → Nat → Int
  | .nil, _ => 0
  | .node _ _ (_, n, _, _) _ _, 0 => n
  | .node _ _ (_, _, _, _) _ r, i + 1 => tnum r i
def tname : TM → Nat → ByteArray
  | .nil, _ => ⟨#[]⟩
  | .node _ _ (_, _, s, _) _ _, 0 => s
  | .node _ _ (_, _, _, _) _ r, i + 1 => tname r i
def tpath : TM → Nat → List Int
  | .nil, _ => []
  | .node _ _ (_, _, _, p) _ _, 0 => p
  | .node _ _ (_, _, _, _) _ r, i + 1 => tpath r i
def tdep : TM → Nat
  | .nil => 0
  | .node _ _ (_, _, _, _) k r => max (tdep k + 1) (tdep r)

theorem tdep_kid : ∀ (f : TM) (i : Nat), i < tlen f → tdep (tkid f i) < tdep f
  | .nil, _, h => by simp [tlen] at h
  | .node _ _ (_, _, _, _) k r, 0, _ => by simp only [tkid, tdep]; omega
  | .node _ _ (_, _, _, _) k r, i + 1, h => by
    have := tdep_kid r i (by simp only [tlen] at h; omega)
    simp only [tkid, tdep]; omega

/-- Numbers lie behind an address, in a block of S. -/
def PS (w : World) (S : Nat → Prop) (p : List Int) (a : Option Addr) : Prop := p.length = 0 ∨ ∃ b o, a = some ⟨b, o, none⟩ ∧ S b ∧ ∀ i, i < p.length → w.cell? ⟨b, o + i, none⟩ = some (.int .i64 (p.getD i 0))

theorem PS_ks {w w' : World} {S : Nat → Prop} {p : List Int} {a : Option Addr} (h : PS w S p a) (hk : Ks S w w') : PS w' S p a := by
  rcases h with h | ⟨b, o, e, hb, hc⟩
  · exact Or.inl h
  · exact Or.inr ⟨b, o, e, hb, fun i hi => by rw [hk.cell hb (World.block_lt_of_cell? _ _ (hc i hi))]; exact hc i hi⟩
theorem PS_mono {w : World} {S S' : Nat → Prop} {p : List Int} {a : Option Addr} (h : PS w S p a) (hl : ∀ b, b < w.heap.size → S b → S' b) : PS w S' p a := by
  rcases h with h | ⟨b, o, e, hb, hc⟩
  · exact Or.inl h
  · by_cases h0 : p.length = 0
    · exact Or.inl h0
    · exact Or.inr ⟨b, o, e, hl b (World.block_lt_of_cell? _ _ (hc 0 (by omega))) hb, hc⟩
theorem PS_pa {w : World} {lo : Nat} {p : List Int} {a : Option Addr} : PS w (fun b => lo ≤ b) p a ↔ PA w lo p a := Iff.rfl

/-- A list of terms lies at block b from place o on: five cells each, its path and its own list behind the last two, all in blocks of S. -/
def MC (w : World) (S : Nat → Prop) : TM → Nat → Nat → Prop
  | .nil, _, _ => True
  | .node _ _ (k, n, s, p) f r, b, o => (w.cell? ⟨b, o, none⟩ = some (.int .i64 k) ∧ w.cell? ⟨b, o + 1, none⟩ = some (.int .i64 n) ∧ w.cell? ⟨b, o + 2, none⟩ = some (.string s) ∧ (∃ pa pc, w.cell? ⟨b, o + 3, none⟩ = some (.slice pa p.length pc) ∧ PS w S p pa ∧ p.length ≤ pc ∧ pc ≤ 9223372036854775807) ∧
      ∃ a cap, w.cell? ⟨b, o + 4, none⟩ = some (.slice a (tlen f) cap) ∧ (tlen f = 0 ∨ ∃ b' o', a = some ⟨b', o', none⟩ ∧ S b' ∧ MC w S f b' o')) ∧ MC w S r b (o + 5)

/-- A list of terms lies behind a slice's address. -/
def MS (w : World) (S : Nat → Prop) (f : TM) (a : Option Addr) : Prop := tlen f = 0 ∨ ∃ b o, a = some ⟨b, o, none⟩ ∧ S b ∧ MC w S f b o

/-- The five cells of a term. -/
def MT (w : World) (S : Nat → Prop) (f : TM) (i b o : Nat) : Prop :=
  w.cell? ⟨b, o, none⟩ = some (.int .i64 (tkind f i)) ∧ w.cell? ⟨b, o + 1, none⟩ = some (.int .i64 (tnum f i)) ∧ w.cell? ⟨b, o + 2, none⟩ = some (.string (tname f i)) ∧ (∃ pa pc, w.cell? ⟨b, o + 3, none⟩ = some (.slice pa (tpath f i).length pc) ∧ PS w S (tpath f i) pa ∧ (tpath f i).length ≤ pc ∧ pc ≤ 9223372036854775807) ∧
    ∃ a cap, w.cell? ⟨b, o + 4, none⟩ = some (.slice a (tlen (tkid f i)) cap) ∧ MS w S (tkid f i) a

theorem MC_cell {w : World} {S : Nat → Prop} : ∀ {f : TM} {b o : Nat}, MC w S f b o → ∀ i, i < tlen f → MT w S f i b (o + i * 5)
  | .nil, _, _, _, i, h => by simp [tlen] at h
  | .node _ _ (_, _, _, _) k r, b, o, hc, 0, _ => hc.1
  | .node _ _ (_, _, _, _) k r, b, o, hc, i + 1, h => by
    have := MC_cell hc.2 i (by simp only [tlen] at h; omega)
    rw [show o + 5 + i * 5 = o + (i + 1) * 5 by omega] at this
    exact this

theorem MC_mk {w : World} {S : Nat → Prop} : ∀ {f : TM} {b o : Nat}, (∀ i, i < tlen f → MT w S f i b (o + i * 5)) → MC w S f b o
  | .nil, _, _, _ => trivial
  | .node _ _ (_, _, _, _) k r, b, o, h => by
    refine ⟨h 0 (by simp [tlen]), MC_mk fun i hi => ?_⟩
    have := h (i + 1) (by simp only [tlen]; omega)
    rw [show o + (i + 1) * 5 = o + 5 + i * 5 by omega] at this
    exact this

theorem MC_ks {w w' : World} {S : Nat → Prop} (hk : Ks S w w') : ∀ {f : TM} {b o : Nat}, S b → MC w S f b o → MC w' S f b o
  | .nil, _, _, _, _ => trivial
  | .node _ _ (_, _, _, _) k r, b, o, hb, ⟨⟨h1, h2, h3, ⟨pa, pc, h4, h5⟩, a, cap, hc, hr⟩, hrest⟩ => by
    refine ⟨⟨?_, ?_, ?_, ⟨pa, pc, ?_, PS_ks h5.1 hk, h5.2⟩, a, cap, ?_, ?_⟩, MC_ks hk hb hrest⟩
    · rw [hk.cell hb (World.block_lt_of_cell? _ _ h1)]; exact h1
    · rw [hk.cell hb (World.block_lt_of_cell? _ _ h2)]; exact h2
    · rw [hk.cell hb (World.block_lt_of_cell? _ _ h3)]; exact h3
    · rw [hk.cell hb (World.block_lt_of_cell? _ _ h4)]; exact h4
    · rw [hk.cell hb (World.block_lt_of_cell? _ _ hc)]; exact hc
    · rcases hr with h0 | ⟨b', o', e, hb', ht⟩
      · exact Or.inl h0
      · exact Or.inr ⟨b', o', e, hb', MC_ks hk hb' ht⟩

theorem MS_ks {w w' : World} {S : Nat → Prop} {f : TM} {a : Option Addr} (h : MS w S f a) (hk : Ks S w w') : MS w' S f a := by
  rcases h with h | ⟨b, o, e, hb, ht⟩
  · exact Or.inl h
  · exact Or.inr ⟨b, o, e, hb, MC_ks hk hb ht⟩

theorem MC_mono {w : World} {S S' : Nat → Prop} (hl : ∀ b, b < w.heap.size → S b → S' b) : ∀ {f : TM} {b o : Nat}, MC w S f b o → MC w S' f b o
  | .nil, _, _, _ => trivial
  | .node _ _ (_, _, _, _) k r, b, o, ⟨⟨h1, h2, h3, ⟨pa, pc, h4, h5⟩, a, cap, hc, hr⟩, hrest⟩ => by
    refine ⟨⟨h1, h2, h3, ⟨pa, pc, h4, PS_mono h5.1 hl, h5.2⟩, a, cap, hc, ?_⟩, MC_mono hl hrest⟩
    rcases hr with h0 | ⟨b', o', e, hb', ht⟩
    · exact Or.inl h0
    · by_cases h0 : tlen k = 0
      · exact Or.inl h0
      · have hc' := (MC_cell ht 0 (by omega)).1
        exact Or.inr ⟨b', o', e, hl b' (World.block_lt_of_cell? _ _ hc') hb', MC_mono hl ht⟩

theorem MS_mono {w : World} {S S' : Nat → Prop} {f : TM} {a : Option Addr} (h : MS w S f a) (hl : ∀ b, b < w.heap.size → S b → S' b) : MS w S' f a := by
  rcases h with h | ⟨b, o, e, hb, ht⟩
  · exact Or.inl h
  · by_cases h0 : tlen f = 0
    · exact Or.inl h0
    · have hc' := (MC_cell ht 0 (by omega)).1
      exact Or.inr ⟨b, o, e, hl b (World.block_lt_of_cell? _ _ hc') hb, MC_mono hl ht⟩

theorem MS_at {w : World} {S : Nat → Prop} {f : TM} {a : Option Addr} (h : MS w S f a) (h0 : 0 < tlen f) : ∃ b o, a = some ⟨b, o, none⟩ ∧ S b ∧ b < w.heap.size ∧ ∀ i, i < tlen f → MT w S f i b (o + i * 5) := by
  rcases h with h | ⟨b, o, e, hb, ht⟩
  · omega
  · have hc := (MC_cell ht 0 h0).1
    exact ⟨b, o, e, hb, World.block_lt_of_cell? _ _ hc, fun i hi => MC_cell ht i hi⟩

theorem MS_mk {w : World} {S : Nat → Prop} {f : TM} {g o : Nat} (hg : S g) (h : ∀ i, i < tlen f → MT w S f i g (o + i * 5)) : MS w S f (some ⟨g, o, none⟩) :=
  Or.inr ⟨g, o, rfl, hg, MC_mk h⟩

/-- .. all from block lo on. -/
def MA (w : World) (lo : Nat) (f : TM) (a : Option Addr) : Prop := MS w (fun b => lo ≤ b) f a

theorem MA_kp {w w' : World} {lo : Nat} {f : TM} {a : Option Addr} (h : MA w lo f a) (hk : Kp lo w w') : MA w' lo f a := MS_ks h hk.block
theorem MA_lo {w : World} {lo lo' : Nat} {f : TM} {a : Option Addr} (h : MA w lo f a) (hl : lo' ≤ lo) : MA w lo' f a := MS_mono h fun _ _ hb => Nat.le_trans hl hb
theorem MA_below {w w' : World} {lo : Nat} {f : TM} {a : Option Addr} (h : MA w lo f a) (hb : Below w.heap.size w w') : MA w' lo f a := MA_kp h (Kp.of_below hb lo)
theorem MA_nil (w : World) (lo : Nat) (a : Option Addr) : MA w lo .nil a := Or.inl rfl
theorem MA_at {w : World} {lo : Nat} {f : TM} {a : Option Addr} (h : MA w lo f a) (h0 : 0 < tlen f) : ∃ b o, a = some ⟨b, o, none⟩ ∧ lo ≤ b ∧ b < w.heap.size ∧ ∀ i, i < tlen f → MT w (fun b => lo ≤ b) f i b (o + i * 5) := MS_at h h0

/-- All lists are of a length that can be counted. -/
def TSm : TM → Prop
  | .nil => True
  | .node _ _ (_, _, _, p) k r => p.length ≤ 1000000000 ∧ tlen k ≤ 1000000000 ∧ TSm k ∧ TSm r
theorem TSm_kid : ∀ {f : TM}, TSm f → ∀ i, i < tlen f → (tpath f i).length ≤ 1000000000 ∧ tlen (tkid f i) ≤ 1000000000 ∧ TSm (tkid f i)
  | .nil, _, i, h => by simp [tlen] at h
  | .node _ _ (_, _, _, _) k r, hs, 0, _ => ⟨hs.1, hs.2.1, hs.2.2.1⟩
  | .node _ _ (_, _, _, _) k r, hs, i + 1, h => TSm_kid hs.2.2.2 i (by simp only [tlen] at h; omega)

end Go.Proofs.YtgpdnoghlommeaaDoor

namespace Go.Proofs.YtgpdnoghlommeaaDoor

open Go.RowKit Go.Deep

/-- Of what was there only block rb has turned. -/
structure Fr (rb : Nat) (w w' : World) : Prop where
  os : w'.os = w.os
  tape : w'.tape = w.tape
  output : w'.output = w.output
  size : w.heap.size ≤ w'.heap.size
  block : ∀ k, k < w.heap.size → k ≠ rb → w'.heap[k]? = w.heap[k]?

theorem Fr.refl (rb : Nat) (w : World) : Fr rb w w := ⟨rfl, rfl, rfl, Nat.le_refl _, fun _ _ _ => rfl⟩
theorem Fr.trans {rb : Nat} {a b c : World} (h : Fr rb a b) (k : Fr rb b c) : Fr rb a c :=
  ⟨k.os.trans h.os, k.tape.trans h.tape, k.output.trans h.output, Nat.le_trans h.size k.size, fun i hi hn => (k.block i (Nat.lt_of_lt_of_le hi h.size) hn).trans (h.block i hi hn)⟩
theorem Fr.of_ex {w w' : World} (h : Ex w w') (rb : Nat) : Fr rb w w' := ⟨h.os, h.tape, h.output, h.size, fun k hk _ => h.block k hk⟩
theorem Fr.ex {rb : Nat} {a b c : World} (h : Fr rb a b) (k : Ex b c) : Fr rb a c := h.trans (Fr.of_ex k rb)
theorem Fr.alloc {rb : Nat} {a b : World} (h : Fr rb a b) (o : Obj) : Fr rb a (b.alloc o) := h.ex (Ex.new _ _)
theorem Fr.drew {rb : Nat} {a b : World} (h : Fr rb a b) : Fr rb a b.drew := ⟨h.os, h.tape, h.output, h.size, h.block⟩
theorem Fr.set {rb : Nat} {a b : World} (h : Fr rb a b) {p : Addr} (hp : p.block = rb ∨ a.heap.size ≤ p.block) (v : Value) : Fr rb a (b.setCell p v) :=
  ⟨h.os, h.tape, h.output, by rw [World.size_setCell]; exact h.size, fun k h1 h2 => by rw [Below.heap_setCell _ _ _ _ (by omega)]; exact h.block k h1 h2⟩
theorem Fr.kp {rb lo : Nat} {a b : World} (h : Fr rb a b) (hl : rb < lo) : Kp lo a b := ⟨h.size, fun k h1 h2 => h.block k h2 (by omega)⟩
theorem Fr.blk {rb : Nat} {a b : World} (h : Fr rb a b) {n : Nat} {o : Obj} (hn : n ≠ rb) (hc : a.heap[n]? = some o) : b.heap[n]? = some o := (h.block n (lt_of_block hc) hn).trans hc
theorem Fr.at {rb : Nat} {a b : World} (h : Fr rb a b) {p : Addr} {v : Value} (hn : p.block ≠ rb) (hc : a.cell? p = some v) : b.cell? p = some v :=
  (World.cell?_of_block (w := a) (h.block _ (World.block_lt_of_cell? _ _ hc) hn)).trans hc
theorem Fr.to_ex {rb : Nat} {w a b : World} (h : Fr rb a b) (hx : Ex w a) (hr : w.heap.size ≤ rb) : Ex w b :=
  ⟨h.os.trans hx.os, h.tape.trans hx.tape, h.output.trans hx.output, Nat.le_trans hx.size h.size, fun k hk => (h.block k (Nat.lt_of_lt_of_le hk hx.size) (by omega)).trans (hx.block k hk)⟩

theorem i64_xor_nat (a b : Nat) (ha : a < 4611686018427387904) (hb : b < 4611686018427387904) : bits .xor .i64 (a : Int) (b : Int) = ((a ^^^ b : Nat) : Int) := by
  have hx : a ^^^ b < 2 ^ 62 := Nat.xor_lt_two_pow (by omega) (by omega)
  have h1 : (BitVec.ofInt 64 (a : Int)).toNat = a := by
    rw [BitVec.ofInt_natCast, BitVec.toNat_ofNat]; exact Nat.mod_eq_of_lt (by omega)
  have h2 : (BitVec.ofInt 64 (b : Int)).toNat = b := by
    rw [BitVec.ofInt_natCast, BitVec.toNat_ofNat]; exact Nat.mod_eq_of_lt (by omega)
  show IntKind.i64.wrap ((BitVec.ofInt 64 (a : Int) ^^^ BitVec.ofInt 64 (b : Int)).toNat : Int) = _
  rw [BitVec.toNat_xor, h1, h2]
  simp [IntKind.wrap, IntKind.bits, IntKind.signed]
  omega

theorem pick_val (X n : Int) (h0 : 0 ≤ X) (h1 : X < 4611686018427387904) (hn : 1 ≤ n) : 0 ≤ (bits .xor .i64 X (wrap64 (X.tdiv 64))).tmod n ∧ (bits .xor .i64 X (wrap64 (X.tdiv 64))).tmod n < n := by
  obtain ⟨k, rfl⟩ := Int.eq_ofNat_of_zero_le h0
  have hd : wrap64 ((k : Int).tdiv 64) = ((k / 64 : Nat) : Int) := by
    rw [Int.tdiv_eq_ediv_of_nonneg (by omega)]; unfold wrap64; omega
  rw [hd, i64_xor_nat k (k / 64) (by omega) (by omega), Int.tmod_eq_emod_of_nonneg (by omega)]
  exact ⟨Int.emod_nonneg _ (by omega), Int.emod_lt_of_pos _ (by omega)⟩

theorem pick_x (x y : Int) (p m : Nat) (hx0 : 0 ≤ x) (hx1 : x ≤ 255) (hy0 : 0 ≤ y) (hy1 : y ≤ 255) (hp : p ≤ 1000000) :
    0 ≤ wrap64 (x * 131 + y * 1117 + (p : Int) * 29 + wrap64 (wrap64 ((p : Int) / (m : Int)) * 53)) ∧ wrap64 (x * 131 + y * 1117 + (p : Int) * 29 + wrap64 (wrap64 ((p : Int) / (m : Int)) * 53)) < 4611686018427387904 := by
  obtain ⟨q, hq, hq2⟩ : ∃ q : Nat, (p : Int) / (m : Int) = (q : Int) ∧ q ≤ p := ⟨p / m, rfl, Nat.div_le_self _ _⟩
  rw [hq]
  clear hq
  have w1 : wrap64 (q : Int) = q := by unfold wrap64; omega
  have w2 : wrap64 ((q : Int) * 53) = (q : Int) * 53 := by unfold wrap64; omega
  have w3 : wrap64 (x * 131 + y * 1117 + (p : Int) * 29 + (q : Int) * 53) = x * 131 + y * 1117 + (p : Int) * 29 + (q : Int) * 53 := by unfold wrap64; omega
  rw [w1, w2, w3]
  omega

end Go.Proofs.YtgpdnoghlommeaaDoor

namespace Go.Proofs.YtgpdnoghlommeaaDoor

open Go.RowKit Go.Deep

attribute [local go_sem ↓] Go.wp_at_zero Go.wp_at_succ

/-- Bytes lie behind a slice's address. -/
def By (w : World) (n : Nat) (ca : Option Addr) : Prop := n = 0 ∨ ∃ cb co, ca = some ⟨cb, co, none⟩ ∧ ∀ i, i < n → ∃ x : Int, w.cell? ⟨cb, co + i, none⟩ = some (.int .u8 x) ∧ 0 ≤ x ∧ x ≤ 255

theorem By.ex {w w' : World} {n : Nat} {ca : Option Addr} (h : By w n ca) (hx : Ex w w') : By w' n ca := by
  rcases h with h | ⟨cb, co, e, hc⟩
  · exact Or.inl h
  · exact Or.inr ⟨cb, co, e, fun i hi => by obtain ⟨x, h1, h2⟩ := hc i hi; exact ⟨x, hx.at h1, h2⟩⟩

/-- How many bytes are read at most. -/
def tk : Nat → Nat
  | 0 => 0
  | d + 1 => 2 * tk d + 1

end Go.Proofs.YtgpdnoghlommeaaDoor

namespace Go.Proofs.YtgpdnoghlommeaaDoor

open Go.RowKit Go.Deep

open Go.WideShapes (add_plain)

attribute [local go_sem ↓] Go.wp_at_zero Go.wp_at_succ

theorem fits_sm : ∀ (r : Nat) (f : F), fits r f = true → len f ≤ 2 ∧ Sm f
  | 0, f, h => by simp [fits] at h
  | r + 1, .nil, _ => ⟨by simp [len], trivial⟩
  | r + 1, .node b o n k (.nil), h => by simp [fits, len] at h
  | r + 1, .node b o n k (.node b' o' n' k' .nil), h => by
    simp [fits, len, kid] at h
    have h1 := fits_sm r k h.1
    have h2 := fits_sm r k' h.2
    exact ⟨by simp [len], ⟨by omega, h1.2, ⟨by omega, h2.2, trivial⟩⟩⟩
  | r + 1, .node b o n k (.node b' o' n' k' (.node _ _ _ _ _)), h => by simp [fits, len] at h

theorem fits_dep : ∀ (r : Nat) (f : F), fits r f = true → dep f < r
  | 0, f, h => by simp [fits] at h
  | r + 1, .nil, _ => by simp [dep]
  | r + 1, .node b o n k (.nil), h => by simp [fits, len] at h
  | r + 1, .node b o n k (.node b' o' n' k' .nil), h => by
    simp [fits, len, kid] at h
    have h1 := fits_dep r k h.1
    have h2 := fits_dep r k' h.2
    simp only [dep]; omega
  | r + 1, .node b o n k (.node b' o' n' k' (.node _ _ _ _ _)), h => by simp [fits, len] at h

theorem Sm_two {a b : F} (n m : Int) (ha : len a ≤ 1000000000 ∧ Sm a) (hb : len b ≤ 1000000000 ∧ Sm b) : len (two n a m b) ≤ 1000000000 ∧ Sm (two n a m b) :=
  ⟨by rw [len_two]; omega, ⟨ha.1, ha.2, ⟨hb.1, hb.2, trivial⟩⟩⟩

/-- One more behind. -/
def snoc : F → Int → F → F
  | .nil, n, k => .node 0 0 n k .nil
  | .node b o m k' r, n, k => .node b o m k' (snoc r n k)
theorem len_snoc : ∀ (f : F) (n : Int) (k : F), len (snoc f n k) = len f + 1
  | .nil, _, _ => rfl
  | .node _ _ _ _ r, n, k => by simp [snoc, len, len_snoc r n k]
theorem kid_snoc : ∀ (f : F) (n : Int) (k : F) (i : Nat), kid (snoc f n k) i = if i < len f then kid f i else if i = len f then k else .nil
  | .nil, n, k, 0 => by simp [snoc, kid, len]
  | .nil, n, k, i + 1 => by simp [snoc, kid, len]
  | .node _ _ _ _ r, n, k, 0 => by simp [snoc, kid, len]
  | .node _ _ _ _ r, n, k, i + 1 => by simp [snoc, kid, len, kid_snoc r n k i]
theorem dep_snoc : ∀ (f : F) (n : Int) (k : F), dep (snoc f n k) = max (dep f) (dep k + 1)
  | .nil, _, _ => by simp [snoc, dep]
  | .node _ _ _ k' r, n, k => by simp only [snoc, dep, dep_snoc r n k]; omega
theorem Sm_snoc : ∀ {f : F} (n : Int) {k : F}, Sm f → len k ≤ 1000000000 ∧ Sm k → Sm (snoc f n k)
  | .nil, _, _, _, hk => ⟨hk.1, hk.2, trivial⟩
  | .node _ _ _ _ _, n, _, hf, hk => ⟨hf.1, hf.2.1, Sm_snoc n hf.2.2 hk⟩

/-- The cells of a list of types. -/
theorem SA_olds {w : World} {S : Nat → Prop} {f : F} {a : Option Addr} (h : SA w S f a) : ∃ olds : List Value, olds.length = len f ∧ (∀ b, a = some b → ∀ j u, olds[j]? = some u → w.cell? (b.add j) = some u) ∧
    ∀ i, i < len f → ∃ a' cap, olds[i]? = some (.slice a' (len (kid f i)) cap) ∧ SA w S (kid f i) a' := by
  by_cases h0 : len f = 0
  · exact ⟨[], by simp [h0], by intro _ _ j u hu; simp at hu, fun i hi => by omega⟩
  · obtain ⟨b, o, rfl, _, _, hk⟩ := SA_at h (by omega)
    refine ⟨(List.range (len f)).map fun i => (w.cell? ⟨b, o + i, none⟩).getD default, by simp, ?_, ?_⟩
    · intro b' hb' j u hu
      cases hb'
      rw [List.getElem?_map] at hu
      by_cases hj : j < len f
      · rw [List.getElem?_range hj] at hu
        obtain ⟨a', cap, hc, _⟩ := hk j hj
        simp [hc] at hu
        subst hu
        rw [add_plain]; exact hc
      · rw [List.getElem?_eq_none (by simpa using hj)] at hu; simp at hu
    · intro i hi
      obtain ⟨a', cap, hc, ht⟩ := hk i hi
      exact ⟨a', cap, by rw [List.getElem?_map, List.getElem?_range hi]; simp [hc], ht⟩

theorem SA_snoc {w : World} {S : Nat → Prop} {f k : F} {n : Int} {olds : List Value} {g : Nat} {cur : Array Value} {e : TypeId} {a0 : Option Addr} {c0 : Nat} (hS : S g) (hg : w.heap[g]? = some (.cells cur e (0, 0)))
    (hcur : cur.toList.take (len f + 1) = olds ++ [.slice a0 (len k) c0]) (hl : olds.length = len f) (hk : ∀ i, i < len f → ∃ a' cap, olds[i]? = some (.slice a' (len (kid f i)) cap) ∧ SA w S (kid f i) a') (h0 : SA w S k a0) :
    SA w S (snoc f n k) (some ⟨g, 0, none⟩) := by
  refine SA_mk hS fun i hi => ?_
  rw [len_snoc] at hi
  have hcell : w.cell? ⟨g, 0 + i, none⟩ = (olds ++ [.slice a0 (len k) c0])[i]? := by
    rw [← hcur, List.getElem?_take_of_lt hi]
    simp [World.cell?, hg]
  rw [hcell, kid_snoc]
  by_cases h : i < len f
  · obtain ⟨a', cap, h1, h2⟩ := hk i h
    exact ⟨a', cap, by rw [List.getElem?_append_left (by omega), h1, if_pos h], by rw [if_pos h]; exact h2⟩
  · have e : i = len f := by omega
    exact ⟨a0, c0, by rw [List.getElem?_append_right (by omega), if_neg h, if_pos e]; simp [hl, e], by rw [if_neg h, if_pos e]; exact h0⟩

end Go.Proofs.YtgpdnoghlommeaaDoor

namespace Go.Proofs.YtgpdnoghlommeaaDoor

open Go.RowKit Go.Deep

attribute [local go_sem ↓] Go.wp_at_zero Go.wp_at_succ

/-- Two types are the same. -/
def eqT : F → F → Bool
  | .nil, .nil => true
  | .node _ _ _ k r, .node _ _ _ k' r' => eqT k k' && eqT r r'
  | .nil, .node _ _ _ _ _ => false
  | .node _ _ _ _ _, .nil => false

theorem eqT_refl : ∀ f : F, eqT f f = true
  | .nil => rfl
  | .node _ _ _ k r => by simp [eqT, eqT_refl k, eqT_refl r]

theorem eqT_len : ∀ (f g : F), len f ≠ len g → eqT f g = false
  | .nil, .nil, h => by simp [len] at h
  | .node _ _ _ k r, .node _ _ _ k' r', h => by
    have : eqT r r' = false := eqT_len r r' (by simp only [len] at h; omega)
    simp [eqT, this]
  | .nil, .node _ _ _ _ _, _ => rfl
  | .node _ _ _ _ _, .nil, _ => rfl

theorem eqT_bad : ∀ (f g : F) (i : Nat), i < len f → eqT (kid f i) (kid g i) = false → eqT f g = false
  | .nil, _, i, h, _ => by simp [len] at h
  | .node _ _ _ k r, .nil, _, _, _ => rfl
  | .node _ _ _ k r, .node _ _ _ k' r', 0, _, h => by simp only [kid] at h; simp [eqT, h]
  | .node _ _ _ k r, .node _ _ _ k' r', i + 1, hi, h => by
    have := eqT_bad r r' i (by simp only [len] at hi; omega) h
    simp [eqT, this]

theorem eqT_good : ∀ (f g : F), len f = len g → (∀ i, i < len f → eqT (kid f i) (kid g i) = true) → eqT f g = true
  | .nil, .nil, _, _ => rfl
  | .node _ _ _ k r, .node _ _ _ k' r', hl, h => by
    have h0 : eqT k k' = true := h 0 (by simp [len])
    have h1 : eqT r r' = true := eqT_good r r' (by simp only [len] at hl; omega) fun i hi => h (i + 1) (by simp only [len]; omega)
    simp [eqT, h0, h1]
  | .nil, .node _ _ _ _ _, hl, _ => by simp [len] at hl
  | .node _ _ _ _ _, .nil, hl, _ => by simp [len] at hl

end Go.Proofs.YtgpdnoghlommeaaDoor

namespace Go.Proofs.YtgpdnoghlommeaaDoor

open Go.RowKit Go.Deep

attribute [local go_sem ↓] Go.wp_at_zero Go.wp_at_succ

theorem Tryd.info3 : (Tryd.prog.info? 3).map (fun i => (i.zero, i.size, i.bytes)) = some (some (.int .i64 0), 1, 8) := by kernel_rfl

theorem heap_alloc_at (w : World) (o : Obj) {n : Nat} (h : n = w.heap.size) : (w.alloc o).heap[n]? = some o := by subst h; exact heap_alloc_new _ _

/-- Numbers in memory that the call itself has made. -/
abbrev Own (w : World) (base : Nat) (v : Value) (xs : List Int) : Prop := w.ownsRow base 3 1 v xs.length (xs.map (Value.int .i64))

theorem Own.PA {w : World} {base : Nat} {v : Value} {xs : List Int} (h : Own w base v xs) : ∃ pa pc, v = .slice pa xs.length pc ∧ PA w base xs pa ∧ xs.length ≤ pc ∧ pc ≤ 9223372036854775807 ∧ ((pa = none ∧ pc = 0) ∨ ∃ g, pa = some ⟨g, 0, none⟩) := by
  obtain ⟨_, ⟨rfl, h0⟩ | ⟨g, cap, cur, rfl, hg, hgc, hcap, hcm, _, ht⟩⟩ := h
  · exact ⟨none, 0, by rw [h0], Or.inl h0, by omega, by omega, Or.inl ⟨rfl, rfl⟩⟩
  · refine ⟨some ⟨g, 0, none⟩, cap, rfl, Or.inr ⟨g, 0, rfl, hg, fun i hi => ?_⟩, hcap, by unfold maxLen at hcm; omega, Or.inr ⟨g, rfl⟩⟩
    have : (cur.toList.take (xs.length * 1))[i]? = (xs.map (Value.int .i64))[i]? := by rw [ht]
    rw [Nat.mul_one, List.getElem?_take_of_lt hi, List.getElem?_map] at this
    simp [World.cell?, hgc]
    simp at this
    rw [this]
    simp [hi]

theorem Own.keep {w w' : World} {base : Nat} {v : Value} {xs : List Int} (h : Own w base v xs) (hk : Kp base w w') : Own w' base v xs := by
  obtain ⟨h1, h2 | ⟨g, cap, cur, rfl, hg, hgc, r⟩⟩ := h
  · exact ⟨h1, Or.inl h2⟩
  · exact ⟨h1, Or.inr ⟨g, cap, cur, rfl, hg, (hk.block g hg (lt_of_block hgc)).trans hgc, r⟩⟩

theorem Own.lo {w : World} {base base' : Nat} {v : Value} {xs : List Int} (h : Own w base v xs) (hb : base' ≤ base) : Own w base' v xs := by
  obtain ⟨h1, h2 | ⟨g, cap, cur, rfl, hg, r⟩⟩ := h
  · exact ⟨h1, Or.inl h2⟩
  · exact ⟨h1, Or.inr ⟨g, cap, cur, rfl, Nat.le_trans hb hg, r⟩⟩
theorem Own.row {w : World} {base : Nat} {v : Value} {xs : List Int} (h : Own w base v xs) : ∀ k, v.ownBlock = some k → base ≤ k := by
  obtain ⟨_, ⟨rfl, _⟩ | ⟨g, cap, cur, rfl, hg, _⟩⟩ := h
  · intro k hk; cases hk
  · intro k hk; cases hk; exact hg
theorem Fr.below {rb B : Nat} {a b c : World} (h : Fr rb a b) (k : Below B b c) (hB : a.heap.size ≤ B) : Fr rb a c :=
  ⟨k.os.trans h.os, k.tape.trans h.tape, k.output.trans h.output, Nat.le_trans h.size k.size, fun i hi hn => (k.block i (by omega)).trans (h.block i hi hn)⟩

/-- While a region goes on: of W only blocks rb and n have turned, and block n has c cells of type t that may be written. -/
def FC (rb n c : Nat) (t : TypeId) (W w : World) : Prop := (w.os = W.os ∧ w.tape = W.tape ∧ w.output = W.output ∧ W.heap.size ≤ w.heap.size) ∧ (∀ k, k < W.heap.size → k ≠ rb → k ≠ n → w.heap[k]? = W.heap[k]?) ∧ ∃ vs : Array Value, vs.size = c ∧ w.heap[n]? = some (.cells vs t (0, 0))
theorem FC.start {rb n c : Nat} {t : TypeId} {W : World} {vs : Array Value} (h : W.heap[n]? = some (.cells vs t (0, 0))) (hc : vs.size = c) : FC rb n c t W W := ⟨⟨rfl, rfl, rfl, Nat.le_refl _⟩, fun _ _ _ _ => rfl, vs, hc, h⟩
theorem FC.drew {rb n c : Nat} {t : TypeId} {W w : World} (h : FC rb n c t W w) : FC rb n c t W w.drew := h
theorem FC.fr {rb n c : Nat} {t : TypeId} {W w w' : World} (h : FC rb n c t W w) (hf : Fr rb w w') (hn : n ≠ rb) : FC rb n c t W w' := by
  obtain ⟨⟨h1, h2, h3, h4⟩, h5, vs, h6, h7⟩ := h
  exact ⟨⟨hf.os.trans h1, hf.tape.trans h2, hf.output.trans h3, Nat.le_trans h4 hf.size⟩, fun k hk e1 e2 => (hf.block k (Nat.lt_of_lt_of_le hk h4) e1).trans (h5 k hk e1 e2), vs, h6, hf.blk hn h7⟩
theorem FC.ex {rb n c : Nat} {t : TypeId} {W w w' : World} (h : FC rb n c t W w) (hf : Ex w w') (hn : n ≠ rb) : FC rb n c t W w' := h.fr (Fr.of_ex hf _) hn
theorem FC.set {rb n c : Nat} {t : TypeId} {W w : World} (h : FC rb n c t W w) (i : Nat) (v : Value) : FC rb n c t W (w.setCell ⟨n, i, none⟩ v) := by
  obtain ⟨⟨h1, h2, h3, h4⟩, h5, vs, h6, h7⟩ := h
  refine ⟨⟨h1, h2, h3, by rw [World.size_setCell]; exact h4⟩, fun k hk e1 e2 => by rw [Below.heap_setCell _ _ _ _ e2]; exact h5 k hk e1 e2, vs.setIfInBounds i v, by simp [h6], ?_⟩
  simp [World.setCell, Array.getElem?_modify, h7]
theorem FC.cell {rb n c : Nat} {t : TypeId} {W w : World} (h : FC rb n c t W w) (i : Nat) (hi : i < c) : ∃ v, w.cell? ⟨n, i, none⟩ = some v := by
  obtain ⟨_, _, vs, h6, h7⟩ := h
  exact ⟨vs[i]'(by omega), by simp [World.cell?, h7, h6, hi]⟩
theorem FC.frozen {rb n c : Nat} {t : TypeId} {W w : World} (h : FC rb n c t W w) (i : Nat) : w.frozen? ⟨n, i, none⟩ = false := by
  obtain ⟨_, _, vs, h6, h7⟩ := h
  simp [World.frozen?, h7]
theorem FC.at {rb n c : Nat} {t : TypeId} {W w : World} (h : FC rb n c t W w) {p : Addr} {v : Value} (h1 : p.block ≠ rb) (h2 : p.block ≠ n) (hc : W.cell? p = some v) : w.cell? p = some v :=
  (World.cell?_of_block (w := W) (h.2.1 _ (World.block_lt_of_cell? _ _ hc) h1 h2)).trans hc
theorem FC.kp {rb n c lo : Nat} {t : TypeId} {W w : World} (h : FC rb n c t W w) (h1 : rb < lo) (h2 : n < lo) : Kp lo W w := ⟨h.1.2.2.2, fun k hk hk2 => h.2.1 k hk2 (by omega) (by omega)⟩
theorem FC.to_ex {rb n c : Nat} {t : TypeId} {w0 W w : World} (h : FC rb n c t W w) (hx : Ex w0 W) (h1 : w0.heap.size ≤ rb) (h2 : w0.heap.size ≤ n) : Ex w0 w :=
  ⟨h.1.1.trans hx.os, h.1.2.1.trans hx.tape, h.1.2.2.1.trans hx.output, Nat.le_trans hx.size h.1.2.2.2, fun k hk => (h.2.1 k (Nat.lt_of_lt_of_le hk hx.size) (by omega) (by omega)).trans (hx.block k hk)⟩

end Go.Proofs.YtgpdnoghlommeaaDoor

namespace Go.Proofs.YtgpdnoghlommeaaDoor

open Go.RowKit Go.Deep

attribute [local go_sem ↓] Go.wp_at_zero Go.wp_at_succ

theorem l6In_any (n lo hi : Int) (w : World) : Calls Tryd.prog 52 #[.int .i64 n, .int .i64 lo, .int .i64 hi] w fun e w' => e = .returned (.bool (decide (lo ≤ n ∧ n ≤ hi))) ∧ Ex w w' := by
  by_cases h : lo ≤ n
  · have e0 : decide (lo ≤ n) = true := by simp [h]
    go_enter Tryd.func52, Tryd.ntmps52
    go_wp2_with fail
    go_ret
    exact ⟨ret_b (by simp [h]), Ex.refl _⟩
  · have e0 : decide (lo ≤ n) = false := by simp; omega
    go_enter Tryd.func52, Tryd.ntmps52
    go_wp2_with fail
    go_ret
    exact ⟨ret_b (by simp), Ex.refl _⟩

theorem owns_ex {w w' : World} {base : Nat} {e : TypeId} {size : Nat} {v : Value} {n : Nat} {xs : List Value} (h : w.ownsRow base e size v n xs) (hx : Ex w w') : w'.ownsRow base e size v n xs := by
  obtain ⟨h1, h2 | ⟨g, cap, cur, rfl, hg, hgc, r⟩⟩ := h
  · exact ⟨h1, Or.inl h2⟩
  · exact ⟨h1, Or.inr ⟨g, cap, cur, rfl, hg, hx.blk hgc, r⟩⟩
theorem owns_row {w : World} {base : Nat} {e : TypeId} {size : Nat} {v : Value} {n : Nat} {xs : List Value} (h : w.ownsRow base e size v n xs) : ∀ k, v.ownBlock = some k → base ≤ k := by
  obtain ⟨_, ⟨rfl, _⟩ | ⟨g, cap, cur, rfl, hg, _⟩⟩ := h
  · intro k hk; cases hk
  · intro k hk; cases hk; exact hg
theorem grown_blk {w w' : World} {v : Value} {base n : Nat} {o o' : Obj} (h : (w.alloc o').grownBy w' v.ownBlock) (hr : ∀ k, v.ownBlock = some k → base ≤ k) (hn : n < base) (hb : w.heap[n]? = some o) : w'.heap[n]? = some o := by
  have hlt := lt_of_block hb
  exact (h.block n (by rw [World.size_alloc]; omega) (fun e => by have := hr n e.symm; omega)).trans ((Ex.new _ _).blk hb)

theorem Ex.grown {a b c : World} {v : Value} {base : Nat} {o : Obj} (h : Ex a b) (hg : (b.alloc o).grownBy c v.ownBlock) (hr : ∀ k, v.ownBlock = some k → base ≤ k) (hb : a.heap.size ≤ base) : Ex a c :=
  ⟨hg.os.trans h.os, hg.tape.trans h.tape, hg.output.trans h.output, Nat.le_trans (h.alloc o).size hg.size, fun k hk => (hg.block k (Nat.lt_of_lt_of_le hk (h.alloc o).size) (fun e => by have := hr k e.symm; omega)).trans ((h.alloc o).block k hk)⟩

theorem kids_step {wr w1 w2 : World} {base k gg cap k2 out : Nat} {e : TypeId} {v u : Value} {cs : List Value} {f : F} {a2 : Option Addr} {o' : Obj}
    (O : wr.ownsRow base e 1 v k cs) (hb2 : Ex wr w1) (hgrow : (w1.alloc o').grownBy w2 v.ownBlock) (hat : v.ownBlock = some gg ∨ gg = w1.heap.size + 1) (hout : out < base)
    (KI : ∀ j, j < k → ∃ a' c', cs[j]? = some (.slice a' (len (kid f j)) c') ∧ SA wr (fun b => base ≤ b ∧ v.ownBlock ≠ some b) (kid f j) a')
    (ht2 : TA w1 wr.heap.size (kid f k) a2) (hbase : base ≤ wr.heap.size) :
    ∀ j, j < k + 1 → ∃ a' c', (cs ++ [Value.slice a2 (len (kid f k)) k2])[j]? = some (.slice a' (len (kid f j)) c') ∧ SA (w2.setCell ⟨out, 0, none⟩ u) (fun b => base ≤ b ∧ (Value.slice (some ⟨gg, 0, none⟩) (k + 1) cap).ownBlock ≠ some b) (kid f j) a' := by
  have hcs : cs.length = k := by have := O.1; omega
  have hvb : ∀ g, v.ownBlock = some g → g < wr.heap.size := by
    obtain ⟨_, ⟨rfl, _⟩ | ⟨g, c, cur, rfl, hg, hgc, _⟩⟩ := O
    · intro g hg; cases hg
    · intro g' hg'; cases hg'; exact lt_of_block hgc
  have move : ∀ (g : F) (a' : Option Addr), SA w1 (fun b => base ≤ b ∧ v.ownBlock ≠ some b) g a' → SA (w2.setCell ⟨out, 0, none⟩ u) (fun b => base ≤ b ∧ (Value.slice (some ⟨gg, 0, none⟩) (k + 1) cap).ownBlock ≠ some b) g a' := by
    intro g a' h
    have h1 := SA_mono (S' := fun b => base ≤ b ∧ v.ownBlock ≠ some b ∧ b < w1.heap.size) h fun b hb hs => ⟨hs.1, hs.2, hb⟩
    have h2 : SA w2 (fun b => base ≤ b ∧ v.ownBlock ≠ some b ∧ b < w1.heap.size) g a' := SA_ks h1 fun b hs hlt => (hgrow.block b (by rw [World.size_alloc]; omega) (fun e => hs.2.1 e.symm)).trans ((Ex.new _ _).block b hlt)
    have h3 : SA (w2.setCell ⟨out, 0, none⟩ u) (fun b => base ≤ b ∧ v.ownBlock ≠ some b ∧ b < w1.heap.size) g a' := SA_ks h2 fun b hs _ => Below.heap_setCell _ _ _ _ (by show b ≠ out; omega)
    refine SA_mono h3 fun b _ hs => ⟨hs.1, fun e => ?_⟩
    have e' : gg = b := by simpa [Value.ownBlock] using e
    rcases hat with h | h
    · exact hs.2.1 (by rw [h, e'])
    · have := hs.2.2; omega
  intro j hj
  by_cases h : j < k
  · obtain ⟨a', c', h1, h2⟩ := KI j h
    exact ⟨a', c', by rw [List.getElem?_append_left (by omega)]; exact h1, move _ _ (SA_ks h2 fun b _ hlt => hb2.block b hlt)⟩
  · have e : j = k := by omega
    subst e
    refine ⟨a2, k2, by rw [List.getElem?_append_right (by omega)]; simp [hcs], move _ _ (SA_mono ht2 fun b _ hb => ⟨Nat.le_trans hbase hb, fun e => by have := hvb b e; omega⟩)⟩

theorem fits_kid_ex {r : Nat} {g : F} (h : fits r g = true) (hr : r ≤ 4) (i : Nat) (hi : i < len g) : ∃ r', r' ≤ 4 ∧ fits r' (kid g i) = true := by
  cases r with
  | zero => simp [fits] at h
  | succ r =>
    have h2 : len g = 2 := by have := fits_len h; omega
    rw [fits_two h2, Bool.and_eq_true] at h
    have : i = 0 ∨ i = 1 := by omega
    rcases this with rfl | rfl
    · exact ⟨r, by omega, h.1⟩
    · exact ⟨r, by omega, h.2⟩

end Go.Proofs.YtgpdnoghlommeaaDoor
