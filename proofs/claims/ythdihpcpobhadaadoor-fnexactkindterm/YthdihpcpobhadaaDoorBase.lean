/- Trees as the program's types and values are: plain functions on them, and how they lie in memory. -/
import Derived.WalkKit

import Derived.WalkSpells

import Derived.WalkLawsBesides

import Derived.Deep.Trees

import Derived.Deep.Draws

namespace Go.Proofs.YthdihpcpobhadaaDoor

open Go.RowKit Go.Deep

/-- A list of trees: each a number and a list of trees. (The two places of a node are not looked at.) -/
abbrev F := BT Int

def len : F → Nat
  | .nil => 0
  | .node _ _ _ _ r => len r + 1

def kid : F → Nat → F
  | .nil, _ => .nil
  | .node _ _ _ k _, 0 => k
  | .node _ _ _ _ r, i + 1 => kid r i

def num : F → Nat → Int
  | .nil, _ => 0
  | .node _ _ n _ _, 0 => n
  | .node _ _ _ _ r, i + 1 => num r i

def dep : F → Nat
  | .nil => 0
  | .node _ _ _ k r => max (dep k + 1) (dep r)

theorem dep_kid : ∀ (f : F) (i : Nat), i < len f → dep (kid f i) < dep f
  | .nil, _, h => by simp [len] at h
  | .node _ _ _ k r, 0, _ => by simp only [kid, dep]; omega
  | .node _ _ _ k r, i + 1, h => by
    have := dep_kid r i (by simp only [len] at h; omega)
    simp only [kid, dep]; omega

/-- Two of them. -/
def two (n : Int) (a : F) (m : Int) (b : F) : F := .node 0 0 n a (.node 0 0 m b .nil)

theorem len_two (n m : Int) (a b : F) : len (two n a m b) = 2 := rfl
theorem kid_two0 (n m : Int) (a b : F) : kid (two n a m b) 0 = a := rfl
theorem kid_two1 (n m : Int) (a b : F) : kid (two n a m b) 1 = b := rfl
theorem num_two0 (n m : Int) (a b : F) : num (two n a m b) 0 = n := rfl
theorem num_two1 (n m : Int) (a b : F) : num (two n a m b) 1 = m := rfl

/-- From block lo on, all that was there is there. -/
structure Kp (lo : Nat) (w w' : World) : Prop where
  size : w.heap.size ≤ w'.heap.size
  block : ∀ k, lo ≤ k → k < w.heap.size → w'.heap[k]? = w.heap[k]?

theorem Kp.refl (lo : Nat) (w : World) : Kp lo w w := ⟨Nat.le_refl _, fun _ _ _ => rfl⟩
theorem Kp.trans {lo : Nat} {a b c : World} (h : Kp lo a b) (k : Kp lo b c) : Kp lo a c :=
  ⟨Nat.le_trans h.size k.size, fun i h1 h2 => (k.block i h1 (Nat.lt_of_lt_of_le h2 h.size)).trans (h.block i h1 h2)⟩
theorem Kp.mono {lo lo' : Nat} {w w' : World} (h : Kp lo w w') (hl : lo ≤ lo') : Kp lo' w w' := ⟨h.size, fun k h1 h2 => h.block k (Nat.le_trans hl h1) h2⟩
theorem Kp.of_below {w w' : World} (h : Below w.heap.size w w') (lo : Nat) : Kp lo w w' := ⟨h.size, fun k _ h2 => h.block k h2⟩
theorem Kp.cell {lo : Nat} {w w' : World} (h : Kp lo w w') {p : Addr} (h1 : lo ≤ p.block) (h2 : p.block < w.heap.size) : w'.cell? p = w.cell? p := World.cell?_of_block (w := w) (h.block p.block h1 h2)

/-- All that was there in blocks of S is there. -/
def Ks (S : Nat → Prop) (w w' : World) : Prop := ∀ k, S k → k < w.heap.size → w'.heap[k]? = w.heap[k]?
theorem Ks.cell {S : Nat → Prop} {w w' : World} (h : Ks S w w') {p : Addr} (h1 : S p.block) (h2 : p.block < w.heap.size) : w'.cell? p = w.cell? p := World.cell?_of_block (w := w) (h p.block h1 h2)

/-- A list of types lies at block b from place o on: a cell each, its own list behind it, all in blocks of S. -/
def SC (w : World) (S : Nat → Prop) : F → Nat → Nat → Prop
  | .nil, _, _ => True
  | .node _ _ _ k r, b, o => (∃ a cap, w.cell? ⟨b, o, none⟩ = some (.slice a (len k) cap) ∧ (len k = 0 ∨ ∃ b' o', a = some ⟨b', o', none⟩ ∧ S b' ∧ SC w S k b' o')) ∧ SC w S r b (o + 1)

/-- A list of types lies behind a slice's address. -/
def SA (w : World) (S : Nat → Prop) (f : F) (a : Option Addr) : Prop := len f = 0 ∨ ∃ b o, a = some ⟨b, o, none⟩ ∧ S b ∧ SC w S f b o

theorem SC_cell {w : World} {S : Nat → Prop} : ∀ {f : F} {b o : Nat}, SC w S f b o → ∀ i, i < len f → ∃ a cap, w.cell? ⟨b, o + i, none⟩ = some (.slice a (len (kid f i)) cap) ∧ SA w S (kid f i) a
  | .nil, _, _, _, i, h => by simp [len] at h
  | .node _ _ _ k r, b, o, hc, 0, _ => hc.1
  | .node _ _ _ k r, b, o, hc, i + 1, h => by
    have := SC_cell hc.2 i (by simp only [len] at h; omega)
    rw [Nat.add_right_comm, Nat.add_assoc] at this
    exact this

theorem SC_mk {w : World} {S : Nat → Prop} : ∀ {f : F} {b o : Nat}, (∀ i, i < len f → ∃ a cap, w.cell? ⟨b, o + i, none⟩ = some (.slice a (len (kid f i)) cap) ∧ SA w S (kid f i) a) → SC w S f b o
  | .nil, _, _, _ => trivial
  | .node _ _ _ k r, b, o, h => by
    refine ⟨h 0 (by simp [len]), SC_mk fun i hi => ?_⟩
    have := h (i + 1) (by simp only [len]; omega)
    rw [show o + (i + 1) = o + 1 + i by omega] at this
    exact this

theorem SC_ks {w w' : World} {S : Nat → Prop} (hk : Ks S w w') : ∀ {f : F} {b o : Nat}, S b → SC w S f b o → SC w' S f b o
  | .nil, _, _, _, _ => trivial
  | .node _ _ _ k r, b, o, hb, ⟨⟨a, cap, hc, hr⟩, h2⟩ => by
    refine ⟨⟨a, cap, ?_, ?_⟩, SC_ks hk hb h2⟩
    · rw [hk.cell hb (World.block_lt_of_cell? _ _ hc)]; exact hc
    · rcases hr with h0 | ⟨b', o', e, hb', ht⟩
      · exact Or.inl h0
      · exact Or.inr ⟨b', o', e, hb', SC_ks hk hb' ht⟩

theorem SA_ks {w w' : World} {S : Nat → Prop} {f : F} {a : Option Addr} (h : SA w S f a) (hk : Ks S w w') : SA w' S f a := by
  rcases h with h | ⟨b, o, e, hb, ht⟩
  · exact Or.inl h
  · exact Or.inr ⟨b, o, e, hb, SC_ks hk hb ht⟩

theorem SC_mono {w : World} {S S' : Nat → Prop} (hl : ∀ b, b < w.heap.size → S b → S' b) : ∀ {f : F} {b o : Nat}, SC w S f b o → SC w S' f b o
  | .nil, _, _, _ => trivial
  | .node _ _ _ k r, b, o, ⟨⟨a, cap, hc, hr⟩, h2⟩ => by
    refine ⟨⟨a, cap, hc, ?_⟩, SC_mono hl h2⟩
    rcases hr with h0 | ⟨b', o', e, hb', ht⟩
    · exact Or.inl h0
    · by_cases h0 : len k = 0
      · exact Or.inl h0
      · obtain ⟨_, _, hc', _⟩ := SC_cell ht 0 (by omega)
        exact Or.inr ⟨b', o', e, hl b' (World.block_lt_of_cell? _ _ hc') hb', SC_mono hl ht⟩

theorem SA_mono {w : World} {S S' : Nat → Prop} {f : F} {a : Option Addr} (h : SA w S f a) (hl : ∀ b, b < w.heap.size → S b → S' b) : SA w S' f a := by
  rcases h with h | ⟨b, o, e, hb, ht⟩
  · exact Or.inl h
  · by_cases h0 : len f = 0
    · exact Or.inl h0
    · obtain ⟨_, _, hc', _⟩ := SC_cell ht 0 (by omega)
      exact Or.inr ⟨b, o, e, hl b (World.block_lt_of_cell? _ _ hc') hb, SC_mono hl ht⟩

theorem SA_at {w : World} {S : Nat → Prop} {f : F} {a : Option Addr} (h : SA w S f a) (h0 : 0 < len f) : ∃ b o, a = some ⟨b, o, none⟩ ∧ S b ∧ b < w.heap.size ∧
    ∀ i, i < len f → ∃ a' cap, w.cell? ⟨b, o + i, none⟩ = some (.slice a' (len (kid f i)) cap) ∧ SA w S (kid f i) a' := by
  rcases h with h | ⟨b, o, e, hb, ht⟩
  · omega
  · obtain ⟨_, _, hc, _⟩ := SC_cell ht 0 h0
    exact ⟨b, o, e, hb, World.block_lt_of_cell? _ _ hc, fun i hi => SC_cell ht i hi⟩

theorem SA_mk {w : World} {S : Nat → Prop} {f : F} {g o : Nat} (hg : S g) (h : ∀ i, i < len f → ∃ a cap, w.cell? ⟨g, o + i, none⟩ = some (.slice a (len (kid f i)) cap) ∧ SA w S (kid f i) a) : SA w S f (some ⟨g, o, none⟩) :=
  Or.inr ⟨g, o, rfl, hg, SC_mk h⟩

theorem SA_two {w : World} {S : Nat → Prop} {f : F} (h2 : len f = 2) {g o : Nat} (hg : S g) {a0 a1 : Option Addr} {k0 k1 : Nat} (c0 : w.cell? ⟨g, o, none⟩ = some (.slice a0 (len (kid f 0)) k0)) (c1 : w.cell? ⟨g, o + 1, none⟩ = some (.slice a1 (len (kid f 1)) k1))
    (t0 : SA w S (kid f 0) a0) (t1 : SA w S (kid f 1) a1) : SA w S f (some ⟨g, o, none⟩) := by
  refine SA_mk hg fun i hi => ?_
  have : i = 0 ∨ i = 1 := by omega
  rcases this with rfl | rfl
  · exact ⟨a0, k0, c0, t0⟩
  · exact ⟨a1, k1, c1, t1⟩

/-- .. all from block lo on. -/
def TA (w : World) (lo : Nat) (f : F) (a : Option Addr) : Prop := SA w (fun b => lo ≤ b) f a

theorem TA_kp {w w' : World} {lo : Nat} {f : F} {a : Option Addr} (h : TA w lo f a) (hk : Kp lo w w') : TA w' lo f a := SA_ks h hk.block
theorem TA_lo {w : World} {lo lo' : Nat} {f : F} {a : Option Addr} (h : TA w lo f a) (hl : lo' ≤ lo) : TA w lo' f a := SA_mono h fun _ _ hb => Nat.le_trans hl hb
theorem TA_below {w w' : World} {lo : Nat} {f : F} {a : Option Addr} (h : TA w lo f a) (hb : Below w.heap.size w w') : TA w' lo f a := TA_kp h (Kp.of_below hb lo)
theorem TA_nil (w : World) (lo : Nat) (a : Option Addr) : TA w lo .nil a := Or.inl rfl
theorem TA_at {w : World} {lo : Nat} {f : F} {a : Option Addr} (h : TA w lo f a) (h0 : 0 < len f) : ∃ b o, a = some ⟨b, o, none⟩ ∧ lo ≤ b ∧ b < w.heap.size ∧
    ∀ i, i < len f → ∃ a' cap, w.cell? ⟨b, o + i, none⟩ = some (.slice a' (len (kid f i)) cap) ∧ TA w lo (kid f i) a' := SA_at h h0
theorem TA_two {w : World} {lo : Nat} {f : F} (h2 : len f = 2) {g o : Nat} (hg : lo ≤ g) {a0 a1 : Option Addr} {k0 k1 : Nat} (c0 : w.cell? ⟨g, o, none⟩ = some (.slice a0 (len (kid f 0)) k0)) (c1 : w.cell? ⟨g, o + 1, none⟩ = some (.slice a1 (len (kid f 1)) k1))
    (t0 : TA w lo (kid f 0) a0) (t1 : TA w lo (kid f 1) a1) : TA w lo f (some ⟨g, o, none⟩) := SA_two h2 hg c0 c1 t0 t1

/-- All lists are of a length that can be counted. -/
def Sm : F → Prop
  | .nil => True
  | .node _ _ _ k r => len k ≤ 1000000000 ∧ Sm k ∧ Sm r
theorem Sm_kid : ∀ {f : F}, Sm f → ∀ i, i < len f → len (kid f i) ≤ 1000000000 ∧ Sm (kid f i)
  | .nil, _, i, h => by simp [len] at h
  | .node _ _ _ k r, hs, 0, _ => ⟨hs.1, hs.2.1⟩
  | .node _ _ _ k r, hs, i + 1, h => Sm_kid hs.2.2 i (by simp only [len] at h; omega)

theorem ret_b {a b : Bool} (h : a = b) : Ending.returned (.bool a) = .returned (.bool b) := by rw [h]
theorem ret_s {a b : ByteArray} (h : a = b) : Ending.returned (.string a) = .returned (.string b) := by rw [h]
theorem ret_i {k : IntKind} {a b : Int} (h : a = b) : Ending.returned (.int k a) = .returned (.int k b) := by rw [h]

/-- Nothing that was there has turned. -/
abbrev Ex (w w' : World) : Prop := Below w.heap.size w w'
theorem Ex.refl (w : World) : Ex w w := Below.refl _ _
theorem Ex.trans {a b c : World} (h : Ex a b) (k : Ex b c) : Ex a c := Below.trans h (Below.mono k h.size)
theorem Ex.alloc {a b : World} (h : Ex a b) (o : Obj) : Ex a (b.alloc o) := Below.alloc h h.size o
theorem Ex.new (w : World) (o : Obj) : Ex w (w.alloc o) := Ex.alloc (Ex.refl w) o
theorem Ex.drew {a b : World} (h : Ex a b) : Ex a b.drew := Below.drew h
theorem Ex.drewN {a b : World} (h : Ex a b) (n : Nat) : Ex a (b.drewN n) := ⟨h.os, h.tape, h.output, h.size, h.block⟩
theorem Ex.set {a b : World} (h : Ex a b) {p : Addr} (hp : a.heap.size ≤ p.block) (u : Value) : Ex a (b.setCell p u) := Below.setCell h hp u
theorem Ex.at {a b : World} (h : Ex a b) {p : Addr} {v : Value} (hc : a.cell? p = some v) : b.cell? p = some v := (Below.cell h (World.block_lt_of_cell? _ _ hc)).trans hc
theorem Ex.lt {a b : World} (h : Ex a b) {n : Nat} (hn : n < a.heap.size) : n < b.heap.size := Nat.lt_of_lt_of_le hn h.size

theorem Ex.blk {a b : World} (h : Ex a b) {n : Nat} {o : Obj} (hc : a.heap[n]? = some o) : b.heap[n]? = some o := by
  have hn : n < a.heap.size := by
    rcases Nat.lt_or_ge n a.heap.size with h' | h'
    · exact h'
    · rw [Array.getElem?_eq_none h'] at hc; cases hc
  exact (h.block n hn).trans hc

theorem Kp.ex {lo : Nat} {a b c : World} (h : Kp lo a b) (k : Ex b c) : Kp lo a c := h.trans (Kp.of_below k lo)
theorem Kp.alloc {lo : Nat} {a b : World} (h : Kp lo a b) (o : Obj) : Kp lo a (b.alloc o) := h.ex (Ex.new _ _)
theorem Kp.drew {lo : Nat} {a b : World} (h : Kp lo a b) : Kp lo a b.drew := ⟨h.size, h.block⟩
theorem Kp.set {lo : Nat} {a b : World} (h : Kp lo a b) {p : Addr} (hp : p.block < lo ∨ a.heap.size ≤ p.block) (v : Value) : Kp lo a (b.setCell p v) :=
  ⟨by rw [World.size_setCell]; exact h.size, fun k h1 h2 => by rw [Below.heap_setCell _ _ _ _ (by omega)]; exact h.block k h1 h2⟩

theorem cell_set_new (w : World) (p : Addr) (v : Value) (cs : Array Value) (t : TypeId) (i : Nat) : ((w.setCell p v).alloc (.cells cs t)).cell? ⟨w.heap.size, i, none⟩ = cs[i]? := by
  have := World.cell?_alloc_new (w.setCell p v) cs t i
  rw [World.size_setCell] at this; exact this

theorem res_at {w : World} {p : Addr} {u : Value} (hc : w.cell? p = some u) (v : Value) (o : Obj) : ((w.setCell p v).alloc o).cell? p = some v :=
  (World.cell?_alloc_lt _ _ _ (by rw [World.size_setCell]; exact World.block_lt_of_cell? _ _ hc)).trans (World.cell?_setCell_same _ _ _ hc)

/-- While a region goes on: nothing of W0 has turned, and block n is one with c cells of type t that may be written. -/
def Core (W0 : World) (n c : Nat) (t : TypeId) (w : World) : Prop := Ex W0 w ∧ W0.heap.size ≤ n ∧ ∃ vs : Array Value, vs.size = c ∧ w.heap[n]? = some (.cells vs t (0, 0))
theorem Core.lt {W0 w : World} {n c : Nat} {t : TypeId} (h : Core W0 n c t w) : n < w.heap.size := by
  obtain ⟨_, _, vs, _, hv⟩ := h
  rcases Nat.lt_or_ge n w.heap.size with h' | h'
  · exact h'
  · rw [Array.getElem?_eq_none h'] at hv; cases hv
theorem Core.start (W0 : World) (vs : Array Value) (t : TypeId) : Core W0 W0.heap.size vs.size t (W0.alloc (.cells vs t)) := ⟨Ex.new _ _, Nat.le_refl _, vs, rfl, by show (W0.heap.push _)[W0.heap.size]? = _; simp⟩
theorem Core.drew {W0 w : World} {n c : Nat} {t : TypeId} (h : Core W0 n c t w) : Core W0 n c t w.drew := ⟨h.1.drew, h.2.1, h.2.2⟩
theorem Core.ex {W0 w w1 : World} {n c : Nat} {t : TypeId} (h : Core W0 n c t w) (hb : Ex w w1) : Core W0 n c t w1 := by
  obtain ⟨h1, h2, vs, h3, h4⟩ := h
  exact ⟨h1.trans hb, h2, vs, h3, hb.blk h4⟩
theorem Core.alloc {W0 w : World} {n c : Nat} {t : TypeId} (h : Core W0 n c t w) (o : Obj) : Core W0 n c t (w.alloc o) := h.ex (Ex.new _ _)
theorem Core.set {W0 w : World} {n c : Nat} {t : TypeId} (h : Core W0 n c t w) (m i : Nat) (hm : W0.heap.size ≤ m) (v : Value) : Core W0 n c t (w.setCell ⟨m, i, none⟩ v) := by
  obtain ⟨h1, h2, vs, h3, h4⟩ := h
  refine ⟨h1.set hm v, h2, ?_⟩
  by_cases hmn : m = n
  · subst hmn
    exact ⟨vs.setIfInBounds i v, by simp [h3], by simp [World.setCell, Array.getElem?_modify, h4]⟩
  · exact ⟨vs, h3, by rw [Below.heap_setCell _ _ _ _ (by simpa using fun e => hmn e.symm)]; exact h4⟩
theorem Core.cell {W0 w : World} {n c : Nat} {t : TypeId} (h : Core W0 n c t w) (i : Nat) (hi : i < c) : ∃ v, w.cell? ⟨n, i, none⟩ = some v := by
  obtain ⟨_, _, vs, h3, h4⟩ := h
  exact ⟨vs[i]'(by omega), by simp [World.cell?, h4, h3, hi]⟩
theorem Core.frozen {W0 w : World} {n c : Nat} {t : TypeId} (h : Core W0 n c t w) (i : Nat) : w.frozen? ⟨n, i, none⟩ = false := by
  obtain ⟨_, _, vs, h3, h4⟩ := h
  simp [World.frozen?, h4]

/-- The type is in form, at most so deep. -/
def fits : Nat → F → Bool
  | 0, _ => false
  | r + 1, f => len f == 0 || (len f == 2 && (fits r (kid f 0) && fits r (kid f 1)))

end Go.Proofs.YthdihpcpobhadaaDoor
